/- What a copy of a disk in the specification is: a contract; no statement of the seat is proved here. -/
import Derived.Test.YtapflnabiobonaaDoorAp2
import Derived.Deep.RegionHeldLaw
import Derived.Deep.RegionLawGrows
namespace Go.Proofs.YtapflnabiobonaaDoor
open Go.RowKit

theorem bAlloc {W w : World} (h : Below W.heap.size W w) (o : Obj) : Below W.heap.size W (w.alloc o) := h.alloc h.size o

theorem bSet {B i : Nat} {W w : World} (h : Below B W w) (u : Value) : Below B W (w.setCell ⟨B, i, none⟩ u) := h.setCell (p := ⟨B, i, none⟩) (Nat.le_refl _) u

theorem step_copy0 {P : Program} {ops : Array Oper} {o : Oper} {a : Act} {w : World} {K : Act → World → Prop} {Q : Exit → Act → World → Prop} {E : Prop}
    (hg : o.guard = none) (s x : Operand) (t : TypeId) (hop : o.op = Op.call { callee := Callee.builtin Builtin.append, args := #[s, x], argTypes := #[t, t] })
    (e : TypeId) (i : TypeInfo) (z : Value) (size bytes : Nat) (ht : P.underlying t = some (.slice e)) (hi : P.info? e = some i) (hz : i.zero = some z)
    (hsize : i.size = size) (hby : i.bytes = bytes) (hzs : z.cells.size = size) (hsz : 0 < size)
    (ao0 : Option Addr) (hs : a.eval s = .slice ao0 0 0)
    (vx : Value) (m : Nat) (news : List Value) (hx : a.eval x = vx) (hr : RowR w size vx m news) (h1 : ∀ u ∈ news, u.oneCell' = true)
    (h63 : m ≤ 1048576) (hbytes : m * bytes ≤ 140737488355328)
    (hK : ∀ v' w', Row w' e size (fun k => w.heap.size ≤ k) v' m news → Below w.heap.size w w' → K (a.put o.dst v') w') :
    if Region.wanted o (yielded ops a.tmps) = true then Oper.wp P o a w K Q else E := by
  obtain ⟨ao, c, rfl, hn', hl, hr⟩ := hr
  rcases Nat.eq_zero_or_pos m with rfl | hpos
  · obtain rfl : news = [] := List.eq_nil_of_length_eq_zero (by simpa using hl)
    have hw : Region.wanted o (yielded ops a.tmps) = true := by simp [Region.wanted, hg]
    rw [if_pos hw]
    have hrun : (Builtin.append_ #[t, t] o.type #[.slice ao0 0 0, .slice ao 0 c]).run P w = .ok (.slice ao0 0 0) w := by
      cases ao <;> cases ao0 <;> simp [Builtin.append_, run_underlying ht, sizeOf, typeInfo, hi, Builtin.lenOf, Builtin.firstCells, storeCells, loadCells, loadCellsFrom]
    unfold Oper.wp
    simp [execOp, hop, resolve, invoke, builtin, hs, hx, hrun, Result.andThen]
    exact hK _ w ⟨ao0, 0, rfl, hn', hl, fun h => by omega⟩ (Below.refl _ _)
  · obtain ⟨b, off, rfl, hc⟩ := hr hpos
    refine step_append_grows hg s x t hop e i z size bytes ht hi hz hsize hby hzs hsz ao0 0 0 [] hs (fun _ => ⟨rfl, rfl⟩) (by simp) (fun _ _ j u h => by simp at h) ⟨b, off, none⟩ m c news hx hl (fun j u hj => by rw [Addr.add_lit]; exact hc j u hj) h1 (by omega) (by unfold maxLen; omega) (by rw [Nat.zero_add]; exact hbytes) ?_
    intro v' w' r1 r2
    rw [Nat.zero_add, List.nil_append] at r1
    exact hK v' w' (Row.ofOwns r1 (by omega)) ((Below.refl _ _).grown r2 (Nat.le_refl _) (fun k e => by cases e))

theorem keepS {w W w' : World} {x y : Value} (p0 : W.cell? ⟨w.heap.size, 0, none⟩ = some x) (p1 : W.cell? ⟨w.heap.size, 1, none⟩ = some y) (h : Below (w.heap.size + 1) W w') :
    (w'.cell? ⟨w.heap.size, 0, none⟩ = some x ∧ w'.cell? ⟨w.heap.size, 1, none⟩ = some y) ∧ Below (w.heap.size + 1) W w' :=
  ⟨⟨(h.cell (p := ⟨w.heap.size, 0, none⟩) (Nat.lt_succ_self _)).trans p0, (h.cell (p := ⟨w.heap.size, 1, none⟩) (Nat.lt_succ_self _)).trans p1⟩, h⟩

set_option maxRecDepth 100000 in
set_option maxHeartbeats 2000000 in
theorem l1Copy_any (kept : List ByteArray) (wait : List (Int × ByteArray)) (v : Value) (w : World) (hr : DiskR w v kept wait) (hk : kept.length ≤ 1048576) (hw : wait.length ≤ 1048576) :
    Calls Tryd.prog 104 #[v] w fun e w' => ∃ v', e = .returned v' ∧ DiskO w' (fun k => w.heap.size ≤ k) v' kept wait ∧ Below w.heap.size w w' := by
  obtain ⟨ak, aw, rfl, a1, a2⟩ := hr
  obtain ⟨ao, ca, rfl⟩ : ∃ ao ca, ak = .slice ao kept.length ca := by obtain ⟨ao, ca, h, -⟩ := a1; exact ⟨ao, ca, h⟩
  obtain ⟨bo, cb, rfl⟩ : ∃ ao ca, aw = .slice ao wait.length ca := by obtain ⟨ao, ca, h, -⟩ := a2; exact ⟨ao, ca, h⟩
  have hal : Below w.heap.size w ((w.alloc (.cells #[.slice ao kept.length ca, .slice bo wait.length cb] 31)).alloc (.cells #[.slice none 0 0, .slice none 0 0] 31)) := ((Below.refl _ _).alloc (Nat.le_refl _) _).alloc (by simp) _
  obtain ⟨W, hW⟩ : ∃ W, W = (w.alloc (.cells #[.slice ao kept.length ca, .slice bo wait.length cb] 31)).alloc (.cells #[.slice none 0 0, .slice none 0 0] 31) := ⟨_, rfl⟩
  have B0 : W.heap[w.heap.size]? = some (.cells #[.slice ao kept.length ca, .slice bo wait.length cb] 31 (0, 0)) := by rw [hW]; exact al2_0 w _ _
  have B1 : W.heap[w.heap.size + 1]? = some (.cells #[.slice none 0 0, .slice none 0 0] 31 (0, 0)) := by rw [hW]; exact al2_1 w _ _
  have hsz : W.heap.size = w.heap.size + 2 := by rw [hW]; simp
  rw [← hW] at hal
  have k1 := hide (a1.keep hal)
  have k2 := hide (a2.keep hal)
  clear a1 a2
  obtain ⟨i0, hi, hz0, hz1, hz2⟩ := info_parts infoStr
  obtain ⟨i1, gi, gz0, gz1, gz2⟩ := info_parts infoWr
  go_enter Tryd.func104, Tryd.ntmps104
  go_wp2
  rw [← hW]
  clear hW
  obtain ⟨p0, p1, pl⟩ := box2 B0
  obtain ⟨q0, q1, ql⟩ := box2 B1
  obtain ⟨q2, q3⟩ := box2f B1
  have H0 := hide B0
  have H1 := hide B1
  clear B0 B1
  go_region_held_law (fun w' => (w'.cell? ⟨w.heap.size, 0, none⟩ = some (.slice ao kept.length ca) ∧ w'.cell? ⟨w.heap.size, 1, none⟩ = some (.slice bo wait.length cb)) ∧ Below (w.heap.size + 1) W w')
    ((refine keepS p0 p1 ?_; first | (refine Below.mono (B := W.heap.size) ?_ (by omega); (repeat (first | exact Below.refl _ _ | assumption | refine bAlloc ?_ _ | refine Below.drew ?_)); done) | (refine bSet (bSet ?_ _) _; exact b2'.mono (by omega))))
    (first
    | (refine step_copy0 rfl (.tmp 3) (.tmp 5) 22 rfl 9 i0 (.string ⟨#[]⟩) 1 16 Tryd.underlying22 hi hz0 hz1 hz2 rfl (by decide) _ rfl (.slice ao kept.length ca) kept.length (kept.map Value.string) rfl (k1.out.keep (by repeat (first | exact Below.refl _ _ | assumption | refine bAlloc ?_ _ | refine Below.drew ?_))) (strs_one _) hk (by omega) ?_; intro v1 w1 r1 b1; obtain ⟨no, cn, rfl⟩ := r1.shape; have b1' : Below W.heap.size W w1 := bAll (by repeat (first | exact Below.refl _ _ | assumption | refine bAlloc ?_ _ | refine Below.drew ?_)) b1)
    | (refine step_copy0 rfl (.tmp 7) (.tmp 9) 29 rfl 63 i1 (.agg #[.int .i64 0, .string ⟨#[]⟩]) 2 24 Tryd.underlying29 gi gz0 gz1 gz2 rfl (by decide) _ rfl (.slice bo wait.length cb) wait.length (wcells wait) rfl (k2.out.keep (by repeat (first | exact Below.refl _ _ | assumption | refine bAlloc ?_ _ | refine Below.drew ?_))) (wcells_one _) hw (by omega) ?_; intro v2 w2 r2 b2; obtain ⟨mo, cm, rfl⟩ := r2.shape; have b2' : Below W.heap.size W w2 := bAll (by repeat (first | exact Below.refl _ _ | assumption | refine bAlloc ?_ _ | refine Below.drew ?_)) b2; obtain ⟨t0, t1, tl⟩ := box2 (bKeeps b2' H1.out); obtain ⟨t2, t3⟩ := box2f (bKeeps b2' H1.out)))
  all_goals
    go_wp2
    have hu := upd_set2 w2 (w.heap.size + 1) 0 1 (.slice no kept.length cn) (.slice mo wait.length cm)
    have hz1' := b1'.size
    have hz2' := b2'.size
    refine bodyPost_ret (v := .agg #[.slice no kept.length cn, .slice mo wait.length cm]) (by simp [results, Tryd.results104, go_sem, t0, t1]) rfl ⟨_, rfl, ⟨_, _, rfl, ?_, ?_⟩, ?_⟩
    · refine (Row.keep (Row.keepB r1 ?_) hu ?_).mono ?_
      · first | exact b2 | exact bAll (bAlloc (Below.refl _ _) _) b2
      · intro k hk
        try simp at hk
        omega
      · intro k _ hk
        try simp at hk
        omega
    · refine (Row.keep r2 hu ?_).mono ?_
      · intro k hk
        try simp at hk
        omega
      · intro k _ hk
        try simp at hk
        omega
    · exact (bAll hal b2').trans (hu.below (by omega) (by intro k hk; omega))

end Go.Proofs.YtapflnabiobonaaDoor
