/- append of a slice in memory onto an empty row of the call's own, as one step of a region that draws its order; what makes a disk anew; no statement of the seat is proved here. -/
import Derived.Test.YtapflnabiobonaaDoorSFlush
import Derived.Test.YtapflnabiobonaaDoorIOk
import Derived.Deep.RegionLaw
namespace Go.Proofs.YtapflnabiobonaaDoor
open Go.RowKit

theorem step_copy {P : Program} {ops : Array Oper} {o : Oper} {a : Act} {w : World} {K : Act → World → Prop} {Q : Exit → Act → World → Prop} {E : Prop}
    (hg : o.guard = none) (s x : Operand) (t : TypeId) (hop : o.op = Op.call { callee := Callee.builtin Builtin.append, args := #[s, x], argTypes := #[t, t] })
    (base : Nat) (e : TypeId) (i : TypeInfo) (z : Value) (size bytes : Nat) (ht : P.underlying t = some (.slice e)) (hi : P.info? e = some i) (hz : i.zero = some z)
    (hsize : i.size = size) (hby : i.bytes = bytes) (hzs : z.cells.size = size) (hsz : 0 < size)
    (v : Value) (hs : a.eval s = v) (hown : w.ownsRow base e size v 0 [])
    (vx : Value) (m : Nat) (news : List Value) (hx : a.eval x = vx) (hr : RowR w size vx m news) (h1 : ∀ u ∈ news, u.oneCell' = true)
    (h63 : m ≤ 1048576) (hbytes : m * bytes ≤ 140737488355328) (hbase : base ≤ w.heap.size)
    (hK : ∀ v' w', Row w' e size (fun k => base ≤ k) v' m news → Below base w w' → K (a.put o.dst v') w') :
    if Region.wanted o (yielded ops a.tmps) = true then Oper.wp P o a w K Q else E := by
  have hw : Region.wanted o (yielded ops a.tmps) = true := by simp [Region.wanted, hg]
  rw [if_pos hw]
  obtain ⟨ao, c, rfl, _, hl, hr⟩ := hr
  rcases Nat.eq_zero_or_pos m with rfl | hpos
  · obtain rfl : news = [] := List.eq_nil_of_length_eq_zero (by simpa using hl)
    have hrun := run_append_zero (P := P) (w := w) base t o.type e i size ht hi v 0 [] hown ao c
    unfold Oper.wp
    simp [execOp, hop, resolve, invoke, builtin, hs, hx, hrun, Result.andThen]
    exact hK v w (Row.ofOwns hown (by omega)) (Below.refl _ _)
  · obtain ⟨b, off, rfl, hc⟩ := hr hpos
    obtain ⟨v', w', hrun, r1, r2, _⟩ := run_append_own (P := P) w base t o.type e i z size bytes ht hi hz hsize hby hzs hsz v 0 [] hown ⟨b, off, none⟩ m c news hl (fun j u hj => by rw [Addr.add_lit]; exact hc j u hj) h1 (by unfold maxLen; omega) (by rw [Nat.zero_add]; exact hbytes) hbase
    unfold Oper.wp
    simp [execOp, hop, resolve, invoke, builtin, hs, hx, hrun, Result.andThen]
    rw [Nat.zero_add, List.nil_append] at r1
    exact hK v' w' (Row.ofOwns r1 (by omega)) ((Below.refl _ _).grown r2 hbase (fun k e => (hown.lt k e).1))

theorem wcells_one (xs : List (Int × ByteArray)) : ∀ u ∈ wcells xs, u.oneCell' = true := by
  intro u hu
  simp only [wcells, List.mem_flatMap, wcell, List.mem_cons, List.not_mem_nil, or_false] at hu
  obtain ⟨x, _, rfl | rfl⟩ := hu <;> rfl

set_option maxRecDepth 100000 in
set_option maxHeartbeats 2000000 in
theorem secOwn_any (kept : List ByteArray) (wait : List (Int × ByteArray)) (v : Value) (w : World) (hr : DiskR w v kept wait) (hk : kept.length ≤ 1048576) (hw : wait.length ≤ 1048576) :
    Calls Tryd.prog 58 #[v] w fun e w' => ∃ v', e = .returned v' ∧ DiskO w' (fun k => w.heap.size ≤ k) v' kept wait ∧ Below w.heap.size w w' := by
  obtain ⟨ak, aw, rfl, a1, a2⟩ := hr
  obtain ⟨ao, ca, rfl⟩ : ∃ ao ca, ak = .slice ao kept.length ca := by obtain ⟨ao, ca, h, -⟩ := a1; exact ⟨ao, ca, h⟩
  obtain ⟨bo, cb, rfl⟩ : ∃ ao ca, aw = .slice ao wait.length ca := by obtain ⟨ao, ca, h, -⟩ := a2; exact ⟨ao, ca, h⟩
  have hal : Below w.heap.size w ((w.alloc (.cells #[.slice ao kept.length ca, .slice bo wait.length cb] 31)).alloc (.cells #[.slice none 0 0, .slice none 0 0] 94)) := ((Below.refl _ _).alloc (Nat.le_refl _) _).alloc (by simp) _
  obtain ⟨W, hW⟩ : ∃ W, W = (w.alloc (.cells #[.slice ao kept.length ca, .slice bo wait.length cb] 31)).alloc (.cells #[.slice none 0 0, .slice none 0 0] 94) := ⟨_, rfl⟩
  have B0 : W.heap[w.heap.size]? = some (.cells #[.slice ao kept.length ca, .slice bo wait.length cb] 31 (0, 0)) := by rw [hW]; exact al2_0 w _ _
  have B1 : W.heap[w.heap.size + 1]? = some (.cells #[.slice none 0 0, .slice none 0 0] 94 (0, 0)) := by rw [hW]; exact al2_1 w _ _
  have hsz : W.heap.size = w.heap.size + 2 := by rw [hW]; simp
  rw [← hW] at hal
  have k1 := hide (a1.keep hal)
  have k2 := hide (a2.keep hal)
  clear a1 a2
  obtain ⟨i0, hi, hz0, hz1, hz2⟩ := info_parts infoStr
  obtain ⟨i1, gi, gz0, gz1, gz2⟩ := info_parts infoWr
  go_enter Tryd.func58, Tryd.ntmps58
  go_wp2
  rw [← hW]
  clear hW
  obtain ⟨p0, p1, pl⟩ := box2 B0
  obtain ⟨q0, q1, ql⟩ := box2 B1
  obtain ⟨q2, q3⟩ := box2f B1
  have H0 := hide B0
  have H1 := hide B1
  clear B0 B1
  go_region_law (first
    | (refine step_copy rfl (.const (.slice none 0 0)) (.tmp 4) 22 rfl W.heap.size 9 i0 (.string ⟨#[]⟩) 1 16 Tryd.underlying22 hi hz0 hz1 hz2 rfl (by decide) (.slice none 0 0) (by simp [Act.eval]) (World.ownsRow_nil _ _ _ _) (.slice ao kept.length ca) kept.length (kept.map Value.string) (by simp [Act.eval, Act.put]) (k1.out.keep ((Below.refl _ _).drew)) (strs_one _) hk (by omega) (by simp) ?_; intro v1 w1 r1 b1; obtain ⟨no, cn, rfl⟩ := r1.shape; have b1' : Below W.heap.size W w1 := bUndrew b1; have s0 : w1.cell? ⟨w.heap.size, 1, none⟩ = some (.slice bo wait.length cb) := (b1'.cell (p := ⟨w.heap.size, 1, none⟩) pl).trans p1)
    | (refine step_copy rfl (.const (.slice none 0 0)) (.tmp 8) 29 rfl w1.heap.size 63 i1 (.agg #[.int .i64 0, .string ⟨#[]⟩]) 2 24 Tryd.underlying29 gi gz0 gz1 gz2 rfl (by decide) (.slice none 0 0) (by simp [Act.eval]) (World.ownsRow_nil _ _ _ _) (.slice bo wait.length cb) wait.length (wcells wait) (by simp [Act.eval, Act.put]) (k2.out.keep b1') (wcells_one _) hw (by omega) (Nat.le_refl _) ?_; intro v2 w2 r2 b2; obtain ⟨mo, cm, rfl⟩ := r2.shape; obtain ⟨t0, t1, tl⟩ := box2 (bKeeps b2 (bKeeps b1' H1.out)); obtain ⟨t2, t3⟩ := box2f (bKeeps b2 (bKeeps b1' H1.out))))
  all_goals
    go_wp2
    have hu := upd_set2 w2 (w.heap.size + 1) 0 1 (.slice no kept.length cn) (.slice mo wait.length cm)
    have hz1' := b1'.size
    have hz2' := b2.size
    refine bodyPost_ret (v := .agg #[.slice no kept.length cn, .slice mo wait.length cm]) (by simp [results, Tryd.results58, go_sem, t0, t1]) rfl ⟨_, rfl, ⟨_, _, rfl, ?_, ?_⟩, ?_⟩
    · exact ((r1.keepB b2).keep hu (by intro k hk; omega)).mono (fun k _ hk => by omega)
    · exact (r2.keep hu (by intro k hk; omega)).mono (fun k _ hk => by omega)
    · exact ((bAll hal b1').trans (b2.mono (by omega))).trans (hu.below (by omega) (by intro k hk; omega))

end Go.Proofs.YtapflnabiobonaaDoor
