/- Contracts and plain facts that the claims of this seat lean on (texts Copy, Look, Flush, Own, SPut, Ints); no statement of the seat is proved here. -/
import Derived.Test.YtapflnabiobonaaDoorPk1
import Derived.Deep.RegionHeldLaw
import Derived.Deep.RegionLawGrows
import Derived.Shelf.RegionOpen

/- What a copy of a disk in the specification is: a contract; no statement of the seat is proved here. -/
namespace Go.Proofs.YtapflnabiobonaaDoor
open Go.RowKit

theorem bAlloc {W w : World} (h : Below W.heap.size W w) (o : Obj) : Below W.heap.size W (w.alloc o) := h.alloc h.size o

theorem bSet {B i : Nat} {W w : World} (h : Below B W w) (u : Value) : Below B W (w.setCell ⟨B, i, none⟩ u) := h.setCell (p := ⟨B, i, none⟩) (Nat.le_refl _) u

theorem step_copy0 {P : Program} {ops : Array Oper} {o : Oper} {a : Act} {w : World} {K : Act → World → Prop} {Q : Exit → Act → World → Prop} {E : Prop}
    (hg : o.guard = none) (s x : Operand) (t : TypeId) (hop : o.op = Op.call { callee := Callee.builtin Builtin.append, args := #[s, x], argTypes := #[t, t] })
    (e : TypeId) (i : TypeInfo) (z : Value) (size bytes : Nat) (ht : P.underlying t = some (.slice e)) (hi : P.info? e = some i) (hz : i.zero = some z)
    (hsize : i.size = size) (hby : i.bytes = bytes) (hzs : z.cells.size = size) (hsz : 0 < size)
    (ao0 : Option Addr) (hs : a.eval s = .slice ao0 0 0)
    (vx : Value) (m : Nat) (news : List Value) (hx : a.eval x = vx) (hr : RowR w size vx m news) (h1 : ∀ u ∈ news, u.oneCell' = true)
    (h63 : m ≤ 1048576) (hbytes : m * bytes ≤ 140737488355328)
    (hK : ∀ v' w', Row w' e size (fun k => w.heap.size ≤ k) v' m news → Below w.heap.size w w' → K (a.put o.dst v') w') :
    if Region.wanted o (yielded ops a.tmps) = true then Oper.wp P o a w K Q else E := by
  obtain ⟨ao, c, rfl, hn', hl, hr⟩ := hr
  rcases Nat.eq_zero_or_pos m with rfl | hpos
  · obtain rfl : news = [] := List.eq_nil_of_length_eq_zero (by simpa using hl)
    have hw : Region.wanted o (yielded ops a.tmps) = true := by simp [Region.wanted, hg]
    rw [if_pos hw]
    have hrun : (Builtin.append_ #[t, t] o.type #[.slice ao0 0 0, .slice ao 0 c]).run P w = .ok (.slice ao0 0 0) w := by
      cases ao <;> cases ao0 <;> simp [Builtin.append_, run_underlying ht, sizeOf, typeInfo, hi, Builtin.lenOf, Builtin.firstCells, storeCells, loadCells, loadCellsFrom]
    unfold Oper.wp
    simp [execOp, hop, resolve, invoke, builtin, hs, hx, hrun, Result.andThen]
    exact hK _ w ⟨ao0, 0, rfl, hn', hl, fun h => by omega⟩ (Below.refl _ _)
  · obtain ⟨b, off, rfl, hc⟩ := hr hpos
    refine step_append_grows hg s x t hop e i z size bytes ht hi hz hsize hby hzs hsz ao0 0 0 [] hs (fun _ => ⟨rfl, rfl⟩) (by simp) (fun _ _ j u h => by simp at h) ⟨b, off, none⟩ m c news hx hl (fun j u hj => by rw [Addr.add_lit]; exact hc j u hj) h1 (by omega) (by unfold maxLen; omega) (by rw [Nat.zero_add]; exact hbytes) ?_
    intro v' w' r1 r2
    rw [Nat.zero_add, List.nil_append] at r1
    exact hK v' w' (Row.ofOwns r1 (by omega)) ((Below.refl _ _).grown r2 (Nat.le_refl _) (fun k e => by cases e))

theorem keepS {w W w' : World} {x y : Value} (p0 : W.cell? ⟨w.heap.size, 0, none⟩ = some x) (p1 : W.cell? ⟨w.heap.size, 1, none⟩ = some y) (h : Below (w.heap.size + 1) W w') :
    (w'.cell? ⟨w.heap.size, 0, none⟩ = some x ∧ w'.cell? ⟨w.heap.size, 1, none⟩ = some y) ∧ Below (w.heap.size + 1) W w' :=
  ⟨⟨(h.cell (p := ⟨w.heap.size, 0, none⟩) (Nat.lt_succ_self _)).trans p0, (h.cell (p := ⟨w.heap.size, 1, none⟩) (Nat.lt_succ_self _)).trans p1⟩, h⟩

set_option maxRecDepth 100000 in
set_option maxHeartbeats 2000000 in
theorem l1Copy_any (kept : List ByteArray) (wait : List (Int × ByteArray)) (v : Value) (w : World) (hr : DiskR w v kept wait) (hk : kept.length ≤ 1048576) (hw : wait.length ≤ 1048576) :
    Calls Tryd.prog 104 #[v] w fun e w' => ∃ v', e = .returned v' ∧ DiskO w' (fun k => w.heap.size ≤ k) v' kept wait ∧ Below w.heap.size w w' := by
  obtain ⟨ak, aw, rfl, a1, a2⟩ := hr
  obtain ⟨ao, ca, rfl⟩ : ∃ ao ca, ak = .slice ao kept.length ca := by obtain ⟨ao, ca, h, -⟩ := a1; exact ⟨ao, ca, h⟩
  obtain ⟨bo, cb, rfl⟩ : ∃ ao ca, aw = .slice ao wait.length ca := by obtain ⟨ao, ca, h, -⟩ := a2; exact ⟨ao, ca, h⟩
  have hal : Below w.heap.size w ((w.alloc (.cells #[.slice ao kept.length ca, .slice bo wait.length cb] 31)).alloc (.cells #[.slice none 0 0, .slice none 0 0] 31)) := ((Below.refl _ _).alloc (Nat.le_refl _) _).alloc (by simp) _
  obtain ⟨W, hW⟩ : ∃ W, W = (w.alloc (.cells #[.slice ao kept.length ca, .slice bo wait.length cb] 31)).alloc (.cells #[.slice none 0 0, .slice none 0 0] 31) := ⟨_, rfl⟩
  have B0 : W.heap[w.heap.size]? = some (.cells #[.slice ao kept.length ca, .slice bo wait.length cb] 31 (0, 0)) := by rw [hW]; exact al2_0 w _ _
  have B1 : W.heap[w.heap.size + 1]? = some (.cells #[.slice none 0 0, .slice none 0 0] 31 (0, 0)) := by rw [hW]; exact al2_1 w _ _
  have hsz : W.heap.size = w.heap.size + 2 := by rw [hW]; simp
  rw [← hW] at hal
  have k1 := hide (a1.keep hal)
  have k2 := hide (a2.keep hal)
  clear a1 a2
  obtain ⟨i0, hi, hz0, hz1, hz2⟩ := info_parts infoStr
  obtain ⟨i1, gi, gz0, gz1, gz2⟩ := info_parts infoWr
  go_enter Tryd.func104, Tryd.ntmps104
  go_wp2
  rw [← hW]
  clear hW
  obtain ⟨p0, p1, pl⟩ := box2 B0
  obtain ⟨q0, q1, ql⟩ := box2 B1
  obtain ⟨q2, q3⟩ := box2f B1
  have H0 := hide B0
  have H1 := hide B1
  clear B0 B1
  go_region_held_law (fun w' => (w'.cell? ⟨w.heap.size, 0, none⟩ = some (.slice ao kept.length ca) ∧ w'.cell? ⟨w.heap.size, 1, none⟩ = some (.slice bo wait.length cb)) ∧ Below (w.heap.size + 1) W w')
    ((refine keepS p0 p1 ?_; first | (refine Below.mono (B := W.heap.size) ?_ (by omega); (repeat (first | exact Below.refl _ _ | assumption | refine bAlloc ?_ _ | refine Below.drew ?_)); done) | (refine bSet (bSet ?_ _) _; exact b2'.mono (by omega))))
    (first
    | (refine step_copy0 rfl (.tmp 3) (.tmp 5) 22 rfl 9 i0 (.string ⟨#[]⟩) 1 16 Tryd.underlying22 hi hz0 hz1 hz2 rfl (by decide) _ rfl (.slice ao kept.length ca) kept.length (kept.map Value.string) rfl (k1.out.keep (by repeat (first | exact Below.refl _ _ | assumption | refine bAlloc ?_ _ | refine Below.drew ?_))) (strs_one _) hk (by omega) ?_; intro v1 w1 r1 b1; obtain ⟨no, cn, rfl⟩ := r1.shape; have b1' : Below W.heap.size W w1 := bAll (by repeat (first | exact Below.refl _ _ | assumption | refine bAlloc ?_ _ | refine Below.drew ?_)) b1)
    | (refine step_copy0 rfl (.tmp 7) (.tmp 9) 29 rfl 63 i1 (.agg #[.int .i64 0, .string ⟨#[]⟩]) 2 24 Tryd.underlying29 gi gz0 gz1 gz2 rfl (by decide) _ rfl (.slice bo wait.length cb) wait.length (wcells wait) rfl (k2.out.keep (by repeat (first | exact Below.refl _ _ | assumption | refine bAlloc ?_ _ | refine Below.drew ?_))) (wcells_one _) hw (by omega) ?_; intro v2 w2 r2 b2; obtain ⟨mo, cm, rfl⟩ := r2.shape; have b2' : Below W.heap.size W w2 := bAll (by repeat (first | exact Below.refl _ _ | assumption | refine bAlloc ?_ _ | refine Below.drew ?_)) b2; obtain ⟨t0, t1, tl⟩ := box2 (bKeeps b2' H1.out); obtain ⟨t2, t3⟩ := box2f (bKeeps b2' H1.out)))
  all_goals
    go_wp2
    have hu := upd_set2 w2 (w.heap.size + 1) 0 1 (.slice no kept.length cn) (.slice mo wait.length cm)
    have hz1' := b1'.size
    have hz2' := b2'.size
    refine bodyPost_ret (v := .agg #[.slice no kept.length cn, .slice mo wait.length cm]) (by simp [results, Tryd.results104, go_sem, t0, t1]) rfl ⟨_, rfl, ⟨_, _, rfl, ?_, ?_⟩, ?_⟩
    · refine (Row.keep (Row.keepB r1 ?_) hu ?_).mono ?_
      · first | exact b2 | exact bAll (bAlloc (Below.refl _ _) _) b2
      · intro k hk
        try simp at hk
        omega
      · intro k _ hk
        try simp at hk
        omega
    · refine (Row.keep r2 hu ?_).mono ?_
      · intro k hk
        try simp at hk
        omega
      · intro k _ hk
        try simp at hk
        omega
    · exact (bAll hal b2').trans (hu.below (by omega) (by intro k hk; omega))

end Go.Proofs.YtapflnabiobonaaDoor

/- What SecLook does, in the specification and in the program: contracts; no statement of the seat is proved here. -/
namespace Go.Proofs.YtapflnabiobonaaDoor
open Go.RowKit Go.Shelf

attribute [local go_sem] Oper.semAt_some

/-- What a sector reads. -/
def lookB (kept : List ByteArray) (wait : List (Int × ByteArray)) (a : Int) : ByteArray :=
  if okB kept wait = true ∧ inB a 0 ((kept.length : Int) - 1) = true then (flushL kept wait)[a.toNat]?.getD ⟨#[]⟩ else ⟨#[]⟩

theorem field_kept (ao bo : Option Addr) (n c m d : Nat) (w : World) : (Instr.field 31 (.agg #[.slice ao n c, .slice bo m d]) 0).run Tryd.prog w = .ok (.slice ao n c) w := by kernel_rfl

set_option maxRecDepth 100000 in
set_option maxHeartbeats 1000000 in
theorem specSecLook_any (v : Value) (kept : List ByteArray) (wait : List (Int × ByteArray)) (a : Int) (w : World) (hr : DiskR w v kept wait) (hs : ∀ s ∈ kept, s.size ≤ 9223372036854775807) (hs' : ∀ s ∈ wait, s.2.size ≤ 9223372036854775807) :
    Calls Tryd.prog 47 #[v, .int .i64 a] w fun e w' => e = .returned (.string (lookB kept wait a)) ∧ Below w.heap.size w w' := by
  have Hr := hide hr
  obtain ⟨ak, aw, rfl, a1, a2⟩ := hr
  have hkl : kept.length ≤ 9223372036854775807 := by obtain ⟨_, _, _, h, -⟩ := a1; exact h
  obtain ⟨ao, ca, rfl⟩ : ∃ ao ca, ak = .slice ao kept.length ca := by obtain ⟨ao, ca, h, -⟩ := a1; exact ⟨ao, ca, h⟩
  obtain ⟨bo, cb, rfl⟩ : ∃ ao ca, aw = .slice ao wait.length ca := by obtain ⟨ao, ca, h, -⟩ := a2; exact ⟨ao, ca, h⟩
  have hal : Below w.heap.size w (w.alloc (.cells #[.slice ao kept.length ca, .slice bo wait.length cb] 31)) := (Below.refl _ _).alloc (Nat.le_refl _) _
  have H0 := hide (al1_0 w (.cells #[.slice ao kept.length ca, .slice bo wait.length cb] 31))
  have Hs := hide hs
  have Hs' := hide hs'
  clear hs hs' a1 a2
  go_enter Tryd.func47, Tryd.ntmps47
  go_wp2_with fail
  refine (specSecOk_any _ kept wait _ (Hr.out.keep hal) Hs.out Hs'.out).mono ?_
  rintro e w1 ⟨rfl, b1⟩
  have B0 := bKeeps b1 H0.out
  obtain ⟨p0, p1, pl⟩ := box2 B0
  clear H0
  have H0 := hide B0
  clear B0
  cases hok : okB kept wait
  · have Hx : Hid (lookB kept wait a = ⟨#[]⟩) := by show _ = _; simp [lookB, hok]
    go_wp2
    go_ret
    exact ⟨by rw [Hx.out]; rfl, bAll hal b1⟩
  · cases hin : inB a 0 ((kept.length : Int) - 1)
    · have Hx : Hid (lookB kept wait a = ⟨#[]⟩) := by show _ = _; simp [lookB, hin]
      go_wp2_with (go_at_call 76; refine (l6In_any _ _ _ _).mono ?_; rintro e w' ⟨rfl, rfl⟩)
      go_ret
      exact ⟨by rw [Hx.out]; rfl, bAll hal b1⟩
    · have hb : 0 ≤ a ∧ a ≤ (kept.length : Int) - 1 := by simpa [inB] using hin
      obtain ⟨n, rfl⟩ := Int.eq_ofNat_of_zero_le hb.1
      have hn : n < kept.length := by omega
      clear hb
      have hln : n < (flushL kept wait).length := by rw [flushL_len]; exact hn
      obtain ⟨t, ht⟩ := getAt (flushL kept wait) n hln
      have Hx : Hid (lookB kept wait (n : Nat) = t) := by show _ = _; simp [lookB, hok, hin, ht]
      have Hok := hide hok
      go_wp2_with (go_at_call 76; refine (l6In_any _ _ _ _).mono ?_; rintro e w' ⟨rfl, rfl⟩)
      refine (specSecFlush_yes _ kept wait _ ((Hr.out.keep hal).keep b1) Hok.out).mono ?_
      rintro e w2 ⟨v2, rfl, d2, b2⟩
      obtain ⟨vk, vw, rfl, r2, ⟨wo, cw, rfl, -⟩⟩ := d2
      rw [flushL_len] at r2
      obtain ⟨g, cap, u, rfl, -, hgl, hcu, hu, -, -⟩ := r2.at n hn
      have hcu' : w2.cell? ⟨g, n, none⟩ = some (.string t) := by
        rw [hcu]
        simpa [ht] using hu.symm
      have hi : (n : Int) < (kept.length : Int) := by omega
      clear hcu hu ht r2
      have hfl := field_kept (some ⟨g, 0, none⟩) wo kept.length cap 0 cw
      go_wp2
      go_ret
      exact ⟨by rw [Hx.out]; rfl, bAll (bAll hal b1) b2⟩

/-- What a sector reads behind the writes at some places, in order. -/
def lookL (wait : List (Int × ByteArray)) (a : Nat) (t : ByteArray) (pre : List Nat) : ByteArray := pre.foldl (fun t j => if (wAt wait j).1 = (a : Int) then (wAt wait j).2 else t) t

theorem lookL_snoc (wait : List (Int × ByteArray)) (a : Nat) (t : ByteArray) (pre : List Nat) (x : Nat) : lookL wait a t (pre ++ [x]) = if (wAt wait x).1 = (a : Int) then (wAt wait x).2 else lookL wait a t pre := by simp [lookL]

theorem lookL_flush (kept : List ByteArray) (wait : List (Int × ByteArray)) (a : Nat) (t : ByteArray) (ht : kept[a]? = some t) (hw : ∀ x ∈ wait, 0 ≤ x.1 ∧ x.1 < kept.length) :
    ∀ k, k ≤ wait.length → (flushL kept (wait.take k))[a]? = some (lookL wait a t (List.range k)) := by
  intro k
  induction k with
  | zero => intro _; simpa [flushL, lookL] using ht
  | succ k ih =>
    intro hk
    obtain ⟨x, hx⟩ := getAt wait k (by omega)
    have hwx : wAt wait k = x := by simp [wAt, hx]
    have hb := hw x (List.mem_of_getElem? hx)
    rw [List.take_add_one, hx, Option.toList_some, flushL_snoc, List.range_succ, lookL_snoc, hwx]
    by_cases e : x.1 = (a : Int)
    · rw [if_pos e, show x.1.toNat = a by omega, List.getElem?_set_self (by rw [flushL_len]; omega)]
    · rw [if_neg e, List.getElem?_set_ne (by omega)]
      exact ih (by omega)

/-- Where the writes lie when their iterator has been made. -/
theorem told_prep {w Wb : World} (xs : List (Int × ByteArray)) (bo : Option Addr) (o : Obj) (hb : Below w.heap.size w Wb)
    (q : 0 < xs.length → ∃ b off, bo = some ⟨b, off, none⟩ ∧ ∀ j u, (wcells xs)[j]? = some u → w.cell? ⟨b, off + j, none⟩ = some u) :
    ∃ b off, b < (Wb.alloc o).heap.size ∧ (0 < xs.length ∧ b < w.heap.size ∨ b = Wb.heap.size) ∧ (0 < xs.length → b < w.heap.size ∧ bo = some ⟨b, off, none⟩) ∧ ∀ j u, (wcells xs)[j]? = some u → (Wb.alloc o).cell? ⟨b, off + j, none⟩ = some u := by
  by_cases h0 : 0 < xs.length
  · obtain ⟨b, off, e, hc⟩ := q h0
    obtain ⟨x, hx⟩ := getAt xs 0 h0
    have hl : b < w.heap.size := World.block_lt_of_cell? w _ (hc _ _ (wcells_at xs 0 x hx).1)
    have hbb := hb.alloc hb.size o
    exact ⟨b, off, by have := hbb.size; omega, .inl ⟨h0, hl⟩, fun _ => ⟨hl, e⟩, fun j u hj => (hbb.cell (p := ⟨b, off + j, none⟩) hl).trans (hc j u hj)⟩
  · refine ⟨Wb.heap.size, 0, by simp, .inr rfl, fun h => by omega, fun j u hj => ?_⟩
    have : xs = [] := List.eq_nil_of_length_eq_zero (by omega)
    subst this
    simp [wcells] at hj

set_option maxRecDepth 100000 in
set_option maxHeartbeats 4000000 in
theorem stateLook_in (kept : List ByteArray) (wait : List (Int × ByteArray)) (ao bo : Option Addr) (ca cb : Nat) (n : Nat) (w : World)
    (a1 : RowR w 1 (.slice ao kept.length ca) kept.length (kept.map Value.string)) (a2 : RowR w 2 (.slice bo wait.length cb) wait.length (wcells wait)) (hn : n < kept.length) (hok : okB kept wait = true) :
    CallsIn Fence.wide 9 Tryd.prog 65 #[.agg #[.slice ao kept.length ca, .slice bo wait.length cb], .int .i64 n] w fun e w' => e = .returned (.string (lookB kept wait n)) ∧ Below w.heap.size w w' := by
  obtain ⟨hp1, hp2, hp3, hp4⟩ := okB_parts hok
  obtain ⟨t, ht⟩ := getAt kept n hn
  have HL : Hid (lookB kept wait n = lookL wait n t (List.range wait.length)) := by
    have h := lookL_flush kept wait n t ht (fun x hx => ⟨(hp4 x hx).1, (hp4 x hx).2.1⟩) wait.length (Nat.le_refl _)
    rw [List.take_of_length_le (Nat.le_refl _)] at h
    have hin : inB (n : Int) 0 ((kept.length : Int) - 1) = true := by simp [inB]; omega
    show _ = _
    simp [lookB, hok, hin, h]
  clear hp3 hp4
  obtain ⟨ao', ca', e1, hn1, hl1, c1⟩ := a1
  simp only [Value.slice.injEq, true_and] at e1
  obtain ⟨rfl, rfl⟩ := e1
  obtain ⟨b0, o0, rfl, c2⟩ := c1 (by omega)
  have ct := c2 n (.string t) (by simp [ht])
  clear c1 c2 hl1 ht
  obtain ⟨bo', cb', e2, hn2, hl2, q2⟩ := a2
  simp only [Value.slice.injEq, true_and] at e2
  obtain ⟨rfl, rfl⟩ := e2
  clear hl2
  have Q2 := hide q2
  clear q2
  have ctl : b0 < w.heap.size := World.block_lt_of_cell? w _ ct
  refine callsIn_of_wp_marks Tryd.func65 rfl trivial ?_ rfl
  simp only [ Tryd.ntmps65, List.size_toArray, List.length_cons, List.length_nil, Nat.reduceAdd, Nat.reduceSub, Array.replicate_succ, Array.replicate_zero, List.push_toArray, List.append_toArray, List.nil_append, List.cons_append]
  have hi : (n : Int) < (kept.length : Int) := by omega
  gi_wp2_with fail
  refine ⟨trivial, ?_⟩
  refine (told_in Fence.wide 8 trivial rfl bo wait.length cb _).mono ?_
  rintro e w' ⟨rfl, rfl⟩
  obtain ⟨o1, ho1⟩ : ∃ o1, o1 = Obj.cells #[.slice (some ⟨b0, o0, none⟩) kept.length ca, .slice bo wait.length cb] 94 := ⟨_, rfl⟩
  have hal : Below w.heap.size w (((w.alloc o1).alloc (.cells #[.int .i64 n] 3)).alloc (.cells #[.string t] 9)) := (((Below.refl _ _).alloc (Nat.le_refl _) _).alloc (by simp) _).alloc (by simp; omega) _
  obtain ⟨b, off, hbl, hbo, hao, hcs⟩ := told_prep wait bo (.cells #[.slice bo wait.length cb] 92) hal Q2.out
  obtain ⟨W0, hW0⟩ : ∃ W0, W0 = (((w.alloc o1).alloc (.cells #[.int .i64 n] 3)).alloc (.cells #[.string t] 9)).alloc (.cells #[.slice bo wait.length cb] 92) := ⟨_, rfl⟩
  have hbel0 : Below w.heap.size w W0 := by rw [hW0]; exact hal.alloc hal.size _
  have B1 : W0.heap[w.heap.size + 1]? = some (.cells #[.int .i64 n] 3 (0, 0)) := by rw [hW0]; exact (Below.heap_alloc _ _ _ (by simp only [World.size_alloc]; omega)).trans (al3_1 w _ _ _)
  have B2 : W0.heap[w.heap.size + 1 + 1]? = some (.cells #[.string t] 9 (0, 0)) := by rw [hW0]; exact (Below.heap_alloc _ _ _ (by simp only [World.size_alloc]; omega)).trans (al3_2 w _ _ _)
  have hBs : W0.heap[w.heap.size + 1 + 1 + 1]? = some (.cells #[.slice bo wait.length cb] 92 (0, 0)) := by
    rw [hW0]; have := al3_2 (w.alloc o1) (.cells #[.int .i64 n] 3) (.cells #[.string t] 9) (.cells #[.slice bo wait.length cb] 92); simpa only [World.size_alloc] using this
  have hsz : W0.heap.size = w.heap.size + 4 := by rw [hW0]; simp
  have hbne : b ≠ w.heap.size + 1 + 1 := by simp only [World.size_alloc] at hbo; omega
  clear hbo
  rw [← hW0] at hbl hcs
  rw [← ho1, ← hW0]
  simp only [World.size_alloc]
  clear hW0 ho1 hal
  have Hcs := hide hcs
  have Hao := hide (fun h => (hao h).2)
  clear hcs hao Q2 ct
  gi_wp2_with fail
  refine range_boxed rfl (by omega) (gf := 100) (lb := #[.pointer (some ⟨w.heap.size + 1 + 1 + 1, 0, none⟩)]) rfl trivial (enters_of Tryd.func100 (by kernel_rfl) rfl)
    (told_stops Fence.wide (9 - 1) trivial rfl (by omega) (w.heap.size + 1 + 1 + 1) b off cb bo wait W0 hn2 Hao.out hBs Hcs.out) kpB_t (kpB_b hbl) (Below.refl _ _) (fun _ => rfl)
    (fun pre W => (W.heap[w.heap.size + 1 + 1]? = some (.cells #[.string (lookL wait n t pre)] 9 (0, 0)) ∧ W.heap[w.heap.size + 1]? = some (.cells #[.int .i64 n] 3 (0, 0))) ∧ (Below w.heap.size w W ∧ W0.heap.size ≤ W.heap.size))
    (fun _ _ _ => False)
    ?hI ?hIx ?h0 ?hIs ?hKa 7 63 (fun x => #[.int .i64 (wAt wait x).1, .string (wAt wait x).2]) ?assign ?body ?done ?stop
  case hI => exact OwnFrom.and (OwnFrom.and (own_cells _ _ (fun pre => #[.string (lookL wait n t pre)]) _) (own_cells _ _ (fun _ => #[.int .i64 n]) _)) (OwnFrom.and (ownFrom_below (Nat.le_refl _) (by have := hbel0.size; omega)) (own_size _ _))
  case hIx => exact fun c => own_pure _ _
  case h0 => exact ⟨⟨B2, B1⟩, hbel0, Nat.le_refl _⟩
  case hIs => exact fun pre W h => h.2.2
  case hKa => exact fun pre W o h => Below.heap_alloc W o b (by have := h.2.2; omega)
  case assign =>
    intro l pre x W K hi hK
    obtain ⟨a, s, hx⟩ : ∃ a s, wAt wait x = (a, s) := ⟨_, _, rfl⟩
    rw [wEnc_eq hx] at hK ⊢
    simp only [hx] at hK
    rw [roundTmps_two] at hK
    clear hi B1 B2 hBs
    gi_wp2
    exact hK
  case body =>
    rintro l pre x Bx W hl hBx hxb ⟨⟨ht, hnb⟩, hbel, hsW⟩ hN
    obtain ⟨a, s, hx⟩ : ∃ a s, wAt wait x = (a, s) := ⟨_, _, rfl⟩
    rw [wEnc_eq hx]
    simp only [hx] at hxb
    obtain ⟨x0, x1, xl⟩ := box2 hxb
    have r0 : W.cell? ⟨w.heap.size + 1, 0, none⟩ = some (.int .i64 n) := (cell_of_row W _ 0 _ _ (0, 0) hnb).trans rfl
    have r1 : W.cell? ⟨w.heap.size + 1 + 1, 0, none⟩ = some (.string (lookL wait n t pre)) := (cell_of_row W _ 0 _ _ (0, 0) ht).trans rfl
    have r2 : W.frozen? ⟨w.heap.size + 1 + 1, 0, none⟩ = false := frozen_of_row W _ 0 _ _ ht
    have Ht := hide ht
    have Hn := hide hnb
    have Hx := hide hx
    have hsn := hide (lookL_snoc wait n t pre x)
    clear ht hnb hxb hx B1 B2 hBs
    rw [roundTmps_two]
    by_cases hc : a = (n : Int)
    · have hc' : (a == (n : Int)) = true := by simpa using hc
      have Hc := hide hc
      clear hc
      gi_wp2
      have hup : Upd (fun k => k = w.heap.size + 1 + 1) W (W.setCell ⟨w.heap.size + 1 + 1, 0, none⟩ (.string s)) := Upd.setCell _ _ _ _ rfl
      refine ⟨(KeepsOthers.setCell _ _ _).from _, ?_, ⟨?_, hup.keeps Hn.out (by omega)⟩, hbel.setCell (p := ⟨w.heap.size + 1 + 1, 0, none⟩) (by show _ ≤ w.heap.size + 1 + 1; omega) _, by simpa using hsW⟩
      · exact Below.heap_setCell _ _ _ _ hbne
      · rw [hsn.out, Hx.out, if_pos Hc.out]
        exact row_set _ Ht.out
    · have hc' : (a == (n : Int)) = false := by simpa using hc
      have Hc := hide hc
      clear hc
      gi_wp2
      refine ⟨KeepsFrom.refl _ _, rfl, ⟨?_, Hn.out⟩, hbel, hsW⟩
      rw [hsn.out, Hx.out, if_neg Hc.out]
      exact Ht.out
  case done =>
    rintro D ys W hD rfl ⟨⟨ht, hnb⟩, hbel, hsW⟩ hK
    have r1 : W.cell? ⟨w.heap.size + 1 + 1, 0, none⟩ = some (.string (lookL wait n t (List.range wait.length))) := (cell_of_row W _ 0 _ _ (0, 0) ht).trans rfl
    have HKD := hide hK
    clear ht hnb hK B1 B2 hBs
    gi_wp2
    refine ⟨by simp, .inl ⟨_, _, rfl, run_takeDeferred HKD.out, ?_⟩⟩
    exact ⟨_, results_tmp rfl _ _ _, by rw [HL.out]; rfl, hbel.trans (belowK_b (w := W0) (by have := hbel0.size; omega) _ D _ _ hD HKD.out rfl rfl)⟩
  case stop =>
    rintro D c pre W _ _ h _
    exact h.elim

set_option maxRecDepth 100000 in
set_option maxHeartbeats 1000000 in
theorem implSecLook_any (v : Value) (kept : List ByteArray) (wait : List (Int × ByteArray)) (a : Int) (w : World) (hr : DiskR w v kept wait) (hs : ∀ s ∈ kept, s.size ≤ 9223372036854775807) (hs' : ∀ s ∈ wait, s.2.size ≤ 9223372036854775807) :
    Calls Tryd.prog 30 #[v, .int .i64 a] w fun e w' => e = .returned (.string (lookB kept wait a)) ∧ Below w.heap.size w w' := by
  have Hr := hide hr
  obtain ⟨ak, aw, rfl, a1, a2⟩ := hr
  have hkl : kept.length ≤ 9223372036854775807 := by obtain ⟨_, _, _, h, -⟩ := a1; exact h
  obtain ⟨ao, ca, rfl⟩ : ∃ ao ca, ak = .slice ao kept.length ca := by obtain ⟨ao, ca, h, -⟩ := a1; exact ⟨ao, ca, h⟩
  obtain ⟨bo, cb, rfl⟩ : ∃ ao ca, aw = .slice ao wait.length ca := by obtain ⟨ao, ca, h, -⟩ := a2; exact ⟨ao, ca, h⟩
  have hal : Below w.heap.size w (w.alloc (.cells #[.slice ao kept.length ca, .slice bo wait.length cb] 31)) := (Below.refl _ _).alloc (Nat.le_refl _) _
  have Hs := hide hs
  have Hs' := hide hs'
  have A1 := hide a1
  have A2 := hide a2
  clear hs hs' a1 a2
  go_enter Tryd.func30, Tryd.ntmps30
  go_wp2_with fail
  refine (secSeen_any ao bo _ ca _ cb _).mono ?_
  rintro e w1 ⟨rfl, b1⟩
  go_wp2_with fail
  have al1 : Below w1.heap.size w1 (w1.alloc (.cells #[.slice ao kept.length ca, .slice bo wait.length cb] 94)) := (Below.refl _ _).alloc (Nat.le_refl _) _
  have hb1 := bAll (bAll hal b1) al1
  have H1 := hide (al1_0 w1 (.cells #[.slice ao kept.length ca, .slice bo wait.length cb] 94))
  refine (stateOk_any kept wait _ _ (Hr.out.keep hb1) Hs.out Hs'.out).mono ?_
  rintro e w2 ⟨rfl, b2⟩
  have hb2 := bAll hb1 b2
  have B1 := bKeeps b2 H1.out
  obtain ⟨p0, p1, pl⟩ := box2 B1
  clear H1
  have H1 := hide B1
  clear B1
  cases hok : okB kept wait
  · have Hx : Hid (lookB kept wait a = ⟨#[]⟩) := by show _ = _; simp [lookB, hok]
    go_wp2
    go_ret
    exact ⟨by rw [Hx.out]; rfl, hb2⟩
  · have Hok := hide hok
    go_wp2_with fail
    refine (has_any ao kept.length ca a _ hkl).mono ?_
    rintro e w3 ⟨rfl, b3⟩
    have hb3 := bAll hb2 b3
    have B1 := bKeeps b3 H1.out
    clear p0 p1 pl H1
    obtain ⟨p0, p1, pl⟩ := box2 B1
    clear B1
    cases hin : inB a 0 ((kept.length : Int) - 1)
    · have Hx : Hid (lookB kept wait a = ⟨#[]⟩) := by show _ = _; simp [lookB, hin]
      go_wp2
      go_ret
      exact ⟨by rw [Hx.out]; rfl, hb3⟩
    · have hb : 0 ≤ a ∧ a ≤ (kept.length : Int) - 1 := by simpa [inB] using hin
      obtain ⟨n, rfl⟩ := Int.eq_ofNat_of_zero_le hb.1
      have hn : n < kept.length := by omega
      clear hb
      go_wp2_with fail
      refine (callsIn_wide.1 (stateLook_in kept wait ao bo ca cb n _ (A1.out.keep hb3) (A2.out.keep hb3) hn Hok.out)).mono ?_
      rintro e w4 ⟨rfl, b4⟩
      go_wp2
      go_ret
      exact ⟨rfl, bAll hb3 b4⟩

end Go.Proofs.YtapflnabiobonaaDoor

/- What SecFlush of the program does: contracts; no statement of the seat is proved here. -/
namespace Go.Proofs.YtapflnabiobonaaDoor
open Go.RowKit Go.Shelf

attribute [local go_sem] Oper.semAt_some

theorem disk_any (ao bo : Option Addr) (n cap m cap' : Nat) (w : World) :
    Calls Tryd.prog 60 #[.agg #[.slice ao n cap, .slice bo m cap']] w fun e w' => e = .returned (.agg #[.slice ao n cap, .slice bo m cap']) ∧ Below w.heap.size w w' := by
  go_enter Tryd.func60, Tryd.ntmps60
  go_wp2
  exact bodyPost_ret (v := .agg #[.slice ao n cap, .slice bo m cap']) (by simp [results, Tryd.results60, go_sem]) rfl ⟨rfl, ((Below.refl _ _).alloc (Nat.le_refl _) _).alloc (by simp) _⟩

theorem Upd.drew {S : Nat → Prop} {w w' : World} (h : Upd S w w') : Upd S w w'.drew := ⟨h.os, h.tape, h.output, h.size, h.block⟩

set_option maxHeartbeats 1000000 in
theorem store_any (S : Nat → Prop) (B : Nat) (no : Option Addr) (n cn i : Nat) (x : Value) (cs : List Value) (s : ByteArray) (w : World)
    (hbox : w.heap[B]? = some (.cells #[.slice no n cn, x] 94 (0, 0))) (hrow : Row w 9 1 S (.slice no n cn) n cs) (hi : i < n) :
    Calls Tryd.prog 85 #[.pointer (some ⟨B, 0, none⟩), .agg #[.int .i64 (i : Nat), .string s]] w fun e w' => e = .returned (.tuple #[]) ∧ Row w' 9 1 S (.slice no n cn) n (cs.set i (.string s)) ∧ Upd S w w' := by
  obtain ⟨g, cap, u, ev, hS, hgl, -, -, -, -⟩ := hrow.at i hi
  simp only [Value.slice.injEq, true_and] at ev
  obtain ⟨rfl, rfl⟩ := ev
  have al1 : Below w.heap.size w (w.alloc (.cells #[.int .i64 (i : Nat), .string s] 63)) := (Below.refl _ _).alloc (Nat.le_refl _) _
  obtain ⟨W, hW⟩ : ∃ W, W = w.alloc (.cells #[.int .i64 (i : Nat), .string s] 63) := ⟨_, rfl⟩
  rw [← hW] at al1
  have hrow1 := hrow.keepB al1
  obtain ⟨p0, p1, pl⟩ := box2 (bKeeps al1 hbox)
  have hBx : W.heap[w.heap.size]? = some (.cells #[.int .i64 (i : Nat), .string s] 63 (0, 0)) := by rw [hW]; exact al1_0 w _
  obtain ⟨x0, x1, xl⟩ := box2 hBx
  obtain ⟨g', cap', u', ev, -, hgl', hcu, -, hfu, hset⟩ := hrow1.at i hi
  simp only [Value.slice.injEq, Option.some.injEq, Addr.mk.injEq, and_true, true_and] at ev
  obtain ⟨rfl, rfl⟩ := ev
  have Hset := hide hset
  have hi' : (i : Int) < (n : Int) := by omega
  clear hset hbox hBx hrow hrow1 hgl
  go_enter Tryd.func85, Tryd.ntmps85
  go_wp2
  rw [← hW]
  clear hW
  go_region
  all_goals
    try go_wp2
    go_end0
    exact ⟨rfl, (Hset.out _).keepB ((Below.refl _ _).drew), ((Upd.ofBelow al1).trans (Upd.setCell _ _ _ _ hS)).drew⟩

theorem own_upd {β : Type} {S : Nat → Prop} {w : World} {B : Nat} (h : w.heap.size ≤ B) : OwnFrom B (fun (_ : β) W => Upd S w W) := by
  intro s W W' row hs hg hr
  exact ⟨hg.os.trans hs.os, hg.tape.trans hs.tape, hg.output.trans hs.output, Nat.le_trans hs.size hg.size, fun k hk hS =>
    (hg.block k (by have := hs.size; omega) (fun e => by have := (hr k e.symm).1; omega)).trans (hs.block k hk hS)⟩

theorem own_row {β : Type} (B : Nat) (e : TypeId) (size : Nat) (S : Nat → Prop) (v : Value) (n : Nat) (cs : β → List Value) : OwnFrom B (fun (s : β) W => Row W e size S v n (cs s)) := by
  intro s W W' row hs hg hr
  obtain ⟨ao, cap, rfl, hn, hl, h⟩ := hs
  refine ⟨ao, cap, rfl, hn, hl, fun h0 => ?_⟩
  obtain ⟨g, cur, rfl, hS, hgg, ht⟩ := h h0
  exact ⟨g, cur, rfl, hS, own_cells B g (fun _ : β => cur) e s W W' row hgg hg hr, ht⟩

theorem upd_putObj {T : Nat → Prop} {w W : World} {D : Nat} (h : Upd T w W) (hD : w.heap.size ≤ D) (o : Obj) : Upd T w (W.putObj D o) := by
  have hg := grownBy_putObj' W D o
  exact ⟨hg.os.trans h.os, hg.tape.trans h.tape, hg.output.trans h.output, Nat.le_trans h.size hg.size, fun k hk hS => (hg.block k (by have := h.size; omega) (fun e => by cases e; omega)).trans (h.block k hk hS)⟩

theorem upd_putObj' (W : World) (D : Nat) (o : Obj) : Upd (fun k => k = D) W (W.putObj D o) := by
  have hg := grownBy_putObj' W D o
  exact ⟨hg.os, hg.tape, hg.output, hg.size, fun k hk hS => hg.block k hk (fun e => hS (by cases e; rfl))⟩

set_option maxRecDepth 100000 in
set_option maxHeartbeats 4000000 in
theorem flush_in (kept : List ByteArray) (wait : List (Int × ByteArray)) (S T : Nat → Prop) (B : Nat) (no mo : Option Addr) (cn cm : Nat) (w : World)
    (hbox : w.heap[B]? = some (.cells #[.slice no kept.length cn, .slice mo wait.length cm] 94 (0, 0)))
    (hrow : Row w 9 1 S (.slice no kept.length cn) kept.length (kept.map Value.string)) (hwait : Row w 63 2 T (.slice mo wait.length cm) wait.length (wcells wait))
    (hST : ∀ k, T k → ¬ S k) (hSB : ¬ S B) (hSw : ∀ k, S k → k < w.heap.size) (hok : okB kept wait = true) :
    CallsIn Fence.wide 9 Tryd.prog 69 #[.pointer (some ⟨B, 0, none⟩)] w fun e w' => e = .returned (.tuple #[]) ∧
      w'.heap[B]? = some (.cells #[.slice no kept.length cn, .slice none 0 0] 94 (0, 0)) ∧ Row w' 9 1 S (.slice no kept.length cn) kept.length ((flushL kept wait).map Value.string) ∧ Upd (fun k => S k ∨ k = B) w w' := by
  obtain ⟨hp1, hp2, -, hp4⟩ := okB_parts hok
  have P4 := hide hp4
  clear hp4
  have hBl := heap_lt hbox
  obtain ⟨W1, hW1⟩ : ∃ W1, W1 = w.alloc (.cells #[.pointer (some ⟨B, 0, none⟩)] 123) := ⟨_, rfl⟩
  have al1 : Below w.heap.size w W1 := by rw [hW1]; exact (Below.refl _ _).alloc (Nat.le_refl _) _
  have hz1 : W1.heap.size = w.heap.size + 1 := by rw [hW1]; simp
  have hptr : W1.heap[w.heap.size]? = some (.cells #[.pointer (some ⟨B, 0, none⟩)] 123 (0, 0)) := by rw [hW1]; exact al1_0 w _
  have c0 : W1.cell? ⟨w.heap.size, 0, none⟩ = some (.pointer (some ⟨B, 0, none⟩)) := (cell_of_row W1 _ 0 _ _ (0, 0) hptr).trans rfl
  obtain ⟨p0, p1, pl⟩ := box2 hbox
  have hrow1 := hrow.keepB al1
  have hwait1 := hwait.keepB al1
  have hbox1 := bKeeps al1 hbox
  have Hptr := hide hptr
  have Hbox1 := hide hbox1
  clear hbox hrow hwait hptr hbox1
  refine callsIn_of_wp_marks Tryd.func69 rfl trivial ?_ rfl
  simp only [ Tryd.ntmps69, List.size_toArray, List.length_cons, List.length_nil, Nat.reduceAdd, Nat.reduceSub, Array.replicate_succ, Array.replicate_zero, List.push_toArray, List.append_toArray, List.nil_append, List.cons_append]
  gi_wp2_with fail
  refine ⟨trivial, ?_⟩
  refine (told_in Fence.wide 8 trivial rfl mo wait.length cm _).mono ?_
  rintro e w' ⟨rfl, rfl⟩
  rw [← hW1]
  clear hW1 p0 p1 pl c0
  obtain ⟨mo', cm', e2, hn2, -, q2⟩ := hwait1.reads
  simp only [Value.slice.injEq, true_and] at e2
  obtain ⟨rfl, rfl⟩ := e2
  obtain ⟨b, off, hbl, hbo, hao, hcs⟩ := told_prep wait mo (.cells #[.slice mo wait.length cm] 92) (Below.refl _ W1) q2
  have hSb : ¬ S b := by
    rcases hbo with ⟨h0, h⟩ | h
    · obtain ⟨_, _, e3, _, _, h3⟩ := hwait1
      obtain ⟨g, _, e4, hT, _, _⟩ := h3 h0
      simp only [Value.slice.injEq] at e3
      have := (hao h0).2
      rw [e3.1, e4] at this
      simp at this
      rw [← this.1]
      exact hST g hT
    · intro hb
      have := hSw b hb
      omega
  clear hbo q2
  obtain ⟨W0, hW0⟩ : ∃ W0, W0 = W1.alloc (.cells #[.slice mo wait.length cm] 92) := ⟨_, rfl⟩
  have al2 : Below W1.heap.size W1 W0 := by rw [hW0]; exact (Below.refl _ _).alloc (Nat.le_refl _) _
  have hz2 : W0.heap.size = w.heap.size + 2 := by rw [hW0]; simp [hz1]
  have hBs : W0.heap[W1.heap.size]? = some (.cells #[.slice mo wait.length cm] 92 (0, 0)) := by rw [hW0]; exact al1_0 W1 _
  rw [← hW0] at hbl hcs ⊢
  clear hW0
  have Hcs := hide hcs
  have Hao := hide (fun h => (hao h).2)
  clear hcs hao
  rw [hz1] at hBs
  gi_wp2_with fail
  refine range_boxed rfl (by omega) (gf := 100) (lb := #[.pointer (some ⟨w.heap.size + 1, 0, none⟩)]) rfl trivial (enters_of Tryd.func100 (by kernel_rfl) rfl)
    (told_stops Fence.wide (9 - 1) trivial rfl (by omega) (w.heap.size + 1) b off cm mo wait W0 hn2 Hao.out hBs Hcs.out) kpB_t (kpB_b hbl) (Below.refl _ _) (fun _ => rfl)
    (fun pre W => (Row W 9 1 S (.slice no kept.length cn) kept.length ((flushL kept (pre.map (wAt wait))).map Value.string) ∧ (W.heap[w.heap.size]? = some (.cells #[.pointer (some ⟨B, 0, none⟩)] 123 (0, 0)) ∧ W.heap[B]? = some (.cells #[.slice no kept.length cn, .slice mo wait.length cm] 94 (0, 0)))) ∧ (Upd S w W ∧ W0.heap.size ≤ W.heap.size))
    (fun _ _ _ => False)
    ?hI ?hIx ?h0 ?hIs ?hKa 3 63 (fun x => #[.int .i64 (wAt wait x).1, .string (wAt wait x).2]) ?assign ?body ?done ?stop
  case hI => exact OwnFrom.and (OwnFrom.and (own_row _ _ _ _ _ _ _) (OwnFrom.and (own_cells _ _ (fun _ => _) _) (own_cells _ _ (fun _ => _) _))) (OwnFrom.and (own_upd (by omega)) (own_size _ _))
  case hIx => exact fun c => own_pure _ _
  case h0 => exact ⟨⟨by simpa [flushL] using hrow1.keepB al2, bKeeps al2 Hptr.out, bKeeps al2 Hbox1.out⟩, (Upd.ofBelow al1).trans (Upd.ofBelow al2), Nat.le_refl _⟩
  case hIs => exact fun pre W h => h.2.2
  case hKa => exact fun pre W o h => Below.heap_alloc W o b (by have := h.2.2; omega)
  case assign =>
    intro l pre x W K hi hK
    obtain ⟨a, s, hx⟩ : ∃ a s, wAt wait x = (a, s) := ⟨_, _, rfl⟩
    rw [wEnc_eq hx] at hK ⊢
    simp only [hx] at hK
    rw [roundTmps_two] at hK
    clear hi hBs
    gi_wp2
    exact hK
  case body =>
    rintro l pre x Bx W hl hBx hxb ⟨⟨hrw, hpt, hbx⟩, hup, hsW⟩ hN
    obtain ⟨a, s, hx⟩ : ∃ a s, wAt wait x = (a, s) := ⟨_, _, rfl⟩
    have hab : 0 ≤ a ∧ a < kept.length := by
      obtain ⟨y, hy⟩ := getAt wait 0 (by omega)
      have h1 := P4.out y (List.mem_of_getElem? hy)
      cases hxx : wait[x]? with
      | none =>
        simp only [wAt, hxx, Option.getD_none, Prod.mk.injEq] at hx
        omega
      | some z =>
        have h2 := P4.out z (List.mem_of_getElem? hxx)
        simp only [wAt, hxx, Option.getD_some] at hx
        rw [hx] at h2
        exact ⟨h2.1, h2.2.1⟩
    rw [wEnc_eq hx]
    simp only [hx] at hxb
    obtain ⟨i, rfl⟩ := Int.eq_ofNat_of_zero_le hab.1
    have hin : i < kept.length := by omega
    clear hab
    obtain ⟨x0, x1, xl⟩ := box2 hxb
    have r0 : W.cell? ⟨w.heap.size, 0, none⟩ = some (.pointer (some ⟨B, 0, none⟩)) := (cell_of_row W _ 0 _ _ (0, 0) hpt).trans rfl
    have Hrw := hide hrw
    have Hpt := hide hpt
    have Hbx := hide hbx
    have Hx := hide hx
    have Hst := hide (store_any S B no kept.length cn i (.slice mo wait.length cm) _ s W.drew (show W.drew.heap[B]? = _ from hbx) (hrw.keepB ((Below.refl _ _).drew)) hin)
    clear hrw hpt hbx hxb hx hBs
    rw [roundTmps_two]
    have hd : 1 ≤ 9 - 1 - 1 := by omega
    have hmx : Tryd.prog.follows .mixedOrders = true := by kernel_rfl
    gi_wp2
    gi_region_with_o (refine ⟨trivial, ?_⟩; gi_at_call 85; refine (CallsIn.inRound l (callsIn_wide.2 (unhide Hst))).mono ?_; rintro e W2 ⟨rfl, hr2, hu2⟩)
    all_goals
      gi_wp2
      have hu3 : Upd S W W2 := ⟨hu2.os, hu2.tape, hu2.output, hu2.size, hu2.block⟩
      refine ⟨⟨hu3.size, fun k o hk ho _ => hu3.keeps ho (fun hS => by have := hSw k hS; omega)⟩, hu3.block b (by omega) hSb, ⟨?_, hu3.keeps Hpt.out (fun hS => by have := hSw _ hS; omega), hu3.keeps Hbx.out hSB⟩, hup.trans hu3, Nat.le_trans hsW hu3.size⟩
      rw [List.map_append, List.map_cons, List.map_nil, Hx.out, flushL_snoc, List.map_set]
      exact hr2
  case done =>
    rintro D ys W hD rfl ⟨⟨hrw, hpt, hbx⟩, hup, hsW⟩ hK
    have r0 : W.cell? ⟨w.heap.size, 0, none⟩ = some (.pointer (some ⟨B, 0, none⟩)) := (cell_of_row W _ 0 _ _ (0, 0) hpt).trans rfl
    obtain ⟨p0, p1, pl⟩ := box2 hbx
    obtain ⟨p2, p3⟩ := box2f hbx
    have Hrw := hide hrw
    have Hbx := hide hbx
    have HKD := hide hK
    clear hrw hpt hbx hK hBs
    gi_wp2
    have hK' := (KeepsOthers.setCell W ⟨B, 1, none⟩ (.slice none 0 0)).same D _ HKD.out rfl
    refine ⟨by simp, .inl ⟨_, _, rfl, run_takeDeferred hK', ?_⟩⟩
    refine ⟨_, results_none rfl _ _ _, rfl, ?_, ?_, ?_⟩
    · exact (upd_putObj' _ D _).keeps (row_set _ Hbx.out) (by omega)
    · have hmap : (List.range wait.length).map (wAt wait) = wait := by
        apply List.ext_getElem
        · simp
        · intro j h1 h2
          simp [wAt, h2]
      have h1 := Hrw.out
      rw [hmap] at h1
      exact (h1.keep (Upd.setCell (S := fun k => k = B) W B 1 (.slice none 0 0) rfl) (fun k hk e => by subst e; exact hSB hk)).keep (upd_putObj' _ D _) (fun k hk e => by have := hSw k hk; omega)
    · exact upd_putObj ((hup.mono (fun k h => .inl h)).trans (Upd.setCell _ _ _ _ (.inr rfl))) (by omega) _
  case stop =>
    rintro D c pre W _ _ h _
    exact h.elim

theorem flushL_ok {kept : List ByteArray} {wait : List (Int × ByteArray)} (hok : okB kept wait = true) : kept.length ≤ 1048576 ∧ wait.length ≤ 1048576 := by
  obtain ⟨h1, h2, -, -⟩ := okB_parts hok
  omega

end Go.Proofs.YtapflnabiobonaaDoor

/- Rows that may be appended to; copies of a disk whose writes are such a row: contracts; no statement of the seat is proved here. -/
namespace Go.Proofs.YtapflnabiobonaaDoor
open Go.RowKit

/-- A slice that append may be given: a row of one's own, or one with no room at all. -/
def RowA (w : World) (base : Nat) (e : TypeId) (size : Nat) (v : Value) (n : Nat) (cs : List Value) : Prop :=
  w.ownsRow base e size v n cs ∨ (n = 0 ∧ cs = [] ∧ ∃ ao, v = .slice ao 0 0)

theorem RowA.row {w : World} {base : Nat} {e : TypeId} {size : Nat} {v : Value} {n : Nat} {cs : List Value} (h : RowA w base e size v n cs) (hn : n ≤ 9223372036854775807) : Row w e size (fun k => base ≤ k) v n cs := by
  rcases h with h | ⟨rfl, rfl, ao, rfl⟩
  · exact Row.ofOwns h hn
  · exact ⟨ao, 0, rfl, hn, by simp, fun h => by omega⟩

theorem RowA.keep {w w' : World} {base : Nat} {e : TypeId} {size : Nat} {T : Nat → Prop} {v : Value} {n : Nat} {cs : List Value} (h : RowA w base e size v n cs) (hb : Upd T w w') (hT : ∀ k, base ≤ k → ¬ T k) : RowA w' base e size v n cs := by
  rcases h with ⟨hl, h⟩ | h
  · refine .inl ⟨hl, ?_⟩
    rcases h with h | ⟨g, cap, cur, rfl, hg, hh, h1, h2, h3, h4⟩
    · exact .inl h
    · exact .inr ⟨g, cap, cur, rfl, hg, hb.keeps hh (hT g hg), h1, h2, h3, h4⟩
  · exact .inr h

theorem RowA.keepB {w w' : World} {base : Nat} {e : TypeId} {size : Nat} {v : Value} {n : Nat} {cs : List Value} (h : RowA w base e size v n cs) (hb : Below w.heap.size w w') : RowA w' base e size v n cs :=
  h.keep (T := fun _ => False) (Upd.ofBelow hb) (fun _ _ h => h)

theorem RowA.mono {w : World} {base base' : Nat} {e : TypeId} {size : Nat} {v : Value} {n : Nat} {cs : List Value} (h : RowA w base e size v n cs) (hb : base' ≤ base) : RowA w base' e size v n cs := by
  rcases h with ⟨hl, h⟩ | h
  · refine .inl ⟨hl, ?_⟩
    rcases h with h | ⟨g, cap, cur, h0, hg, h'⟩
    · exact .inl h
    · exact .inr ⟨g, cap, cur, h0, by omega, h'⟩
  · exact .inr h

theorem RowA.shape {w : World} {base : Nat} {e : TypeId} {size : Nat} {v : Value} {n : Nat} {cs : List Value} (h : RowA w base e size v n cs) : ∃ ao cap, v = .slice ao n cap := by
  rcases h with ⟨_, ⟨rfl, rfl⟩ | ⟨g, cap, cur, rfl, _⟩⟩ | ⟨rfl, _, ao, rfl⟩ <;> exact ⟨_, _, rfl⟩

/-- A disk of one's own, whose writes may be appended to. -/
def DiskA (w : World) (base : Nat) (v : Value) (kept : List ByteArray) (wait : List (Int × ByteArray)) : Prop :=
  ∃ vk vw, v = .agg #[vk, vw] ∧ Row w 9 1 (fun k => base ≤ k) vk kept.length (kept.map Value.string) ∧ RowA w base 63 2 vw wait.length (wcells wait)

theorem run_appendA {P : Program} {w : World} (base : Nat) (t ty e : TypeId) (i : TypeInfo) (z : Value) (size bytes : Nat) (ht : P.underlying t = some (.slice e)) (hi : P.info? e = some i) (hz : i.zero = some z)
    (hsize : i.size = size) (hby : i.bytes = bytes) (hzs : z.cells.size = size) (hsz : 0 < size)
    (v : Value) (n : Nat) (xs : List Value) (hown : RowA w base e size v n xs)
    (a : Addr) (m c : Nat) (news : List Value) (hl : news.length = m * size) (hnews : ∀ j u, news[j]? = some u → w.cell? (a.add j) = some u) (h1 : ∀ u ∈ news, u.oneCell' = true)
    (hm : 0 < m) (h63 : n + m ≤ maxLen) (hbytes : (n + m) * bytes ≤ 140737488355328) (hbase : base ≤ w.heap.size) :
    ∃ v' w', (Builtin.append_ #[t, t] ty #[v, .slice (some a) m c]).run P w = .ok v' w' ∧ w'.ownsRow base e size v' (n + m) (xs ++ news) ∧ Upd (typed w (fun k => base ≤ k) e) w w' := by
  rcases hown with hown | ⟨rfl, rfl, ao, rfl⟩
  · obtain ⟨v', w', hrun, r1, r2, _⟩ := run_append_own (P := P) w base t ty e i z size bytes ht hi hz hsize hby hzs hsz v n xs hown a m c news hl hnews h1 h63 hbytes hbase
    refine ⟨v', w', hrun, r1, r2.os, r2.tape, r2.output, r2.size, fun k hk hT => r2.block k hk (fun e => hT ?_)⟩
    rcases hown.2 with ⟨rfl, _⟩ | ⟨g, cap, cur, rfl, hg, hh, _⟩
    · simp [Value.ownBlock] at e
    · simp only [Value.ownBlock, Option.some.injEq] at e
      subst e
      exact ⟨hg, cur, hh⟩
  · cases ao with
    | none =>
      obtain ⟨v', w', hrun, r1, r2, _⟩ := run_append_own (P := P) w base t ty e i z size bytes ht hi hz hsize hby hzs hsz _ 0 [] (World.ownsRow_nil w base e size) a m c news hl hnews h1 h63 hbytes hbase
      exact ⟨v', w', hrun, r1, r2.os, r2.tape, r2.output, r2.size, fun k hk hT => r2.block k hk (fun e => by simp [Value.ownBlock] at e)⟩
    | some b =>
      obtain ⟨v', w', hrun, r1, r2⟩ := run_append_arg_grows (P := P) w t ty e i z size bytes ht hi hz hsize hby hzs hsz b 0 0 [] (by simp) (fun j u h => by simp at h) a m c news hl hnews (by omega) h63 hbytes
      refine ⟨v', w', hrun, ?_, r2.os, r2.tape, r2.output, r2.size, fun k hk hT => r2.block k hk (fun e => by cases e)⟩
      obtain ⟨q1, q2⟩ := r1
      refine ⟨q1, ?_⟩
      rcases q2 with h | ⟨g, cap, cur, h0, hg, h'⟩
      · exact .inl h
      · exact .inr ⟨g, cap, cur, h0, by omega, h'⟩

theorem wpList_appendA {P : Program} (w : World) {ops : Array Oper} {rest : List Oper} {o : Oper} {a : Act} {Q : Exit → Act → World → Prop} (hgd : o.guard = none) (s x : Operand) (t : TypeId)
    (ho : o.op = .call { callee := .builtin .append, args := #[s, x], argTypes := #[t, t] })
    (base : Nat) (e : TypeId) (i : TypeInfo) (z : Value) (size bytes : Nat) (ht : P.underlying t = some (.slice e)) (hi : P.info? e = some i) (hz : i.zero = some z)
    (hsize : i.size = size) (hby : i.bytes = bytes) (hzs : z.cells.size = size) (hsz : 0 < size)
    (v : Value) (n : Nat) (xs : List Value) (hs : a.eval s = v) (hown : RowA w base e size v n xs)
    (ad : Addr) (m c : Nat) (news : List Value) (hx : a.eval x = .slice (some ad) m c) (hl : news.length = m * size) (hnews : ∀ j u, news[j]? = some u → w.cell? (ad.add j) = some u) (h1 : ∀ u ∈ news, u.oneCell' = true)
    (hm : 0 < m) (h63 : n + m ≤ maxLen) (hbytes : (n + m) * bytes ≤ 140737488355328) (hbase : base ≤ w.heap.size)
    (h : ∀ v' w', w'.ownsRow base e size v' (n + m) (xs ++ news) → Upd (typed w (fun k => base ≤ k) e) w w' → wpList P ops Q rest (a.put o.dst v') w') : wpList P ops Q (o :: rest) a w := by
  obtain ⟨v', w', hrun, r1, r2⟩ := run_appendA (P := P) (w := w) base t o.type e i z size bytes ht hi hz hsize hby hzs hsz v n xs hown ad m c news hl hnews h1 hm h63 hbytes hbase
  refine wpList_plain hgd fun K hK => ?_
  unfold Oper.wp
  simp [execOp, ho, resolve, invoke, builtin, hs, hx, hrun, Result.andThen]
  exact hK _ _ (h v' w' r1 r2)

theorem step_appendA {P : Program} {ops : Array Oper} {o : Oper} {a : Act} {w : World} {K : Act → World → Prop} {Q : Exit → Act → World → Prop} {E : Prop}
    (hg : o.guard = none) (s x : Operand) (t : TypeId) (hop : o.op = Op.call { callee := Callee.builtin Builtin.append, args := #[s, x], argTypes := #[t, t] })
    (base : Nat) (e : TypeId) (i : TypeInfo) (z : Value) (size bytes : Nat) (ht : P.underlying t = some (.slice e)) (hi : P.info? e = some i) (hz : i.zero = some z)
    (hsize : i.size = size) (hby : i.bytes = bytes) (hzs : z.cells.size = size) (hsz : 0 < size)
    (v : Value) (n : Nat) (xs : List Value) (hs : a.eval s = v) (hown : RowA w base e size v n xs)
    (ad : Addr) (m c : Nat) (news : List Value) (hx : a.eval x = .slice (some ad) m c) (hl : news.length = m * size) (hnews : ∀ j u, news[j]? = some u → w.cell? (ad.add j) = some u) (h1 : ∀ u ∈ news, u.oneCell' = true)
    (hm : 0 < m) (h63 : n + m ≤ maxLen) (hbytes : (n + m) * bytes ≤ 140737488355328) (hbase : base ≤ w.heap.size)
    (hK : ∀ v' w', w'.ownsRow base e size v' (n + m) (xs ++ news) → Upd (typed w (fun k => base ≤ k) e) w w' → K (a.put o.dst v') w') :
    if Region.wanted o (yielded ops a.tmps) = true then Oper.wp P o a w K Q else E := by
  have hw : Region.wanted o (yielded ops a.tmps) = true := by simp [Region.wanted, hg]
  rw [if_pos hw]
  obtain ⟨v', w', hrun, r1, r2⟩ := run_appendA (P := P) (w := w) base t o.type e i z size bytes ht hi hz hsize hby hzs hsz v n xs hown ad m c news hl hnews h1 hm h63 hbytes hbase
  unfold Oper.wp
  simp [execOp, hop, resolve, invoke, builtin, hs, hx, hrun, Result.andThen]
  exact hK v' w' r1 r2

theorem step_copyA {P : Program} {ops : Array Oper} {o : Oper} {a : Act} {w : World} {K : Act → World → Prop} {Q : Exit → Act → World → Prop} {E : Prop}
    (hg : o.guard = none) (s x : Operand) (t : TypeId) (hop : o.op = Op.call { callee := Callee.builtin Builtin.append, args := #[s, x], argTypes := #[t, t] })
    (base : Nat) (e : TypeId) (i : TypeInfo) (z : Value) (size bytes : Nat) (ht : P.underlying t = some (.slice e)) (hi : P.info? e = some i) (hz : i.zero = some z)
    (hsize : i.size = size) (hby : i.bytes = bytes) (hzs : z.cells.size = size) (hsz : 0 < size)
    (v : Value) (hs : a.eval s = v) (hown : w.ownsRow base e size v 0 [])
    (vx : Value) (m : Nat) (news : List Value) (hx : a.eval x = vx) (hr : RowR w size vx m news) (h1 : ∀ u ∈ news, u.oneCell' = true)
    (h63 : m ≤ 1048576) (hbytes : m * bytes ≤ 140737488355328) (hbase : base ≤ w.heap.size)
    (hK : ∀ v' w', RowA w' base e size v' m news → Below base w w' → K (a.put o.dst v') w') :
    if Region.wanted o (yielded ops a.tmps) = true then Oper.wp P o a w K Q else E := by
  have hw : Region.wanted o (yielded ops a.tmps) = true := by simp [Region.wanted, hg]
  rw [if_pos hw]
  obtain ⟨ao, c, rfl, _, hl, hr⟩ := hr
  rcases Nat.eq_zero_or_pos m with rfl | hpos
  · obtain rfl : news = [] := List.eq_nil_of_length_eq_zero (by simpa using hl)
    have hrun := run_append_zero (P := P) (w := w) base t o.type e i size ht hi v 0 [] hown ao c
    unfold Oper.wp
    simp [execOp, hop, resolve, invoke, builtin, hs, hx, hrun, Result.andThen]
    exact hK v w (.inl hown) (Below.refl _ _)
  · obtain ⟨b, off, rfl, hc⟩ := hr hpos
    obtain ⟨v', w', hrun, r1, r2, _⟩ := run_append_own (P := P) w base t o.type e i z size bytes ht hi hz hsize hby hzs hsz v 0 [] hown ⟨b, off, none⟩ m c news hl (fun j u hj => by rw [Addr.add_lit]; exact hc j u hj) h1 (by unfold maxLen; omega) (by rw [Nat.zero_add]; exact hbytes) hbase
    unfold Oper.wp
    simp [execOp, hop, resolve, invoke, builtin, hs, hx, hrun, Result.andThen]
    rw [Nat.zero_add, List.nil_append] at r1
    exact hK v' w' (.inl r1) ((Below.refl _ _).grown r2 hbase (fun k e => (hown.lt k e).1))

set_option maxRecDepth 100000 in
set_option maxHeartbeats 2000000 in
theorem secOwnA_any (kept : List ByteArray) (wait : List (Int × ByteArray)) (v : Value) (w : World) (hr : DiskR w v kept wait) (hk : kept.length ≤ 1048576) (hw : wait.length ≤ 1048576) :
    Calls Tryd.prog 58 #[v] w fun e w' => ∃ v', e = .returned v' ∧ DiskA w' w.heap.size v' kept wait ∧ Below w.heap.size w w' := by
  obtain ⟨ak, aw, rfl, a1, a2⟩ := hr
  obtain ⟨ao, ca, rfl⟩ : ∃ ao ca, ak = .slice ao kept.length ca := by obtain ⟨ao, ca, h, -⟩ := a1; exact ⟨ao, ca, h⟩
  obtain ⟨bo, cb, rfl⟩ : ∃ ao ca, aw = .slice ao wait.length ca := by obtain ⟨ao, ca, h, -⟩ := a2; exact ⟨ao, ca, h⟩
  have hal : Below w.heap.size w ((w.alloc (.cells #[.slice ao kept.length ca, .slice bo wait.length cb] 31)).alloc (.cells #[.slice none 0 0, .slice none 0 0] 94)) := ((Below.refl _ _).alloc (Nat.le_refl _) _).alloc (by simp) _
  obtain ⟨W, hW⟩ : ∃ W, W = (w.alloc (.cells #[.slice ao kept.length ca, .slice bo wait.length cb] 31)).alloc (.cells #[.slice none 0 0, .slice none 0 0] 94) := ⟨_, rfl⟩
  have B0 : W.heap[w.heap.size]? = some (.cells #[.slice ao kept.length ca, .slice bo wait.length cb] 31 (0, 0)) := by rw [hW]; exact al2_0 w _ _
  have B1 : W.heap[w.heap.size + 1]? = some (.cells #[.slice none 0 0, .slice none 0 0] 94 (0, 0)) := by rw [hW]; exact al2_1 w _ _
  have hsz : W.heap.size = w.heap.size + 2 := by rw [hW]; simp
  rw [← hW] at hal
  have k1 := hide (a1.keep hal)
  have k2 := hide (a2.keep hal)
  clear a1 a2
  obtain ⟨i0, hi, hz0, hz1, hz2⟩ := info_parts infoStr
  obtain ⟨i1, gi, gz0, gz1, gz2⟩ := info_parts infoWr
  go_enter Tryd.func58, Tryd.ntmps58
  go_wp2
  rw [← hW]
  clear hW
  obtain ⟨p0, p1, pl⟩ := box2 B0
  obtain ⟨q0, q1, ql⟩ := box2 B1
  obtain ⟨q2, q3⟩ := box2f B1
  have H0 := hide B0
  have H1 := hide B1
  clear B0 B1
  go_region_law (first
    | (refine step_copyA rfl (.const (.slice none 0 0)) (.tmp 4) 22 rfl W.heap.size 9 i0 (.string ⟨#[]⟩) 1 16 Tryd.underlying22 hi hz0 hz1 hz2 rfl (by decide) (.slice none 0 0) (by simp [Act.eval]) (World.ownsRow_nil _ _ _ _) (.slice ao kept.length ca) kept.length (kept.map Value.string) (by simp [Act.eval, Act.put]) (k1.out.keep ((Below.refl _ _).drew)) (strs_one _) hk (by omega) (by simp) ?_; intro v1 w1 r1' b1; have r1 := r1'.row (by omega); clear r1'; obtain ⟨no, cn, rfl⟩ := r1.shape; have b1' : Below W.heap.size W w1 := bUndrew b1; have s0 : w1.cell? ⟨w.heap.size, 1, none⟩ = some (.slice bo wait.length cb) := (b1'.cell (p := ⟨w.heap.size, 1, none⟩) pl).trans p1)
    | (refine step_copyA rfl (.const (.slice none 0 0)) (.tmp 8) 29 rfl w1.heap.size 63 i1 (.agg #[.int .i64 0, .string ⟨#[]⟩]) 2 24 Tryd.underlying29 gi gz0 gz1 gz2 rfl (by decide) (.slice none 0 0) (by simp [Act.eval]) (World.ownsRow_nil _ _ _ _) (.slice bo wait.length cb) wait.length (wcells wait) (by simp [Act.eval, Act.put]) (k2.out.keep b1') (wcells_one _) hw (by omega) (Nat.le_refl _) ?_; intro v2 w2 r2 b2; obtain ⟨mo, cm, rfl⟩ := r2.shape; obtain ⟨t0, t1, tl⟩ := box2 (bKeeps b2 (bKeeps b1' H1.out)); obtain ⟨t2, t3⟩ := box2f (bKeeps b2 (bKeeps b1' H1.out))))
  all_goals
    go_wp2
    have hu := upd_set2 w2 (w.heap.size + 1) 0 1 (.slice no kept.length cn) (.slice mo wait.length cm)
    have hz1' := b1'.size
    have hz2' := b2.size
    refine bodyPost_ret (v := .agg #[.slice no kept.length cn, .slice mo wait.length cm]) (by simp [results, Tryd.results58, go_sem, t0, t1]) rfl ⟨_, rfl, ⟨_, _, rfl, ?_, ?_⟩, ?_⟩
    · exact ((r1.keepB b2).keep hu (by intro k hk; omega)).mono (fun k _ hk => by omega)
    · exact (r2.keep hu (by intro k hk; omega)).mono (by omega)
    · exact ((bAll hal b1').trans (b2.mono (by omega))).trans (hu.below (by omega) (by intro k hk; omega))

theorem step_copyA0 {P : Program} {ops : Array Oper} {o : Oper} {a : Act} {w : World} {K : Act → World → Prop} {Q : Exit → Act → World → Prop} {E : Prop}
    (hg : o.guard = none) (s x : Operand) (t : TypeId) (hop : o.op = Op.call { callee := Callee.builtin Builtin.append, args := #[s, x], argTypes := #[t, t] })
    (e : TypeId) (i : TypeInfo) (z : Value) (size bytes : Nat) (ht : P.underlying t = some (.slice e)) (hi : P.info? e = some i) (hz : i.zero = some z)
    (hsize : i.size = size) (hby : i.bytes = bytes) (hzs : z.cells.size = size) (hsz : 0 < size)
    (ao0 : Option Addr) (hs : a.eval s = .slice ao0 0 0)
    (vx : Value) (m : Nat) (news : List Value) (hx : a.eval x = vx) (hr : RowR w size vx m news) (h1 : ∀ u ∈ news, u.oneCell' = true)
    (h63 : m ≤ 1048576) (hbytes : m * bytes ≤ 140737488355328)
    (hK : ∀ v' w', RowA w' w.heap.size e size v' m news → Below w.heap.size w w' → K (a.put o.dst v') w') :
    if Region.wanted o (yielded ops a.tmps) = true then Oper.wp P o a w K Q else E := by
  obtain ⟨ao, c, rfl, _, hl, hr⟩ := hr
  rcases Nat.eq_zero_or_pos m with rfl | hpos
  · obtain rfl : news = [] := List.eq_nil_of_length_eq_zero (by simpa using hl)
    have hw : Region.wanted o (yielded ops a.tmps) = true := by simp [Region.wanted, hg]
    rw [if_pos hw]
    have hrun : (Builtin.append_ #[t, t] o.type #[.slice ao0 0 0, .slice ao 0 c]).run P w = .ok (.slice ao0 0 0) w := by
      cases ao <;> cases ao0 <;> simp [Builtin.append_, run_underlying ht, sizeOf, typeInfo, hi, Builtin.lenOf, Builtin.firstCells, storeCells, loadCells, loadCellsFrom]
    unfold Oper.wp
    simp [execOp, hop, resolve, invoke, builtin, hs, hx, hrun, Result.andThen]
    exact hK _ w (.inr ⟨rfl, rfl, ao0, rfl⟩) (Below.refl _ _)
  · obtain ⟨b, off, rfl, hc⟩ := hr hpos
    refine step_append_grows hg s x t hop e i z size bytes ht hi hz hsize hby hzs hsz ao0 0 0 [] hs (fun _ => ⟨rfl, rfl⟩) (by simp) (fun _ _ j u h => by simp at h) ⟨b, off, none⟩ m c news hx hl (fun j u hj => by rw [Addr.add_lit]; exact hc j u hj) h1 (by omega) (by unfold maxLen; omega) (by rw [Nat.zero_add]; exact hbytes) ?_
    intro v' w' r1 r2
    rw [Nat.zero_add, List.nil_append] at r1
    exact hK v' w' (.inl r1) ((Below.refl _ _).grown r2 (Nat.le_refl _) (fun k e => by cases e))

set_option maxRecDepth 100000 in
set_option maxHeartbeats 2000000 in
theorem l1CopyA_any (kept : List ByteArray) (wait : List (Int × ByteArray)) (v : Value) (w : World) (hr : DiskR w v kept wait) (hk : kept.length ≤ 1048576) (hw : wait.length ≤ 1048576) :
    Calls Tryd.prog 104 #[v] w fun e w' => ∃ v', e = .returned v' ∧ DiskA w' w.heap.size v' kept wait ∧ Below w.heap.size w w' := by
  obtain ⟨ak, aw, rfl, a1, a2⟩ := hr
  obtain ⟨ao, ca, rfl⟩ : ∃ ao ca, ak = .slice ao kept.length ca := by obtain ⟨ao, ca, h, -⟩ := a1; exact ⟨ao, ca, h⟩
  obtain ⟨bo, cb, rfl⟩ : ∃ ao ca, aw = .slice ao wait.length ca := by obtain ⟨ao, ca, h, -⟩ := a2; exact ⟨ao, ca, h⟩
  have hal : Below w.heap.size w ((w.alloc (.cells #[.slice ao kept.length ca, .slice bo wait.length cb] 31)).alloc (.cells #[.slice none 0 0, .slice none 0 0] 31)) := ((Below.refl _ _).alloc (Nat.le_refl _) _).alloc (by simp) _
  obtain ⟨W, hW⟩ : ∃ W, W = (w.alloc (.cells #[.slice ao kept.length ca, .slice bo wait.length cb] 31)).alloc (.cells #[.slice none 0 0, .slice none 0 0] 31) := ⟨_, rfl⟩
  have B0 : W.heap[w.heap.size]? = some (.cells #[.slice ao kept.length ca, .slice bo wait.length cb] 31 (0, 0)) := by rw [hW]; exact al2_0 w _ _
  have B1 : W.heap[w.heap.size + 1]? = some (.cells #[.slice none 0 0, .slice none 0 0] 31 (0, 0)) := by rw [hW]; exact al2_1 w _ _
  have hsz : W.heap.size = w.heap.size + 2 := by rw [hW]; simp
  rw [← hW] at hal
  have k1 := hide (a1.keep hal)
  have k2 := hide (a2.keep hal)
  clear a1 a2
  obtain ⟨i0, hi, hz0, hz1, hz2⟩ := info_parts infoStr
  obtain ⟨i1, gi, gz0, gz1, gz2⟩ := info_parts infoWr
  go_enter Tryd.func104, Tryd.ntmps104
  go_wp2
  rw [← hW]
  clear hW
  obtain ⟨p0, p1, pl⟩ := box2 B0
  obtain ⟨q0, q1, ql⟩ := box2 B1
  obtain ⟨q2, q3⟩ := box2f B1
  have H0 := hide B0
  have H1 := hide B1
  clear B0 B1
  go_region_held_law (fun w' => (w'.cell? ⟨w.heap.size, 0, none⟩ = some (.slice ao kept.length ca) ∧ w'.cell? ⟨w.heap.size, 1, none⟩ = some (.slice bo wait.length cb)) ∧ Below (w.heap.size + 1) W w')
    ((refine keepS p0 p1 ?_; first | (refine Below.mono (B := W.heap.size) ?_ (by omega); (repeat (first | exact Below.refl _ _ | assumption | refine bAlloc ?_ _ | refine Below.drew ?_)); done) | (refine bSet (bSet ?_ _) _; exact b2'.mono (by omega))))
    (first
    | (refine step_copyA0 rfl (.tmp 3) (.tmp 5) 22 rfl 9 i0 (.string ⟨#[]⟩) 1 16 Tryd.underlying22 hi hz0 hz1 hz2 rfl (by decide) _ rfl (.slice ao kept.length ca) kept.length (kept.map Value.string) rfl (k1.out.keep (by repeat (first | exact Below.refl _ _ | assumption | refine bAlloc ?_ _ | refine Below.drew ?_))) (strs_one _) hk (by omega) ?_; intro v1 w1 r1' b1; have r1 := r1'.row (by omega); clear r1'; obtain ⟨no, cn, rfl⟩ := r1.shape; have b1' : Below W.heap.size W w1 := bAll (by repeat (first | exact Below.refl _ _ | assumption | refine bAlloc ?_ _ | refine Below.drew ?_)) b1)
    | (refine step_copyA0 rfl (.tmp 7) (.tmp 9) 29 rfl 63 i1 (.agg #[.int .i64 0, .string ⟨#[]⟩]) 2 24 Tryd.underlying29 gi gz0 gz1 gz2 rfl (by decide) _ rfl (.slice bo wait.length cb) wait.length (wcells wait) rfl (k2.out.keep (by repeat (first | exact Below.refl _ _ | assumption | refine bAlloc ?_ _ | refine Below.drew ?_))) (wcells_one _) hw (by omega) ?_; intro v2 w2 r2 b2; obtain ⟨mo, cm, rfl⟩ := r2.shape; have b2' : Below W.heap.size W w2 := bAll (by repeat (first | exact Below.refl _ _ | assumption | refine bAlloc ?_ _ | refine Below.drew ?_)) b2; obtain ⟨t0, t1, tl⟩ := box2 (bKeeps b2' H1.out); obtain ⟨t2, t3⟩ := box2f (bKeeps b2' H1.out)))
  all_goals
    go_wp2
    have hu := upd_set2 w2 (w.heap.size + 1) 0 1 (.slice no kept.length cn) (.slice mo wait.length cm)
    have hz1' := b1'.size
    have hz2' := b2'.size
    refine bodyPost_ret (v := .agg #[.slice no kept.length cn, .slice mo wait.length cm]) (by simp [results, Tryd.results104, go_sem, t0, t1]) rfl ⟨_, rfl, ⟨_, _, rfl, ?_, ?_⟩, ?_⟩
    · refine (Row.keep (Row.keepB r1 ?_) hu ?_).mono ?_
      · first | exact b2 | exact bAll (bAlloc (Below.refl _ _) _) b2
      · intro k hk
        try simp at hk
        omega
      · intro k _ hk
        try simp at hk
        omega
    · refine (RowA.keep r2 hu ?_).mono ?_
      · intro k hk
        try simp at hk
        omega
      · try simp
        omega
    · exact (bAll hal b2').trans (hu.below (by omega) (by intro k hk; omega))

end Go.Proofs.YtapflnabiobonaaDoor

/- What SecPut of the specification does: a contract; no statement of the seat is proved here. -/
namespace Go.Proofs.YtapflnabiobonaaDoor
open Go.RowKit

/-- Whether a write may wait. -/
def putB (kept : List ByteArray) (wait : List (Int × ByteArray)) (a : Int) (s : ByteArray) : Bool := okB kept wait && (writeOkB kept.length (a, s) && decide (wait.length < 600))
/-- What is kept, and what waits, behind a write. -/
def putK (kept : List ByteArray) (wait : List (Int × ByteArray)) : List ByteArray := if okB kept wait = true then kept else []
def putW (kept : List ByteArray) (wait : List (Int × ByteArray)) (a : Int) (s : ByteArray) : List (Int × ByteArray) :=
  if okB kept wait = true then (if putB kept wait a s = true then wait ++ [(a, s)] else wait) else []

theorem wcells_snoc (xs : List (Int × ByteArray)) (a : Int) (s : ByteArray) : wcells (xs ++ [(a, s)]) = wcells xs ++ [.int .i64 a, .string s] := by simp [wcells, wcell]

theorem new_cells (w : World) (a : Int) (s : ByteArray) (e : TypeId) : ∀ j u, [Value.int .i64 a, .string s][j]? = some u → (w.alloc (.cells #[.int .i64 a, .string s] e)).cell? ((⟨w.heap.size, 0, none⟩ : Addr).add j) = some u := by
  intro j u h
  rw [Addr.add_lit, Nat.zero_add, cell_of_row _ _ j _ _ (0, 0) (al1_0 w _)]
  simpa using h

theorem new_one (a : Int) (s : ByteArray) : ∀ u ∈ [Value.int .i64 a, .string s], u.oneCell' = true := by
  intro u hu
  simp only [List.mem_cons, List.not_mem_nil, or_false] at hu
  rcases hu with rfl | rfl <;> rfl

theorem typed_box {w W : World} {S : Nat → Prop} {e t : TypeId} {B : Nat} {xs : Array Value} (h : w.heap[B]? = some (.cells xs t (0, 0))) (he : t ≠ e) (hW : W.heap[B]? = w.heap[B]?) : ¬ typed W S e B := by
  rintro ⟨_, c, hc⟩
  rw [hW, h] at hc
  simp at hc
  exact he hc.2

set_option maxRecDepth 100000 in
set_option maxHeartbeats 2000000 in
theorem specSecPut_yes (v : Value) (kept : List ByteArray) (wait : List (Int × ByteArray)) (a : Int) (s : ByteArray) (w : World) (hr : DiskR w v kept wait) (hss : s.size ≤ 9223372036854775807) (hok : okB kept wait = true) :
    Calls Tryd.prog 99 #[v, .int .i64 a, .string s] w fun e w' => ∃ v', e = .returned (.tuple #[v', .bool (putB kept wait a s)]) ∧ DiskO w' (fun k => w.heap.size ≤ k) v' (putK kept wait) (putW kept wait a s) ∧ Below w.heap.size w w' := by
  obtain ⟨hp1, hp2, hp3, hp4⟩ := okB_parts hok
  have Hr := hide hr
  obtain ⟨ak, aw, rfl, ⟨ao, ca, rfl, -⟩, ⟨bo, cb, rfl, -⟩⟩ := hr
  have hal : Below w.heap.size w ((w.alloc (.cells #[.slice ao kept.length ca, .slice bo wait.length cb] 31)).alloc (.cells #[.slice none 0 0, .slice none 0 0] 31)) := ((Below.refl _ _).alloc (Nat.le_refl _) _).alloc (by simp) _
  have H0 := hide (al2_0 w (.cells #[.slice ao kept.length ca, .slice bo wait.length cb] 31) (.cells #[.slice none 0 0, .slice none 0 0] 31))
  have H1 := hide (al2_1 w (.cells #[.slice ao kept.length ca, .slice bo wait.length cb] 31) (.cells #[.slice none 0 0, .slice none 0 0] 31))
  have P3 := hide hp3
  have P4 := hide hp4
  clear hp3 hp4
  have HK : Hid (putK kept wait = kept) := by show _ = _; simp [putK, hok]
  obtain ⟨i1, gi, gz0, gz1, gz2⟩ := info_parts infoWr
  go_enter Tryd.func99, Tryd.ntmps99
  go_wp2_with fail
  refine (specSecOk_any _ kept wait _ (Hr.out.keep hal) (fun s hs => by have := P3.out s hs; omega) (fun s hs => by have := (P4.out s hs).2.2; omega)).mono ?_
  rintro e w1 ⟨rfl, b1⟩
  rw [hok]
  have HOK := hide hok
  clear hok
  have z1 : w.heap.size + 1 + 1 ≤ w1.heap.size := by have := b1.size; simpa only [World.size_alloc] using this
  have c1 := bAll hal b1
  replace H0 := hide (bKeeps b1 H0.out)
  replace H1 := hide (bKeeps b1 H1.out)
  obtain ⟨p0, p1, pl⟩ := box2 H0.out
  go_wp2_with fail
  refine (l1CopyA_any kept wait _ _ (Hr.out.keep c1) (by omega) (by omega)).mono ?_
  rintro e w2 ⟨v2, rfl, ⟨vk, vw, rfl, r2, s2⟩, b2⟩
  obtain ⟨no, cn, rfl⟩ := r2.shape
  obtain ⟨mo, cm, rfl⟩ := s2.shape
  have z2 := b2.size
  have al2 : Below w2.heap.size w2 (w2.alloc (.cells #[.slice no kept.length cn, .slice mo wait.length cm] 31)) := (Below.refl _ _).alloc (Nat.le_refl _) _
  have H2 := hide (al1_0 w2 (.cells #[.slice no kept.length cn, .slice mo wait.length cm] 31))
  replace H0 := hide (bKeeps al2 (bKeeps b2 H0.out))
  replace H1 := hide (bKeeps al2 (bKeeps b2 H1.out))
  clear p0 p1 pl
  obtain ⟨p0, p1, pl⟩ := box2 H0.out
  go_wp2_with fail
  refine (l1WriteOk_any kept.length a s _ (by omega) hss).mono ?_
  rintro e w' ⟨rfl, rfl⟩
  clear p0 p1 pl
  obtain ⟨w', hW⟩ : ∃ W, W = w2.alloc (.cells #[.slice no kept.length cn, .slice mo wait.length cm] 31) := ⟨_, rfl⟩
  have ZW : Hid (w'.heap.size = w2.heap.size + 1) := by show _ = _; rw [hW]; simp
  rw [← hW] at al2 H2 H0 H1 ⊢
  clear hW
  have cW : Below w.heap.size w w' := bAll (bAll c1 b2) al2
  replace r2 := r2.keepB al2
  replace s2 := s2.keepB al2
  obtain ⟨p0, p1, pl⟩ := box2 H0.out
  obtain ⟨q0, q1, ql⟩ := box2 H1.out
  obtain ⟨q2, q3⟩ := box2f H1.out
  obtain ⟨t0, t1, tl⟩ := box2 H2.out
  obtain ⟨t2, t3⟩ := box2f H2.out
  have hu := upd_set2 w' (w.heap.size + 1) 0 1 (.slice no kept.length cn) (.slice mo wait.length cm)
  have D2 : DiskO ((w'.setCell ⟨w.heap.size + 1, 0, none⟩ (.slice no kept.length cn)).setCell ⟨w.heap.size + 1, 1, none⟩ (.slice mo wait.length cm)) (fun k => w.heap.size ≤ k) (.agg #[.slice no kept.length cn, .slice mo wait.length cm]) kept wait :=
    ⟨_, _, rfl, (r2.keep hu (fun k hk => by omega)).mono (fun k _ hk => by omega), ((s2.row (by omega)).keep hu (fun k hk => by omega)).mono (fun k _ hk => by omega)⟩
  cases hB : writeOkB kept.length (a, s)
  · have HX : Hid (putB kept wait a s = false ∧ putW kept wait a s = wait) := by
      have h1 : putB kept wait a s = false := by simp [putB, hB]
      exact ⟨h1, by simp [putW, h1, HOK.out]⟩
    clear hB
    go_wp2
    refine bodyPost_ret (v := .tuple #[.agg #[.slice no kept.length cn, .slice mo wait.length cm], .bool false]) (by simp [results, Tryd.results99, go_sem, q0, q1]) rfl ⟨.agg #[.slice no kept.length cn, .slice mo wait.length cm], ?_, ?_, ?_⟩
    · rw [HX.out.1]
    · rw [HX.out.2, HK.out]
      exact D2
    · exact cW.trans (hu.below (by have := unhide ZW; omega) (by intro k hk; omega))
  · by_cases hlen : (wait.length : Int) ≥ 600
    · have HX : Hid (putB kept wait a s = false ∧ putW kept wait a s = wait) := by
        have h1 : putB kept wait a s = false := by simp [putB, show ¬ wait.length < 600 by omega]
        exact ⟨h1, by simp [putW, h1, HOK.out]⟩
      clear hB
      go_wp2
      refine bodyPost_ret (v := .tuple #[.agg #[.slice no kept.length cn, .slice mo wait.length cm], .bool false]) (by simp [results, Tryd.results99, go_sem, q0, q1]) rfl ⟨.agg #[.slice no kept.length cn, .slice mo wait.length cm], ?_, ?_, ?_⟩
      · rw [HX.out.1]
      · rw [HX.out.2, HK.out]
        exact D2
      · exact cW.trans (hu.below (by have := unhide ZW; omega) (by intro k hk; omega))
    · have HX : Hid (putB kept wait a s = true ∧ putW kept wait a s = wait ++ [(a, s)]) := by
        have h1 : putB kept wait a s = true := by simp [putB, hB, HOK.out, show wait.length < 600 by omega]
        exact ⟨h1, by simp [putW, h1, HOK.out]⟩
      clear hB D2 hu
      have al3 : Below w'.heap.size w' (w'.alloc (.cells #[.int .i64 a, .string s] 63)) := (Below.refl _ _).alloc (Nat.le_refl _) _
      have s3 := s2.keepB al3
      have r3 := (r2.keepB al3).typed
      have N3 := hide (new_cells w' a s 63)
      replace H0 := hide (bKeeps al3 H0.out)
      replace H1 := hide (bKeeps al3 H1.out)
      replace H2 := hide (bKeeps al3 H2.out)
      go_wp2_with (at_builtin; refine wpList_appendA _ rfl _ _ 29 rfl w1.heap.size 63 i1 (.agg #[.int .i64 0, .string ⟨#[]⟩]) 2 24 Tryd.underlying29 gi gz0 gz1 gz2 rfl (by decide) _ wait.length (wcells wait) rfl s3 ⟨w'.heap.size, 0, none⟩ 1 1 [.int .i64 a, .string s] rfl rfl N3.out (new_one a s) (by decide) ?q63 ?qby ?qbase ?_)
      case q63 => unfold maxLen; omega
      case qby => omega
      case qbase => have := unhide ZW; simp; omega
      intro v4 w4 hown u4
      have zW := unhide ZW
      have z4 := u4.size
      simp only [World.size_alloc] at z4
      have r4 := r3.keep u4 (fun k => typed_apart (by decide) k)
      have s4 := (Row.ofOwns hown (by omega)).typed
      obtain ⟨mo', cm', rfl⟩ := s4.shape
      have H1' := u4.keeps H1.out (typed_box H1.out (by decide) rfl)
      have H2' := u4.keeps H2.out (typed_box H2.out (by decide) rfl)
      clear p0 p1 pl q0 q1 ql q2 q3 t0 t1 tl t2 t3
      obtain ⟨q0, q1, ql⟩ := box2 H1'
      obtain ⟨q2, q3⟩ := box2f H1'
      obtain ⟨t0, t1, tl⟩ := box2 H2'
      obtain ⟨t2, t3⟩ := box2f H2'
      have G1 := hide H1'
      have G2 := hide H2'
      clear hown H1' H2'
      have hne : ¬ w.heap.size + 1 = w2.heap.size := by omega
      have hne' : ¬ w2.heap.size = w.heap.size + 1 := by omega
      go_wp2
      have hu := (Upd.setCell (S := fun k => k = w2.heap.size ∨ k = w.heap.size + 1) w4 w2.heap.size 1 (.slice mo' (wait.length + 1) cm') (.inl rfl)).trans ((upd_set2 _ (w.heap.size + 1) 0 1 (.slice no kept.length cn) (.slice mo' (wait.length + 1) cm')).mono (fun k h => .inr h))
      refine bodyPost_ret (v := .tuple #[.agg #[.slice no kept.length cn, .slice mo' (wait.length + 1) cm'], .bool true]) (by simp [results, Tryd.results99, go_sem, q0, q1]) rfl ⟨.agg #[.slice no kept.length cn, .slice mo' (wait.length + 1) cm'], ?_, ?_, ?_⟩
      · rw [HX.out.1]
      · rw [HX.out.2, HK.out]
        refine ⟨_, _, rfl, ?_, ?_⟩
        · exact (r4.keep hu (by rintro k ht (rfl | rfl); exact typed_box H2.out (by decide) rfl ht; exact typed_box H1.out (by decide) rfl ht)).mono (fun k _ h => by have := h.1; omega)
        · rw [wcells_snoc, List.length_append]
          exact (s4.keep hu (by rintro k ht (rfl | rfl); exact typed_box G2.out (by decide) rfl ht; exact typed_box G1.out (by decide) rfl ht)).mono (fun k _ h => by have := h.1; omega)
      · exact ((cW.trans (al3.mono (by omega))).trans (u4.below (by simp; omega) (fun k h => by have := h.1; omega))).trans (hu.below (by omega) (by intro k hk; omega))

set_option maxHeartbeats 400000 in
theorem specSecPut_no (v : Value) (kept : List ByteArray) (wait : List (Int × ByteArray)) (a : Int) (s : ByteArray) (w : World) (hr : DiskR w v kept wait) (hs : ∀ s ∈ kept, s.size ≤ 9223372036854775807) (hs' : ∀ s ∈ wait, s.2.size ≤ 9223372036854775807) (hok : okB kept wait = false) :
    Calls Tryd.prog 99 #[v, .int .i64 a, .string s] w fun e w' => ∃ v', e = .returned (.tuple #[v', .bool (putB kept wait a s)]) ∧ DiskO w' (fun k => w.heap.size ≤ k) v' (putK kept wait) (putW kept wait a s) ∧ Below w.heap.size w w' := by
  have Hr := hide hr
  obtain ⟨ak, aw, rfl, ⟨ao, ca, rfl, -⟩, ⟨bo, cb, rfl, -⟩⟩ := hr
  have hal : Below w.heap.size w ((w.alloc (.cells #[.slice ao kept.length ca, .slice bo wait.length cb] 31)).alloc (.cells #[.slice none 0 0, .slice none 0 0] 31)) := ((Below.refl _ _).alloc (Nat.le_refl _) _).alloc (by simp) _
  have H1 := hide (al2_1 w (.cells #[.slice ao kept.length ca, .slice bo wait.length cb] 31) (.cells #[.slice none 0 0, .slice none 0 0] 31))
  have Hs := hide hs
  have Hs' := hide hs'
  clear hs hs'
  have HX : Hid (putB kept wait a s = false ∧ putK kept wait = [] ∧ putW kept wait a s = []) := ⟨by simp [putB, hok], by simp [putK, hok], by simp [putW, hok]⟩
  go_enter Tryd.func99, Tryd.ntmps99
  go_wp2_with fail
  refine (specSecOk_any _ kept wait _ (Hr.out.keep hal) Hs.out Hs'.out).mono ?_
  rintro e w1 ⟨rfl, b1⟩
  rw [hok]
  have B1 := bKeeps b1 H1.out
  obtain ⟨q0, q1, ql⟩ := box2 B1
  obtain ⟨q2, q3⟩ := box2f B1
  clear B1
  go_wp2
  have hu : Upd (fun k => k = w.heap.size + 1) w1 ((w1.setCell ⟨w.heap.size + 1, 0, none⟩ (.slice none 0 0)).setCell ⟨w.heap.size + 1, 1, none⟩ (.slice none 0 0)) :=
    upd_set2 _ _ _ _ _ _
  refine bodyPost_ret (v := .tuple #[.agg #[.slice none 0 0, .slice none 0 0], .bool false]) (by simp [results, Tryd.results99, go_sem, q0, q1]) rfl ⟨.agg #[.slice none 0 0, .slice none 0 0], ?_, ?_, (bAll hal b1).trans (hu.below (by have := b1.size; simp only [World.size_alloc] at this; omega) (by intro k hk; omega))⟩
  · rw [HX.out.1]
  · rw [HX.out.2.1, HX.out.2.2]
    exact ⟨_, _, rfl, Row.nil _ _ _ _, Row.nil _ _ _ _⟩

theorem specSecPut_any (v : Value) (kept : List ByteArray) (wait : List (Int × ByteArray)) (a : Int) (s : ByteArray) (w : World) (hr : DiskR w v kept wait) (hs : ∀ s ∈ kept, s.size ≤ 9223372036854775807) (hs' : ∀ s ∈ wait, s.2.size ≤ 9223372036854775807) (hss : s.size ≤ 9223372036854775807) :
    Calls Tryd.prog 99 #[v, .int .i64 a, .string s] w fun e w' => ∃ v', e = .returned (.tuple #[v', .bool (putB kept wait a s)]) ∧ DiskO w' (fun k => w.heap.size ≤ k) v' (putK kept wait) (putW kept wait a s) ∧ Below w.heap.size w w' := by
  cases hok : okB kept wait
  · exact specSecPut_no v kept wait a s w hr hs hs' hok
  · exact specSecPut_yes v kept wait a s w hr hss hok

end Go.Proofs.YtapflnabiobonaaDoor

/- What the laws' own helpers do with numbers: contracts; no statement of the seat is proved here. -/
namespace Go.Proofs.YtapflnabiobonaaDoor
open Go.RowKit

theorem infoInt : (Tryd.prog.info? 3).map (fun i => (i.zero, i.size, i.bytes)) = some (some (.int .i64 0), 1, 8) := by kernel_rfl

end Go.Proofs.YtapflnabiobonaaDoor
