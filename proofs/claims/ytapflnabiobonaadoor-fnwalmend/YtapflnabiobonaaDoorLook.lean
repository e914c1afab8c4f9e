/- What SecLook does, in the specification and in the program: contracts; no statement of the seat is proved here. -/
import Derived.Test.YtapflnabiobonaaDoorSFlush
import Derived.Test.YtapflnabiobonaaDoorIOk
namespace Go.Proofs.YtapflnabiobonaaDoor
open Go.RowKit Go.Shelf

attribute [local go_sem] Oper.semAt_some

/-- What a sector reads. -/
def lookB (kept : List ByteArray) (wait : List (Int × ByteArray)) (a : Int) : ByteArray :=
  if okB kept wait = true ∧ inB a 0 ((kept.length : Int) - 1) = true then (flushL kept wait)[a.toNat]?.getD ⟨#[]⟩ else ⟨#[]⟩

theorem field_kept (ao bo : Option Addr) (n c m d : Nat) (w : World) : (Instr.field 31 (.agg #[.slice ao n c, .slice bo m d]) 0).run Tryd.prog w = .ok (.slice ao n c) w := by kernel_rfl

set_option maxRecDepth 100000 in
set_option maxHeartbeats 1000000 in
theorem specSecLook_any (v : Value) (kept : List ByteArray) (wait : List (Int × ByteArray)) (a : Int) (w : World) (hr : DiskR w v kept wait) (hs : ∀ s ∈ kept, s.size ≤ 9223372036854775807) (hs' : ∀ s ∈ wait, s.2.size ≤ 9223372036854775807) :
    Calls Tryd.prog 47 #[v, .int .i64 a] w fun e w' => e = .returned (.string (lookB kept wait a)) ∧ Below w.heap.size w w' := by
  have Hr := hide hr
  obtain ⟨ak, aw, rfl, a1, a2⟩ := hr
  have hkl : kept.length ≤ 9223372036854775807 := by obtain ⟨_, _, _, h, -⟩ := a1; exact h
  obtain ⟨ao, ca, rfl⟩ : ∃ ao ca, ak = .slice ao kept.length ca := by obtain ⟨ao, ca, h, -⟩ := a1; exact ⟨ao, ca, h⟩
  obtain ⟨bo, cb, rfl⟩ : ∃ ao ca, aw = .slice ao wait.length ca := by obtain ⟨ao, ca, h, -⟩ := a2; exact ⟨ao, ca, h⟩
  have hal : Below w.heap.size w (w.alloc (.cells #[.slice ao kept.length ca, .slice bo wait.length cb] 31)) := (Below.refl _ _).alloc (Nat.le_refl _) _
  have H0 := hide (al1_0 w (.cells #[.slice ao kept.length ca, .slice bo wait.length cb] 31))
  have Hs := hide hs
  have Hs' := hide hs'
  clear hs hs' a1 a2
  go_enter Tryd.func47, Tryd.ntmps47
  go_wp2_with fail
  refine (specSecOk_any _ kept wait _ (Hr.out.keep hal) Hs.out Hs'.out).mono ?_
  rintro e w1 ⟨rfl, b1⟩
  have B0 := bKeeps b1 H0.out
  obtain ⟨p0, p1, pl⟩ := box2 B0
  clear H0
  have H0 := hide B0
  clear B0
  cases hok : okB kept wait
  · have Hx : Hid (lookB kept wait a = ⟨#[]⟩) := by show _ = _; simp [lookB, hok]
    go_wp2
    go_ret
    exact ⟨by rw [Hx.out]; rfl, bAll hal b1⟩
  · cases hin : inB a 0 ((kept.length : Int) - 1)
    · have Hx : Hid (lookB kept wait a = ⟨#[]⟩) := by show _ = _; simp [lookB, hin]
      go_wp2_with (go_at_call 76; refine (l6In_any _ _ _ _).mono ?_; rintro e w' ⟨rfl, rfl⟩)
      go_ret
      exact ⟨by rw [Hx.out]; rfl, bAll hal b1⟩
    · have hb : 0 ≤ a ∧ a ≤ (kept.length : Int) - 1 := by simpa [inB] using hin
      obtain ⟨n, rfl⟩ := Int.eq_ofNat_of_zero_le hb.1
      have hn : n < kept.length := by omega
      clear hb
      have hln : n < (flushL kept wait).length := by rw [flushL_len]; exact hn
      obtain ⟨t, ht⟩ := getAt (flushL kept wait) n hln
      have Hx : Hid (lookB kept wait (n : Nat) = t) := by show _ = _; simp [lookB, hok, hin, ht]
      have Hok := hide hok
      go_wp2_with (go_at_call 76; refine (l6In_any _ _ _ _).mono ?_; rintro e w' ⟨rfl, rfl⟩)
      refine (specSecFlush_yes _ kept wait _ ((Hr.out.keep hal).keep b1) Hok.out).mono ?_
      rintro e w2 ⟨v2, rfl, d2, b2⟩
      obtain ⟨vk, vw, rfl, r2, ⟨wo, cw, rfl, -⟩⟩ := d2
      rw [flushL_len] at r2
      obtain ⟨g, cap, u, rfl, -, hgl, hcu, hu, -, -⟩ := r2.at n hn
      have hcu' : w2.cell? ⟨g, n, none⟩ = some (.string t) := by
        rw [hcu]
        simpa [ht] using hu.symm
      have hi : (n : Int) < (kept.length : Int) := by omega
      clear hcu hu ht r2
      have hfl := field_kept (some ⟨g, 0, none⟩) wo kept.length cap 0 cw
      go_wp2
      go_ret
      exact ⟨by rw [Hx.out]; rfl, bAll (bAll hal b1) b2⟩

/-- What a sector reads behind the writes at some places, in order. -/
def lookL (wait : List (Int × ByteArray)) (a : Nat) (t : ByteArray) (pre : List Nat) : ByteArray := pre.foldl (fun t j => if (wAt wait j).1 = (a : Int) then (wAt wait j).2 else t) t

theorem lookL_snoc (wait : List (Int × ByteArray)) (a : Nat) (t : ByteArray) (pre : List Nat) (x : Nat) : lookL wait a t (pre ++ [x]) = if (wAt wait x).1 = (a : Int) then (wAt wait x).2 else lookL wait a t pre := by simp [lookL]

theorem lookL_flush (kept : List ByteArray) (wait : List (Int × ByteArray)) (a : Nat) (t : ByteArray) (ht : kept[a]? = some t) (hw : ∀ x ∈ wait, 0 ≤ x.1 ∧ x.1 < kept.length) :
    ∀ k, k ≤ wait.length → (flushL kept (wait.take k))[a]? = some (lookL wait a t (List.range k)) := by
  intro k
  induction k with
  | zero => intro _; simpa [flushL, lookL] using ht
  | succ k ih =>
    intro hk
    obtain ⟨x, hx⟩ := getAt wait k (by omega)
    have hwx : wAt wait k = x := by simp [wAt, hx]
    have hb := hw x (List.mem_of_getElem? hx)
    rw [List.take_add_one, hx, Option.toList_some, flushL_snoc, List.range_succ, lookL_snoc, hwx]
    by_cases e : x.1 = (a : Int)
    · rw [if_pos e, show x.1.toNat = a by omega, List.getElem?_set_self (by rw [flushL_len]; omega)]
    · rw [if_neg e, List.getElem?_set_ne (by omega)]
      exact ih (by omega)

/-- Where the writes lie when their iterator has been made. -/
theorem told_prep {w Wb : World} (xs : List (Int × ByteArray)) (bo : Option Addr) (o : Obj) (hb : Below w.heap.size w Wb)
    (q : 0 < xs.length → ∃ b off, bo = some ⟨b, off, none⟩ ∧ ∀ j u, (wcells xs)[j]? = some u → w.cell? ⟨b, off + j, none⟩ = some u) :
    ∃ b off, b < (Wb.alloc o).heap.size ∧ (0 < xs.length ∧ b < w.heap.size ∨ b = Wb.heap.size) ∧ (0 < xs.length → b < w.heap.size ∧ bo = some ⟨b, off, none⟩) ∧ ∀ j u, (wcells xs)[j]? = some u → (Wb.alloc o).cell? ⟨b, off + j, none⟩ = some u := by
  by_cases h0 : 0 < xs.length
  · obtain ⟨b, off, e, hc⟩ := q h0
    obtain ⟨x, hx⟩ := getAt xs 0 h0
    have hl : b < w.heap.size := World.block_lt_of_cell? w _ (hc _ _ (wcells_at xs 0 x hx).1)
    have hbb := hb.alloc hb.size o
    exact ⟨b, off, by have := hbb.size; omega, .inl ⟨h0, hl⟩, fun _ => ⟨hl, e⟩, fun j u hj => (hbb.cell (p := ⟨b, off + j, none⟩) hl).trans (hc j u hj)⟩
  · refine ⟨Wb.heap.size, 0, by simp, .inr rfl, fun h => by omega, fun j u hj => ?_⟩
    have : xs = [] := List.eq_nil_of_length_eq_zero (by omega)
    subst this
    simp [wcells] at hj

set_option maxRecDepth 100000 in
set_option maxHeartbeats 4000000 in
theorem stateLook_in (kept : List ByteArray) (wait : List (Int × ByteArray)) (ao bo : Option Addr) (ca cb : Nat) (n : Nat) (w : World)
    (a1 : RowR w 1 (.slice ao kept.length ca) kept.length (kept.map Value.string)) (a2 : RowR w 2 (.slice bo wait.length cb) wait.length (wcells wait)) (hn : n < kept.length) (hok : okB kept wait = true) :
    CallsIn Fence.wide 9 Tryd.prog 65 #[.agg #[.slice ao kept.length ca, .slice bo wait.length cb], .int .i64 n] w fun e w' => e = .returned (.string (lookB kept wait n)) ∧ Below w.heap.size w w' := by
  obtain ⟨hp1, hp2, hp3, hp4⟩ := okB_parts hok
  obtain ⟨t, ht⟩ := getAt kept n hn
  have HL : Hid (lookB kept wait n = lookL wait n t (List.range wait.length)) := by
    have h := lookL_flush kept wait n t ht (fun x hx => ⟨(hp4 x hx).1, (hp4 x hx).2.1⟩) wait.length (Nat.le_refl _)
    rw [List.take_of_length_le (Nat.le_refl _)] at h
    have hin : inB (n : Int) 0 ((kept.length : Int) - 1) = true := by simp [inB]; omega
    show _ = _
    simp [lookB, hok, hin, h]
  clear hp3 hp4
  obtain ⟨ao', ca', e1, hn1, hl1, c1⟩ := a1
  simp only [Value.slice.injEq, true_and] at e1
  obtain ⟨rfl, rfl⟩ := e1
  obtain ⟨b0, o0, rfl, c2⟩ := c1 (by omega)
  have ct := c2 n (.string t) (by simp [ht])
  clear c1 c2 hl1 ht
  obtain ⟨bo', cb', e2, hn2, hl2, q2⟩ := a2
  simp only [Value.slice.injEq, true_and] at e2
  obtain ⟨rfl, rfl⟩ := e2
  clear hl2
  have Q2 := hide q2
  clear q2
  have ctl : b0 < w.heap.size := World.block_lt_of_cell? w _ ct
  refine callsIn_of_wp_marks Tryd.func65 rfl trivial ?_ rfl
  simp only [ Tryd.ntmps65, List.size_toArray, List.length_cons, List.length_nil, Nat.reduceAdd, Nat.reduceSub, Array.replicate_succ, Array.replicate_zero, List.push_toArray, List.append_toArray, List.nil_append, List.cons_append]
  have hi : (n : Int) < (kept.length : Int) := by omega
  gi_wp2_with fail
  refine ⟨trivial, ?_⟩
  refine (told_in Fence.wide 8 trivial rfl bo wait.length cb _).mono ?_
  rintro e w' ⟨rfl, rfl⟩
  obtain ⟨o1, ho1⟩ : ∃ o1, o1 = Obj.cells #[.slice (some ⟨b0, o0, none⟩) kept.length ca, .slice bo wait.length cb] 94 := ⟨_, rfl⟩
  have hal : Below w.heap.size w (((w.alloc o1).alloc (.cells #[.int .i64 n] 3)).alloc (.cells #[.string t] 9)) := (((Below.refl _ _).alloc (Nat.le_refl _) _).alloc (by simp) _).alloc (by simp; omega) _
  obtain ⟨b, off, hbl, hbo, hao, hcs⟩ := told_prep wait bo (.cells #[.slice bo wait.length cb] 92) hal Q2.out
  obtain ⟨W0, hW0⟩ : ∃ W0, W0 = (((w.alloc o1).alloc (.cells #[.int .i64 n] 3)).alloc (.cells #[.string t] 9)).alloc (.cells #[.slice bo wait.length cb] 92) := ⟨_, rfl⟩
  have hbel0 : Below w.heap.size w W0 := by rw [hW0]; exact hal.alloc hal.size _
  have B1 : W0.heap[w.heap.size + 1]? = some (.cells #[.int .i64 n] 3 (0, 0)) := by rw [hW0]; exact (Below.heap_alloc _ _ _ (by simp only [World.size_alloc]; omega)).trans (al3_1 w _ _ _)
  have B2 : W0.heap[w.heap.size + 1 + 1]? = some (.cells #[.string t] 9 (0, 0)) := by rw [hW0]; exact (Below.heap_alloc _ _ _ (by simp only [World.size_alloc]; omega)).trans (al3_2 w _ _ _)
  have hBs : W0.heap[w.heap.size + 1 + 1 + 1]? = some (.cells #[.slice bo wait.length cb] 92 (0, 0)) := by
    rw [hW0]; have := al3_2 (w.alloc o1) (.cells #[.int .i64 n] 3) (.cells #[.string t] 9) (.cells #[.slice bo wait.length cb] 92); simpa only [World.size_alloc] using this
  have hsz : W0.heap.size = w.heap.size + 4 := by rw [hW0]; simp
  have hbne : b ≠ w.heap.size + 1 + 1 := by simp only [World.size_alloc] at hbo; omega
  clear hbo
  rw [← hW0] at hbl hcs
  rw [← ho1, ← hW0]
  simp only [World.size_alloc]
  clear hW0 ho1 hal
  have Hcs := hide hcs
  have Hao := hide (fun h => (hao h).2)
  clear hcs hao Q2 ct
  gi_wp2_with fail
  refine range_boxed rfl (by omega) (gf := 100) (lb := #[.pointer (some ⟨w.heap.size + 1 + 1 + 1, 0, none⟩)]) rfl trivial (enters_of Tryd.func100 (by kernel_rfl) rfl)
    (told_stops Fence.wide (9 - 1) trivial rfl (by omega) (w.heap.size + 1 + 1 + 1) b off cb bo wait W0 hn2 Hao.out hBs Hcs.out) kpB_t (kpB_b hbl) (Below.refl _ _) (fun _ => rfl)
    (fun pre W => (W.heap[w.heap.size + 1 + 1]? = some (.cells #[.string (lookL wait n t pre)] 9 (0, 0)) ∧ W.heap[w.heap.size + 1]? = some (.cells #[.int .i64 n] 3 (0, 0))) ∧ (Below w.heap.size w W ∧ W0.heap.size ≤ W.heap.size))
    (fun _ _ _ => False)
    ?hI ?hIx ?h0 ?hIs ?hKa 7 63 (fun x => #[.int .i64 (wAt wait x).1, .string (wAt wait x).2]) ?assign ?body ?done ?stop
  case hI => exact OwnFrom.and (OwnFrom.and (own_cells _ _ (fun pre => #[.string (lookL wait n t pre)]) _) (own_cells _ _ (fun _ => #[.int .i64 n]) _)) (OwnFrom.and (ownFrom_below (Nat.le_refl _) (by have := hbel0.size; omega)) (own_size _ _))
  case hIx => exact fun c => own_pure _ _
  case h0 => exact ⟨⟨B2, B1⟩, hbel0, Nat.le_refl _⟩
  case hIs => exact fun pre W h => h.2.2
  case hKa => exact fun pre W o h => Below.heap_alloc W o b (by have := h.2.2; omega)
  case assign =>
    intro l pre x W K hi hK
    obtain ⟨a, s, hx⟩ : ∃ a s, wAt wait x = (a, s) := ⟨_, _, rfl⟩
    rw [wEnc_eq hx] at hK ⊢
    simp only [hx] at hK
    rw [roundTmps_two] at hK
    clear hi B1 B2 hBs
    gi_wp2
    exact hK
  case body =>
    rintro l pre x Bx W hl hBx hxb ⟨⟨ht, hnb⟩, hbel, hsW⟩ hN
    obtain ⟨a, s, hx⟩ : ∃ a s, wAt wait x = (a, s) := ⟨_, _, rfl⟩
    rw [wEnc_eq hx]
    simp only [hx] at hxb
    obtain ⟨x0, x1, xl⟩ := box2 hxb
    have r0 : W.cell? ⟨w.heap.size + 1, 0, none⟩ = some (.int .i64 n) := (cell_of_row W _ 0 _ _ (0, 0) hnb).trans rfl
    have r1 : W.cell? ⟨w.heap.size + 1 + 1, 0, none⟩ = some (.string (lookL wait n t pre)) := (cell_of_row W _ 0 _ _ (0, 0) ht).trans rfl
    have r2 : W.frozen? ⟨w.heap.size + 1 + 1, 0, none⟩ = false := frozen_of_row W _ 0 _ _ ht
    have Ht := hide ht
    have Hn := hide hnb
    have Hx := hide hx
    have hsn := hide (lookL_snoc wait n t pre x)
    clear ht hnb hxb hx B1 B2 hBs
    rw [roundTmps_two]
    by_cases hc : a = (n : Int)
    · have hc' : (a == (n : Int)) = true := by simpa using hc
      have Hc := hide hc
      clear hc
      gi_wp2
      have hup : Upd (fun k => k = w.heap.size + 1 + 1) W (W.setCell ⟨w.heap.size + 1 + 1, 0, none⟩ (.string s)) := Upd.setCell _ _ _ _ rfl
      refine ⟨(KeepsOthers.setCell _ _ _).from _, ?_, ⟨?_, hup.keeps Hn.out (by omega)⟩, hbel.setCell (p := ⟨w.heap.size + 1 + 1, 0, none⟩) (by show _ ≤ w.heap.size + 1 + 1; omega) _, by simpa using hsW⟩
      · exact Below.heap_setCell _ _ _ _ hbne
      · rw [hsn.out, Hx.out, if_pos Hc.out]
        exact row_set _ Ht.out
    · have hc' : (a == (n : Int)) = false := by simpa using hc
      have Hc := hide hc
      clear hc
      gi_wp2
      refine ⟨KeepsFrom.refl _ _, rfl, ⟨?_, Hn.out⟩, hbel, hsW⟩
      rw [hsn.out, Hx.out, if_neg Hc.out]
      exact Ht.out
  case done =>
    rintro D ys W hD rfl ⟨⟨ht, hnb⟩, hbel, hsW⟩ hK
    have r1 : W.cell? ⟨w.heap.size + 1 + 1, 0, none⟩ = some (.string (lookL wait n t (List.range wait.length))) := (cell_of_row W _ 0 _ _ (0, 0) ht).trans rfl
    have HKD := hide hK
    clear ht hnb hK B1 B2 hBs
    gi_wp2
    refine ⟨by simp, .inl ⟨_, _, rfl, run_takeDeferred HKD.out, ?_⟩⟩
    exact ⟨_, results_tmp rfl _ _ _, by rw [HL.out]; rfl, hbel.trans (belowK_b (w := W0) (by have := hbel0.size; omega) _ D _ _ hD HKD.out rfl rfl)⟩
  case stop =>
    rintro D c pre W _ _ h _
    exact h.elim

set_option maxRecDepth 100000 in
set_option maxHeartbeats 1000000 in
theorem implSecLook_any (v : Value) (kept : List ByteArray) (wait : List (Int × ByteArray)) (a : Int) (w : World) (hr : DiskR w v kept wait) (hs : ∀ s ∈ kept, s.size ≤ 9223372036854775807) (hs' : ∀ s ∈ wait, s.2.size ≤ 9223372036854775807) :
    Calls Tryd.prog 30 #[v, .int .i64 a] w fun e w' => e = .returned (.string (lookB kept wait a)) ∧ Below w.heap.size w w' := by
  have Hr := hide hr
  obtain ⟨ak, aw, rfl, a1, a2⟩ := hr
  have hkl : kept.length ≤ 9223372036854775807 := by obtain ⟨_, _, _, h, -⟩ := a1; exact h
  obtain ⟨ao, ca, rfl⟩ : ∃ ao ca, ak = .slice ao kept.length ca := by obtain ⟨ao, ca, h, -⟩ := a1; exact ⟨ao, ca, h⟩
  obtain ⟨bo, cb, rfl⟩ : ∃ ao ca, aw = .slice ao wait.length ca := by obtain ⟨ao, ca, h, -⟩ := a2; exact ⟨ao, ca, h⟩
  have hal : Below w.heap.size w (w.alloc (.cells #[.slice ao kept.length ca, .slice bo wait.length cb] 31)) := (Below.refl _ _).alloc (Nat.le_refl _) _
  have Hs := hide hs
  have Hs' := hide hs'
  have A1 := hide a1
  have A2 := hide a2
  clear hs hs' a1 a2
  go_enter Tryd.func30, Tryd.ntmps30
  go_wp2_with fail
  refine (secSeen_any ao bo _ ca _ cb _).mono ?_
  rintro e w1 ⟨rfl, b1⟩
  go_wp2_with fail
  have al1 : Below w1.heap.size w1 (w1.alloc (.cells #[.slice ao kept.length ca, .slice bo wait.length cb] 94)) := (Below.refl _ _).alloc (Nat.le_refl _) _
  have hb1 := bAll (bAll hal b1) al1
  have H1 := hide (al1_0 w1 (.cells #[.slice ao kept.length ca, .slice bo wait.length cb] 94))
  refine (stateOk_any kept wait _ _ (Hr.out.keep hb1) Hs.out Hs'.out).mono ?_
  rintro e w2 ⟨rfl, b2⟩
  have hb2 := bAll hb1 b2
  have B1 := bKeeps b2 H1.out
  obtain ⟨p0, p1, pl⟩ := box2 B1
  clear H1
  have H1 := hide B1
  clear B1
  cases hok : okB kept wait
  · have Hx : Hid (lookB kept wait a = ⟨#[]⟩) := by show _ = _; simp [lookB, hok]
    go_wp2
    go_ret
    exact ⟨by rw [Hx.out]; rfl, hb2⟩
  · have Hok := hide hok
    go_wp2_with fail
    refine (has_any ao kept.length ca a _ hkl).mono ?_
    rintro e w3 ⟨rfl, b3⟩
    have hb3 := bAll hb2 b3
    have B1 := bKeeps b3 H1.out
    clear p0 p1 pl H1
    obtain ⟨p0, p1, pl⟩ := box2 B1
    clear B1
    cases hin : inB a 0 ((kept.length : Int) - 1)
    · have Hx : Hid (lookB kept wait a = ⟨#[]⟩) := by show _ = _; simp [lookB, hin]
      go_wp2
      go_ret
      exact ⟨by rw [Hx.out]; rfl, hb3⟩
    · have hb : 0 ≤ a ∧ a ≤ (kept.length : Int) - 1 := by simpa [inB] using hin
      obtain ⟨n, rfl⟩ := Int.eq_ofNat_of_zero_le hb.1
      have hn : n < kept.length := by omega
      clear hb
      go_wp2_with fail
      refine (callsIn_wide.1 (stateLook_in kept wait ao bo ca cb n _ (A1.out.keep hb3) (A2.out.keep hb3) hn Hok.out)).mono ?_
      rintro e w4 ⟨rfl, b4⟩
      go_wp2
      go_ret
      exact ⟨rfl, bAll hb3 b4⟩

end Go.Proofs.YtapflnabiobonaaDoor
