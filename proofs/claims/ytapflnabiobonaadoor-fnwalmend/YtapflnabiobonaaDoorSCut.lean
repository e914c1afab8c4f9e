/- What SecCut of the specification does: a contract; no statement of the seat is proved here. -/
import Derived.Test.YtapflnabiobonaaDoorSPut
import Derived.Test.YtapflnabiobonaaDoorInts
namespace Go.Proofs.YtapflnabiobonaaDoor
open Go.RowKit

/-- Whether the write at a place is kept. -/
def keepAt (ks : List Int) (i : Nat) : Bool := !(ks[i]?.getD 0 == 0)
/-- The writes that are kept, of some places, in order. -/
def selL (wait : List (Int × ByteArray)) (ks : List Int) (pre : List Nat) : List (Int × ByteArray) := (pre.filter (keepAt ks)).map (wAt wait)
theorem selL_yes {wait : List (Int × ByteArray)} {ks : List Int} (pre : List Nat) {x : Nat} (h : keepAt ks x = true) : selL wait ks (pre ++ [x]) = selL wait ks pre ++ [wAt wait x] := by simp [selL, h]
theorem selL_no {wait : List (Int × ByteArray)} {ks : List Int} (pre : List Nat) {x : Nat} (h : keepAt ks x = false) : selL wait ks (pre ++ [x]) = selL wait ks pre := by simp [selL, h]
theorem keepAt_yes {ks : List Int} {x : Nat} {k : Int} (h : ks[x]? = some k) (h0 : ¬ k = 0) : keepAt ks x = true := by simp [keepAt, h, h0]
theorem keepAt_zero {ks : List Int} {x : Nat} {k : Int} (h : ks[x]? = some k) (h0 : k = 0) : keepAt ks x = false := by simp [keepAt, h, h0]
theorem keepAt_none {ks : List Int} {x : Nat} (h : ¬ x < ks.length) : keepAt ks x = false := by simp [keepAt, List.getElem?_eq_none (Nat.le_of_not_lt h)]
theorem selL_len (wait : List (Int × ByteArray)) (ks : List Int) (n : Nat) : (selL wait ks (List.range n)).length ≤ n := by
  have := List.length_filter_le (keepAt ks) (List.range n)
  simp [selL] at this ⊢
  omega
theorem selL_mem {wait : List (Int × ByteArray)} {ks : List Int} {n : Nat} (hn : n ≤ wait.length) {x : Int × ByteArray} (h : x ∈ selL wait ks (List.range n)) : x ∈ wait := by
  simp only [selL, List.mem_map, List.mem_filter, List.mem_range] at h
  obtain ⟨i, ⟨hi, _⟩, rfl⟩ := h
  obtain ⟨y, hy⟩ := getAt wait i (by omega)
  have : wAt wait i = y := by simp [wAt, hy]
  rw [this]
  exact List.mem_of_getElem? hy
/-- What is kept behind a loss of power. -/
def cutL (kept : List ByteArray) (wait : List (Int × ByteArray)) (ks : List Int) : List ByteArray := flushL kept (selL wait ks (List.range wait.length))
def cutK (kept : List ByteArray) (wait : List (Int × ByteArray)) (ks : List Int) : List ByteArray := if okB kept wait = true then cutL kept wait ks else []

theorem ok_sel {kept : List ByteArray} {wait : List (Int × ByteArray)} (ks : List Int) (h : okB kept wait = true) : okB kept (selL wait ks (List.range wait.length)) = true := by
  have hl := selL_len wait ks wait.length
  simp only [okB, Bool.and_eq_true, decide_eq_true_eq, List.all_eq_true] at h ⊢
  obtain ⟨⟨⟨h1, h2⟩, h3⟩, h4⟩ := h
  exact ⟨⟨⟨h1, by omega⟩, h3⟩, fun x hx => h4 x (selL_mem (Nat.le_refl _) hx)⟩

theorem RowR.ptr {w : World} {v : Value} {n : Nat} {cs : List Value} (h : RowR w 1 v n cs) (x : Nat) (hx : x < n) : ∃ b off cap u, v = .slice (some ⟨b, off, none⟩) n cap ∧ b < w.heap.size ∧ cs[x]? = some u ∧ w.cell? ⟨b, off + x, none⟩ = some u := by
  obtain ⟨ao, cap, rfl, _, hl, h⟩ := h
  obtain ⟨b, off, rfl, hc⟩ := h (by omega)
  obtain ⟨u, hu⟩ := getAt cs x (by omega)
  exact ⟨b, off, cap, u, rfl, World.block_lt_of_cell? w _ (hc x u hu), hu, hc x u hu⟩

set_option maxRecDepth 100000 in
set_option maxHeartbeats 4000000 in
theorem specSecCut_yes (v : Value) (kept : List ByteArray) (wait : List (Int × ByteArray)) (ko : Option Addr) (kc : Nat) (ks : List Int) (w : World) (hr : DiskR w v kept wait) (hks : RowR w 1 (.slice ko ks.length kc) ks.length (ks.map (Value.int .i64))) (hok : okB kept wait = true) :
    Calls Tryd.prog 105 #[v, .slice ko ks.length kc] w fun e w' => ∃ v', e = .returned v' ∧ DiskO w' (fun k => w.heap.size ≤ k) v' (cutK kept wait ks) [] ∧ Below w.heap.size w w' := by
  obtain ⟨hp1, hp2, hp3, hp4⟩ := okB_parts hok
  have HC : Hid (flushK kept (selL wait ks (List.range wait.length)) = cutK kept wait ks) := by show _ = _; simp [flushK, cutK, cutL, hok, ok_sel ks hok]
  have hkl : ks.length ≤ 9223372036854775807 := by obtain ⟨_, _, _, h, _⟩ := hks; exact h
  have HKS := hide hks
  clear hks
  have Hr := hide hr
  obtain ⟨ak, aw, rfl, ⟨ao, ca, rfl, -⟩, ⟨bo, cb, rfl, -⟩⟩ := hr
  have A1 : Hid (RowR w 1 (.slice ao kept.length ca) kept.length (kept.map Value.string)) := by
    obtain ⟨_, _, e, h, -⟩ := Hr.out
    simp only [Value.agg.injEq, Array.mk.injEq, List.cons.injEq, and_true] at e
    rw [e.1]; exact h
  have A2 : Hid (RowR w 2 (.slice bo wait.length cb) wait.length (wcells wait)) := by
    obtain ⟨_, _, e, -, h⟩ := Hr.out
    simp only [Value.agg.injEq, Array.mk.injEq, List.cons.injEq, and_true] at e
    rw [e.2]; exact h
  have hal : Below w.heap.size w ((w.alloc (.cells #[.slice ao kept.length ca, .slice bo wait.length cb] 31)).alloc (.cells #[.slice none 0 0, .slice none 0 0] 31)) := ((Below.refl _ _).alloc (Nat.le_refl _) _).alloc (by simp) _
  have H0 := hide (al2_0 w (.cells #[.slice ao kept.length ca, .slice bo wait.length cb] 31) (.cells #[.slice none 0 0, .slice none 0 0] 31))
  have H1 := hide (al2_1 w (.cells #[.slice ao kept.length ca, .slice bo wait.length cb] 31) (.cells #[.slice none 0 0, .slice none 0 0] 31))
  have P3 := hide hp3
  have P4 := hide hp4
  clear hp3 hp4
  obtain ⟨i1, gi, gz0, gz1, gz2⟩ := info_parts infoWr
  go_enter Tryd.func105, Tryd.ntmps105
  go_wp2_with fail
  refine (specSecOk_any _ kept wait _ (Hr.out.keep hal) (fun s hs => by have := P3.out s hs; omega) (fun s hs => by have := (P4.out s hs).2.2; omega)).mono ?_
  rintro e w1 ⟨rfl, b1⟩
  rw [hok]
  clear hok
  have z1 : w.heap.size + 1 + 1 ≤ w1.heap.size := by have := b1.size; simpa only [World.size_alloc] using this
  have c1 := bAll hal b1
  replace H0 := hide (bKeeps b1 H0.out)
  replace H1 := hide (bKeeps b1 H1.out)
  obtain ⟨p0, p1, pl⟩ := box2 H0.out
  have al2 : Below w1.heap.size w1 (w1.alloc (.cells #[.slice ao kept.length ca, .slice none 0 0] 31)) := (Below.refl _ _).alloc (Nat.le_refl _) _
  have HB := hide (al1_0 w1 (.cells #[.slice ao kept.length ca, .slice none 0 0] 31))
  go_wp2
  clear p0 p1 pl
  go_loopw [6] (fun i wr => ∃ (k : Nat) (mo : Option Addr) (cm : Nat) (X : List (Int × ByteArray)), k ≤ wait.length ∧ i = .int .i64 k ∧ Hid (X = selL wait ks (List.range k)) ∧ RowA wr (w1.heap.size + 1) 63 2 (.slice mo X.length cm) X.length (wcells X) ∧
      wr.heap[w.heap.size]? = some (.cells #[.slice ao kept.length ca, .slice bo wait.length cb] 31 (0, 0)) ∧ wr.heap[w.heap.size + 1]? = some (.cells #[.slice none 0 0, .slice none 0 0] 31 (0, 0)) ∧
      wr.heap[w1.heap.size]? = some (.cells #[.slice ao kept.length ca, .slice mo X.length cm] 31 (0, 0)) ∧ Below w.heap.size w wr) (fun i _ => wait.length - (intOf i).toNat)
  case atStart => exact ⟨0, none, 0, [], Nat.zero_le _, rfl, rfl, .inl (World.ownsRow_nil _ _ _ _), bKeeps al2 H0.out, bKeeps al2 H1.out, HB.out, c1.trans (al2.mono (by omega))⟩
  case round =>
    obtain ⟨k, mo, cm, X, hk, rfl, HX, hrow, B0, B1, B2, hbel⟩ := hrel
    have hXl : X.length ≤ 600 := by have := selL_len wait ks k; rw [HX.out]; omega
    obtain ⟨p0, p1, pl⟩ := box2 B0
    obtain ⟨t0, t1, tl⟩ := box2 B2
    obtain ⟨t2, t3⟩ := box2f B2
    have G0 := hide B0
    have G1 := hide B1
    have G2 := hide B2
    clear B0 B1 B2
    by_cases hlt : k < wait.length
    · have hi' : (k : Int) < (wait.length : Int) := by omega
      by_cases hkl' : k < ks.length
      · have hi2 : (k : Int) < (ks.length : Int) := by omega
        obtain ⟨kb, koff, kcap, u, ev, hkb, hu, hcu⟩ := HKS.out.ptr k hkl'
        simp only [Value.slice.injEq, true_and] at ev
        obtain ⟨rfl, rfl⟩ := ev
        obtain ⟨q, hq⟩ := getAt ks k hkl'
        obtain rfl : u = .int .i64 q := by simpa [hq] using hu.symm
        have fq : wr.cell? ⟨kb, koff + k, none⟩ = some (.int .i64 q) := (hbel.cell (p := ⟨kb, koff + k, none⟩) hkb).trans hcu
        clear hu hcu
        by_cases hq0 : q = 0
        · have hq' : (q == 0) = true := by simpa using hq0
          have Hs : Hid (selL wait ks (List.range (k + 1)) = selL wait ks (List.range k)) := by show _ = _; rw [List.range_succ, selL_no _ (keepAt_zero hq hq0)]
          have Hq := hide hq
          clear hq
          go_wp2
          go_roundw
          case rel => exact ⟨k + 1, mo, cm, X, by omega, by go_num, by rw [Hs.out]; exact HX, hrow, G0.out, G1.out, G2.out, hbel⟩
          case measure => simp [intOf]; omega
        · have hq' : (q == 0) = false := by simpa using hq0
          obtain ⟨⟨a, s⟩, hsk⟩ := getAt wait k hlt
          have Hs : Hid (selL wait ks (List.range (k + 1)) = selL wait ks (List.range k) ++ [(a, s)]) := by
            show _ = _
            rw [List.range_succ, selL_yes _ (keepAt_yes hq hq0)]
            simp [wAt, hsk]
          obtain ⟨bo', cb', e2, -, -, hc0⟩ := A2.out
          simp only [Value.slice.injEq, true_and] at e2
          obtain ⟨rfl, rfl⟩ := e2
          obtain ⟨b, off, rfl, hc⟩ := hc0 (by omega)
          clear hc0
          obtain ⟨e0, e1⟩ := wcells_at wait k (a, s) hsk
          have g1 := hc _ _ e0
          have g2 := hc _ _ e1
          have l1 : b < w.heap.size := World.block_lt_of_cell? w _ g1
          have f1 : wr.cell? ⟨b, off + k * 2, none⟩ = some (.int .i64 a) := by rw [Nat.mul_comm k 2]; exact (hbel.cell (p := ⟨b, off + 2 * k, none⟩) l1).trans g1
          have f2 : wr.cell? ⟨b, off + k * 2 + 1, none⟩ = some (.string s) := by rw [Nat.mul_comm k 2]; exact (hbel.cell (p := ⟨b, off + (2 * k + 1), none⟩) l1).trans g2
          clear hc g1 g2 e0 e1 hsk hq hq0
          have al3 : Below wr.heap.size wr (wr.drew.alloc (.cells #[.int .i64 a, .string s] 63)) := ((Below.refl _ _).drew).alloc (Nat.le_refl _) _
          have N3 := hide (new_cells wr.drew a s 63)
          have s3 := hrow.keepB al3
          have K2 := hide (bKeeps al3 G2.out)
          have hbs : w1.heap.size + 1 ≤ (wr.drew.alloc (.cells #[.int .i64 a, .string s] 63)).heap.size := by have := al3.size; omega
          go_wp2
          go_region_law (refine step_appendA rfl _ _ 29 rfl (w1.heap.size + 1) 63 i1 (.agg #[.int .i64 0, .string ⟨#[]⟩]) 2 24 Tryd.underlying29 gi gz0 gz1 gz2 rfl (by decide) _ X.length (wcells X) rfl s3 ⟨wr.heap.size, 0, none⟩ 1 1 [.int .i64 a, .string s] rfl rfl N3.out (new_one a s) (by decide) (by unfold maxLen; omega) (by omega) hbs ?_; intro v4 w4 hown u4; obtain ⟨mo', cm', rfl⟩ := (Row.ofOwns hown (by omega)).shape; obtain ⟨y0, y1, yl⟩ := box2 (u4.keeps K2.out (fun h => by have := h.1; omega)); obtain ⟨y2, y3⟩ := box2f (u4.keeps K2.out (fun h => by have := h.1; omega)))
          all_goals
            go_wp2
            have hset := Upd.setCell (S := fun k => k = w1.heap.size) w4 w1.heap.size 1 (.slice mo' (X.length + 1) cm') rfl
            have u4' : Upd (fun k => w1.heap.size + 1 ≤ k) wr w4 := (Upd.ofBelow al3).trans (u4.mono (fun k h => h.1))
            go_roundw
            case rel =>
              refine ⟨k + 1, mo', cm', X ++ [(a, s)], by omega, by go_num, ?_, ?_, hset.keeps (u4'.keeps G0.out (by omega)) (by omega), hset.keeps (u4'.keeps G1.out (by omega)) (by omega), ?_, ?_⟩
              · show _ = _
                rw [Hs.out, HX.out]
              · rw [wcells_snoc, List.length_append]
                exact RowA.keep (.inl hown) hset (fun k hk => by omega)
              · rw [List.length_append]
                exact row_set _ (u4'.keeps G2.out (by omega))
              · exact (hbel.trans (u4'.below hbel.size (fun k h => by omega))).trans (hset.below (by have := hbel.size; have := u4'.size; omega) (fun k h => by omega))
            case measure => simp [intOf]; omega
      · have hi2 : ¬ (k : Int) < (ks.length : Int) := by omega
        have Hs : Hid (selL wait ks (List.range (k + 1)) = selL wait ks (List.range k)) := by show _ = _; rw [List.range_succ, selL_no _ (keepAt_none hkl')]
        go_wp2
        go_roundw
        case rel => exact ⟨k + 1, mo, cm, X, by omega, by go_num, by rw [Hs.out]; exact HX, hrow, G0.out, G1.out, G2.out, hbel⟩
        case measure => simp [intOf]; omega
    · obtain rfl : k = wait.length := by omega
      go_wp2_with fail
      refine (specSecFlush_any _ kept X _ ⟨_, _, rfl, A1.out.keep (hbel.mono (Nat.le_refl _)), (hrow.row (by omega)).reads⟩ (fun s hs => by have := P3.out s hs; omega) (fun s hs => by rw [HX.out] at hs; have := (P4.out s (selL_mem (Nat.le_refl _) hs)).2.2; omega)).mono ?_
      rw [HX.out, HC.out]
      rintro e w5 ⟨v5, rfl, d5, b5⟩
      obtain ⟨jo1, jc1, jo2, jc2, rfl⟩ := d5.shape
      have hbz : w1.heap.size + 1 ≤ wr.heap.size := tl
      obtain ⟨q0, q1, ql⟩ := box2 (bKeeps b5 G1.out)
      obtain ⟨q2, q3⟩ := box2f (bKeeps b5 G1.out)
      clear p0 p1 pl t0 t1 tl t2 t3
      go_wp2
      have hu := upd_set2 w5 (w.heap.size + 1) 0 1 (.slice jo1 (cutK kept wait ks).length jc1) (.slice jo2 0 jc2)
      have hsz := hbel.size
      refine bodyPost_ret (v := .agg #[.slice jo1 (cutK kept wait ks).length jc1, .slice jo2 0 jc2]) (by simp [results, Tryd.results105, go_sem, q0, q1]) rfl ⟨_, rfl, ?_, ?_⟩
      · exact (d5.keep hu (fun k h => by omega)).mono (fun k _ h => by omega)
      · exact (bAll hbel b5).trans (hu.below (by have := b5.size; omega) (by intro k hk; omega))

set_option maxHeartbeats 400000 in
theorem specSecCut_no (v : Value) (kept : List ByteArray) (wait : List (Int × ByteArray)) (ko : Option Addr) (kc : Nat) (ks : List Int) (w : World) (hr : DiskR w v kept wait) (hs : ∀ s ∈ kept, s.size ≤ 9223372036854775807) (hs' : ∀ s ∈ wait, s.2.size ≤ 9223372036854775807) (hok : okB kept wait = false) :
    Calls Tryd.prog 105 #[v, .slice ko ks.length kc] w fun e w' => ∃ v', e = .returned v' ∧ DiskO w' (fun k => w.heap.size ≤ k) v' (cutK kept wait ks) [] ∧ Below w.heap.size w w' := by
  have Hr := hide hr
  obtain ⟨ak, aw, rfl, ⟨ao, ca, rfl, -⟩, ⟨bo, cb, rfl, -⟩⟩ := hr
  have hal : Below w.heap.size w ((w.alloc (.cells #[.slice ao kept.length ca, .slice bo wait.length cb] 31)).alloc (.cells #[.slice none 0 0, .slice none 0 0] 31)) := ((Below.refl _ _).alloc (Nat.le_refl _) _).alloc (by simp) _
  have H1 := hide (al2_1 w (.cells #[.slice ao kept.length ca, .slice bo wait.length cb] 31) (.cells #[.slice none 0 0, .slice none 0 0] 31))
  have Hs := hide hs
  have Hs' := hide hs'
  clear hs hs'
  have HX : Hid (cutK kept wait ks = []) := by show _ = _; simp [cutK, hok]
  go_enter Tryd.func105, Tryd.ntmps105
  go_wp2_with fail
  refine (specSecOk_any _ kept wait _ (Hr.out.keep hal) Hs.out Hs'.out).mono ?_
  rintro e w1 ⟨rfl, b1⟩
  rw [hok]
  have B1 := bKeeps b1 H1.out
  obtain ⟨q0, q1, ql⟩ := box2 B1
  obtain ⟨q2, q3⟩ := box2f B1
  clear B1
  go_wp2
  have hu := upd_set2 w1 (w.heap.size + 1) 0 1 (.slice none 0 0) (.slice none 0 0)
  refine bodyPost_ret (v := .agg #[.slice none 0 0, .slice none 0 0]) (by simp [results, Tryd.results105, go_sem, q0, q1]) rfl ⟨_, rfl, ?_, (bAll hal b1).trans (hu.below (by have := b1.size; simp only [World.size_alloc] at this; omega) (by intro k hk; omega))⟩
  rw [HX.out]
  exact ⟨_, _, rfl, Row.nil _ _ _ _, Row.nil _ _ _ _⟩

theorem specSecCut_any (v : Value) (kept : List ByteArray) (wait : List (Int × ByteArray)) (ko : Option Addr) (kc : Nat) (ks : List Int) (w : World) (hr : DiskR w v kept wait) (hks : RowR w 1 (.slice ko ks.length kc) ks.length (ks.map (Value.int .i64))) (hs : ∀ s ∈ kept, s.size ≤ 9223372036854775807) (hs' : ∀ s ∈ wait, s.2.size ≤ 9223372036854775807) :
    Calls Tryd.prog 105 #[v, .slice ko ks.length kc] w fun e w' => ∃ v', e = .returned v' ∧ DiskO w' (fun k => w.heap.size ≤ k) v' (cutK kept wait ks) [] ∧ Below w.heap.size w w' := by
  cases hok : okB kept wait
  · exact specSecCut_no v kept wait ko kc ks w hr hs hs' hok
  · exact specSecCut_yes v kept wait ko kc ks w hr hks hok

end Go.Proofs.YtapflnabiobonaaDoor
