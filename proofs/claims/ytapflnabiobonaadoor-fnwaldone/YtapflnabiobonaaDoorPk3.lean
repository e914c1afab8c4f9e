/- Contracts and plain facts that the claims of this seat lean on (texts SCut, WOpen, WNote, SLog, SRead, Rd, Rd2); no statement of the seat is proved here. -/
import Derived.Test.YtapflnabiobonaaDoorPk2
import Derived.Laws.Bits64

/- What SecCut of the specification does: a contract; no statement of the seat is proved here. -/
namespace Go.Proofs.YtapflnabiobonaaDoor
open Go.RowKit

/-- Whether the write at a place is kept. -/
def keepAt (ks : List Int) (i : Nat) : Bool := !(ks[i]?.getD 0 == 0)
/-- The writes that are kept, of some places, in order. -/
def selL (wait : List (Int × ByteArray)) (ks : List Int) (pre : List Nat) : List (Int × ByteArray) := (pre.filter (keepAt ks)).map (wAt wait)
theorem selL_yes {wait : List (Int × ByteArray)} {ks : List Int} (pre : List Nat) {x : Nat} (h : keepAt ks x = true) : selL wait ks (pre ++ [x]) = selL wait ks pre ++ [wAt wait x] := by simp [selL, h]
theorem selL_no {wait : List (Int × ByteArray)} {ks : List Int} (pre : List Nat) {x : Nat} (h : keepAt ks x = false) : selL wait ks (pre ++ [x]) = selL wait ks pre := by simp [selL, h]
theorem keepAt_yes {ks : List Int} {x : Nat} {k : Int} (h : ks[x]? = some k) (h0 : ¬ k = 0) : keepAt ks x = true := by simp [keepAt, h, h0]
theorem keepAt_zero {ks : List Int} {x : Nat} {k : Int} (h : ks[x]? = some k) (h0 : k = 0) : keepAt ks x = false := by simp [keepAt, h, h0]
theorem keepAt_none {ks : List Int} {x : Nat} (h : ¬ x < ks.length) : keepAt ks x = false := by simp [keepAt, List.getElem?_eq_none (Nat.le_of_not_lt h)]
theorem selL_len (wait : List (Int × ByteArray)) (ks : List Int) (n : Nat) : (selL wait ks (List.range n)).length ≤ n := by
  have := List.length_filter_le (keepAt ks) (List.range n)
  simp [selL] at this ⊢
  omega
theorem selL_mem {wait : List (Int × ByteArray)} {ks : List Int} {n : Nat} (hn : n ≤ wait.length) {x : Int × ByteArray} (h : x ∈ selL wait ks (List.range n)) : x ∈ wait := by
  simp only [selL, List.mem_map, List.mem_filter, List.mem_range] at h
  obtain ⟨i, ⟨hi, _⟩, rfl⟩ := h
  obtain ⟨y, hy⟩ := getAt wait i (by omega)
  have : wAt wait i = y := by simp [wAt, hy]
  rw [this]
  exact List.mem_of_getElem? hy
/-- What is kept behind a loss of power. -/
def cutL (kept : List ByteArray) (wait : List (Int × ByteArray)) (ks : List Int) : List ByteArray := flushL kept (selL wait ks (List.range wait.length))
def cutK (kept : List ByteArray) (wait : List (Int × ByteArray)) (ks : List Int) : List ByteArray := if okB kept wait = true then cutL kept wait ks else []

theorem ok_sel {kept : List ByteArray} {wait : List (Int × ByteArray)} (ks : List Int) (h : okB kept wait = true) : okB kept (selL wait ks (List.range wait.length)) = true := by
  have hl := selL_len wait ks wait.length
  simp only [okB, Bool.and_eq_true, decide_eq_true_eq, List.all_eq_true] at h ⊢
  obtain ⟨⟨⟨h1, h2⟩, h3⟩, h4⟩ := h
  exact ⟨⟨⟨h1, by omega⟩, h3⟩, fun x hx => h4 x (selL_mem (Nat.le_refl _) hx)⟩

theorem RowR.ptr {w : World} {v : Value} {n : Nat} {cs : List Value} (h : RowR w 1 v n cs) (x : Nat) (hx : x < n) : ∃ b off cap u, v = .slice (some ⟨b, off, none⟩) n cap ∧ b < w.heap.size ∧ cs[x]? = some u ∧ w.cell? ⟨b, off + x, none⟩ = some u := by
  obtain ⟨ao, cap, rfl, _, hl, h⟩ := h
  obtain ⟨b, off, rfl, hc⟩ := h (by omega)
  obtain ⟨u, hu⟩ := getAt cs x (by omega)
  exact ⟨b, off, cap, u, rfl, World.block_lt_of_cell? w _ (hc x u hu), hu, hc x u hu⟩

set_option maxRecDepth 100000 in
set_option maxHeartbeats 4000000 in
theorem specSecCut_yes (v : Value) (kept : List ByteArray) (wait : List (Int × ByteArray)) (ko : Option Addr) (kc : Nat) (ks : List Int) (w : World) (hr : DiskR w v kept wait) (hks : RowR w 1 (.slice ko ks.length kc) ks.length (ks.map (Value.int .i64))) (hok : okB kept wait = true) :
    Calls Tryd.prog 105 #[v, .slice ko ks.length kc] w fun e w' => ∃ v', e = .returned v' ∧ DiskO w' (fun k => w.heap.size ≤ k) v' (cutK kept wait ks) [] ∧ Below w.heap.size w w' := by
  obtain ⟨hp1, hp2, hp3, hp4⟩ := okB_parts hok
  have HC : Hid (flushK kept (selL wait ks (List.range wait.length)) = cutK kept wait ks) := by show _ = _; simp [flushK, cutK, cutL, hok, ok_sel ks hok]
  have hkl : ks.length ≤ 9223372036854775807 := by obtain ⟨_, _, _, h, _⟩ := hks; exact h
  have HKS := hide hks
  clear hks
  have Hr := hide hr
  obtain ⟨ak, aw, rfl, ⟨ao, ca, rfl, -⟩, ⟨bo, cb, rfl, -⟩⟩ := hr
  have A1 : Hid (RowR w 1 (.slice ao kept.length ca) kept.length (kept.map Value.string)) := by
    obtain ⟨_, _, e, h, -⟩ := Hr.out
    simp only [Value.agg.injEq, Array.mk.injEq, List.cons.injEq, and_true] at e
    rw [e.1]; exact h
  have A2 : Hid (RowR w 2 (.slice bo wait.length cb) wait.length (wcells wait)) := by
    obtain ⟨_, _, e, -, h⟩ := Hr.out
    simp only [Value.agg.injEq, Array.mk.injEq, List.cons.injEq, and_true] at e
    rw [e.2]; exact h
  have hal : Below w.heap.size w ((w.alloc (.cells #[.slice ao kept.length ca, .slice bo wait.length cb] 31)).alloc (.cells #[.slice none 0 0, .slice none 0 0] 31)) := ((Below.refl _ _).alloc (Nat.le_refl _) _).alloc (by simp) _
  have H0 := hide (al2_0 w (.cells #[.slice ao kept.length ca, .slice bo wait.length cb] 31) (.cells #[.slice none 0 0, .slice none 0 0] 31))
  have H1 := hide (al2_1 w (.cells #[.slice ao kept.length ca, .slice bo wait.length cb] 31) (.cells #[.slice none 0 0, .slice none 0 0] 31))
  have P3 := hide hp3
  have P4 := hide hp4
  clear hp3 hp4
  obtain ⟨i1, gi, gz0, gz1, gz2⟩ := info_parts infoWr
  go_enter Tryd.func105, Tryd.ntmps105
  go_wp2_with fail
  refine (specSecOk_any _ kept wait _ (Hr.out.keep hal) (fun s hs => by have := P3.out s hs; omega) (fun s hs => by have := (P4.out s hs).2.2; omega)).mono ?_
  rintro e w1 ⟨rfl, b1⟩
  rw [hok]
  clear hok
  have z1 : w.heap.size + 1 + 1 ≤ w1.heap.size := by have := b1.size; simpa only [World.size_alloc] using this
  have c1 := bAll hal b1
  replace H0 := hide (bKeeps b1 H0.out)
  replace H1 := hide (bKeeps b1 H1.out)
  obtain ⟨p0, p1, pl⟩ := box2 H0.out
  have al2 : Below w1.heap.size w1 (w1.alloc (.cells #[.slice ao kept.length ca, .slice none 0 0] 31)) := (Below.refl _ _).alloc (Nat.le_refl _) _
  have HB := hide (al1_0 w1 (.cells #[.slice ao kept.length ca, .slice none 0 0] 31))
  go_wp2
  clear p0 p1 pl
  go_loopw [6] (fun i wr => ∃ (k : Nat) (mo : Option Addr) (cm : Nat) (X : List (Int × ByteArray)), k ≤ wait.length ∧ i = .int .i64 k ∧ Hid (X = selL wait ks (List.range k)) ∧ RowA wr (w1.heap.size + 1) 63 2 (.slice mo X.length cm) X.length (wcells X) ∧
      wr.heap[w.heap.size]? = some (.cells #[.slice ao kept.length ca, .slice bo wait.length cb] 31 (0, 0)) ∧ wr.heap[w.heap.size + 1]? = some (.cells #[.slice none 0 0, .slice none 0 0] 31 (0, 0)) ∧
      wr.heap[w1.heap.size]? = some (.cells #[.slice ao kept.length ca, .slice mo X.length cm] 31 (0, 0)) ∧ Below w.heap.size w wr) (fun i _ => wait.length - (intOf i).toNat)
  case atStart => exact ⟨0, none, 0, [], Nat.zero_le _, rfl, rfl, .inl (World.ownsRow_nil _ _ _ _), bKeeps al2 H0.out, bKeeps al2 H1.out, HB.out, c1.trans (al2.mono (by omega))⟩
  case round =>
    obtain ⟨k, mo, cm, X, hk, rfl, HX, hrow, B0, B1, B2, hbel⟩ := hrel
    have hXl : X.length ≤ 600 := by have := selL_len wait ks k; rw [HX.out]; omega
    obtain ⟨p0, p1, pl⟩ := box2 B0
    obtain ⟨t0, t1, tl⟩ := box2 B2
    obtain ⟨t2, t3⟩ := box2f B2
    have G0 := hide B0
    have G1 := hide B1
    have G2 := hide B2
    clear B0 B1 B2
    by_cases hlt : k < wait.length
    · have hi' : (k : Int) < (wait.length : Int) := by omega
      by_cases hkl' : k < ks.length
      · have hi2 : (k : Int) < (ks.length : Int) := by omega
        obtain ⟨kb, koff, kcap, u, ev, hkb, hu, hcu⟩ := HKS.out.ptr k hkl'
        simp only [Value.slice.injEq, true_and] at ev
        obtain ⟨rfl, rfl⟩ := ev
        obtain ⟨q, hq⟩ := getAt ks k hkl'
        obtain rfl : u = .int .i64 q := by simpa [hq] using hu.symm
        have fq : wr.cell? ⟨kb, koff + k, none⟩ = some (.int .i64 q) := (hbel.cell (p := ⟨kb, koff + k, none⟩) hkb).trans hcu
        clear hu hcu
        by_cases hq0 : q = 0
        · have hq' : (q == 0) = true := by simpa using hq0
          have Hs : Hid (selL wait ks (List.range (k + 1)) = selL wait ks (List.range k)) := by show _ = _; rw [List.range_succ, selL_no _ (keepAt_zero hq hq0)]
          have Hq := hide hq
          clear hq
          go_wp2
          go_roundw
          case rel => exact ⟨k + 1, mo, cm, X, by omega, by go_num, by rw [Hs.out]; exact HX, hrow, G0.out, G1.out, G2.out, hbel⟩
          case measure => simp [intOf]; omega
        · have hq' : (q == 0) = false := by simpa using hq0
          obtain ⟨⟨a, s⟩, hsk⟩ := getAt wait k hlt
          have Hs : Hid (selL wait ks (List.range (k + 1)) = selL wait ks (List.range k) ++ [(a, s)]) := by
            show _ = _
            rw [List.range_succ, selL_yes _ (keepAt_yes hq hq0)]
            simp [wAt, hsk]
          obtain ⟨bo', cb', e2, -, -, hc0⟩ := A2.out
          simp only [Value.slice.injEq, true_and] at e2
          obtain ⟨rfl, rfl⟩ := e2
          obtain ⟨b, off, rfl, hc⟩ := hc0 (by omega)
          clear hc0
          obtain ⟨e0, e1⟩ := wcells_at wait k (a, s) hsk
          have g1 := hc _ _ e0
          have g2 := hc _ _ e1
          have l1 : b < w.heap.size := World.block_lt_of_cell? w _ g1
          have f1 : wr.cell? ⟨b, off + k * 2, none⟩ = some (.int .i64 a) := by rw [Nat.mul_comm k 2]; exact (hbel.cell (p := ⟨b, off + 2 * k, none⟩) l1).trans g1
          have f2 : wr.cell? ⟨b, off + k * 2 + 1, none⟩ = some (.string s) := by rw [Nat.mul_comm k 2]; exact (hbel.cell (p := ⟨b, off + (2 * k + 1), none⟩) l1).trans g2
          clear hc g1 g2 e0 e1 hsk hq hq0
          have al3 : Below wr.heap.size wr (wr.drew.alloc (.cells #[.int .i64 a, .string s] 63)) := ((Below.refl _ _).drew).alloc (Nat.le_refl _) _
          have N3 := hide (new_cells wr.drew a s 63)
          have s3 := hrow.keepB al3
          have K2 := hide (bKeeps al3 G2.out)
          have hbs : w1.heap.size + 1 ≤ (wr.drew.alloc (.cells #[.int .i64 a, .string s] 63)).heap.size := by have := al3.size; omega
          go_wp2
          go_region_law (refine step_appendA rfl _ _ 29 rfl (w1.heap.size + 1) 63 i1 (.agg #[.int .i64 0, .string ⟨#[]⟩]) 2 24 Tryd.underlying29 gi gz0 gz1 gz2 rfl (by decide) _ X.length (wcells X) rfl s3 ⟨wr.heap.size, 0, none⟩ 1 1 [.int .i64 a, .string s] rfl rfl N3.out (new_one a s) (by decide) (by unfold maxLen; omega) (by omega) hbs ?_; intro v4 w4 hown u4; obtain ⟨mo', cm', rfl⟩ := (Row.ofOwns hown (by omega)).shape; obtain ⟨y0, y1, yl⟩ := box2 (u4.keeps K2.out (fun h => by have := h.1; omega)); obtain ⟨y2, y3⟩ := box2f (u4.keeps K2.out (fun h => by have := h.1; omega)))
          all_goals
            go_wp2
            have hset := Upd.setCell (S := fun k => k = w1.heap.size) w4 w1.heap.size 1 (.slice mo' (X.length + 1) cm') rfl
            have u4' : Upd (fun k => w1.heap.size + 1 ≤ k) wr w4 := (Upd.ofBelow al3).trans (u4.mono (fun k h => h.1))
            go_roundw
            case rel =>
              refine ⟨k + 1, mo', cm', X ++ [(a, s)], by omega, by go_num, ?_, ?_, hset.keeps (u4'.keeps G0.out (by omega)) (by omega), hset.keeps (u4'.keeps G1.out (by omega)) (by omega), ?_, ?_⟩
              · show _ = _
                rw [Hs.out, HX.out]
              · rw [wcells_snoc, List.length_append]
                exact RowA.keep (.inl hown) hset (fun k hk => by omega)
              · rw [List.length_append]
                exact row_set _ (u4'.keeps G2.out (by omega))
              · exact (hbel.trans (u4'.below hbel.size (fun k h => by omega))).trans (hset.below (by have := hbel.size; have := u4'.size; omega) (fun k h => by omega))
            case measure => simp [intOf]; omega
      · have hi2 : ¬ (k : Int) < (ks.length : Int) := by omega
        have Hs : Hid (selL wait ks (List.range (k + 1)) = selL wait ks (List.range k)) := by show _ = _; rw [List.range_succ, selL_no _ (keepAt_none hkl')]
        go_wp2
        go_roundw
        case rel => exact ⟨k + 1, mo, cm, X, by omega, by go_num, by rw [Hs.out]; exact HX, hrow, G0.out, G1.out, G2.out, hbel⟩
        case measure => simp [intOf]; omega
    · obtain rfl : k = wait.length := by omega
      go_wp2_with fail
      refine (specSecFlush_any _ kept X _ ⟨_, _, rfl, A1.out.keep (hbel.mono (Nat.le_refl _)), (hrow.row (by omega)).reads⟩ (fun s hs => by have := P3.out s hs; omega) (fun s hs => by rw [HX.out] at hs; have := (P4.out s (selL_mem (Nat.le_refl _) hs)).2.2; omega)).mono ?_
      rw [HX.out, HC.out]
      rintro e w5 ⟨v5, rfl, d5, b5⟩
      obtain ⟨jo1, jc1, jo2, jc2, rfl⟩ := d5.shape
      have hbz : w1.heap.size + 1 ≤ wr.heap.size := tl
      obtain ⟨q0, q1, ql⟩ := box2 (bKeeps b5 G1.out)
      obtain ⟨q2, q3⟩ := box2f (bKeeps b5 G1.out)
      clear p0 p1 pl t0 t1 tl t2 t3
      go_wp2
      have hu := upd_set2 w5 (w.heap.size + 1) 0 1 (.slice jo1 (cutK kept wait ks).length jc1) (.slice jo2 0 jc2)
      have hsz := hbel.size
      refine bodyPost_ret (v := .agg #[.slice jo1 (cutK kept wait ks).length jc1, .slice jo2 0 jc2]) (by simp [results, Tryd.results105, go_sem, q0, q1]) rfl ⟨_, rfl, ?_, ?_⟩
      · exact (d5.keep hu (fun k h => by omega)).mono (fun k _ h => by omega)
      · exact (bAll hbel b5).trans (hu.below (by have := b5.size; omega) (by intro k hk; omega))

set_option maxHeartbeats 400000 in
theorem specSecCut_no (v : Value) (kept : List ByteArray) (wait : List (Int × ByteArray)) (ko : Option Addr) (kc : Nat) (ks : List Int) (w : World) (hr : DiskR w v kept wait) (hs : ∀ s ∈ kept, s.size ≤ 9223372036854775807) (hs' : ∀ s ∈ wait, s.2.size ≤ 9223372036854775807) (hok : okB kept wait = false) :
    Calls Tryd.prog 105 #[v, .slice ko ks.length kc] w fun e w' => ∃ v', e = .returned v' ∧ DiskO w' (fun k => w.heap.size ≤ k) v' (cutK kept wait ks) [] ∧ Below w.heap.size w w' := by
  have Hr := hide hr
  obtain ⟨ak, aw, rfl, ⟨ao, ca, rfl, -⟩, ⟨bo, cb, rfl, -⟩⟩ := hr
  have hal : Below w.heap.size w ((w.alloc (.cells #[.slice ao kept.length ca, .slice bo wait.length cb] 31)).alloc (.cells #[.slice none 0 0, .slice none 0 0] 31)) := ((Below.refl _ _).alloc (Nat.le_refl _) _).alloc (by simp) _
  have H1 := hide (al2_1 w (.cells #[.slice ao kept.length ca, .slice bo wait.length cb] 31) (.cells #[.slice none 0 0, .slice none 0 0] 31))
  have Hs := hide hs
  have Hs' := hide hs'
  clear hs hs'
  have HX : Hid (cutK kept wait ks = []) := by show _ = _; simp [cutK, hok]
  go_enter Tryd.func105, Tryd.ntmps105
  go_wp2_with fail
  refine (specSecOk_any _ kept wait _ (Hr.out.keep hal) Hs.out Hs'.out).mono ?_
  rintro e w1 ⟨rfl, b1⟩
  rw [hok]
  have B1 := bKeeps b1 H1.out
  obtain ⟨q0, q1, ql⟩ := box2 B1
  obtain ⟨q2, q3⟩ := box2f B1
  clear B1
  go_wp2
  have hu := upd_set2 w1 (w.heap.size + 1) 0 1 (.slice none 0 0) (.slice none 0 0)
  refine bodyPost_ret (v := .agg #[.slice none 0 0, .slice none 0 0]) (by simp [results, Tryd.results105, go_sem, q0, q1]) rfl ⟨_, rfl, ?_, (bAll hal b1).trans (hu.below (by have := b1.size; simp only [World.size_alloc] at this; omega) (by intro k hk; omega))⟩
  rw [HX.out]
  exact ⟨_, _, rfl, Row.nil _ _ _ _, Row.nil _ _ _ _⟩

theorem specSecCut_any (v : Value) (kept : List ByteArray) (wait : List (Int × ByteArray)) (ko : Option Addr) (kc : Nat) (ks : List Int) (w : World) (hr : DiskR w v kept wait) (hks : RowR w 1 (.slice ko ks.length kc) ks.length (ks.map (Value.int .i64))) (hs : ∀ s ∈ kept, s.size ≤ 9223372036854775807) (hs' : ∀ s ∈ wait, s.2.size ≤ 9223372036854775807) :
    Calls Tryd.prog 105 #[v, .slice ko ks.length kc] w fun e w' => ∃ v', e = .returned v' ∧ DiskO w' (fun k => w.heap.size ≤ k) v' (cutK kept wait ks) [] ∧ Below w.heap.size w w' := by
  cases hok : okB kept wait
  · exact specSecCut_no v kept wait ko kc ks w hr hs hs' hok
  · exact specSecCut_yes v kept wait ko kc ks w hr hks hok

end Go.Proofs.YtapflnabiobonaaDoor

/- What the program reads of a log: contracts; no statement of the seat is proved here. -/
namespace Go.Proofs.YtapflnabiobonaaDoor
open Go.RowKit

theorem bytes_beq (s t : ByteArray) : (s == t) = decide (s = t) := by
  cases s with | mk a => cases t with | mk b =>
  show (a == b) = _
  by_cases h : a = b
  · subst h; simp
  · simp [h]

/-- The number in a text's first byte. -/
def byte0 (s : ByteArray) : Nat := (s.data[0]?.getD 0).toNat

theorem byte0_eq {s : ByteArray} (h : 0 < s.size) : byte0 s = (s[0]'h).toNat := by
  cases s with | mk a =>
  have h' : 0 < a.size := h
  simp only [byte0, Array.getElem?_eq_getElem h', Option.getD_some]
  rfl

set_option maxHeartbeats 400000 in
theorem signed_any (so no : Option Addr) (sc m nc : Nat) (ss : List ByteArray) (s : ByteArray) (w : World) (hr : RowR w 1 (.slice so ss.length sc) ss.length (ss.map Value.string)) (h0 : ss[0]? = some s) :
    Calls Tryd.prog 44 #[.agg #[.slice so ss.length sc, .slice no m nc]] w fun e w' => e = .returned (.bool (!s.toList.isEmpty)) ∧ Below w.heap.size w w' := by
  have hl : 0 < ss.length := (List.getElem?_eq_some_iff.1 h0).1
  obtain ⟨b, off, cap, u, ev, hb, hu, hcu⟩ := RowR.ptr hr 0 hl
  simp only [Value.slice.injEq, true_and] at ev
  obtain ⟨rfl, rfl⟩ := ev
  obtain rfl : u = .string s := by rw [List.getElem?_map, h0] at hu; simpa using hu.symm
  have al : Below w.heap.size w (w.alloc (.cells #[.slice (some ⟨b, off, none⟩) ss.length sc, .slice no m nc] 69)) := (Below.refl _ _).alloc (Nat.le_refl _) _
  have f1 : (w.alloc (.cells #[.slice (some ⟨b, off, none⟩) ss.length sc, .slice no m nc] 69)).cell? ⟨b, off, none⟩ = some (.string s) := (al.cell (p := ⟨b, off, none⟩) hb).trans (by simpa using hcu)
  have hi : (0 : Int) < (ss.length : Int) := by omega
  clear hu hcu hr
  go_enter Tryd.func44, Tryd.ntmps44
  go_wp2
  go_ret
  exact ⟨rfl, al⟩

theorem toList_len (s : ByteArray) : s.toList.length = s.size := by
  cases s with | mk a =>
  rw [ByteArray.toList_eq]
  simp [ByteArray.size]
theorem size_pos {s : ByteArray} (h : s.toList.isEmpty = false) : 0 < s.size := by
  rcases Nat.eq_zero_or_pos s.size with h0 | h0
  · have : s.toList = [] := by
      apply List.eq_nil_of_length_eq_zero
      have e := toList_len s
      omega
    rw [this] at h
    cases h
  · exact h0

/-- How many sectors of the log a sign speaks of, and what is wrong with it. -/
def comN (s : ByteArray) : Nat := if s.size = 1 ∧ byte0 s ≤ 250 then byte0 s else 0
def comE (s : ByteArray) : Value := if s.size = 0 ∨ (s.size = 1 ∧ byte0 s ≤ 250) then .nilIface else .iface 104 (.agg #[.int .i64 0])

set_option maxRecDepth 10000 in
set_option maxHeartbeats 1000000 in
theorem committed_any (so no : Option Addr) (sc m nc : Nat) (ss : List ByteArray) (s : ByteArray) (w : World) (hr : RowR w 1 (.slice so ss.length sc) ss.length (ss.map Value.string)) (h0 : ss[0]? = some s) (hz : s.size ≤ 9223372036854775807) :
    Calls Tryd.prog 89 #[.agg #[.slice so ss.length sc, .slice no m nc]] w fun e w' =>
      e = .returned (.tuple #[.int .i64 (comN s), comE s]) ∧ Below w.heap.size w w' := by
  have hl : 0 < ss.length := (List.getElem?_eq_some_iff.1 h0).1
  obtain ⟨b, off, cap, u, ev, hb, hu, hcu⟩ := RowR.ptr hr 0 hl
  simp only [Value.slice.injEq, true_and] at ev
  obtain ⟨rfl, rfl⟩ := ev
  obtain rfl : u = .string s := by rw [List.getElem?_map, h0] at hu; simpa using hu.symm
  have al : Below w.heap.size w (w.alloc (.cells #[.slice (some ⟨b, off, none⟩) ss.length sc, .slice no m nc] 69)) := (Below.refl _ _).alloc (Nat.le_refl _) _
  have H1 := hide (al1_0 w (.cells #[.slice (some ⟨b, off, none⟩) ss.length sc, .slice no m nc] 69))
  have Hr := hide (hr.keep al)
  have hi : (0 : Int) < (ss.length : Int) := by omega
  have hcu' : w.cell? ⟨b, off, none⟩ = some (.string s) := by simpa using hcu
  have Hcu := hide hcu'
  clear hu hcu hr hcu'
  go_enter Tryd.func89, Tryd.ntmps89
  go_wp2_with fail
  refine (signed_any _ no sc m nc ss s _ Hr.out h0).mono ?_
  rintro e w1 ⟨rfl, b1⟩
  have c1 := bAll al b1
  obtain ⟨p0, p1, pl⟩ := box2 (bKeeps b1 H1.out)
  have f1 : w1.cell? ⟨b, off, none⟩ = some (.string s) := (c1.cell (p := ⟨b, off, none⟩) hb).trans Hcu.out
  cases he : s.toList.isEmpty
  · have hp := size_pos he
    by_cases h1 : (s.size : Int) > 1
    · have HN : Hid (comN s = 0 ∧ comE s = .iface 104 (.agg #[.int .i64 0])) := by
        constructor
        · simp [comN, show ¬ s.size = 1 by omega]
        · simp [comE, show ¬ s.size = 1 by omega, show ¬ s.size = 0 by omega]
      go_wp2
      go_ret2
      rw [HN.out.1, HN.out.2]
      exact ⟨rfl, c1⟩
    · have h1' : s.size = 1 := by omega
      obtain ⟨y, hy⟩ : ∃ y, (s[0]'hp).toNat = y := ⟨_, rfl⟩
      have hy8 : (y : Int) < 256 := by have := (s[0]'hp).toNat_lt; omega
      have hyb : byte0 s = y := by rw [← hy]; exact byte0_eq hp
      by_cases h2 : (y : Int) ≤ 250
      · have HN : Hid (comN s = y ∧ comE s = .nilIface) := by
          constructor
          · simp only [comN, h1', hyb]; rw [if_pos (by simp; omega)]
          · simp only [comE, h1', hyb]; rw [if_pos (by simp; omega)]
        clear hyb
        go_wp2
        go_ret2
        rw [HN.out.1, HN.out.2]
        exact ⟨rfl, c1⟩
      · have HN : Hid (comN s = 0 ∧ comE s = .iface 104 (.agg #[.int .i64 0])) := by
          constructor
          · simp only [comN, h1', hyb]; rw [if_neg (by simp; omega)]
          · simp only [comE, h1', hyb]; rw [if_neg (by simp; omega)]
        clear hyb
        go_wp2
        go_ret2
        rw [HN.out.1, HN.out.2]
        exact ⟨rfl, c1⟩
  · have h0s : s.size = 0 := by
      have e := toList_len s
      have := List.isEmpty_iff.1 he
      rw [this] at e
      simpa using e.symm
    have HN : Hid (comN s = 0 ∧ comE s = .nilIface) := by
      constructor
      · simp [comN, h0s]
      · simp [comE, h0s]
    go_wp2
    go_ret2
    rw [HN.out.1, HN.out.2]
    exact ⟨rfl, c1⟩

end Go.Proofs.YtapflnabiobonaaDoor

/- What the program reads of a sector of the log: contracts; no statement of the seat is proved here. -/
namespace Go.Proofs.YtapflnabiobonaaDoor
open Go.RowKit

/-- Whether a sector of the log can be read; which home; its text. -/
def noteB (s : ByteArray) : Bool := decide (0 < s.size ∧ byte0 s < 250)
def rest1 (s : ByteArray) : ByteArray := s.extract 1 s.size
def noteH (s : ByteArray) : Nat := if noteB s = true then byte0 s else 0
def noteT (s : ByteArray) : ByteArray := if noteB s = true then rest1 s else ⟨#[]⟩
def noteE (at_ : Nat) (s : ByteArray) : Value := if noteB s = true then .nilIface else .iface 104 (.agg #[.int .i64 (at_ : Nat)])

theorem note_no {s : ByteArray} (i : Nat) (h : ¬ (0 < s.size ∧ byte0 s < 250)) : noteH s = 0 ∧ noteT s = ⟨#[]⟩ ∧ noteE i s = .iface 104 (.agg #[.int .i64 (i : Nat)]) := by
  have h' : noteB s = false := by simp only [noteB, decide_eq_false_iff_not]; exact h
  simp [noteH, noteT, noteE, h']
theorem note_yes {s : ByteArray} (i : Nat) (h : 0 < s.size ∧ byte0 s < 250) : noteH s = byte0 s ∧ noteT s = rest1 s ∧ noteE i s = .nilIface := by
  have h' : noteB s = true := by simp only [noteB, decide_eq_true_eq]; exact h
  simp [noteH, noteT, noteE, h']

set_option maxRecDepth 10000 in
set_option maxHeartbeats 1000000 in
theorem note_any (so no : Option Addr) (sc m nc i : Nat) (ss : List ByteArray) (s : ByteArray) (w : World) (hr : RowR w 1 (.slice so ss.length sc) ss.length (ss.map Value.string)) (h0 : ss[i]? = some s) (hz : s.size ≤ 9223372036854775807) :
    Calls Tryd.prog 90 #[.agg #[.slice so ss.length sc, .slice no m nc], .int .i64 (i : Nat)] w fun e w' =>
      e = .returned (.tuple #[.agg #[.int .i64 (noteH s : Nat), .string (noteT s)], noteE i s]) ∧ Below w.heap.size w w' := by
  have hl : i < ss.length := (List.getElem?_eq_some_iff.1 h0).1
  have hln : ss.length ≤ 9223372036854775807 := by obtain ⟨_, _, _, h, _⟩ := hr; exact h
  obtain ⟨b, off, cap, u, ev, hb, hu, hcu⟩ := RowR.ptr hr i hl
  simp only [Value.slice.injEq, true_and] at ev
  obtain ⟨rfl, rfl⟩ := ev
  obtain rfl : u = .string s := by rw [List.getElem?_map, h0] at hu; simpa using hu.symm
  have al1 : Below w.heap.size w (w.alloc (.cells #[.slice (some ⟨b, off, none⟩) ss.length sc, .slice no m nc] 69)) := (Below.refl _ _).alloc (Nat.le_refl _) _
  have fin : ∀ o : Obj, Below w.heap.size w ((w.alloc (.cells #[.slice (some ⟨b, off, none⟩) ss.length sc, .slice no m nc] 69)).alloc o) := fun o => al1.alloc (by simp) o
  have f1 : ((w.alloc (.cells #[.slice (some ⟨b, off, none⟩) ss.length sc, .slice no m nc] 69)).alloc (.cells #[.int .i64 0, .string ⟨#[]⟩] 109)).cell? ⟨b, off + i, none⟩ = some (.string s) := ((fin _).cell (p := ⟨b, off + i, none⟩) hb).trans hcu
  have hi : (i : Int) < (ss.length : Int) := by omega
  clear hu hr
  cases he : s.toList.isEmpty
  · have hp := size_pos he
    obtain ⟨y, hy⟩ : ∃ y, (s[0]'hp).toNat = y := ⟨_, rfl⟩
    have hy8 : (y : Int) < 256 := by have := (s[0]'hp).toNat_lt; omega
    have hyb : byte0 s = y := by rw [← hy]; exact byte0_eq hp
    by_cases h2 : (y : Int) ≥ 250
    · have HN := hide (note_no (s := s) i (by rw [hyb]; omega))
      clear hyb
      go_enter Tryd.func90, Tryd.ntmps90
      go_wp2
      refine bodyPost_ret (v := .tuple #[.agg #[.int .i64 0, .string ⟨#[]⟩], .iface 104 (.agg #[.int .i64 (i : Nat)])]) (by simp [results, Tryd.results90, go_sem]) rfl ⟨?_, fin _⟩
      rw [HN.out.1, HN.out.2.1, HN.out.2.2]
      rfl
    · have HN := hide (note_yes (s := s) i (by rw [hyb]; omega))
      have HY := hide hyb
      clear hyb
      go_enter Tryd.func90, Tryd.ntmps90
      have h1s : (1 : Int) ≤ (s.size : Int) := by omega
      go_wp2
      go_region
      all_goals
        try go_wp2
        refine bodyPost_ret (v := .tuple #[.agg #[.int .i64 (y : Nat), .string (rest1 s)], .nilIface]) (by simp [results, Tryd.results90, go_sem, rest1]) rfl ⟨?_, (fin _).drew⟩
        rw [HN.out.1, HN.out.2.1, HN.out.2.2, HY.out]
  · have h0s : s.size = 0 := by
      have e := toList_len s
      have := List.isEmpty_iff.1 he
      rw [this] at e
      simpa using e.symm
    have HN := hide (note_no (s := s) i (by omega))
    clear h0s
    go_enter Tryd.func90, Tryd.ntmps90
    go_wp2
    refine bodyPost_ret (v := .tuple #[.agg #[.int .i64 0, .string ⟨#[]⟩], .iface 104 (.agg #[.int .i64 (i : Nat)])]) (by simp [results, Tryd.results90, go_sem]) rfl ⟨?_, fin _⟩
    rw [HN.out.1, HN.out.2.1, HN.out.2.2]
    rfl

end Go.Proofs.YtapflnabiobonaaDoor

/- What the specification reads of a log: contracts; no statement of the seat is proved here. -/
namespace Go.Proofs.YtapflnabiobonaaDoor
open Go.RowKit

/-- The sectors of the log that a sign speaks of. -/
def logS (s : ByteArray) (ss : List ByteArray) : List ByteArray := (ss.drop 1).take (comN s)
/-- Whether a log can be read. -/
def signB (s : ByteArray) : Bool := decide (s.size = 0 ∨ (s.size = 1 ∧ byte0 s ≤ 250))
def logB (s : ByteArray) (ss : List ByteArray) : Bool := signB s && (logS s ss).all noteB
/-- What a log says. -/
def noteW (s : ByteArray) : Int × ByteArray := ((byte0 s : Nat), rest1 s)
def logL (s : ByteArray) (ss : List ByteArray) : List (Int × ByteArray) := (logS s ss).map noteW

theorem noteB_of {s : ByteArray} (h1 : 0 < s.size) (h2 : byte0 s < 250) : noteB s = true := by simp only [noteB, decide_eq_true_eq]; exact ⟨h1, h2⟩
theorem noteB_not {s : ByteArray} (h : ¬ (0 < s.size ∧ byte0 s < 250)) : noteB s = false := by simp only [noteB, decide_eq_false_iff_not]; exact h

theorem log_no {s t : ByteArray} {ss : List ByteArray} {y k : Nat} (hsg : signB s = true) (hl : logS s ss = (ss.drop 1).take y) (hk : k < y) (ht : (ss.drop 1).take (k + 1) = (ss.drop 1).take k ++ [t]) (hn : noteB t = false) : logB s ss = false := by
  have hm : t ∈ (ss.drop 1).take y := by
    have h1 : t ∈ (ss.drop 1).take (k + 1) := by rw [ht]; simp
    have h2 : (ss.drop 1).take (k + 1) = ((ss.drop 1).take y).take (k + 1) := by rw [List.take_take]; congr 1; omega
    rw [h2] at h1
    exact List.mem_of_mem_take h1
  simp only [logB, hsg, Bool.true_and, hl, List.all_eq_false]
  exact ⟨t, hm, by simp [hn]⟩

set_option maxRecDepth 100000 in
set_option maxHeartbeats 4000000 in
theorem specL2Logged_any (so : Option Addr) (sc : Nat) (ss : List ByteArray) (s : ByteArray) (w : World) (hr : RowR w 1 (.slice so ss.length sc) ss.length (ss.map Value.string)) (h0 : ss[0]? = some s) (hlen : 251 ≤ ss.length) (hlen' : ss.length ≤ 512) (hz : ∀ t ∈ ss, t.size ≤ 16) :
    Calls Tryd.prog 35 #[.slice so ss.length sc] w fun e w' => ∃ v, e = .returned (.tuple #[v, .bool (logB s ss)]) ∧ (∃ ao n cap, v = .slice ao n cap) ∧ (logB s ss = true → RowA w' w.heap.size 63 2 v (logL s ss).length (wcells (logL s ss))) ∧ Below w.heap.size w w' := by
  obtain ⟨b, off, cap, u, ev, hb, hu, hcu⟩ := RowR.ptr hr 0 (by omega)
  simp only [Value.slice.injEq, true_and] at ev
  obtain ⟨rfl, rfl⟩ := ev
  obtain rfl : u = .string s := by rw [List.getElem?_map, h0] at hu; simpa using hu.symm
  have hsz : s.size ≤ 16 := hz s (List.mem_of_getElem? h0)
  have hi0 : (0 : Int) < (ss.length : Int) := by omega
  obtain ⟨i1, gi, gz0, gz1, gz2⟩ := info_parts infoWr
  have hcu' : w.cell? ⟨b, off, none⟩ = some (.string s) := by simpa using hcu
  have al0 := fun o : Obj => (Below.refl w.heap.size w).alloc (Nat.le_refl _) o
  have f0 : ∀ o : Obj, (w.alloc o).cell? ⟨b, off, none⟩ = some (.string s) := fun o => ((al0 o).cell (p := ⟨b, off, none⟩) hb).trans hcu'
  have HR := hide hr
  have HZ := hide hz
  clear hu hcu hr hz
  cases he : s.toList.isEmpty
  · have hp := size_pos he
    obtain ⟨y, hy⟩ : ∃ y, (s[0]'hp).toNat = y := ⟨_, rfl⟩
    have hy8 : (y : Int) < 256 := by have := (s[0]'hp).toNat_lt; omega
    have hyb : byte0 s = y := by rw [← hy]; exact byte0_eq hp
    by_cases h1 : s.size = 1
    · by_cases h2 : (y : Int) > 250
      · have HN : Hid (logB s ss = false) := by
          have : signB s = false := by simp only [signB, decide_eq_false_iff_not, hyb, h1]; simp; omega
          show _ = _
          simp [logB, this]
        clear hyb
        go_enter Tryd.func35, Tryd.ntmps35
        go_wp2
        go_ret2
        rw [HN.out]
        exact ⟨_, rfl, ⟨_, _, _, rfl⟩, (fun h => by cases h), al0 _⟩
      · have hcn : comN s = y := by simp only [comN, h1, hyb]; rw [if_pos (by simp; omega)]
        have hsg : signB s = true := by simp only [signB, decide_eq_true_eq, hyb, h1]; simp; omega
        have HL : Hid (∀ _ : Nat, logS s ss = (ss.drop 1).take y) := by intro _; simp only [logS, hcn]
        have HSG := hide hsg
        clear hyb hcn hsg
        go_enter Tryd.func35, Tryd.ntmps35
        go_wp2
        go_loopw [4, 6] (fun ov kv wr => ∃ (k : Nat) (ao : Option Addr) (ca : Nat), k ≤ y ∧ kv = .int .i64 k ∧ ov = .slice ao k ca ∧ (∀ t ∈ (ss.drop 1).take k, noteB t = true) ∧
            RowA wr w.heap.size 63 2 (.slice ao k ca) k (wcells (((ss.drop 1).take k).map noteW)) ∧ Below w.heap.size w wr) (fun _ kv _ => y - (intOf kv).toNat)
        case atStart => exact ⟨0, _, 0, Nat.zero_le _, rfl, rfl, by simp, .inr ⟨rfl, by simp [wcells], _, rfl⟩, al0 _⟩
        case round =>
          obtain ⟨k, ao, ca, hk, rfl, rfl, hall, hrow, hbel⟩ := hrel
          have HALL := hide hall
          have hy2 : y ≤ 250 := by omega
          have HK : Hid ((((ss.drop 1).take k).map noteW).length = k) := by show _ = _; rw [List.length_map, List.length_take, List.length_drop]; omega
          clear hall
          by_cases hlt : k < y
          · have hlt' : (k : Int) < (y : Int) := by omega
            obtain ⟨b', off', cap', u, ev, hb', hu, hcu⟩ := RowR.ptr HR.out (1 + k) (by omega)
            simp only [Value.slice.injEq, Option.some.injEq, Addr.mk.injEq, and_true, true_and] at ev
            obtain ⟨⟨rfl, rfl⟩, rfl⟩ := ev
            obtain ⟨t, ht⟩ := getAt ss (1 + k) (by omega)
            obtain rfl : u = .string t := by rw [List.getElem?_map, ht] at hu; simpa using hu.symm
            have htz : t.size ≤ 16 := HZ.out t (List.mem_of_getElem? ht)
            have f1 : wr.cell? ⟨b, off + (1 + k), none⟩ = some (.string t) := (hbel.cell (p := ⟨b, off + (1 + k), none⟩) hb').trans hcu
            have hi1 : (1 : Int) + (k : Int) < (ss.length : Int) := by omega
            have htake : (ss.drop 1).take (k + 1) = (ss.drop 1).take k ++ [t] := by rw [List.take_add_one, List.getElem?_drop, ht]; rfl
            have HTK := hide htake
            clear hu hcu htake f0 hcu'
            cases het : t.toList.isEmpty
            · have hpt := size_pos het
              have hpt' : ((t.size : Int) == 0) = false := by simp only [beq_eq_false_iff_ne, ne_eq]; omega
              obtain ⟨z, hz⟩ : ∃ z, (t[0]'hpt).toNat = z := ⟨_, rfl⟩
              have hz8 : (z : Int) < 256 := by have := (t[0]'hpt).toNat_lt; omega
              have hzb : byte0 t = z := by rw [← hz]; exact byte0_eq hpt
              by_cases h3 : (z : Int) ≥ 250
              · have HF := hide (log_no HSG.out (HL.out 0) hlt HTK.out (noteB_not (s := t) (by rw [hzb]; omega)))
                clear hzb
                go_wp2
                go_ret2
                rw [HF.out]
                exact ⟨_, rfl, ⟨_, _, _, rfl⟩, (fun h => by cases h), hbel⟩
              · have hnb := noteB_of hpt (by rw [hzb]; omega : byte0 t < 250)
                have hnw : noteW t = ((z : Int), rest1 t) := by simp only [noteW, hzb]
                have zw : IntKind.i64.wrap (z : Int) = (z : Int) := by simp [IntKind.wrap, IntKind.bits, IntKind.signed]; omega
                have ZW := hide zw
                clear zw
                have HNB := hide hnb
                have HNW := hide hnw
                have h1t : (1 : Int) ≤ (t.size : Int) := by omega
                clear hzb hnb hnw
                have al2 : Below wr.heap.size wr (wr.drew.alloc (.cells #[.int .i64 (IntKind.i64.wrap (z : Int)), .string (t.extract 1 t.size)] 63)) := ((Below.refl _ _).drew).alloc (Nat.le_refl _) _
                have N3 := hide (new_cells wr.drew (IntKind.i64.wrap (z : Int)) (t.extract 1 t.size) 63)
                have s3 := hrow.keepB al2
                have zz := hbel.size
                have hbs : w.heap.size ≤ (wr.drew.alloc (.cells #[.int .i64 (IntKind.i64.wrap (z : Int)), .string (t.extract 1 t.size)] 63)).heap.size := by have := al2.size; omega
                go_wp2
                go_region_law (refine step_appendA rfl _ _ 29 rfl w.heap.size 63 i1 (.agg #[.int .i64 0, .string ⟨#[]⟩]) 2 24 Tryd.underlying29 gi gz0 gz1 gz2 rfl (by decide) _ k _ rfl s3 ⟨wr.heap.size, 0, none⟩ 1 1 [.int .i64 (IntKind.i64.wrap (z : Int)), .string (t.extract 1 t.size)] rfl rfl N3.out (new_one _ _) (by decide) (by unfold maxLen; omega) (by omega) hbs ?_; intro v4 w4 hown u4; obtain ⟨mo', cm', rfl⟩ := (Row.ofOwns hown (by omega)).shape)
                all_goals
                  have b4 : Below w.heap.size w w4 := hbel.trans ((al2.mono zz).trans (u4.below hbs (fun k h => h.1)))
                  go_wp2
                  go_roundw
                  case rel =>
                    refine ⟨k + 1, mo', cm', by omega, by go_num, rfl, ?_, ?_, b4⟩
                    · intro x hx
                      rw [HTK.out] at hx
                      rcases List.mem_append.1 hx with hx | hx
                      · exact HALL.out x hx
                      · rw [List.mem_singleton] at hx
                        rw [hx]
                        exact HNB.out
                    · rw [HTK.out, List.map_append, List.map_cons, List.map_nil, HNW.out, wcells_snoc]
                      rw [ZW.out] at hown
                      exact .inl hown
                  case measure => simp [intOf]; omega
            · have h0t : t.size = 0 := by
                have e := toList_len t
                have := List.isEmpty_iff.1 het
                rw [this] at e
                simpa using e.symm
              have HF := hide (log_no HSG.out (HL.out 0) hlt HTK.out (noteB_not (s := t) (by omega)))
              go_wp2
              go_ret2
              rw [HF.out]
              exact ⟨_, rfl, ⟨_, _, _, rfl⟩, (fun h => by cases h), hbel⟩
          · obtain rfl : k = y := by omega
            have HF : Hid (logB s ss = true ∧ logL s ss = ((ss.drop 1).take k).map noteW) := by
              have e := HL.out 0
              constructor
              · simp only [logB, HSG.out, Bool.true_and, e, List.all_eq_true]
                exact HALL.out
              · simp only [logL, e]
            go_wp2
            go_ret2
            rw [HF.out.1, HF.out.2]
            refine ⟨_, rfl, ⟨_, _, _, rfl⟩, fun _ => ?_, hbel⟩
            rw [HK.out]
            exact hrow
    · have HN : Hid (logB s ss = false) := by
        have : signB s = false := by simp only [signB, decide_eq_false_iff_not]; omega
        show _ = _
        simp [logB, this]
      have h1' : ((s.size : Int) != 1) = true := by simp; omega
      clear hyb
      go_enter Tryd.func35, Tryd.ntmps35
      go_wp2
      go_ret2
      rw [HN.out]
      exact ⟨_, rfl, ⟨_, _, _, rfl⟩, (fun h => by cases h), al0 _⟩
  · have h0s : s.size = 0 := by
      have e := toList_len s
      have := List.isEmpty_iff.1 he
      rw [this] at e
      simpa using e.symm
    have HN : Hid (logB s ss = true ∧ logL s ss = []) := by
      have hc : comN s = 0 := by simp [comN, h0s]
      constructor
      · simp [logB, signB, h0s, logS, hc]
      · simp [logL, logS, hc]
    clear h0s
    go_enter Tryd.func35, Tryd.ntmps35
    go_wp2
    go_ret2
    rw [HN.out.1, HN.out.2]
    exact ⟨_, rfl, ⟨_, _, _, rfl⟩, (fun _ => .inr ⟨rfl, rfl, _, rfl⟩), al0 _⟩

end Go.Proofs.YtapflnabiobonaaDoor

/- What the specification reads of homes: contracts; no statement of the seat is proved here. -/
namespace Go.Proofs.YtapflnabiobonaaDoor
open Go.RowKit

/-- Whether a disk is one with transactions. -/
def formB (kept : List ByteArray) (wait : List (Int × ByteArray)) : Bool := okB kept wait && decide (kept.length = 501)

set_option maxRecDepth 10000 in
set_option maxHeartbeats 1000000 in
theorem l2Form_any (v : Value) (kept : List ByteArray) (wait : List (Int × ByteArray)) (w : World) (hr : DiskR w v kept wait) (hs : ∀ s ∈ kept, s.size ≤ 9223372036854775807) (hs' : ∀ s ∈ wait, s.2.size ≤ 9223372036854775807) :
    Calls Tryd.prog 33 #[v] w fun e w' => e = .returned (.bool (formB kept wait)) ∧ Below w.heap.size w w' := by
  have Hr := hide hr
  obtain ⟨ak, aw, rfl, ⟨ao, ca, rfl, -⟩, ⟨bo, cb, rfl, -⟩⟩ := hr
  have hal : Below w.heap.size w (w.alloc (.cells #[.slice ao kept.length ca, .slice bo wait.length cb] 31)) := (Below.refl _ _).alloc (Nat.le_refl _) _
  have H0 := hide (al1_0 w (.cells #[.slice ao kept.length ca, .slice bo wait.length cb] 31))
  go_enter Tryd.func33, Tryd.ntmps33
  go_wp2_with fail
  refine (specSecOk_any _ kept wait _ (Hr.out.keep hal) hs hs').mono ?_
  rintro e w1 ⟨rfl, b1⟩
  have c1 := bAll hal b1
  obtain ⟨p0, p1, pl⟩ := box2 (bKeeps b1 H0.out)
  cases hok : okB kept wait
  · have HF : Hid (formB kept wait = false) := by show _ = _; simp [formB, hok]
    go_wp2
    go_ret
    rw [HF.out]
    exact ⟨rfl, c1⟩
  · by_cases h5 : kept.length = 501
    · have HF : Hid (formB kept wait = true) := by show _ = _; simp [formB, hok, h5]
      have h5' : ((kept.length : Int) == 501) = true := by simp [h5]
      go_wp2
      go_ret
      rw [HF.out]
      exact ⟨rfl, c1⟩
    · have HF : Hid (formB kept wait = false) := by show _ = _; simp [formB, h5]
      have h5' : ((kept.length : Int) == 501) = false := by simp only [beq_eq_false_iff_ne, ne_eq]; omega
      go_wp2
      go_ret
      rw [HF.out]
      exact ⟨rfl, c1⟩

theorem l2Home_any (a : Int) (w : World) (h0 : 0 ≤ a) (h1 : a ≤ 1000) : Calls Tryd.prog 36 #[.int .i64 a] w fun e w' => e = .returned (.int .i64 (251 + a)) ∧ w' = w := by
  go_enter Tryd.func36, Tryd.ntmps36
  go_wp2
  go_ret
  exact ⟨by first | rfl | (simp; omega), rfl⟩

end Go.Proofs.YtapflnabiobonaaDoor

/- The specification's reader of bytes, from which inputs are drawn: contracts; no statement of the seat is proved here. -/
namespace Go.Proofs.YtapflnabiobonaaDoor
open Go.RowKit

/-- A reader at a place: it reads bytes that lay there when the law began. -/
def Rd (w0 w : World) (R p : Nat) : Prop :=
  ∃ (bo : Option Addr) (n cap : Nat) (bs : List Nat), n ≤ 2000 ∧ RowR w0 1 (.slice bo n cap) n (bs.map fun b : Nat => Value.int .u8 (b : Int)) ∧ (∀ b ∈ bs, b < 256) ∧
    w.heap[R]? = some (.cells #[.slice bo n cap, .int .i64 (p : Nat)] 120 (0, 0)) ∧ w0.heap.size ≤ R ∧ Below w0.heap.size w0 w

theorem Rd.keep {w0 w w' : World} {R p : Nat} {T : Nat → Prop} (h : Rd w0 w R p) (hu : Upd T w w') (hR : ¬ T R) (hT : ∀ k, T k → w0.heap.size ≤ k) : Rd w0 w' R p := by
  obtain ⟨bo, n, cap, bs, h1, h2, h3, h4, h5, h6⟩ := h
  exact ⟨bo, n, cap, bs, h1, h2, h3, hu.keeps h4 hR, h5, h6.trans (hu.below h6.size hT)⟩

theorem Rd.keepB {w0 w w' : World} {R p : Nat} (h : Rd w0 w R p) (hu : Below w.heap.size w w') : Rd w0 w' R p :=
  h.keep (T := fun _ => False) (Upd.ofBelow hu) (fun h => h) (fun _ h => h.elim)

theorem i64_xor_bound (a b : Nat) (ha : a < 4611686018427387904) (hb : b < 4611686018427387904) : ∃ c : Nat, c < 4611686018427387904 ∧ bits .xor .i64 (a : Int) (b : Int) = (c : Int) := by
  have hx : a ^^^ b < 2 ^ 62 := Nat.xor_lt_two_pow ha hb
  refine ⟨a ^^^ b, hx, ?_⟩
  have h1 : (BitVec.ofInt 64 (a : Int)).toNat = a := by
    rw [BitVec.ofInt_natCast, BitVec.toNat_ofNat]; exact Nat.mod_eq_of_lt (by omega)
  have h2 : (BitVec.ofInt 64 (b : Int)).toNat = b := by
    rw [BitVec.ofInt_natCast, BitVec.toNat_ofNat]; exact Nat.mod_eq_of_lt (by omega)
  show IntKind.i64.wrap ((BitVec.ofInt 64 (a : Int) ^^^ BitVec.ofInt 64 (b : Int)).toNat : Int) = _
  rw [BitVec.toNat_xor, h1, h2]
  generalize a ^^^ b = c at hx
  simp [IntKind.wrap, IntKind.bits, IntKind.signed]
  omega

set_option maxRecDepth 100000 in
set_option maxHeartbeats 2000000 in
theorem pick_any (w0 w : World) (R p k : Nat) (hr : Rd w0 w R p) (hk : 1 ≤ k) (hk' : k ≤ 1073741824) (hp : p ≤ 1073741824) :
    Calls Tryd.prog 55 #[.pointer (some ⟨R, 0, none⟩), .int .i64 k] w fun e w' => ∃ q : Nat, e = .returned (.int .i64 q) ∧ q < k ∧ Rd w0 w' R (p + 1) ∧ Upd (fun j => j = R) w w' := by
  obtain ⟨bo, n, cap, bs, h1, h2, h3, h4, h5, h6⟩ := hr
  obtain ⟨p0, p1, pl⟩ := box2 h4
  obtain ⟨p2, p3⟩ := box2f h4
  have hu := Upd.setCell (S := fun j => j = R) w R 1 (.int .i64 ((p + 1 : Nat) : Int)) rfl
  have HR : Hid (Rd w0 (w.setCell ⟨R, 1, none⟩ (.int .i64 ((p + 1 : Nat) : Int))) R (p + 1)) := ⟨bo, n, cap, bs, h1, h2, h3, row_set _ h4, h5, h6.trans (hu.below h6.size (fun k h => by omega))⟩
  have H2 := hide h2
  have H3 := hide h3
  have H6 := hide h6
  clear h2 h3 h4 h6
  by_cases hn : n = 0
  · subst hn
    go_enter Tryd.func55, Tryd.ntmps55
    go_wp2
    go_ret
    exact ⟨0, rfl, by omega, by simpa using HR.out, by simpa using hu⟩
  · by_cases hpn : p < n
    · obtain ⟨kb, koff, kcap, u, ev, hkb, hu0, hcu⟩ : ∃ b off cap' u, Value.slice bo n cap = .slice (some ⟨b, off, none⟩) n cap' ∧ b < w0.heap.size ∧ (bs.map fun b : Nat => Value.int .u8 (b : Int))[p]? = some u ∧ w0.cell? ⟨b, off + p, none⟩ = some u := by
        obtain ⟨ao, cap', e, _, hl, h⟩ := H2.out
        simp only [Value.slice.injEq, true_and] at e
        obtain ⟨rfl, rfl⟩ := e
        obtain ⟨b, off, rfl, hc⟩ := h (by omega)
        obtain ⟨u, hu⟩ := getAt (bs.map fun b : Nat => Value.int .u8 (b : Int)) p (by omega)
        exact ⟨b, off, cap, u, rfl, World.block_lt_of_cell? w0 _ (hc p u hu), hu, hc p u hu⟩
      simp only [Value.slice.injEq, true_and] at ev
      obtain ⟨rfl, rfl⟩ := ev
      obtain ⟨y, hy, rfl⟩ : ∃ y : Nat, y < 256 ∧ u = .int .u8 (y : Int) := by
        rw [List.getElem?_map] at hu0
        cases hb : bs[p]? with
        | none => simp [hb] at hu0
        | some y => exact ⟨y, H3.out y (List.mem_of_getElem? hb), by simpa [hb] using hu0.symm⟩
      have hne : ¬ kb = R := by omega
      have fy : w.cell? ⟨kb, koff + p, none⟩ = some (.int .u8 (y : Int)) := (H6.out.cell (p := ⟨kb, koff + p, none⟩) hkb).trans hcu
      clear hu0 hcu
      have hi : (p : Int) < (n : Int) := by omega
      have hn' : ((n : Int) == 0) = false := by simpa using hn
      have hk1 : decide ((k : Int) < 1) = false := by simp; omega
      go_enter Tryd.func55, Tryd.ntmps55
      go_wp2
      go_ret
      exact ⟨y % k, by simp, Nat.mod_lt _ (by omega), by simpa using HR.out, by simpa using hu⟩
    · have cellAt : ∀ j, j < n → ∃ b off y : Nat, bo = some ⟨b, off, none⟩ ∧ b < w0.heap.size ∧ y < 256 ∧ w.cell? ⟨b, off + j, none⟩ = some (.int .u8 (y : Int)) := by
        intro j hj
        obtain ⟨ao, cap', e, _, hl, h⟩ := H2.out
        simp only [Value.slice.injEq, true_and] at e
        obtain ⟨rfl, rfl⟩ := e
        obtain ⟨b, off, rfl, hc⟩ := h (by omega)
        obtain ⟨u, hu⟩ := getAt (bs.map fun b : Nat => Value.int .u8 (b : Int)) j (by omega)
        have hb := World.block_lt_of_cell? w0 _ (hc j u hu)
        obtain ⟨y, hy, rfl⟩ : ∃ y : Nat, y < 256 ∧ u = .int .u8 (y : Int) := by
          rw [List.getElem?_map] at hu
          cases hb : bs[j]? with
          | none => simp [hb] at hu
          | some y => exact ⟨y, H3.out y (List.mem_of_getElem? hb), by simpa [hb] using hu.symm⟩
        exact ⟨b, off, y, rfl, hb, hy, (H6.out.cell (p := ⟨b, off + j, none⟩) hb).trans (hc j _ hu)⟩
      obtain ⟨j1, hj1, ej1⟩ : ∃ j1 : Nat, j1 < n ∧ (p : Int) % (n : Int) = (j1 : Int) := ⟨p % n, Nat.mod_lt _ (by omega), by simp⟩
      obtain ⟨j2, hj2, ej2⟩ : ∃ j2 : Nat, j2 < n ∧ ((p : Int) * 7 + 3) % (n : Int) = (j2 : Int) := ⟨(p * 7 + 3) % n, Nat.mod_lt _ (by omega), by simp⟩
      obtain ⟨d, hd, ed⟩ : ∃ d : Nat, d ≤ p ∧ (p : Int) / (n : Int) = (d : Int) := ⟨p / n, Nat.div_le_self _ _, by simp⟩
      obtain ⟨kb, koff, y1, rfl, hkb, hy1, f1⟩ := cellAt j1 hj1
      obtain ⟨kb', koff', y2, e, -, hy2, f2⟩ := cellAt j2 hj2
      simp only [Option.some.injEq, Addr.mk.injEq, and_true] at e
      obtain ⟨rfl, rfl⟩ := e
      have hne : ¬ kb = R := by omega
      clear cellAt
      have hi : ¬ (p : Int) < (n : Int) := by omega
      have hn' : ((n : Int) == 0) = false := by simpa using hn
      have hk1 : decide ((k : Int) < 1) = false := by simp; omega
      have hj1' : (j1 : Int) < (n : Int) := by omega
      have hj2' : (j2 : Int) < (n : Int) := by omega
      go_enter Tryd.func55, Tryd.ntmps55
      go_wp2
      go_quiet (fail)
      go_wp2
      obtain ⟨c, hc, hx⟩ := i64_xor_bound (y1 * 131 + y2 * 1117 + p * 29 + d * 53) ((y1 * 131 + y2 * 1117 + p * 29 + d * 53) / 64) (by omega) (by omega)
      push_cast at hx
      go_ret
      refine ⟨c % k, ?_, Nat.mod_lt _ (by omega), (by simpa using HR.out : Rd w0 _ R (p + 1)).keepB (below_drewN (Below.refl _ _) _), ⟨hu.os, hu.tape, hu.output, by simp, fun j hj hS => by simpa using hu.block j hj hS⟩⟩
      rw [hx, ← Int.ofNat_tmod]
      rfl

end Go.Proofs.YtapflnabiobonaaDoor

/- The specification's reader of bytes: how it is opened, texts that are drawn; contracts; no statement of the seat is proved here. -/
namespace Go.Proofs.YtapflnabiobonaaDoor
open Go.RowKit

/-- Bytes that came in. -/
structure BytesIn (w : World) (bo : Option Addr) (n cap : Nat) (bs : List Nat) : Prop where
  reads : RowR w 1 (.slice bo n cap) n (bs.map fun b : Nat => Value.int .u8 (b : Int))
  small : ∀ b ∈ bs, b < 256
  room : n ≤ cap

theorem BytesIn.keep {w w' : World} {bo : Option Addr} {n cap : Nat} {bs : List Nat} (h : BytesIn w bo n cap bs) (hb : Below w.heap.size w w') : BytesIn w' bo n cap bs := ⟨h.reads.keep hb, h.small, h.room⟩

set_option maxHeartbeats 1000000 in
theorem l6Open_any (w : World) (bo : Option Addr) (n cap : Nat) (bs : List Nat) (h : BytesIn w bo n cap bs) (hn : n ≤ 1048576) :
    Calls Tryd.prog 52 #[.slice bo n cap] w fun e w' => e = .returned (.pointer (some ⟨w.heap.size, 0, none⟩)) ∧ Rd w w' w.heap.size 0 ∧ Below w.heap.size w w' := by
  obtain ⟨h1, h2, h3⟩ := h
  have hal := fun o : Obj => (Below.refl w.heap.size w).alloc (Nat.le_refl _) o
  by_cases hbig : (n : Int) > 2000
  · have hR : RowR w 1 (.slice bo 2000 cap) 2000 ((bs.take 2000).map fun b : Nat => Value.int .u8 (b : Int)) := by
      obtain ⟨ao, cap', e, _, hl, h⟩ := h1
      simp only [Value.slice.injEq, true_and] at e
      obtain ⟨rfl, rfl⟩ := e
      refine ⟨bo, cap, rfl, by omega, by simp at hl ⊢; omega, fun _ => ?_⟩
      obtain ⟨b, off, rfl, hc⟩ := h (by omega)
      refine ⟨b, off, rfl, fun j u hj => hc j u ?_⟩
      have hj' := (List.getElem?_eq_some_iff.1 hj).1
      simp at hj'
      rw [List.getElem?_map, List.getElem?_take_of_lt (by omega)] at hj
      rw [List.getElem?_map]
      exact hj
    have hS : Hid (∀ b ∈ bs.take 2000, b < 256) := fun b hb => h2 b (List.mem_of_mem_take hb)
    obtain ⟨b, off, rfl⟩ : ∃ b off, bo = some ⟨b, off, none⟩ := by
      obtain ⟨ao, cap', e, _, hl, h⟩ := h1
      simp only [Value.slice.injEq, true_and] at e
      obtain ⟨rfl, rfl⟩ := e
      obtain ⟨b, off, rfl, _⟩ := h (by omega)
      exact ⟨b, off, rfl⟩
    have HRR := hide hR
    clear hR h1 h2
    have hc : (2000 : Int) ≤ (cap : Int) := by omega
    go_enter Tryd.func52, Tryd.ntmps52
    go_wp2
    go_ret
    exact ⟨rfl, ⟨_, 2000, cap, bs.take 2000, by omega, HRR.out, hS.out, al1_0 w _, Nat.le_refl _, hal _⟩, hal _⟩
  · have H1 := hide h1
    have H2 := hide h2
    clear h1 h2
    go_enter Tryd.func52, Tryd.ntmps52
    go_wp2
    go_ret
    exact ⟨rfl, ⟨_, n, cap, bs, by omega, H1.out, H2.out, al1_0 w _, Nat.le_refl _, hal _⟩, hal _⟩

set_option maxHeartbeats 1000000 in
theorem l6Many_any (s : ByteArray) (k B : Nat) (w : World) (hk : k ≤ 1000000) (hB : s.size * k ≤ B) (hB' : B ≤ 1000000) :
    Calls Tryd.prog 56 #[.string s, .int .i64 k] w fun e w' => ∃ t, e = .returned (.string t) ∧ t.size ≤ B ∧ w' = w := by
  go_enter Tryd.func56, Tryd.ntmps56
  go_wp2
  go_loopw [0, 1, 5] (fun sv kv ov wr => ∃ (t o : ByteArray) (j : Nat), sv = .string t ∧ kv = .int .i64 j ∧ ov = .string o ∧ o.size + t.size * j ≤ B ∧ j ≤ 1000000 ∧ wr = w) (fun _ kv _ _ => (intOf kv).toNat)
  case atStart => exact ⟨s, ⟨#[]⟩, k, rfl, rfl, rfl, by show 0 + _ ≤ _; omega, hk, rfl⟩
  case round =>
    obtain ⟨t, o, j, rfl, rfl, rfl, hle, hj, rfl⟩ := hrel
    by_cases hp : 0 < j
    · have ht : t.size ≤ B := by
        have : t.size * 1 ≤ t.size * j := Nat.mul_le_mul_left _ hp
        omega
      have ho : o.size ≤ B := by omega
      obtain ⟨i, hi⟩ : ∃ i, j = 2 * i ∨ j = 2 * i + 1 := ⟨j / 2, by omega⟩
      have hX : t.size * (2 * i) = 2 * (t.size * i) := Nat.mul_left_comm _ _ _
      have hX1 : t.size * (2 * i + 1) = 2 * (t.size * i) + t.size := by rw [Nat.mul_add, hX]; omega
      have hY : (t.size + t.size) * i = 2 * (t.size * i) := by rw [Nat.add_mul]; omega
      have hdiv : j / 2 = i := by omega
      rcases hi with rfl | rfl
      · have hodd : (((2 * i : Nat) : Int) % 2 == 1) = false := by simp
        have Hle := hide hle
        have HXs := hide (And.intro hX hY)
        clear hle hX hX1 hY
        go_wp2
        all_goals
          go_roundw
          case rel => exact ⟨_, o, i, rfl, by go_num, rfl, by have := HXs.out; have := Hle.out; simp only [ByteArray.size_append]; omega, by omega, by first | rfl | trivial⟩
          case measure => simp [intOf]; omega
      · have hodd : (((2 * i + 1 : Nat) : Int) % 2 == 1) = true := by simp
        have Hle := hide hle
        have HXs := hide (And.intro hX1 hY)
        clear hle hX hX1 hY
        go_wp2
        all_goals
          go_roundw
          case rel => exact ⟨_, _, i, rfl, by go_num, rfl, by have := HXs.out; have := Hle.out; simp only [ByteArray.size_append]; omega, by omega, by first | rfl | trivial⟩
          case measure => simp [intOf]; omega
    · go_wp2
      go_ret
      obtain rfl : j = 0 := by omega
      exact ⟨o, rfl, by omega, rfl⟩

set_option maxHeartbeats 1000000 in
theorem of_any (w0 w : World) (R p g c : Nat) (hr : Rd w0 w R p) (hp : p ≤ 1073741824) (hg : g ≠ R) (hc : ∀ j, j < 4 → ∃ s : ByteArray, s.size ≤ 1 ∧ w.cell? ⟨g, j, none⟩ = some (.string s)) :
    Calls Tryd.prog 80 #[.pointer (some ⟨R, 0, none⟩), .slice (some ⟨g, 0, none⟩) 4 c] w fun e w' => ∃ s : ByteArray, e = .returned (.string s) ∧ s.size ≤ 1 ∧ Rd w0 w' R (p + 1) ∧ Upd (fun j => j = R) w w' := by
  have Hc := hide hc
  clear hc
  go_enter Tryd.func80, Tryd.ntmps80
  go_wp2_with fail
  refine (pick_any w0 w R p 4 hr (by omega) (by omega) hp).mono ?_
  rintro e w1 ⟨q, rfl, hq, hr1, hu1⟩
  obtain ⟨s, hs, hcs⟩ := Hc.out q hq
  have f1 : w1.cell? ⟨g, q, none⟩ = some (.string s) := (World.cell?_of_block (a := ⟨g, q, none⟩) (hu1.block g (World.block_lt_of_cell? w _ hcs) hg)).trans hcs
  have hq' : (q : Int) < 4 := by omega
  go_wp2
  go_ret
  exact ⟨s, rfl, hs, hr1, hu1⟩

theorem four_cells (w : World) (a b c d : ByteArray) (t : TypeId) (ha : a.size ≤ 1) (hb : b.size ≤ 1) (hc : c.size ≤ 1) (hd : d.size ≤ 1) :
    ∀ j, j < 4 → ∃ s : ByteArray, s.size ≤ 1 ∧ (w.alloc (.cells #[.string a, .string b, .string c, .string d] t)).cell? ⟨w.heap.size, j, none⟩ = some (.string s) := by
  intro j hj
  have h := fun j => cell_of_row _ w.heap.size j _ _ (0, 0) (al1_0 w (.cells #[.string a, .string b, .string c, .string d] t))
  rcases (by omega : j = 0 ∨ j = 1 ∨ j = 2 ∨ j = 3) with rfl | rfl | rfl | rfl
  · exact ⟨a, ha, (h 0).trans rfl⟩
  · exact ⟨b, hb, (h 1).trans rfl⟩
  · exact ⟨c, hc, (h 2).trans rfl⟩
  · exact ⟨d, hd, (h 3).trans rfl⟩

set_option maxRecDepth 10000 in
set_option maxHeartbeats 1000000 in
theorem l72Text_any (w0 w : World) (R p m : Nat) (hr : Rd w0 w R p) (hp : p ≤ 1000000) (hm : m ≤ 100) :
    Calls Tryd.prog 82 #[.pointer (some ⟨R, 0, none⟩), .int .i64 m] w fun e w' => ∃ s : ByteArray, e = .returned (.string s) ∧ s.size ≤ 1000 ∧ Rd w0 w' R (p + 3) ∧ Upd (fun j => j = R) w w' := by
  have hRl : R < w.heap.size := by obtain ⟨_, _, _, _, _, _, _, h, _⟩ := hr; exact heap_lt h
  have al1 : Below w.heap.size w (w.alloc (.cells #[.string ⟨#[97]⟩, .string ⟨#[98]⟩, .string ⟨#[0]⟩, .string ⟨#[122]⟩] 9)) := (Below.refl _ _).alloc (Nat.le_refl _) _
  have hr1 := hr.keepB al1
  have H4 := hide (four_cells w ⟨#[97]⟩ ⟨#[98]⟩ ⟨#[0]⟩ ⟨#[122]⟩ 9 (by decide) (by decide) (by decide) (by decide))
  go_enter Tryd.func82, Tryd.ntmps82
  go_wp2_with fail
  refine (of_any w0 _ R p w.heap.size _ hr1 (by omega) (by omega) H4.out).mono ?_
  rintro e w1 ⟨t, rfl, ht, hr2, hu1⟩
  go_wp2_with fail
  refine (pick_any w0 w1 R (p + 1) 4 hr2 (by omega) (by omega) (by omega)).mono ?_
  rintro e w2 ⟨q1, rfl, hq1, hr3, hu2⟩
  go_wp2_with fail
  have hk : ((m : Int) / 3 + 1) = ((m / 3 + 1 : Nat) : Int) := by simp
  rw [hk]
  clear hk
  refine (pick_any w0 w2 R (p + 1 + 1) (m / 3 + 1) hr3 (by omega) (by omega) (by omega)).mono ?_
  rintro e w3 ⟨q2, rfl, hq2, hr4, hu3⟩
  obtain ⟨Q, hQ⟩ : ∃ Q, q1 * q2 = Q := ⟨_, rfl⟩
  have hQb : Q ≤ 3 * 100 := by rw [← hQ]; exact Nat.mul_le_mul (by omega) (by omega)
  have hQi : (q1 : Int) * (q2 : Int) = (Q : Int) := by rw [← hQ]; exact (Int.natCast_mul q1 q2).symm
  have hb : t.size * Q ≤ 300 := by
    have h : t.size * Q ≤ 1 * 300 := Nat.mul_le_mul ht hQb
    omega
  have Hb := hide hb
  clear hQ hb
  go_wp2_with fail
  refine (l6Many_any t Q 300 w3 (by omega) Hb.out (by omega)).mono ?_
  rintro e w4 ⟨s, rfl, hs, rfl⟩
  go_wp2
  go_ret
  exact ⟨s, rfl, by omega, hr4, (Upd.ofBelow al1).trans (hu1.trans (hu2.trans hu3))⟩

end Go.Proofs.YtapflnabiobonaaDoor
