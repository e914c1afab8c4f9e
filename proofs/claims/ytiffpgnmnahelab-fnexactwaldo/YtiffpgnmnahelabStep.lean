/- What the laws' own helpers do with steps: contracts; no statement of the seat is proved here. -/
import Derived.Test.YtiffpgnmnahelabH5
namespace Go.Proofs.Ytiffpgnmnahelab
open Go.RowKit

/-- A step: a flush, or a write. -/
abbrev Stp := Bool × Int × ByteArray
/-- The cells of steps. -/
def scell (x : Stp) : List Value := [.bool x.1, .int .i64 x.2.1, .string x.2.2]
def scells (xs : List Stp) : List Value := xs.flatMap scell
theorem scells_len (xs : List Stp) : (scells xs).length = xs.length * 3 := by
  induction xs with
  | nil => rfl
  | cons x xs ih => simp only [scells, List.flatMap_cons, List.length_append, scell, List.length_cons, List.length_nil] at ih ⊢; omega
theorem scells_at (xs : List Stp) (i : Nat) (x : Stp) (h : xs[i]? = some x) : (scells xs)[3 * i]? = some (.bool x.1) ∧ (scells xs)[3 * i + 1]? = some (.int .i64 x.2.1) ∧ (scells xs)[3 * i + 2]? = some (.string x.2.2) := by
  induction xs generalizing i with
  | nil => simp at h
  | cons y ys ih =>
    cases i with
    | zero => simp at h; subst h; simp [scells, scell]
    | succ i =>
      have := ih i (by simpa using h)
      simp only [scells, List.flatMap_cons, scell, List.cons_append, List.nil_append] at this ⊢
      rw [show 3 * (i + 1) = 3 * i + 1 + 1 + 1 by omega]
      simpa using this

/-- The cells of the step at a place, in a later world. -/
theorem step_cells {w wr : World} {b o k : Nat} {xs : List Stp} {x : Stp} (hc : ∀ j u, (scells xs)[j]? = some u → w.cell? ⟨b, o + j, none⟩ = some u) (h : xs[k]? = some x) (hb : Below w.heap.size w wr) :
    wr.cell? ⟨b, o + k * 3, none⟩ = some (.bool x.1) ∧ wr.cell? ⟨b, o + k * 3 + 1, none⟩ = some (.int .i64 x.2.1) ∧ wr.cell? ⟨b, o + k * 3 + 2, none⟩ = some (.string x.2.2) ∧ b < w.heap.size := by
  obtain ⟨e0, e1, e2⟩ := scells_at xs k x h
  have g0 := hc _ _ e0
  have g1 := hc _ _ e1
  have g2 := hc _ _ e2
  have l1 : b < w.heap.size := World.block_lt_of_cell? w _ g0
  rw [Nat.mul_comm k 3]
  exact ⟨(hb.cell (p := ⟨b, o + 3 * k, none⟩) l1).trans g0, (hb.cell (p := ⟨b, o + (3 * k + 1), none⟩) l1).trans g1, (hb.cell (p := ⟨b, o + (3 * k + 2), none⟩) l1).trans g2, l1⟩

set_option maxHeartbeats 400000 in
theorem eqSecStep_true (x : Stp) (w : World) :
    Calls Try.prog 36 #[.agg #[.bool x.1, .int .i64 x.2.1, .string x.2.2], .agg #[.bool x.1, .int .i64 x.2.1, .string x.2.2]] w fun e w' => e = .returned (.bool true) ∧ Below w.heap.size w w' := by
  obtain ⟨f, a, s⟩ := x
  cases f
  all_goals
    go_enter Try.func36, Try.ntmps36
    go_wp2
    go_ret
    exact ⟨rfl, ((Below.refl _ _).alloc (Nat.le_refl _) _).alloc (by simp) _⟩

set_option maxHeartbeats 400000 in
theorem eqSecStepS_true (va vb : Value) (n : Nat) (xs : List Stp) (w : World) (ha : RowR w 3 va n (scells xs)) (hb : RowR w 3 vb n (scells xs)) :
    Calls Try.prog 12 #[va, vb] w fun e w' => e = .returned (.bool true) ∧ Below w.heap.size w w' := by
  obtain ⟨ao, ca, rfl, hn, hl, ha⟩ := ha
  obtain ⟨bo, cb, rfl, _, _, hb⟩ := hb
  rw [scells_len] at hl
  go_enter Try.func12, Try.ntmps12
  go_wp2
  go_loopw [5] (fun i wr => ∃ k : Nat, k ≤ n ∧ i = .int .i64 k ∧ Below w.heap.size w wr) (fun i _ => n - (intOf i).toNat)
  case atStart => exact ⟨0, Nat.zero_le _, rfl, Below.refl _ _⟩
  case round =>
    obtain ⟨k, hk, rfl, hbel⟩ := hrel
    by_cases hlt : k < n
    · obtain ⟨b1, o1, rfl, hc1⟩ := ha (by omega)
      obtain ⟨b2, o2, rfl, hc2⟩ := hb (by omega)
      obtain ⟨x, hx⟩ := getAt xs k (by omega)
      obtain ⟨f0, f1, f2, l1⟩ := step_cells hc1 hx hbel
      obtain ⟨g0, g1, g2, l2⟩ := step_cells hc2 hx hbel
      obtain ⟨f, a, s⟩ := x
      have hi : (k : Int) < (n : Int) := by omega
      clear ha hb hc1 hc2 hx hl
      go_wp2
      go_region_with (go_at_call 36; refine (eqSecStep_true (f, a, s) _).mono ?_; rintro e w1 ⟨rfl, hbm⟩; have hbm' : Below wr.heap.size wr w1 := bUndrew hbm)
      all_goals
        go_wp2
        go_roundw
        case rel => exact ⟨k + 1, by omega, by go_num, bAllTo hbel hbm'⟩
        case measure => simp [intOf]; omega
    · go_wp2
      go_ret
      exact ⟨rfl, hbel⟩

/-- How many bytes steps have together. -/
def bytesT (xs : List Stp) : Nat := (xs.map (·.2.2.size)).sum
theorem bytesT_take (ss : List Stp) (k : Nat) (h : k < ss.length) : bytesT (ss.take (k + 1)) = bytesT (ss.take k) + (ss[k]'h).2.2.size := by
  rw [List.take_succ_eq_append_getElem h]
  simp only [bytesT, List.map_append, List.sum_append, List.map_cons, List.map_nil, List.sum_cons, List.sum_nil, Nat.add_zero]

set_option maxHeartbeats 400000 in
theorem szSecStep_any (f : Bool) (a : Int) (s : ByteArray) (left : Int) (w : World) (hs : s.size ≤ 9223372036854775807) (h1 : 0 ≤ left) (h2 : left ≤ 1048576) :
    Calls Try.prog 20 #[.agg #[.bool f, .int .i64 a, .string s], .int .i64 left] w fun e w' => ∃ r, e = .returned (.int .i64 r) ∧ Sized left r s.size ∧ Below w.heap.size w w' := by
  by_cases hneg : left - s.size < 0
  · go_enter Try.func20, Try.ntmps20
    go_wp2
    go_ret
    exact ⟨_, rfl, .inl (by omega), (Below.refl _ _).alloc (Nat.le_refl _) _⟩
  · have hge : 0 ≤ left - s.size := by omega
    clear hneg
    go_enter Try.func20, Try.ntmps20
    go_wp2
    go_ret
    exact ⟨_, rfl, .inr ⟨by omega, by omega⟩, (Below.refl _ _).alloc (Nat.le_refl _) _⟩

set_option maxHeartbeats 1000000 in
theorem szSecStepS_any (v : Value) (n : Nat) (ss : List Stp) (left : Int) (w : World) (hr : RowR w 3 v n (scells ss)) (hs : ∀ s ∈ ss, s.2.2.size ≤ 9223372036854775807) (h1 : 0 ≤ left) (h2 : left ≤ 1048576) :
    Calls Try.prog 5 #[v, .int .i64 left] w fun e w' => ∃ r, e = .returned (.int .i64 r) ∧ Sized left r (n + bytesT ss) ∧ Below w.heap.size w w' := by
  obtain ⟨ao, cap, rfl, hn, hl, hr⟩ := hr
  rw [scells_len] at hl
  by_cases hneg : left - n < 0
  · go_enter Try.func5, Try.ntmps5
    go_wp2
    go_ret
    exact ⟨_, rfl, .inl (by omega), Below.refl _ _⟩
  · have hge : 0 ≤ left - n := by omega
    clear hneg
    have Hl := hide hl
    have Hs := hide hs
    clear hl hs
    go_enter Try.func5, Try.ntmps5
    go_wp2
    go_loopw [1, 5] (fun lv i wr => ∃ (k : Nat) (m : Int), k ≤ n ∧ 0 ≤ m ∧ m ≤ 1048576 ∧ m = left - (n + bytesT (ss.take k) : Nat) ∧ i = .int .i64 k ∧ lv = .int .i64 m ∧ Below w.heap.size w wr) (fun _ i _ => n - (intOf i).toNat)
    case atStart => exact ⟨0, left - n, Nat.zero_le _, hge, by omega, by simp [bytesT], rfl, rfl, Below.refl _ _⟩
    case round =>
      obtain ⟨k, m, hk, hm0, hm1, hm, rfl, rfl, hbel⟩ := hrel
      have Hm := hide hm
      clear hm
      by_cases hlt : k < n
      · obtain ⟨b1, o1, rfl, hc1⟩ := hr (by omega)
        have hlk : k < ss.length := by have := Hl.out; omega
        obtain ⟨⟨f, a, s⟩, hsk⟩ : ∃ s, ss[k]'hlk = s := ⟨_, rfl⟩
        obtain ⟨f0, f1, f2, l1⟩ := step_cells hc1 (show ss[k]? = some (f, a, s) by simp [hlk, hsk]) hbel
        have hsz : s.size ≤ 9223372036854775807 := Hs.out (f, a, s) (by rw [← hsk]; exact List.getElem_mem hlk)
        have hbt := hide (bytesT_take ss k hlk)
        rw [hsk] at hbt
        have hi : (k : Int) < (n : Int) := by omega
        clear hr hc1 hsk
        go_wp2_with fail
        refine (szSecStep_any f a s m _ hsz hm0 hm1).mono ?_
        rintro e w1 ⟨r, rfl, hz, hb1⟩
        rcases hz with hneg | ⟨hr, hge2⟩
        · go_wp2
          go_ret
          exact ⟨_, rfl, .inl (by omega), bAll hbel hb1⟩
        · have Hr := hide hr
          have hr2 : r ≤ 1048576 := by omega
          clear hr
          go_wp2
          go_roundw
          case rel => exact ⟨k + 1, r, by omega, hge2, hr2, by have := hbt.out; have := Hm.out; have := Hr.out; omega, by go_num, rfl, bAll hbel hb1⟩
          case measure => simp [intOf]; omega
      · go_wp2
        go_ret
        obtain rfl : k = n := by omega
        refine ⟨_, rfl, .inr ⟨?_, hm0⟩, hbel⟩
        have h3 := Hm.out
        rw [List.take_of_length_le (by have := Hl.out; omega)] at h3
        exact h3

set_option maxHeartbeats 400000 in
theorem toSecStep_any (f : Bool) (a : Int) (s : ByteArray) (w : World) :
    Calls Try.prog 28 #[.agg #[.bool f, .int .i64 a, .string s]] w fun e w' => e = .returned (.agg #[.bool f, .int .i64 a, .string s]) ∧ Below w.heap.size w w' := by
  go_enter Try.func28, Try.ntmps28
  go_wp2
  exact bodyPost_ret (v := .agg #[.bool f, .int .i64 a, .string s]) (by simp [results, Try.results28, go_sem]) rfl ⟨rfl, (((Below.refl _ _).alloc (Nat.le_refl _) _).alloc (by simp) _).alloc (by simp; omega) _⟩

theorem infoSt : (Try.prog.info? 53).map (fun i => (i.zero, i.size, i.bytes)) = some (some (.agg #[.bool false, .int .i64 0, .string ⟨#[]⟩]), 3, 32) := by kernel_rfl

/-- Three cells of a row, written one behind the other. -/
theorem set3 {cur : Array Value} {j k : Nat} (x y z : Value) (hk : k * 3 + 2 < cur.size) :
    let c := ((cur.setIfInBounds (k * 3) x).setIfInBounds (k * 3 + 1) y).setIfInBounds (k * 3 + 2) z
    (j = k → c[3 * j]? = some x ∧ c[3 * j + 1]? = some y ∧ c[3 * j + 2]? = some z) ∧ (j ≠ k → c[3 * j]? = cur[3 * j]? ∧ c[3 * j + 1]? = cur[3 * j + 1]? ∧ c[3 * j + 2]? = cur[3 * j + 2]?) := by
  refine ⟨?_, fun h => ?_⟩
  · rintro rfl
    rw [Nat.mul_comm 3 j]
    refine ⟨?_, ?_, ?_⟩
    · rw [Array.getElem?_setIfInBounds_ne (by omega), Array.getElem?_setIfInBounds_ne (by omega), Array.getElem?_setIfInBounds_self_of_lt (by omega)]
    · rw [Array.getElem?_setIfInBounds_ne (by omega), Array.getElem?_setIfInBounds_self_of_lt (by simp; omega)]
    · rw [Array.getElem?_setIfInBounds_self_of_lt (by simp; omega)]
  · refine ⟨?_, ?_, ?_⟩ <;> rw [Array.getElem?_setIfInBounds_ne (by omega), Array.getElem?_setIfInBounds_ne (by omega), Array.getElem?_setIfInBounds_ne (by omega)]

/-- A list of cells that holds steps at every place is theirs. -/
theorem scells_ext (xs : List Stp) (cs : List Value) (hl : cs.length = xs.length * 3) (h : ∀ j x, xs[j]? = some x → cs[3 * j]? = some (.bool x.1) ∧ cs[3 * j + 1]? = some (.int .i64 x.2.1) ∧ cs[3 * j + 2]? = some (.string x.2.2)) : cs = scells xs := by
  apply List.ext_getElem?
  intro j
  by_cases hj : j < xs.length * 3
  · obtain ⟨x, hx⟩ := getAt xs (j / 3) (by omega)
    have h1 := h (j / 3) x hx
    have h2 := scells_at xs (j / 3) x hx
    rcases (by omega : j = 3 * (j / 3) ∨ j = 3 * (j / 3) + 1 ∨ j = 3 * (j / 3) + 2) with e | e | e
    · rw [← e] at h1 h2; rw [h1.1, h2.1]
    · rw [← e] at h1 h2; rw [h1.2.1, h2.2.1]
    · rw [← e] at h1 h2; rw [h1.2.2, h2.2.2]
  · rw [List.getElem?_eq_none (by omega), List.getElem?_eq_none (by rw [scells_len]; omega)]

set_option maxHeartbeats 2000000 in
theorem toSecStepS_any (v : Value) (n : Nat) (ss : List Stp) (w : World) (hr : RowR w 3 v n (scells ss)) (hn : n ≤ 1048576) :
    Calls Try.prog 8 #[v] w fun e w' => ∃ so', e = .returned (.slice so' n n) ∧ Row w' 53 3 (fun k => w.heap.size ≤ k) (.slice so' n n) n (scells ss) ∧ Below w.heap.size w w' := by
  obtain ⟨ao, cap, rfl, hn', hl, hr⟩ := hr
  rw [scells_len] at hl
  have Hl := hide hl
  clear hl
  have hmk := run_make_row2 (P := Try.prog) 35 53 (.agg #[.bool false, .int .i64 0, .string ⟨#[]⟩]) 3 32 Try.underlying35 infoSt .i64 .i64 n (by omega) (by omega)
  go_enter Try.func8, Try.ntmps8
  go_wp2
  clear hmk
  go_loopw [4] (fun i wr => ∃ (k : Nat) (cur : Array Value), k ≤ n ∧ i = .int .i64 k ∧ wr.heap[w.heap.size]? = some (.cells cur 53 (0, 0)) ∧ cur.size = n * 3 ∧ (∀ j x, j < k → ss[j]? = some x → cur[3 * j]? = some (.bool x.1) ∧ cur[3 * j + 1]? = some (.int .i64 x.2.1) ∧ cur[3 * j + 2]? = some (.string x.2.2)) ∧ Below w.heap.size w wr) (fun i _ => n - (intOf i).toNat)
  case atStart => exact ⟨0, _, Nat.zero_le _, rfl, heap_alloc_new w _, size_madeCells _ _, fun j s hj => by omega, (Below.refl _ _).alloc (Nat.le_refl _) _⟩
  case round =>
    obtain ⟨k, cur, hk, rfl, hg, hcs, hmk, hbel⟩ := hrel
    have HM := hide hmk
    have HC := hide hcs
    have hcs' : n * 3 ≤ cur.size := by omega
    clear hmk hcs
    by_cases hlt : k < n
    · obtain ⟨b1, o1, rfl, hc1⟩ := hr (by omega)
      obtain ⟨⟨f, a, s⟩, hs⟩ := getAt ss k (by have := Hl.out; omega)
      have Hs := hide hs
      obtain ⟨f0, f1, f2, l1⟩ := step_cells hc1 hs hbel
      have hi : (k : Int) < (n : Int) := by omega
      have hk3 : k * 3 + 2 < cur.size := by omega
      obtain ⟨u, hu⟩ : ∃ u, cur[k * 3]? = some u := ⟨cur[k * 3]'(by omega), by simp [show k * 3 < cur.size by omega]⟩
      obtain ⟨u2, hu2⟩ : ∃ u, cur[k * 3 + 1]? = some u := ⟨cur[k * 3 + 1]'(by omega), by simp [show k * 3 + 1 < cur.size by omega]⟩
      obtain ⟨u3, hu3⟩ : ∃ u, cur[k * 3 + 2]? = some u := ⟨cur[k * 3 + 2]'(by omega), by simp [show k * 3 + 2 < cur.size by omega]⟩
      have Hg := hide hg
      clear hr hc1 hs hg
      go_wp2_with fail
      refine (toSecStep_any f a s _).mono ?_
      rintro e w1 ⟨rfl, hb1⟩
      have hg := bKeeps hb1 Hg.out
      have hcw : w1.cell? ⟨w.heap.size, k * 3, none⟩ = some u := (cell_of_row w1 _ _ cur _ (0, 0) hg).trans hu
      have hcw2 : w1.cell? ⟨w.heap.size, k * 3 + 1, none⟩ = some u2 := (cell_of_row w1 _ _ cur _ (0, 0) hg).trans hu2
      have hcw3 : w1.cell? ⟨w.heap.size, k * 3 + 2, none⟩ = some u3 := (cell_of_row w1 _ _ cur _ (0, 0) hg).trans hu3
      have hfw : w1.frozen? ⟨w.heap.size, k * 3, none⟩ = false := frozen_of_row w1 _ _ cur _ hg
      have hfw2 : w1.frozen? ⟨w.heap.size, k * 3 + 1, none⟩ = false := frozen_of_row w1 _ _ cur _ hg
      have hfw3 : w1.frozen? ⟨w.heap.size, k * 3 + 2, none⟩ = false := frozen_of_row w1 _ _ cur _ hg
      have Hg1 := hide hg
      clear hg hu hu2 hu3
      go_wp2
      go_roundw
      case rel =>
        refine ⟨k + 1, _, by omega, by go_num, row_set _ (row_set _ (row_set _ Hg1.out)), by simpa using HC.out, fun j x hj hx => ?_, (((bAll hbel hb1).setCell (p := ⟨w.heap.size, k * 3, none⟩) (Nat.le_refl _) _).setCell (p := ⟨w.heap.size, k * 3 + 1, none⟩) (Nat.le_refl _) _).setCell (p := ⟨w.heap.size, k * 3 + 2, none⟩) (Nat.le_refl _) _⟩
        have h3 := set3 (cur := cur) (j := j) (k := k) (.bool f) (.int .i64 a) (.string s) hk3
        by_cases hjk : j = k
        · have h4 := h3.1 hjk
          subst hjk
          rw [Hs.out] at hx
          obtain rfl := Option.some.inj hx
          exact h4
        · have h4 := h3.2 hjk
          have h5 := HM.out j x (by omega) hx
          exact ⟨h4.1.trans h5.1, h4.2.1.trans h5.2.1, h4.2.2.trans h5.2.2⟩
      case measure => simp [intOf]; omega
    · go_wp2
      go_ret
      obtain rfl : k = n := by omega
      refine ⟨_, rfl, ⟨_, _, rfl, hn', by rw [scells_len]; rw [← Hl.out], fun _ => ⟨_, cur, rfl, Nat.le_refl _, hg, ?_⟩⟩, hbel⟩
      have hl := Hl.out
      have hc := HC.out
      refine scells_ext ss _ (by simp; omega) (fun j x hx => ?_)
      have hj := (List.getElem?_eq_some_iff.1 hx).1
      rw [List.getElem?_take_of_lt (by omega), List.getElem?_take_of_lt (by omega), List.getElem?_take_of_lt (by omega)]
      simpa using HM.out j x (by omega) hx

end Go.Proofs.Ytiffpgnmnahelab
