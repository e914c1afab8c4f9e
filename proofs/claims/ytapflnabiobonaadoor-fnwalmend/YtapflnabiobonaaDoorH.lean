/- What the laws' own helpers do (marks, comparisons of slices): contracts; no statement of the seat is proved here. -/
import Derived.Test.YtapflnabiobonaaDoorProg
import Derived.Test.YtapflnabiobonaaDoorK
import Derived.Deep.RegionWith
namespace Go.Proofs.YtapflnabiobonaaDoor
open Go.RowKit

set_option maxRecDepth 100000 in
set_option maxHeartbeats 1000000 in
theorem markText_any (k0 : Nat) (w : World) (h1 : 1 ≤ k0) (h2 : k0 ≤ 1099511627776) :
    Calls Tryd.prog 42 #[.int .i64 k0] w fun e w' => e = .returned (.string (mtxt k0)) ∧ Below w.heap.size w w' := by
  have HM : Hid (mtxt k0 = ⟨#[109]⟩ ++ dg k0 k0 ⟨#[]⟩) := by show mtxt k0 = _; simp [mtxt]
  obtain ⟨T, hT⟩ : ∃ T, T = dg k0 k0 ⟨#[]⟩ := ⟨_, rfl⟩
  have HT : Hid (T = dg k0 k0 ⟨#[]⟩) := hT
  clear hT
  have hcv := fun w n => run_byte_string (P := Tryd.prog) 46 9 5 Tryd.underlying46 Tryd.underlying5 Tryd.underlying9 w n
  go_enter Tryd.func42, Tryd.ntmps42
  go_wp2
  go_loopw [0, 3] (fun kv ov wr => ∃ (k : Nat) (out : ByteArray), k ≤ k0 ∧ kv = .int .i64 k ∧ ov = .string out ∧ out.size + k ≤ k0 ∧ dg k k out = T ∧ Below w.heap.size w wr) (fun kv _ _ => (intOf kv).toNat)
  case atStart => exact ⟨k0, ⟨#[]⟩, Nat.le_refl _, rfl, rfl, by show 0 + k0 ≤ k0; omega, HT.out.symm, Below.refl _ _⟩
  case round =>
    obtain ⟨k, out, hk, rfl, rfl, hs, hd, hb⟩ := hrel
    have HD : Hid (dg k k out = T) := hd
    clear hd
    by_cases hp : 0 < k
    · go_wp2
      go_roundw
      case rel => exact ⟨k / 10, _, by omega, by go_num, rfl, by simp only [ByteArray.size_append]; show 1 + out.size + k / 10 ≤ k0; omega, by rw [← HD.out, dg_step k out hp]; rfl, hb.alloc hb.size _⟩
      case measure => simp [intOf]; omega
    · go_wp2
      go_ret
      obtain rfl : k = 0 := by omega
      refine ⟨?_, hb⟩
      rw [HM.out, ← HT.out, ← HD.out]
      rfl

theorem markText_at (a : Int) (k0 : Nat) (w : World) (ha : a = k0) (h1 : 1 ≤ k0) (h2 : k0 ≤ 1099511627776) :
    Calls Tryd.prog 42 #[.int .i64 a] w fun e w' => e = .returned (.string (mtxt k0)) ∧ Below w.heap.size w w' := by
  subst ha
  exact markText_any k0 w h1 h2

set_option maxHeartbeats 400000 in
theorem eqStringS_true (va vb : Value) (n : Nat) (ss : List ByteArray) (w : World) (ha : RowR w 1 va n (ss.map Value.string)) (hb : RowR w 1 vb n (ss.map Value.string)) :
    Calls Tryd.prog 13 #[va, vb] w fun e w' => e = .returned (.bool true) ∧ Below w.heap.size w w' := by
  obtain ⟨ao, ca, rfl, hn, hl, ha⟩ := ha
  obtain ⟨bo, cb, rfl, _, _, hb⟩ := hb
  go_enter Tryd.func13, Tryd.ntmps13
  go_wp2
  go_loopw [5] (fun i wr => ∃ k : Nat, k ≤ n ∧ i = .int .i64 k ∧ Below w.heap.size w wr) (fun i _ => n - (intOf i).toNat)
  case atStart => exact ⟨0, Nat.zero_le _, rfl, Below.refl _ _⟩
  case round =>
    obtain ⟨k, hk, rfl, hbel⟩ := hrel
    by_cases hlt : k < n
    · obtain ⟨b1, o1, rfl, hc1⟩ := ha (by omega)
      obtain ⟨b2, o2, rfl, hc2⟩ := hb (by omega)
      obtain ⟨s, hs⟩ : ∃ s, (ss.map Value.string)[k]? = some (.string s) := by
        simp only [List.length_map, Nat.mul_one] at hl
        exact ⟨ss[k]'(by omega), by simp [show k < ss.length by omega]⟩
      have g1 := hc1 k _ hs
      have g2 := hc2 k _ hs
      have f1 : wr.cell? ⟨b1, o1 + k, none⟩ = some (.string s) := (hbel.cell (p := ⟨b1, o1 + k, none⟩) (World.block_lt_of_cell? w _ g1)).trans g1
      have f2 : wr.cell? ⟨b2, o2 + k, none⟩ = some (.string s) := (hbel.cell (p := ⟨b2, o2 + k, none⟩) (World.block_lt_of_cell? w _ g2)).trans g2
      have hi : (k : Int) < (n : Int) := by omega
      clear ha hb hc1 hc2 hs g1 g2 hl
      go_wp2
      go_quiet (fail)
      go_wp2
      go_roundw
      case rel => exact ⟨k + 1, by omega, by go_num, below_drewN hbel _⟩
      case measure => simp [intOf]; omega
    · go_wp2
      go_ret
      exact ⟨rfl, hbel⟩

/-- The marks of n texts from k on. -/
def mkS (k n : Nat) : List ByteArray := (List.range n).map fun i => mtxt (k + i)

theorem mkS_get (k n i : Nat) (h : i < n) : (mkS k n)[i]? = some (mtxt (k + i)) := by simp [mkS, h]

theorem row_set {w : World} {e : TypeId} {g j : Nat} {cur : Array Value} (u : Value) (hg : w.heap[g]? = some (.cells cur e (0, 0))) :
    (w.setCell ⟨g, j, none⟩ u).heap[g]? = some (.cells (cur.setIfInBounds j u) e (0, 0)) := heap_setCell_same w g j cur e u hg

set_option maxHeartbeats 400000 in
theorem markStringS_any (S : Nat → Prop) (v : Value) (n : Nat) (cs : List Value) (k0 : Nat) (w : World) (hr : Row w 9 1 S v n cs) (h1 : 1 ≤ k0) (h2 : k0 + n ≤ 1099511627776) :
    Calls Tryd.prog 16 #[v, .int .i64 k0] w fun e w' => e = .returned (.int .i64 (k0 + n : Nat)) ∧ Row w' 9 1 S v n ((mkS k0 n).map Value.string) ∧ Upd S w w' := by
  obtain ⟨ao, cap, rfl, hn, hl, hr⟩ := hr
  rcases Nat.eq_zero_or_pos n with rfl | hpos
  · go_enter Tryd.func16, Tryd.ntmps16
    go_wp2
    refine wp_loop_rounds 1 ?_
    rw [rounds_succ]
    go_wp2
    go_ret
    exact ⟨rfl, ⟨ao, cap, rfl, hn, by simp [mkS], fun h => by omega⟩, Upd.refl _ _⟩
  · obtain ⟨g, cur, rfl, hS, hg, ht⟩ := hr hpos
    have hcs : n ≤ cur.size := by
      have := congrArg List.length ht
      simp [hl] at this
      omega
    clear hr ht hl
    go_enter Tryd.func16, Tryd.ntmps16
    go_wp2
    go_loopw [1, 5] (fun kv i wr => ∃ (k : Nat) (cur' : Array Value), k ≤ n ∧ i = .int .i64 k ∧ kv = .int .i64 (k0 + k : Nat) ∧ wr.heap[g]? = some (.cells cur' 9 (0, 0)) ∧ cur'.size = cur.size ∧ (∀ j, j < k → cur'[j]? = some (.string (mtxt (k0 + j)))) ∧ Upd S w wr) (fun _ i _ => n - (intOf i).toNat)
    case atStart => exact ⟨0, cur, Nat.zero_le _, rfl, rfl, hg, rfl, fun j hj => by omega, Upd.refl _ _⟩
    case round =>
      obtain ⟨k, cur', hk, rfl, rfl, hgr, hsz, hmk, hup⟩ := hrel
      by_cases hlt : k < n
      · have hi : (k : Int) < (n : Int) := by omega
        have HM : Hid (∀ j, j < k → cur'[j]? = some (.string (mtxt (k0 + j)))) := hmk
        clear hmk
        obtain ⟨u, hu⟩ : ∃ u, cur'[k]? = some u := ⟨cur'[k]'(by omega), by simp [show k < cur'.size by omega]⟩
        go_wp2_with (go_at_call 42; refine (markText_any _ _ (by omega) (by omega)).mono ?_; rintro e w1 ⟨rfl, hbm⟩; have hgw := bKeeps hbm hgr; have hcw : w1.cell? ⟨g, k, none⟩ = some u := (cell_of_row w1 g k cur' _ (0, 0) hgw).trans hu; have hfw : w1.frozen? ⟨g, k, none⟩ = false := frozen_of_row w1 g k cur' _ hgw)
        go_roundw
        case rel =>
          refine ⟨k + 1, cur'.setIfInBounds k (.string (mtxt (k0 + k))), by omega, by go_num, by go_num, row_set _ hgw, by simpa using hsz, fun j hj => ?_, (hup.trans (Upd.ofBelow hbm)).trans (Upd.setCell _ _ _ _ hS)⟩
          by_cases hjk : j = k
          · subst hjk
            simp [show j < cur'.size by omega]
          · rw [Array.getElem?_setIfInBounds_ne (by omega)]
            exact HM.out j (by omega)
        case measure => simp [intOf]; omega
      · go_wp2
        go_ret
        obtain rfl : k = n := by omega
        refine ⟨rfl, ⟨_, cap, rfl, hn, by simp [mkS], fun _ => ⟨g, cur', rfl, hS, hgr, ?_⟩⟩, hup⟩
        apply List.ext_getElem?
        intro j
        by_cases hj : j < k
        · rw [List.getElem?_take_of_lt (by omega)]
          simpa [mkS, hj] using hmk j hj
        · rw [List.getElem?_eq_none (by simp; omega), List.getElem?_eq_none (by simp [mkS]; omega)]

set_option maxHeartbeats 400000 in
theorem heldStringS_ok (v : Value) (n k0 : Nat) (w : World) (hr : RowR w 1 v n ((mkS k0 n).map Value.string)) (h1 : 1 ≤ k0) (h2 : k0 + n ≤ 1099511627776) :
    Calls Tryd.prog 17 #[v, .int .i64 k0] w fun e w' => e = .returned (.int .i64 (k0 + n : Nat)) ∧ Below w.heap.size w w' := by
  obtain ⟨ao, cap, rfl, hn, hl, hr⟩ := hr
  clear hl
  go_enter Tryd.func17, Tryd.ntmps17
  go_wp2
  go_loopw [1, 5] (fun kv i wr => ∃ k m : Nat, k ≤ n ∧ m = k0 + k ∧ i = .int .i64 k ∧ kv = .int .i64 (m : Nat) ∧ Below w.heap.size w wr) (fun _ i _ => n - (intOf i).toNat)
  case atStart => exact ⟨0, k0, Nat.zero_le _, rfl, rfl, rfl, Below.refl _ _⟩
  case round =>
    obtain ⟨k, m, hk, hm, rfl, rfl, hbel⟩ := hrel
    have Hm : Hid (m = k0 + k) := hm
    have hm1 : 1 ≤ m := by omega
    have hm2 : m ≤ 1099511627776 := by omega
    clear hm
    by_cases hlt : k < n
    · obtain ⟨b1, o1, rfl, hc1⟩ := hr (by omega)
      have g1 := hc1 k (.string (mtxt m)) (by rw [Hm.out]; simp [mkS, hlt])
      have hlb : b1 < w.heap.size := World.block_lt_of_cell? w _ g1
      have f1 : wr.cell? ⟨b1, o1 + k, none⟩ = some (.string (mtxt m)) := (hbel.cell (p := ⟨b1, o1 + k, none⟩) hlb).trans g1
      have hi : (k : Int) < (n : Int) := by omega
      have hsz := hbel.size
      clear hr hc1 g1
      go_wp2
      go_region_with (go_at_call 42; refine (markText_any _ _ hm1 hm2).mono ?_; rintro e w1 ⟨rfl, hbm⟩; have hbm' : Below wr.heap.size wr w1 := bUndrew hbm; have f2 : w1.cell? ⟨b1, o1 + k, none⟩ = some (.string (mtxt m)) := (hbm'.cell (p := ⟨b1, o1 + k, none⟩) (by show b1 < wr.heap.size; omega)).trans f1)
      all_goals
        go_wp2
        go_roundw
        case rel => exact ⟨k + 1, m + 1, by omega, by rw [Hm.out]; omega, by go_num, by go_num, bAllTo hbel hbm'⟩
        case measure => simp [intOf]; omega
    · go_wp2
      go_ret
      obtain rfl : k = n := by omega
      exact ⟨by rw [Hm.out]; rfl, hbel⟩

/-- The cells of writes. -/
def wcell (x : Int × ByteArray) : List Value := [.int .i64 x.1, .string x.2]
def wcells (xs : List (Int × ByteArray)) : List Value := xs.flatMap wcell
theorem wcells_len (xs : List (Int × ByteArray)) : (wcells xs).length = xs.length * 2 := by
  induction xs with
  | nil => rfl
  | cons x xs ih => simp only [wcells, List.flatMap_cons, List.length_append, wcell, List.length_cons, List.length_nil] at ih ⊢; omega
theorem wcells_at (xs : List (Int × ByteArray)) (i : Nat) (x : Int × ByteArray) (h : xs[i]? = some x) : (wcells xs)[2 * i]? = some (.int .i64 x.1) ∧ (wcells xs)[2 * i + 1]? = some (.string x.2) := by
  induction xs generalizing i with
  | nil => simp at h
  | cons y ys ih =>
    cases i with
    | zero => simp at h; subst h; simp [wcells, wcell]
    | succ i =>
      have := ih i (by simpa using h)
      simp only [wcells, List.flatMap_cons, wcell, List.cons_append, List.nil_append] at this ⊢
      rw [show 2 * (i + 1) = 2 * i + 1 + 1 by omega]
      simpa using this

set_option maxHeartbeats 400000 in
theorem eqSecWrite_true (x : Int × ByteArray) (w : World) :
    Calls Tryd.prog 72 #[.agg #[.int .i64 x.1, .string x.2], .agg #[.int .i64 x.1, .string x.2]] w fun e w' => e = .returned (.bool true) ∧ Below w.heap.size w w' := by
  obtain ⟨a, s⟩ := x
  go_enter Tryd.func72, Tryd.ntmps72
  go_wp2
  go_ret
  exact ⟨rfl, ((Below.refl _ _).alloc (Nat.le_refl _) _).alloc (by simp) _⟩

set_option maxHeartbeats 400000 in
theorem eqSecWriteS_true (va vb : Value) (n : Nat) (xs : List (Int × ByteArray)) (w : World) (ha : RowR w 2 va n (wcells xs)) (hb : RowR w 2 vb n (wcells xs)) :
    Calls Tryd.prog 40 #[va, vb] w fun e w' => e = .returned (.bool true) ∧ Below w.heap.size w w' := by
  obtain ⟨ao, ca, rfl, hn, hl, ha⟩ := ha
  obtain ⟨bo, cb, rfl, _, _, hb⟩ := hb
  rw [wcells_len] at hl
  go_enter Tryd.func40, Tryd.ntmps40
  go_wp2
  go_loopw [5] (fun i wr => ∃ k : Nat, k ≤ n ∧ i = .int .i64 k ∧ Below w.heap.size w wr) (fun i _ => n - (intOf i).toNat)
  case atStart => exact ⟨0, Nat.zero_le _, rfl, Below.refl _ _⟩
  case round =>
    obtain ⟨k, hk, rfl, hbel⟩ := hrel
    by_cases hlt : k < n
    · obtain ⟨b1, o1, rfl, hc1⟩ := ha (by omega)
      obtain ⟨b2, o2, rfl, hc2⟩ := hb (by omega)
      obtain ⟨x, hx⟩ : ∃ x, xs[k]? = some x := ⟨xs[k]'(by omega), by simp [show k < xs.length by omega]⟩
      obtain ⟨e0, e1⟩ := wcells_at xs k x hx
      obtain ⟨a, s⟩ := x
      have g1 := hc1 _ _ e0
      have g2 := hc1 _ _ e1
      have g3 := hc2 _ _ e0
      have g4 := hc2 _ _ e1
      have l1 : b1 < w.heap.size := World.block_lt_of_cell? w _ g1
      have l2 : b2 < w.heap.size := World.block_lt_of_cell? w _ g3
      have f1 : wr.cell? ⟨b1, o1 + k * 2, none⟩ = some (.int .i64 a) := by rw [Nat.mul_comm k 2]; exact (hbel.cell (p := ⟨b1, o1 + 2 * k, none⟩) l1).trans g1
      have f2 : wr.cell? ⟨b1, o1 + k * 2 + 1, none⟩ = some (.string s) := by rw [Nat.mul_comm k 2]; exact (hbel.cell (p := ⟨b1, o1 + (2 * k + 1), none⟩) l1).trans g2
      have f3 : wr.cell? ⟨b2, o2 + k * 2, none⟩ = some (.int .i64 a) := by rw [Nat.mul_comm k 2]; exact (hbel.cell (p := ⟨b2, o2 + 2 * k, none⟩) l2).trans g3
      have f4 : wr.cell? ⟨b2, o2 + k * 2 + 1, none⟩ = some (.string s) := by rw [Nat.mul_comm k 2]; exact (hbel.cell (p := ⟨b2, o2 + (2 * k + 1), none⟩) l2).trans g4
      have hi : (k : Int) < (n : Int) := by omega
      clear ha hb hc1 hc2 hx g1 g2 g3 g4 e0 e1 hl
      go_wp2
      go_region_with (go_at_call 72; refine (eqSecWrite_true (a, s) _).mono ?_; rintro e w1 ⟨rfl, hbm⟩; have hbm' : Below wr.heap.size wr w1 := bUndrew hbm)
      all_goals
        go_wp2
        go_roundw
        case rel => exact ⟨k + 1, by omega, by go_num, bAllTo hbel hbm'⟩
        case measure => simp [intOf]; omega
    · go_wp2
      go_ret
      exact ⟨rfl, hbel⟩

end Go.Proofs.YtapflnabiobonaaDoor
