/- Marks in steps: contracts; no statement of the seat is proved here. -/
import Derived.Test.YtapflnabiobonaaDoorStep
import Derived.Test.YtapflnabiobonaaDoorH2
namespace Go.Proofs.YtapflnabiobonaaDoor
open Go.RowKit

/-- The steps that marking leaves. -/
def mkT (k n : Nat) : List Stp := (List.range n).map fun i => ((k + 3 * i) % 3 == 0, ((k + 3 * i + 1 : Nat) : Int), mtxt (k + 3 * i + 2))
theorem mkT_get (k n i : Nat) (h : i < n) : (mkT k n)[i]? = some ((k + 3 * i) % 3 == 0, ((k + 3 * i + 1 : Nat) : Int), mtxt (k + 3 * i + 2)) := by simp [mkT, h]
theorem mkT_len (k n : Nat) : (mkT k n).length = n := by simp [mkT]

set_option maxHeartbeats 2000000 in
theorem markSecStepS_any (S : Nat → Prop) (v : Value) (n : Nat) (cs : List Value) (k0 : Nat) (w : World) (hr : Row w 50 3 S v n cs) (h1 : 1 ≤ k0) (h2 : k0 + 3 * n ≤ 1099511627776) :
    Calls Tryd.prog 21 #[v, .int .i64 k0] w fun e w' => e = .returned (.int .i64 (k0 + 3 * n : Nat)) ∧ Row w' 50 3 S v n (scells (mkT k0 n)) ∧ Upd S w w' := by
  obtain ⟨ao, cap, rfl, hn, hl, hr⟩ := hr
  rcases Nat.eq_zero_or_pos n with rfl | hpos
  · go_enter Tryd.func21, Tryd.ntmps21
    go_wp2
    refine wp_loop_rounds 1 ?_
    rw [rounds_succ]
    go_wp2
    go_ret
    exact ⟨rfl, ⟨ao, cap, rfl, hn, by simp [mkT, scells], fun h => by omega⟩, Upd.refl _ _⟩
  · obtain ⟨g, cur, rfl, hS, hg, ht⟩ := hr hpos
    have hcs : n * 3 ≤ cur.size := by
      have := congrArg List.length ht
      rw [hl] at this
      simp at this
      omega
    clear hr ht hl
    go_enter Tryd.func21, Tryd.ntmps21
    go_wp2
    go_loopw [1, 5] (fun kv i wr => ∃ (k m : Nat) (cur' : Array Value), k ≤ n ∧ m = k0 + 3 * k ∧ i = .int .i64 k ∧ kv = .int .i64 (m : Nat) ∧ wr.heap[g]? = some (.cells cur' 50 (0, 0)) ∧ cur'.size = cur.size ∧ (∀ j, j < k → cur'[3 * j]? = some (.bool ((k0 + 3 * j) % 3 == 0)) ∧ cur'[3 * j + 1]? = some (.int .i64 (k0 + 3 * j + 1 : Nat)) ∧ cur'[3 * j + 2]? = some (.string (mtxt (k0 + 3 * j + 2)))) ∧ Upd S w wr) (fun _ i _ => n - (intOf i).toNat)
    case atStart => exact ⟨0, k0, cur, Nat.zero_le _, rfl, rfl, rfl, hg, rfl, fun j hj => by omega, Upd.refl _ _⟩
    case round =>
      obtain ⟨k, m, cur', hk, hm, rfl, rfl, hgr, hsz, hmk, hup⟩ := hrel
      have HMK : Hid (∀ j, j < k → cur'[3 * j]? = some (.bool ((k0 + 3 * j) % 3 == 0)) ∧ cur'[3 * j + 1]? = some (.int .i64 (k0 + 3 * j + 1 : Nat)) ∧ cur'[3 * j + 2]? = some (.string (mtxt (k0 + 3 * j + 2)))) := hmk
      clear hmk
      have Hm : Hid (m = k0 + 3 * k) := hm
      have HS : Hid (cur'.size = cur.size) := hsz
      have hs1 : n * 3 ≤ cur'.size := by omega
      by_cases hlt : k < n
      · have hi : (k : Int) < (n : Int) := by omega
        have hm1 : 1 ≤ m := by omega
        have hm2 : m + 2 ≤ 1099511627776 := by omega
        clear hm hsz
        obtain ⟨u, hu⟩ : ∃ u, cur'[k * 3]? = some u := ⟨cur'[k * 3]'(by omega), by simp [show k * 3 < cur'.size by omega]⟩
        obtain ⟨u2, hu2⟩ : ∃ u2, cur'[k * 3 + 1]? = some u2 := ⟨cur'[k * 3 + 1]'(by omega), by simp [show k * 3 + 1 < cur'.size by omega]⟩
        obtain ⟨u3, hu3⟩ : ∃ u3, cur'[k * 3 + 2]? = some u3 := ⟨cur'[k * 3 + 2]'(by omega), by simp [show k * 3 + 2 < cur'.size by omega]⟩
        have hcw : wr.cell? ⟨g, k * 3, none⟩ = some u := (cell_of_row wr g _ cur' _ (0, 0) hgr).trans hu
        have hcw2 : wr.cell? ⟨g, k * 3 + 1, none⟩ = some u2 := (cell_of_row wr g _ cur' _ (0, 0) hgr).trans hu2
        have hfw : wr.frozen? ⟨g, k * 3, none⟩ = false := frozen_of_row wr g _ cur' _ hgr
        have hfw2 : wr.frozen? ⟨g, k * 3 + 1, none⟩ = false := frozen_of_row wr g _ cur' _ hgr
        have Hg := hide hgr
        have Hu3 := hide hu3
        clear hgr hu hu2 hu3
        have HMOD : Hid (((m : Int) % 3 == 0) = (m % 3 == 0)) := by show _ = _; rw [Bool.eq_iff_iff]; simp only [beq_iff_eq]; omega
        go_wp2_with fail
        refine (markText_at _ (m + 2) _ (by omega) (by omega) (by omega)).mono ?_
        rintro e w1 ⟨rfl, hbm⟩
        have hgw := bKeeps hbm (row_set _ (row_set _ Hg.out))
        have hcw1 : w1.cell? ⟨g, k * 3 + 2, none⟩ = some u3 := by rw [cell_of_row w1 g _ _ _ (0, 0) hgw, Array.getElem?_setIfInBounds_ne (by omega), Array.getElem?_setIfInBounds_ne (by omega)]; exact Hu3.out
        have hfw1 : w1.frozen? ⟨g, k * 3 + 2, none⟩ = false := frozen_of_row w1 g _ _ _ hgw
        have Hgw := hide hgw
        clear hgw hcw hfw hcw2 hfw2
        go_wp2
        go_roundw
        case rel =>
          refine ⟨k + 1, m + 3, _, by omega, by rw [Hm.out]; omega, by go_num, by go_num, row_set _ Hgw.out, by simpa using HS.out, fun j hj => ?_, (((hup.trans (Upd.setCell _ _ _ _ hS)).trans (Upd.setCell _ _ _ _ hS)).trans (Upd.ofBelow hbm)).trans (Upd.setCell _ _ _ _ hS)⟩
          have h3 := set3 (cur := cur') (j := j) (k := k) (.bool (m % 3 == 0)) (.int .i64 (m + 1 : Nat)) (.string (mtxt (m + 2))) (by have := HS.out; omega)
          have hmm := Hm.out
          rw [HMOD.out, show (m : Int) + 1 = ((m + 1 : Nat) : Int) by omega]
          by_cases hjk : j = k
          · have := h3.1 hjk
            subst hjk
            rw [show k0 + 3 * j = m by omega]
            exact this
          · obtain ⟨q1, q2, q3⟩ := h3.2 hjk
            obtain ⟨r1, r2, r3⟩ := HMK.out j (by omega)
            exact ⟨q1.trans r1, q2.trans r2, q3.trans r3⟩
        case measure => simp [intOf]; omega
      · go_wp2
        go_ret
        obtain rfl : k = n := by omega
        refine ⟨by rw [Hm.out]; rfl, ⟨_, cap, rfl, hn, by rw [scells_len, mkT_len], fun _ => ⟨g, cur', rfl, hS, hgr, ?_⟩⟩, hup⟩
        refine scells_ext _ _ (by rw [mkT_len]; simp; omega) (fun j x hx => ?_)
        have hj : j < k := by rcases Nat.lt_or_ge j k with h | h; exact h; rw [List.getElem?_eq_none (by rw [mkT_len]; exact h)] at hx; cases hx
        rw [mkT_get k0 k j hj] at hx
        obtain rfl := Option.some.inj hx
        rw [List.getElem?_take_of_lt (by omega), List.getElem?_take_of_lt (by omega), List.getElem?_take_of_lt (by omega)]
        simpa using HMK.out j hj

set_option maxHeartbeats 2000000 in
theorem heldSecStepS_ok (v : Value) (n k0 : Nat) (w : World) (hr : RowR w 3 v n (scells (mkT k0 n))) (h1 : 1 ≤ k0) (h2 : k0 + 3 * n ≤ 1099511627776) :
    Calls Tryd.prog 22 #[v, .int .i64 k0] w fun e w' => e = .returned (.int .i64 (k0 + 3 * n : Nat)) ∧ Below w.heap.size w w' := by
  obtain ⟨ao, cap, rfl, hn, hl, hr⟩ := hr
  clear hl
  go_enter Tryd.func22, Tryd.ntmps22
  go_wp2
  go_loopw [1, 5] (fun kv i wr => ∃ k m : Nat, k ≤ n ∧ m = k0 + 3 * k ∧ i = .int .i64 k ∧ kv = .int .i64 (m : Nat) ∧ Below w.heap.size w wr) (fun _ i _ => n - (intOf i).toNat)
  case atStart => exact ⟨0, k0, Nat.zero_le _, rfl, rfl, rfl, Below.refl _ _⟩
  case round =>
    obtain ⟨k, m, hk, hm, rfl, rfl, hbel⟩ := hrel
    have Hm : Hid (m = k0 + 3 * k) := hm
    by_cases hlt : k < n
    · have hm1 : 1 ≤ m := by omega
      have hm2 : m + 2 ≤ 1099511627776 := by omega
      have hmod : ((m : Int) % 3 == 0) = (m % 3 == 0) := by rw [Bool.eq_iff_iff]; simp only [beq_iff_eq]; omega
      obtain ⟨b1, o1, rfl, hc1⟩ := hr (by omega)
      obtain ⟨e0, e1, e2⟩ := scells_at _ k _ (mkT_get k0 n k hlt)
      have g1 := hc1 _ _ e0
      have g2 := hc1 _ _ e1
      have g3 := hc1 _ _ e2
      simp only at g1 g2 g3
      rw [← hm] at g1 g2 g3
      have hlb : b1 < w.heap.size := World.block_lt_of_cell? w _ g1
      obtain ⟨q, hq⟩ : ∃ q, ((m : Int) % 3 == 0) = q := ⟨_, rfl⟩
      rw [← hmod, hq] at g1
      have f1 : wr.cell? ⟨b1, o1 + k * 3, none⟩ = some (.bool q) := by rw [Nat.mul_comm k 3]; exact (hbel.cell (p := ⟨b1, o1 + 3 * k, none⟩) hlb).trans g1
      have f2 : wr.cell? ⟨b1, o1 + k * 3 + 1, none⟩ = some (.int .i64 ((m : Int) + 1)) := by rw [Nat.mul_comm k 3]; exact (hbel.cell (p := ⟨b1, o1 + (3 * k + 1), none⟩) hlb).trans (by rw [g2]; rfl)
      have f3 : wr.cell? ⟨b1, o1 + k * 3 + 2, none⟩ = some (.string (mtxt (m + 2))) := by rw [Nat.mul_comm k 3]; exact (hbel.cell (p := ⟨b1, o1 + (3 * k + 2), none⟩) hlb).trans g3
      have hi : (k : Int) < (n : Int) := by omega
      have hsz := hbel.size
      clear hr hc1 g1 g2 g3 e0 e1 e2 hm hmod
      cases q <;> (
        go_wp2
        go_region_with (go_at_call 42; refine (markText_at _ (m + 2) _ (by omega) (by omega) (by omega)).mono ?_; rintro e w1 ⟨rfl, hbm⟩; have hbm' : Below wr.heap.size wr w1 := bUndrew hbm; have f4 : w1.cell? ⟨b1, o1 + k * 3 + 2, none⟩ = some (.string (mtxt (m + 2))) := (hbm'.cell (p := ⟨b1, o1 + k * 3 + 2, none⟩) (by show b1 < wr.heap.size; omega)).trans f3)
        all_goals
          go_wp2
          go_roundw
          case rel => exact ⟨k + 1, m + 3, by omega, by rw [Hm.out]; omega, by go_num, by go_num, bAllTo hbel hbm'⟩
          case measure => simp [intOf]; omega)
    · clear hm
      go_wp2
      go_ret
      obtain rfl : k = n := by omega
      exact ⟨by rw [Hm.out]; rfl, hbel⟩

end Go.Proofs.YtapflnabiobonaaDoor
