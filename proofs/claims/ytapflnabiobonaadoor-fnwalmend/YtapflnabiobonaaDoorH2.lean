/- What the laws' own helpers do with slices of writes and with disks: contracts; no statement of the seat is proved here. -/
import Derived.Test.YtapflnabiobonaaDoorH
namespace Go.Proofs.YtapflnabiobonaaDoor
open Go.RowKit

/-- The marks of n writes from k on. -/
def mkW (k n : Nat) : List (Int × ByteArray) := (List.range n).map fun i => (((k + 2 * i : Nat) : Int), mtxt (k + 2 * i + 1))

theorem mkW_get (k n i : Nat) (h : i < n) : (mkW k n)[i]? = some (((k + 2 * i : Nat) : Int), mtxt (k + 2 * i + 1)) := by simp [mkW, h]
theorem mkW_len (k n : Nat) : (mkW k n).length = n := by simp [mkW]
theorem mkS_len (k n : Nat) : (mkS k n).length = n := by simp [mkS]

/-- A list of cells that holds the marks at every place is the marks' list. -/
theorem wcells_ext (k n : Nat) (cs : List Value) (hl : cs.length = n * 2) (h : ∀ j, j < n → cs[2 * j]? = some (.int .i64 (k + 2 * j : Nat)) ∧ cs[2 * j + 1]? = some (.string (mtxt (k + 2 * j + 1)))) : cs = wcells (mkW k n) := by
  apply List.ext_getElem?
  intro j
  by_cases hj : j < n * 2
  · have hh := h (j / 2) (by omega)
    have hw := wcells_at (mkW k n) (j / 2) _ (mkW_get k n (j / 2) (by omega))
    rcases Nat.mod_two_eq_zero_or_one j with e | e
    · rw [show 2 * (j / 2) = j by omega] at hh hw
      rw [hh.1, hw.1]
    · rw [show 2 * (j / 2) + 1 = j by omega] at hh hw
      rw [hh.2, hw.2]
  · rw [List.getElem?_eq_none (by omega), List.getElem?_eq_none (by rw [wcells_len, mkW_len]; omega)]

set_option maxHeartbeats 1000000 in
theorem markSecWriteS_any (S : Nat → Prop) (v : Value) (n : Nat) (cs : List Value) (k0 : Nat) (w : World) (hr : Row w 63 2 S v n cs) (h1 : 1 ≤ k0) (h2 : k0 + 2 * n ≤ 1099511627776) :
    Calls Tryd.prog 41 #[v, .int .i64 k0] w fun e w' => e = .returned (.int .i64 (k0 + 2 * n : Nat)) ∧ Row w' 63 2 S v n (wcells (mkW k0 n)) ∧ Upd S w w' := by
  obtain ⟨ao, cap, rfl, hn, hl, hr⟩ := hr
  rcases Nat.eq_zero_or_pos n with rfl | hpos
  · go_enter Tryd.func41, Tryd.ntmps41
    go_wp2
    refine wp_loop_rounds 1 ?_
    rw [rounds_succ]
    go_wp2
    go_ret
    exact ⟨rfl, ⟨ao, cap, rfl, hn, by simp [mkW, wcells], fun h => by omega⟩, Upd.refl _ _⟩
  · obtain ⟨g, cur, rfl, hS, hg, ht⟩ := hr hpos
    have hcs : n * 2 ≤ cur.size := by
      have := congrArg List.length ht
      rw [hl] at this
      simp at this
      omega
    clear hr ht hl
    go_enter Tryd.func41, Tryd.ntmps41
    go_wp2
    go_loopw [1, 5] (fun kv i wr => ∃ (k m : Nat) (cur' : Array Value), k ≤ n ∧ m = k0 + 2 * k ∧ i = .int .i64 k ∧ kv = .int .i64 (m : Nat) ∧ wr.heap[g]? = some (.cells cur' 63 (0, 0)) ∧ cur'.size = cur.size ∧ (∀ j, j < k → cur'[2 * j]? = some (.int .i64 (k0 + 2 * j : Nat)) ∧ cur'[2 * j + 1]? = some (.string (mtxt (k0 + 2 * j + 1)))) ∧ Upd S w wr) (fun _ i _ => n - (intOf i).toNat)
    case atStart => exact ⟨0, k0, cur, Nat.zero_le _, rfl, rfl, rfl, hg, rfl, fun j hj => by omega, Upd.refl _ _⟩
    case round =>
      obtain ⟨k, m, cur', hk, hm, rfl, rfl, hgr, hsz, hmk, hup⟩ := hrel
      have Hm : Hid (m = k0 + 2 * k) := hm
      have HM : Hid (∀ j, j < k → cur'[2 * j]? = some (.int .i64 (k0 + 2 * j : Nat)) ∧ cur'[2 * j + 1]? = some (.string (mtxt (k0 + 2 * j + 1)))) := hmk
      clear hmk
      have HS : Hid (cur'.size = cur.size) := hsz
      have hs1 : n * 2 ≤ cur'.size := by omega
      by_cases hlt : k < n
      · have hi : (k : Int) < (n : Int) := by omega
        have hm1 : 1 ≤ m := by omega
        have hm2 : m + 1 ≤ 1099511627776 := by omega
        clear hm hsz
        obtain ⟨u, hu⟩ : ∃ u, cur'[k * 2]? = some u := ⟨cur'[k * 2]'(by omega), by simp [show k * 2 < cur'.size by omega]⟩
        obtain ⟨u2, hu2⟩ : ∃ u2, cur'[k * 2 + 1]? = some u2 := ⟨cur'[k * 2 + 1]'(by omega), by simp [show k * 2 + 1 < cur'.size by omega]⟩
        have hcw : wr.cell? ⟨g, k * 2, none⟩ = some u := (cell_of_row wr g _ cur' _ (0, 0) hgr).trans hu
        have hfw : wr.frozen? ⟨g, k * 2, none⟩ = false := frozen_of_row wr g _ cur' _ hgr
        have hg1 := row_set (j := k * 2) (.int .i64 (m : Nat)) hgr
        have Hg1 : Hid ((wr.setCell ⟨g, k * 2, none⟩ (.int .i64 (m : Nat))).heap[g]? = _) := hg1
        clear hg1
        go_wp2_with fail
        refine (markText_at _ (m + 1) _ (by omega) (by omega) (by omega)).mono ?_
        rintro e w1 ⟨rfl, hbm⟩
        have hgw := bKeeps hbm Hg1.out
        have hcw1 : w1.cell? ⟨g, k * 2 + 1, none⟩ = some u2 := by rw [cell_of_row w1 g _ _ _ (0, 0) hgw, Array.getElem?_setIfInBounds_ne (by omega)]; exact hu2
        have hfw1 : w1.frozen? ⟨g, k * 2 + 1, none⟩ = false := frozen_of_row w1 g _ _ _ hgw
        have Hgw : Hid (w1.heap[g]? = some (.cells (cur'.setIfInBounds (k * 2) (.int .i64 (m : Nat))) 63 (0, 0))) := hgw
        clear hgw Hg1 hcw hfw hu hu2
        go_wp2
        go_roundw
        case rel =>
          refine ⟨k + 1, m + 2, _, by omega, by rw [Hm.out]; omega, by go_num, by go_num, row_set _ Hgw.out, by simpa using HS.out, fun j hj => ?_, ((hup.trans (Upd.setCell _ _ _ _ hS)).trans (Upd.ofBelow hbm)).trans (Upd.setCell _ _ _ _ hS)⟩
          by_cases hjk : j = k
          · subst hjk
            rw [Nat.mul_comm 2 j, Array.getElem?_setIfInBounds_ne (by omega), Array.getElem?_setIfInBounds_self_of_lt (by omega), Array.getElem?_setIfInBounds_self_of_lt (by simp; omega)]
            have := Hm.out
            exact ⟨by rw [show k0 + j * 2 = m by omega], by rw [show k0 + j * 2 + 1 = m + 1 by omega]⟩
          · have := HM.out j (by omega)
            rw [Array.getElem?_setIfInBounds_ne (by omega), Array.getElem?_setIfInBounds_ne (by omega), Array.getElem?_setIfInBounds_ne (by omega), Array.getElem?_setIfInBounds_ne (by omega)]
            exact this
        case measure => simp [intOf]; omega
      · go_wp2
        go_ret
        obtain rfl : k = n := by omega
        refine ⟨by rw [Hm.out]; rfl, ⟨_, cap, rfl, hn, by rw [wcells_len, mkW_len], fun _ => ⟨g, cur', rfl, hS, hgr, ?_⟩⟩, hup⟩
        refine wcells_ext k0 k _ (by simp; omega) (fun j hj => ?_)
        rw [List.getElem?_take_of_lt (by omega), List.getElem?_take_of_lt (by omega)]
        simpa using HM.out j hj

end Go.Proofs.YtapflnabiobonaaDoor
