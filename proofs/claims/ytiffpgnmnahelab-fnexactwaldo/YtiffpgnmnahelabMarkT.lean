/- What marking steps turns: a contract; no statement of the seat is proved here. -/
import Derived.Test.YtiffpgnmnahelabStep
namespace Go.Proofs.Ytiffpgnmnahelab
open Go.RowKit

set_option maxHeartbeats 2000000 in
theorem markSecStepS_turns (S : Nat → Prop) (v : Value) (n : Nat) (cs : List Value) (a0 : Int) (k0 : Nat) (w : World) (hr : Row w 53 3 S v n cs) (ha : a0 = k0) (h1 : 1 ≤ k0) (h2 : k0 + 3 * n ≤ 1099511627776) :
    Calls Try.prog 15 #[v, .int .i64 a0] w fun e w' => e = .returned (.int .i64 (k0 + 3 * n : Nat)) ∧ Upd S w w' := by
  subst ha
  obtain ⟨ao, cap, rfl, hn, hl, hr⟩ := hr
  rcases Nat.eq_zero_or_pos n with rfl | hpos
  · go_enter Try.func15, Try.ntmps15
    go_wp2
    refine wp_loop_rounds 1 ?_
    rw [rounds_succ]
    go_wp2
    go_ret
    exact ⟨rfl, Upd.refl _ _⟩
  · obtain ⟨g, cur, rfl, hS, hg, ht⟩ := hr hpos
    have hcs : n * 3 ≤ cur.size := by
      have := congrArg List.length ht
      rw [hl] at this
      simp at this
      omega
    clear hr ht hl
    go_enter Try.func15, Try.ntmps15
    go_wp2
    go_loopw [1, 5] (fun kv i wr => ∃ (k m : Nat) (cur' : Array Value), k ≤ n ∧ m = k0 + 3 * k ∧ i = .int .i64 k ∧ kv = .int .i64 (m : Nat) ∧ wr.heap[g]? = some (.cells cur' 53 (0, 0)) ∧ cur'.size = cur.size ∧ Upd S w wr) (fun _ i _ => n - (intOf i).toNat)
    case atStart => exact ⟨0, k0, cur, Nat.zero_le _, rfl, rfl, rfl, hg, rfl, Upd.refl _ _⟩
    case round =>
      obtain ⟨k, m, cur', hk, hm, rfl, rfl, hgr, hsz, hup⟩ := hrel
      have Hm : Hid (m = k0 + 3 * k) := hm
      have HS : Hid (cur'.size = cur.size) := hsz
      have hs1 : n * 3 ≤ cur'.size := by omega
      by_cases hlt : k < n
      · have hi : (k : Int) < (n : Int) := by omega
        have hm1 : 1 ≤ m := by omega
        have hm2 : m + 2 ≤ 1099511627776 := by omega
        clear hm hsz
        obtain ⟨u, hu⟩ : ∃ u, cur'[k * 3]? = some u := ⟨cur'[k * 3]'(by omega), by simp [show k * 3 < cur'.size by omega]⟩
        obtain ⟨u2, hu2⟩ : ∃ u2, cur'[k * 3 + 1]? = some u2 := ⟨cur'[k * 3 + 1]'(by omega), by simp [show k * 3 + 1 < cur'.size by omega]⟩
        obtain ⟨u3, hu3⟩ : ∃ u3, cur'[k * 3 + 2]? = some u3 := ⟨cur'[k * 3 + 2]'(by omega), by simp [show k * 3 + 2 < cur'.size by omega]⟩
        have hcw : wr.cell? ⟨g, k * 3, none⟩ = some u := (cell_of_row wr g _ cur' _ (0, 0) hgr).trans hu
        have hcw2 : wr.cell? ⟨g, k * 3 + 1, none⟩ = some u2 := (cell_of_row wr g _ cur' _ (0, 0) hgr).trans hu2
        have hfw : wr.frozen? ⟨g, k * 3, none⟩ = false := frozen_of_row wr g _ cur' _ hgr
        have hfw2 : wr.frozen? ⟨g, k * 3 + 1, none⟩ = false := frozen_of_row wr g _ cur' _ hgr
        have Hg := hide hgr
        have Hu3 := hide hu3
        clear hgr hu hu2 hu3
        go_wp2_with fail
        refine (markText_at _ (m + 2) _ (by omega) (by omega) (by omega)).mono ?_
        rintro e w1 ⟨rfl, hbm⟩
        have hgw := bKeeps hbm (row_set _ (row_set _ Hg.out))
        have hcw1 : w1.cell? ⟨g, k * 3 + 2, none⟩ = some u3 := by rw [cell_of_row w1 g _ _ _ (0, 0) hgw, Array.getElem?_setIfInBounds_ne (by omega), Array.getElem?_setIfInBounds_ne (by omega)]; exact Hu3.out
        have hfw1 : w1.frozen? ⟨g, k * 3 + 2, none⟩ = false := frozen_of_row w1 g _ _ _ hgw
        have Hgw := hide hgw
        clear hgw hcw hfw hcw2 hfw2
        go_wp2
        go_roundw
        case rel =>
          exact ⟨k + 1, m + 3, _, by omega, by rw [Hm.out]; omega, by go_num, by go_num, row_set _ Hgw.out, by simpa using HS.out, (((hup.trans (Upd.setCell _ _ _ _ hS)).trans (Upd.setCell _ _ _ _ hS)).trans (Upd.ofBelow hbm)).trans (Upd.setCell _ _ _ _ hS)⟩
        case measure => simp [intOf]; omega
      · go_wp2
        go_ret
        obtain rfl : k = n := by omega
        exact ⟨by rw [Hm.out]; rfl, hup⟩

end Go.Proofs.Ytiffpgnmnahelab
