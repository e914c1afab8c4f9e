/- What the law FnExactBlkCall does: its walk; the statement itself is proved elsewhere. -/
import Derived.Test.YtcanhoemhdkjkaaBT8
namespace Go.Proofs.Ytcanhoemhdkjkaa
open Go.RowKit

set_option maxRecDepth 100000 in
set_option maxHeartbeats 4000000 in
theorem blkCall_walk (so : Option Addr) (sc : Nat) (xs : List Lc) (d : Int) (w : World) (hxs : RowR w 2 (.slice so xs.length sc) xs.length (lcells xs)) :
    Calls Try.prog 7 #[.slice so xs.length sc, .int .i64 d] w fun e w' => e = .returned (.bool true) ∧ Below w.heap.size w w' := by
  have hxn : xs.length ≤ 9223372036854775807 := by obtain ⟨_, _, _, h, _⟩ := hxs; exact h
  have HXS := hide hxs
  clear hxs
  go_enter Try.func7, Try.ntmps7
  go_wp2_with fail
  refine (szBlkLastS_any so xs.length sc 1048576 _ hxn (by omega) (by omega)).mono ?_
  rintro e w1 ⟨r, rfl, hz, b1⟩
  rcases hz with hneg | ⟨hr, hr0⟩
  · go_wp2
    go_ret
    exact ⟨rfl, b1⟩
  have hl : xs.length ≤ 1048576 := by omega
  clear hr
  go_wp2_with fail
  refine (toBlkLastS_any _ xs.length xs _ (HXS.out.keep b1) hl).mono ?_
  rintro e w2 ⟨so2, rfl, r2, b2⟩
  have c2 := bAll b1 b2
  have k2 := r2.reads
  clear r2 b1 b2
  obtain ⟨R, HR⟩ : ∃ R, Hid (callR xs d = R) := ⟨_, rfl⟩
  have SC := hide (specBlkCall_any so2 xs.length xs d w2 k2)
  rw [HR.out] at SC
  go_wp2_with fail
  refine SC.out.mono ?_
  rintro e w3 ⟨rfl, b3⟩
  have c3 := bAll c2 b3
  clear SC
  go_wp2_with fail
  refine (toBlkLastS_any _ xs.length xs _ (HXS.out.keep c3) hl).mono ?_
  rintro e w4 ⟨so4, rfl, r4, b4⟩
  have c4 := bAll c3 b4
  have k4 := r4.reads
  have IC := hide (implBlkCall_any so4 xs.length xs d w4 k4)
  rw [HR.out] at IC
  go_wp2_with fail
  refine IC.out.mono ?_
  rintro e w5 ⟨rfl, b5⟩
  have c5 := bAll c4 b5
  clear IC
  go_wp2_with fail
  refine (toBlkLastS_any _ xs.length xs _ (HXS.out.keep c5) hl).mono ?_
  rintro e w6 ⟨so6, rfl, r6, b6⟩
  have c6 := bAll c5 b6
  go_wp2_with fail
  refine (eqBlkLastS_true _ _ xs.length xs _ (k4.keep (bAll b5 b6)) r6.reads).mono ?_
  rintro e w7 ⟨rfl, b7⟩
  go_wp2
  go_ret
  exact ⟨rfl, bAll c6 b7⟩

end Go.Proofs.Ytcanhoemhdkjkaa
