/- What the law FnExactBlkMark does: its walk; the statement itself is proved elsewhere. -/
import Derived.Test.YtcanhoemhdkjkaaBT9
import Derived.Test.YtcanhoemhdkjkaaBOneL
namespace Go.Proofs.Ytcanhoemhdkjkaa
open Go.RowKit

set_option maxRecDepth 100000 in
set_option maxHeartbeats 4000000 in
theorem blkMark_walk (so : Option Addr) (sc : Nat) (xs : List Lc) (d b : Int) (w : World) (hxs : RowR w 2 (.slice so xs.length sc) xs.length (lcells xs)) :
    Calls Try.prog 8 #[.slice so xs.length sc, .int .i64 d, .int .i64 b] w fun e w' => e = .returned (.bool true) ∧ Below w.heap.size w w' := by
  have hxn : xs.length ≤ 9223372036854775807 := by obtain ⟨_, _, _, h, _⟩ := hxs; exact h
  have HXS := hide hxs
  clear hxs
  go_enter Try.func8, Try.ntmps8
  go_wp2_with fail
  refine (szBlkLastS_any so xs.length sc 1048576 _ hxn (by omega) (by omega)).mono ?_
  rintro e w1 ⟨r, rfl, hz, b1⟩
  rcases hz with hneg | ⟨hr, hr0⟩
  · go_wp2
    go_ret
    exact ⟨rfl, b1⟩
  have hl : xs.length ≤ 1048576 := by omega
  clear hr
  go_wp2_with fail
  refine (toBlkLastS_any _ xs.length xs _ (HXS.out.keep b1) hl).mono ?_
  rintro e w2 ⟨so2, rfl, r2, b2⟩
  have c2 := bAll b1 b2
  have k2 := r2.reads
  clear r2 b1 b2
  obtain ⟨X, HX⟩ : ∃ X, Hid (markR xs d b = X) := ⟨_, rfl⟩
  have hXl : X.length ≤ 60 := by rw [← HX.out]; exact markR_len xs d b
  obtain ⟨M, HM, hM0⟩ : ∃ M : Int, Hid (M = ((1 + X.length * 2 : Nat) : Int)) ∧ 0 ≤ M := ⟨_, rfl, by omega⟩
  obtain ⟨Mx, HMx, hMx0⟩ : ∃ M : Int, Hid (M = ((1 + xs.length * 2 : Nat) : Int)) ∧ 0 ≤ M := ⟨_, rfl, by omega⟩
  have SC := hide (specBlkMark_any so2 xs.length xs d b w2 k2)
  rw [HX.out] at SC
  go_wp2_with fail
  refine SC.out.mono ?_
  rintro e w3 ⟨v3, rfl, r3', b3⟩
  have c3 := bAll c2 b3
  clear SC
  have r3 := rowWithin (RowA.row r3' (by omega)) w3.heap.size rfl
  obtain ⟨o3, q3, rfl⟩ := r3.shape
  clear r3'
  have z3 := c3.size
  go_wp2_with fail
  refine (toBlkLastS_any _ xs.length xs _ (HXS.out.keep c3) hl).mono ?_
  rintro e w4 ⟨so4, rfl, r4', b4⟩
  have c4 := bAll c3 b4
  have k4 := r4'.reads
  have r4 := rowWithin r4' w4.heap.size rfl
  clear r4'
  replace r3 := r3.keepB b4
  have z4 := b4.size
  have IC := fun o w h => implBlkMark_any o xs.length xs d b w h (Nat.le_refl _)
  simp only [HX.out] at IC
  have IC := hide IC
  go_wp2_with fail
  refine (IC.out _ _ k4).mono ?_
  rintro e w5 ⟨v5, rfl, r5', b5⟩
  have c5 := bAll c4 b5
  have r5 := rowWithin (Row.ofOwns r5' (by omega)) w5.heap.size rfl
  obtain ⟨o5, q5, rfl⟩ := r5.shape
  clear r5'
  replace r3 := r3.keepB b5
  replace r4 := r4.keepB b5
  have z5 := b5.size
  go_wp2_with fail
  refine (eqBlkLastS_true _ _ X.length X _ r5.reads r3.reads).mono ?_
  rintro e w6 ⟨rfl, b6⟩
  have c6 := bAll c5 b6
  replace r3 := r3.keepB b6
  replace r4 := r4.keepB b6
  replace r5 := r5.keepB b6
  go_wp2_with fail
  refine (toBlkLastS_any _ xs.length xs _ (HXS.out.keep c6) hl).mono ?_
  rintro e w7 ⟨so7, rfl, r7, b7⟩
  have c7 := bAll c6 b7
  replace r3 := r3.keepB b7
  replace r4 := r4.keepB b7
  replace r5 := r5.keepB b7
  go_wp2_with fail
  refine (eqBlkLastS_true _ _ xs.length xs _ r4.reads r7.reads).mono ?_
  rintro e w8 ⟨rfl, b8⟩
  have c8 := bAll c7 b8
  replace r3 := r3.keepB b8
  replace r4 := r4.keepB b8
  replace r5 := r5.keepB b8
  clear r7
  -- the argument is marked
  go_wp2_with fail
  refine (markBlkLastS_one _ _ xs.length _ Mx _ r4 HMx.out hl).mono ?_
  rintro e w9 ⟨rfl, -, u9⟩
  have c9 : Below w.heap.size w w9 := c8.trans (u9.below c8.size (fun k hk => by have := hk.1; omega))
  replace r3 := r3.keep u9 (fun k h1 h2 => by have := h1.2; have := h2.1; omega)
  replace r5 := r5.keep u9 (fun k h1 h2 => by have := h1.1; have := h2.2; omega)
  go_wp2_with fail
  refine (eqBlkLastS_true _ _ X.length X _ r5.reads r3.reads).mono ?_
  rintro e w10 ⟨rfl, b10⟩
  have c10 := bAll c9 b10
  replace r3 := r3.keepB b10
  replace r5 := r5.keepB b10
  -- the answer is marked
  go_wp2_with fail
  refine (markBlkLastS_one _ _ X.length _ M _ r5 HM.out (by omega)).mono ?_
  rintro e w11 ⟨rfl, g11, u11⟩
  have c11 : Below w.heap.size w w11 := c10.trans (u11.below c10.size (fun k hk => by have := hk.1; omega))
  replace r3 := r3.keep u11 (fun k h1 h2 => by have := h1.2; have := h2.1; omega)
  clear r5
  go_wp2_with fail
  refine (heldBlkLastS_one _ X.length M _ g11.reads HM.out (by omega)).mono ?_
  rintro e w12 ⟨rfl, b12⟩
  have c12 := bAll c11 b12
  replace r3 := r3.keepB b12
  replace g11 := g11.keepB b12
  go_wp2_with fail
  refine (toBlkLastS_any _ xs.length xs _ (HXS.out.keep c12) hl).mono ?_
  rintro e w13 ⟨so13, rfl, r13, b13⟩
  have c13 := bAll c12 b13
  replace r3 := r3.keepB b13
  replace g11 := g11.keepB b13
  go_wp2_with fail
  refine (IC.out _ _ r13.reads).mono ?_
  rintro e w14 ⟨v14, rfl, r14', b14⟩
  have c14 := bAll c13 b14
  have r14 := Row.ofOwns r14' (by omega)
  obtain ⟨o14, q14, rfl⟩ := r14.shape
  clear r14'
  replace r3 := r3.keepB b14
  replace g11 := g11.keepB b14
  go_wp2_with fail
  refine (eqBlkLastS_true _ _ X.length X _ r14.reads r3.reads).mono ?_
  rintro e w15 ⟨rfl, b15⟩
  have c15 := bAll c14 b15
  replace g11 := g11.keepB b15
  go_wp2_with fail
  refine (heldBlkLastS_one _ X.length M _ g11.reads HM.out (by omega)).mono ?_
  rintro e w16 ⟨rfl, b16⟩
  go_wp2
  go_ret
  exact ⟨rfl, bAll c15 b16⟩

end Go.Proofs.Ytcanhoemhdkjkaa
