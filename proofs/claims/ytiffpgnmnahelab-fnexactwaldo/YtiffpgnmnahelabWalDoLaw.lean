/- What the law FnExactWalDo does: its walk; the statement itself is proved elsewhere. -/
import Derived.Test.YtiffpgnmnahelabSt
import Derived.Test.YtiffpgnmnahelabCutLaw
import Derived.Test.YtiffpgnmnahelabIWalDo
import Derived.Test.YtiffpgnmnahelabMarkT
namespace Go.Proofs.Ytiffpgnmnahelab
open Go.RowKit

set_option maxRecDepth 100000 in
set_option maxHeartbeats 4000000 in
theorem walDo_walk (v : Value) (so : Option Addr) (sc : Nat) (xs : List Stp) (cut : Bool) (after : Int) (ko : Option Addr) (kc : Nat) (ks : List Int) (kept : List ByteArray) (wait : List (Int × ByteArray)) (w : World) (hv : DiskIn w v kept wait) (hxs : RowR w 3 (.slice so xs.length sc) xs.length (scells xs)) (hxz : ∀ x ∈ xs, x.2.2.size ≤ 9223372036854775807) (hks : RowR w 1 (.slice ko ks.length kc) ks.length (ks.map (Value.int .i64))) :
    Calls Try.prog 3 #[v, .slice so xs.length sc, .bool cut, .int .i64 after, .slice ko ks.length kc] w fun e w' => e = .returned (.bool true) ∧ Below w.heap.size w w' := by
  obtain ⟨ao, ca, ao', ca', rfl⟩ := hv.reads.shape
  obtain ⟨R, HR⟩ : ∃ R, Hid ((doR kept wait xs cut after ks).1 = R) := ⟨_, rfl⟩
  obtain ⟨X, HX⟩ : ∃ X : List (Int × ByteArray), Hid ((doR kept wait xs cut after ks).2 = X) := ⟨_, rfl⟩
  have hRl : R.length ≤ 512 := by rw [← HR.out]; exact (doR_len kept wait xs cut after ks).1
  have hXl : X.length ≤ 600 := by rw [← HX.out]; exact (doR_len kept wait xs cut after ks).2
  have specC := fun v so ko kc w hr hx hk => specWalDo_any v kept wait so ko xs.length kc xs cut after ks w hr hx hxz hk hv.kept hv.wait
  have implC := fun v so ko kc w hr hx hk => implWalDo_any v kept wait so ko xs.length kc xs cut after ks w hr hx (Nat.le_refl _) hxz hk hv.kept hv.wait
  rw [HR.out, HX.out] at specC implC
  have SpecC := hide specC
  have ImplC := hide implC
  clear specC implC HR HX
  have hal : Below w.heap.size w (w.alloc (.cells #[.slice ao kept.length ca, .slice ao' wait.length ca'] 25)) := (Below.refl _ _).alloc (Nat.le_refl _) _
  have st : St (w.alloc (.cells #[.slice ao kept.length ca, .slice ao' wait.length ca'] 25)) [⟨w.heap.size, .slice ao kept.length ca, .slice ao' wait.length ca', 25⟩] [] := St.addB ⟨by simp, by simp⟩ _ _ _
  have Hv := hide hv
  have hd := hv.reads.keep hal
  clear hv
  have HKS := hide hks
  have HXS := hide hxs
  have HXZ := hide hxz
  have hxn : xs.length ≤ 9223372036854775807 := by obtain ⟨_, _, _, h, _⟩ := hxs; exact h
  clear hxs hxz
  have hkn : ks.length ≤ 9223372036854775807 := by obtain ⟨_, _, _, h, _⟩ := hks; exact h
  clear hks
  by_cases hbig : (ks.length : Int) > 1048576
  · go_enter Try.func3, Try.ntmps3
    go_wp2
    go_ret
    exact ⟨rfl, hal⟩
  have hkm : ks.length ≤ 1048576 := by omega
  go_enter Try.func3, Try.ntmps3
  go_wp2_with fail
  refine (szSecDisk_any _ kept wait _ hd Hv.out.kept Hv.out.wait).mono ?_
  rintro e w1 ⟨r, rfl, hz, b1⟩
  rcases hz with hneg | ⟨hr, hr0⟩
  · go_wp2
    go_ret
    exact ⟨rfl, bAll hal b1⟩
  have hl1 : kept.length ≤ 1048576 := by omega
  have hl2 : wait.length ≤ 1048576 := by omega
  have hr1 : r ≤ 1048576 := by omega
  clear hr
  have c1 := bAll hal b1
  replace hd := hd.keep b1
  replace st := st.keepB b1
  go_wp2_with fail
  refine (szSecStepS_any _ xs.length xs r _ (RowR.keep HXS.out c1) HXZ.out hr0 hr1).mono ?_
  rintro e w1x ⟨rx, rfl, hzx, b1x⟩
  rcases hzx with hneg | ⟨hrx, hrx0⟩
  · go_wp2
    go_ret
    exact ⟨rfl, bAll c1 b1x⟩
  have hlx : xs.length ≤ 1048576 := by omega
  clear hrx
  replace c1 := bAll c1 b1x
  replace hd := hd.keep b1x
  replace st := st.keepB b1x
  obtain ⟨p0, p1, pl⟩ := st.box _ (List.mem_cons_self)
  go_wp2_with fail
  refine (toSecDisk_any _ kept wait _ hd hl1 hl2).mono ?_
  rintro e w2 ⟨v2, rfl, d2, b2⟩
  obtain ⟨do1, dc1, do2, dc2, rfl⟩ := d2.reads.shape
  replace hd := hd.keep b2
  replace st := st.keepB b2
  have c2 := bAll c1 b2
  clear p0 p1 pl
  go_wp2_with fail
  refine (toSecStepS_any _ xs.length xs _ (RowR.keep HXS.out c2) hlx).mono ?_
  rintro e w2x ⟨so2, rfl, rx2, bx2⟩
  replace hd := hd.keep bx2
  replace st := st.keepB bx2
  replace c2 := bAll c2 bx2
  go_wp2_with fail
  refine (toIntS_any _ ks.length ks _ (RowR.keep HKS.out c2) hkm).mono ?_
  rintro e w2k ⟨vk2, rfl, rk2, bk2⟩
  obtain ⟨ko2, kc2, rfl⟩ := rk2.shape
  have d2k := (d2.reads.keep bx2).keep bk2
  have rx2k := rx2.reads.keep bk2
  replace hd := hd.keep bk2
  replace st := st.keepB bk2
  replace c2 := bAll c2 bk2
  go_wp2_with fail
  refine (unhide SpecC _ _ _ _ _ d2k rx2k rk2.reads).mono ?_
  rintro e w3 ⟨v3, rfl, d3, b3⟩
  obtain ⟨eo1, ec1, eo2, ec2, rfl⟩ := d3.reads.shape
  replace hd := (hd.keep b3).keep ((Below.refl _ _).alloc (Nat.le_refl _) (.cells #[.slice eo1 R.length ec1, .slice eo2 X.length ec2] 32))
  replace st := ((st.keepB b3).addD ⟨_, _, _, _⟩ (d3.within w3.heap.size rfl)).addB (.slice eo1 R.length ec1) (.slice eo2 X.length ec2) 32
  have c3 := bAll c2 b3
  have z3 := c3.size
  clear d2 d2k rk2 d3 rx2 rx2k
  obtain ⟨p0, p1, pl⟩ := st.box _ (List.mem_cons_of_mem _ List.mem_cons_self)
  go_wp2_with fail
  -- the argument's copy that the program is given
  refine (toSecDisk_any _ kept wait _ hd hl1 hl2).mono ?_
  rintro e w4 ⟨v4, rfl, d4, b4⟩
  simp only [World.size_alloc] at d4
  obtain ⟨fo1, fc1, fo2, fc2, rfl⟩ := d4.reads.shape
  have al4 : Below w4.heap.size w4 (w4.alloc (.cells #[.slice fo1 kept.length fc1, .slice fo2 wait.length fc2] 32)) := (Below.refl _ _).alloc (Nat.le_refl _) _
  replace hd := (hd.keep b4).keep al4
  replace st := ((st.keepB b4).addD ⟨_, _, _, _⟩ (d4.within w4.heap.size rfl)).addB (.slice fo1 kept.length fc1) (.slice fo2 wait.length fc2) 32
  have c4 := bAll (bAll c3 ((Below.refl _ _).alloc (Nat.le_refl _) _)) b4
  have z4 := b4.size
  simp only [World.size_alloc] at z4
  have d4' := d4.reads.keep al4
  clear d4 p0 p1 pl
  go_wp2_with fail
  -- the steps' copy that the program is given
  refine (toSecStepS_any _ xs.length xs _ (RowR.keep HXS.out (bAll c4 al4)) hlx).mono ?_
  rintro e w4x ⟨so4, rfl, rx4, bx4⟩
  simp only [World.size_alloc] at rx4
  replace rx4 := rx4.within w4x.heap.size rfl
  replace d4' := d4'.keep bx4
  replace hd := hd.keep bx4
  replace st := st.keepB bx4
  have cx4 := bAll (bAll c4 al4) bx4
  have zx4 := bx4.size
  simp only [World.size_alloc] at zx4
  go_wp2_with fail
  -- the numbers' copy that the program is given
  refine (toIntS_any _ ks.length ks _ (RowR.keep HKS.out cx4) hkm).mono ?_
  rintro e w4k ⟨vk4, rfl, rk4, bk4⟩
  obtain ⟨ko4, kc4, rfl⟩ := rk4.shape
  replace rk4 := rk4.within w4k.heap.size rfl
  replace rx4 := rx4.keepB bk4
  replace d4' := d4'.keep bk4
  replace hd := hd.keep bk4
  replace st := st.keepB bk4
  have ck4 := bAll cx4 bk4
  have zk4 := bk4.size
  obtain ⟨p0, p1, pl⟩ := st.box _ (List.mem_cons_self)
  go_wp2_with fail
  -- what the program answers
  refine (unhide ImplC _ _ _ _ _ d4' rx4.reads rk4.reads).mono ?_
  rintro e w5 ⟨v5, rfl, d5, b5⟩
  try simp only [World.size_alloc] at d5
  obtain ⟨go1, gc1, go2, gc2, rfl⟩ := d5.reads.shape
  have al5 : Below w5.heap.size w5 (w5.alloc (.cells #[.slice go1 R.length gc1, .slice go2 X.length gc2] 32)) := (Below.refl _ _).alloc (Nat.le_refl _) _
  replace hd := (hd.keep b5).keep al5
  replace st := ((st.keepB b5).addD ⟨_, _, _, _⟩ (d5.within w5.heap.size rfl)).addB (.slice go1 R.length gc1) (.slice go2 X.length gc2) 32
  have c5 := bAll (bAll ck4 b5) al5
  replace rk4 := (rk4.keepB b5).keepB al5
  replace rx4 := (rx4.keepB b5).keepB al5
  have z5 := b5.size
  try simp only [World.size_alloc] at z5
  clear d5 d4' p0 p1 pl
  obtain ⟨p0, p1, pl⟩ := st.box _ (List.mem_cons_self)
  obtain ⟨q0, q1, ql⟩ := st.box _ (List.mem_cons_of_mem _ (List.mem_cons_of_mem _ List.mem_cons_self))
  go_wp2_with fail
  refine (eqSecDisk_true _ _ R X _ (st.2 _ List.mem_cons_self).reads (st.2 _ (List.mem_cons_of_mem _ (List.mem_cons_of_mem _ List.mem_cons_self))).reads).mono ?_
  rintro e w6 ⟨rfl, b6⟩
  replace hd := hd.keep b6
  replace st := st.keepB b6
  have c6 := bAll c5 b6
  replace rk4 := rk4.keepB b6
  replace rx4 := rx4.keepB b6
  have z6 := b6.size
  simp only [World.size_alloc] at z6
  clear p0 p1 pl q0 q1 ql
  obtain ⟨p0, p1, pl⟩ := st.box _ (List.mem_cons_of_mem _ List.mem_cons_self)
  obtain ⟨q0, q1, ql⟩ := st.box _ (List.mem_cons_of_mem _ (List.mem_cons_of_mem _ (List.mem_cons_of_mem _ List.mem_cons_self)))
  go_wp2_with fail
  -- the argument is as it was
  have hxd := (st.2 _ (List.mem_cons_of_mem _ List.mem_cons_self)).reads.keep ((Below.refl _ _).drew)
  have Hto := hide (toSecDisk_any _ kept wait _ (hd.keep ((Below.refl _ _).drew)) hl1 hl2)
  go_region_with (first | (go_at_call 7; refine (unhide Hto).mono ?_; rintro e w7 ⟨v7, rfl, d7, b7⟩; obtain ⟨ho1, hc1, ho2, hc2, rfl⟩ := d7.reads.shape; have s0 : w7.cell? ⟨w4.heap.size, 0, none⟩ = some (.slice fo1 kept.length fc1) := (b7.cell (p := ⟨w4.heap.size, 0, none⟩) pl).trans p0; have s1 : w7.cell? ⟨w4.heap.size, 1, none⟩ = some (.slice fo2 wait.length fc2) := (b7.cell (p := ⟨w4.heap.size, 1, none⟩) pl).trans p1) | (go_at_call 11; refine (eqSecDisk_true _ _ kept wait _ (hxd.keep b7) d7.reads).mono ?_; rintro e w8 ⟨rfl, b8⟩))
  all_goals
    have b78 : Below w6.heap.size w6 w8 := bAll (bUndrew b7) b8
    clear p0 p1 pl q0 q1 ql s0 s1 d7 hxd Hto
    have hd8 := hd.keep b78
    have st8 := st.keepB b78
    have c8 := bAll c6 b78
    have z8 := b78.size
    clear b7 b8
    have rk8 := rk4.keepB b78
    have rx8 := rx4.keepB b78
    go_wp2_with fail
    -- the steps are as they were
    refine (toSecStepS_any _ xs.length xs _ (RowR.keep HXS.out c8) hlx).mono ?_
    rintro e w8x ⟨so8, rfl, ry8, bx8⟩
    replace st8 := st8.keepB bx8
    replace rk8 := rk8.keepB bx8
    replace rx8 := rx8.keepB bx8
    replace c8 := bAll c8 bx8
    have zx8 := bx8.size
    go_wp2_with fail
    refine (eqSecStepS_true _ _ xs.length xs _ rx8.reads ry8.reads).mono ?_
    rintro e w8y ⟨rfl, by8⟩
    replace st8 := st8.keepB by8
    replace rk8 := rk8.keepB by8
    replace rx8 := rx8.keepB by8
    replace c8 := bAll c8 by8
    have zy8 := by8.size
    clear ry8
    go_wp2_with fail
    -- the numbers are as they were
    refine (toIntS_any _ ks.length ks _ (RowR.keep HKS.out c8) hkm).mono ?_
    rintro e w8k ⟨vk8, rfl, rq8, bk8⟩
    obtain ⟨ko8, kc8, rfl⟩ := rq8.shape
    replace st8 := st8.keepB bk8
    replace rk8 := rk8.keepB bk8
    replace rx8 := rx8.keepB bk8
    replace c8 := bAll c8 bk8
    have zk8 := bk8.size
    go_wp2_with fail
    refine (eqIntS_true _ _ ks.length ks _ rk8.reads rq8.reads).mono ?_
    rintro e w8m ⟨rfl, bm8⟩
    replace st8 := st8.keepB bm8
    replace rk8 := rk8.keepB bm8
    replace rx8 := rx8.keepB bm8
    replace c8 := bAll c8 bm8
    have zm8 := bm8.size
    clear rq8
    obtain ⟨p0, p1, pl⟩ := st8.box _ (List.mem_cons_of_mem _ List.mem_cons_self)
    go_wp2_with fail
    -- marks in the argument's copy
    refine (markSecDisk_any _ _ kept wait 1 _ (st8.2 _ (List.mem_cons_of_mem _ List.mem_cons_self)) (by omega) (by omega)).mono ?_
    rintro e w9 ⟨rfl, -, u9⟩
    have st9 := st8.drop2.keepU u9 (by intro b hm; simp only [List.mem_cons, List.not_mem_nil, or_false] at hm; rcases hm with rfl | rfl | rfl | rfl <;> (simp only; omega)) (by intro d hm; simp only [List.mem_cons, List.not_mem_nil, or_false] at hm; rcases hm with rfl | rfl <;> (intro k; simp only; omega))
    have c9 : Below w.heap.size w w9 := c8.trans (u9.below (by omega) (fun k h => by omega))
    have z9 := u9.size
    have rk9 := rk8.keep u9 (fun k h => by omega)
    have rx9 := rx8.keep u9 (fun k h => by omega)
    clear p0 p1 pl
    go_wp2_with fail
    refine (markSecStepS_turns _ _ xs.length _ _ (1 + kept.length + 2 * wait.length) _ rx9 (by simp) (by omega) (by omega)).mono ?_
    rintro e w9x ⟨rfl, ux9⟩
    replace st9 := st9.keepU ux9 (by intro b hm; simp only [List.mem_cons, List.not_mem_nil, or_false] at hm; rcases hm with rfl | rfl | rfl | rfl <;> (simp only; omega)) (by intro d hm; simp only [List.mem_cons, List.not_mem_nil, or_false] at hm; rcases hm with rfl | rfl <;> (intro k; simp only; omega))
    replace c9 : Below w.heap.size w w9x := c9.trans (ux9.below (by omega) (fun k h => by omega))
    have zx9 := ux9.size
    replace rk9 := rk9.keep ux9 (fun k h => by omega)
    go_wp2_with fail
    refine (markIntS_at _ _ ks.length _ _ (1 + kept.length + 2 * wait.length + 3 * xs.length) _ rk9 (by simp) (by omega) (by omega)).mono ?_
    rintro e w9k ⟨rfl, uk9⟩
    replace st9 := st9.keepU uk9 (by intro b hm; simp only [List.mem_cons, List.not_mem_nil, or_false] at hm; rcases hm with rfl | rfl | rfl | rfl <;> (simp only; omega)) (by intro d hm; simp only [List.mem_cons, List.not_mem_nil, or_false] at hm; rcases hm with rfl | rfl <;> (intro k; simp only; omega))
    replace c9 : Below w.heap.size w w9k := c9.trans (uk9.below (by omega) (fun k h => by omega))
    have zk9 := uk9.size
    obtain ⟨p0, p1, pl⟩ := st9.box _ List.mem_cons_self
    obtain ⟨q0, q1, ql⟩ := st9.box _ (List.mem_cons_of_mem _ (List.mem_cons_of_mem _ List.mem_cons_self))
    go_wp2_with fail
    refine (eqSecDisk_true _ _ R X _ (st9.2 _ List.mem_cons_self).reads (st9.2 _ (List.mem_cons_of_mem _ List.mem_cons_self)).reads).mono ?_
    rintro e w10 ⟨rfl, b10⟩
    have st10 := st9.keepB b10
    have c10 := bAll c9 b10
    have z10 := b10.size
    clear p0 p1 pl q0 q1 ql
    obtain ⟨p0, p1, pl⟩ := st10.box _ List.mem_cons_self
    go_wp2_with fail
    -- marks in the answer
    refine (markSecDisk_any _ _ R X 1 _ (st10.2 _ List.mem_cons_self) (by omega) (by omega)).mono ?_
    rintro e w11 ⟨rfl, m11, u11⟩
    have st11 := st10.dropD.keepU u11 (by intro b hm; simp only [List.mem_cons, List.not_mem_nil, or_false] at hm; rcases hm with rfl | rfl | rfl | rfl <;> (simp only; omega)) (by intro d hm; simp only [List.mem_cons, List.not_mem_nil, or_false] at hm; subst hm; intro k; simp only; omega)
    have c11 : Below w.heap.size w w11 := c10.trans (u11.below (by omega) (fun k h => by omega))
    have z11 := u11.size
    clear p0 p1 pl
    obtain ⟨p0, p1, pl⟩ := st11.box _ List.mem_cons_self
    go_wp2_with fail
    refine (heldSecDisk_ok _ _ _ 1 _ m11.reads (by omega) (by omega)).mono ?_
    rintro e w12 ⟨rfl, b12⟩
    have st12 := st11.keepB b12
    have m12 := m11.keepB b12
    have c12 := bAll c11 b12
    clear p0 p1 pl
    obtain ⟨p0, p1, pl⟩ := st12.box _ (List.mem_cons_of_mem _ (List.mem_cons_of_mem _ (List.mem_cons_of_mem _ List.mem_cons_self)))
    go_wp2_with fail
    -- once more
    refine (toSecDisk_any _ kept wait _ (Hv.out.reads.keep c12) hl1 hl2).mono ?_
    rintro e w13 ⟨v13, rfl, d13, b13⟩
    obtain ⟨io1, ic1, io2, ic2, rfl⟩ := d13.reads.shape
    have st13 := st12.keepB b13
    have m13 := m12.keepB b13
    have c13 := bAll c12 b13
    clear p0 p1 pl
    go_wp2_with fail
    refine (toSecStepS_any _ xs.length xs _ (RowR.keep HXS.out c13) hlx).mono ?_
    rintro e w13x ⟨so13, rfl, rx13, bx13⟩
    replace st13 := st13.keepB bx13
    replace m13 := m13.keepB bx13
    replace c13 := bAll c13 bx13
    go_wp2_with fail
    refine (toIntS_any _ ks.length ks _ (RowR.keep HKS.out c13) hkm).mono ?_
    rintro e w13k ⟨vk13, rfl, rk13, bk13⟩
    obtain ⟨ko13, kc13, rfl⟩ := rk13.shape
    have d13k := (d13.reads.keep bx13).keep bk13
    have rx13k := rx13.reads.keep bk13
    replace st13 := st13.keepB bk13
    replace m13 := m13.keepB bk13
    replace c13 := bAll c13 bk13
    go_wp2_with fail
    refine (unhide ImplC _ _ _ _ _ d13k rx13k rk13.reads).mono ?_
    rintro e w14 ⟨v14, rfl, d14, b14⟩
    obtain ⟨jo1, jc1, jo2, jc2, rfl⟩ := d14.reads.shape
    have al14 : Below w14.heap.size w14 (w14.alloc (.cells #[.slice jo1 R.length jc1, .slice jo2 X.length jc2] 32)) := (Below.refl _ _).alloc (Nat.le_refl _) _
    have st14 := (st13.keepB b14).addB (.slice jo1 R.length jc1) (.slice jo2 X.length jc2) 32
    have m14 := (m13.keepB b14).keepB al14
    have c14 := bAll (bAll c13 b14) al14
    obtain ⟨p0, p1, pl⟩ := st14.box _ (List.mem_cons_of_mem _ (List.mem_cons_of_mem _ (List.mem_cons_of_mem _ List.mem_cons_self)))
    go_wp2_with fail
    refine (eqSecDisk_true _ _ R X _ (d14.reads.keep al14) (st14.2 _ List.mem_cons_self).reads).mono ?_
    rintro e w15 ⟨rfl, b15⟩
    have st15 := st14.keepB b15
    have m15 := m14.keepB b15
    have c15 := bAll c14 b15
    clear p0 p1 pl
    obtain ⟨p0, p1, pl⟩ := st15.box _ (List.mem_cons_of_mem _ List.mem_cons_self)
    go_wp2_with fail
    refine (heldSecDisk_ok _ _ _ 1 _ m15.reads (by omega) (by omega)).mono ?_
    rintro e w16 ⟨rfl, b16⟩
    go_wp2
    go_ret
    exact ⟨rfl, bAll c15 b16⟩

end Go.Proofs.Ytiffpgnmnahelab
