/- What the law FnExactSecPut does: its walk; the statement itself is proved elsewhere. -/
import Derived.Test.YtpgkiacpadglbaaSt
import Derived.Test.YtpgkiacpadglbaaIPut
namespace Go.Proofs.Ytpgkiacpadglbaa
open Go.RowKit

theorem putK_len (kept : List ByteArray) (wait : List (Int × ByteArray)) : (putK kept wait).length ≤ 512 := by
  unfold putK
  split
  · exact (okB_parts ‹_›).1
  · simp

theorem putW_len (kept : List ByteArray) (wait : List (Int × ByteArray)) (a : Int) (s : ByteArray) : (putW kept wait a s).length ≤ 601 := by
  unfold putW
  split
  · have := (okB_parts ‹_›).2.1
    split
    · simp
      omega
    · omega
  · simp

set_option maxRecDepth 100000 in
set_option maxHeartbeats 4000000 in
theorem secPut_walk (v : Value) (a : Int) (s : ByteArray) (kept : List ByteArray) (wait : List (Int × ByteArray)) (w : World) (hv : DiskIn w v kept wait) (hss : s.size ≤ 9223372036854775807) :
    Calls Try.prog 9 #[v, .int .i64 a, .string s] w fun e w' => e = .returned (.bool true) ∧ Below w.heap.size w w' := by
  obtain ⟨ao, ca, ao', ca', rfl⟩ := hv.reads.shape
  obtain ⟨R, HR⟩ : ∃ R, Hid (putK kept wait = R) := ⟨_, rfl⟩
  obtain ⟨X, HX⟩ : ∃ X, Hid (putW kept wait a s = X) := ⟨_, rfl⟩
  obtain ⟨O, HO⟩ : ∃ O, Hid (putB kept wait a s = O) := ⟨_, rfl⟩
  have hRl : R.length ≤ 512 := by rw [← HR.out]; exact putK_len kept wait
  have hXl : X.length ≤ 601 := by rw [← HX.out]; exact putW_len kept wait a s
  have specC := fun v w hr => specSecPut_any v kept wait a s w hr hv.kept hv.wait hss
  have implC := fun v w hr => implSecPut_any v kept wait a s w hr hv.kept hv.wait hss
  rw [HR.out, HX.out, HO.out] at specC implC
  have SpecC := hide specC
  have ImplC := hide implC
  clear specC implC HR HX HO
  have hal : Below w.heap.size w (w.alloc (.cells #[.slice ao kept.length ca, .slice ao' wait.length ca'] 46)) := (Below.refl _ _).alloc (Nat.le_refl _) _
  have st : St (w.alloc (.cells #[.slice ao kept.length ca, .slice ao' wait.length ca'] 46)) [⟨w.heap.size, .slice ao kept.length ca, .slice ao' wait.length ca', 46⟩] [] := St.addB ⟨by simp, by simp⟩ _ _ _
  have Hv := hide hv
  have hd := hv.reads.keep hal
  clear hv
  by_cases hbig : (s.size : Int) > 1048576
  · go_enter Try.func9, Try.ntmps9
    go_wp2
    go_ret
    exact ⟨rfl, hal⟩
  go_enter Try.func9, Try.ntmps9
  go_wp2_with fail
  refine (szSecDisk_any _ kept wait _ hd Hv.out.kept Hv.out.wait).mono ?_
  rintro e w1 ⟨r, rfl, hz, b1⟩
  rcases hz with hneg | ⟨hr, hr0⟩
  · go_wp2
    go_ret
    exact ⟨rfl, bAll hal b1⟩
  have hl1 : kept.length ≤ 1048576 := by omega
  have hl2 : wait.length ≤ 1048576 := by omega
  clear hr
  have c1 := bAll hal b1
  replace hd := hd.keep b1
  replace st := st.keepB b1
  obtain ⟨p0, p1, pl⟩ := st.box _ (List.mem_cons_self)
  go_wp2_with fail
  refine (toSecDisk_any _ kept wait _ hd hl1 hl2).mono ?_
  rintro e w2 ⟨v2, rfl, d2, b2⟩
  obtain ⟨do1, dc1, do2, dc2, rfl⟩ := d2.reads.shape
  replace hd := hd.keep b2
  replace st := st.keepB b2
  have c2 := bAll c1 b2
  clear p0 p1 pl
  go_wp2_with fail
  refine (unhide SpecC _ _ d2.reads).mono ?_
  rintro e w3 ⟨v3, rfl, d3, b3⟩
  obtain ⟨eo1, ec1, eo2, ec2, rfl⟩ := d3.reads.shape
  replace hd := (hd.keep b3).keep ((Below.refl _ _).alloc (Nat.le_refl _) (.cells #[.slice eo1 R.length ec1, .slice eo2 X.length ec2] 26))
  replace st := ((st.keepB b3).addD ⟨_, _, _, _⟩ (d3.within w3.heap.size rfl)).addB (.slice eo1 R.length ec1) (.slice eo2 X.length ec2) 26
  have c3 := bAll c2 b3
  have z3 := c3.size
  clear d2 d3
  obtain ⟨p0, p1, pl⟩ := st.box _ (List.mem_cons_of_mem _ List.mem_cons_self)
  go_wp2_with fail
  -- the argument's copy that the program is given
  refine (toSecDisk_any _ kept wait _ hd hl1 hl2).mono ?_
  rintro e w4 ⟨v4, rfl, d4, b4⟩
  simp only [World.size_alloc] at d4
  obtain ⟨fo1, fc1, fo2, fc2, rfl⟩ := d4.reads.shape
  have al4 : Below w4.heap.size w4 (w4.alloc (.cells #[.slice fo1 kept.length fc1, .slice fo2 wait.length fc2] 26)) := (Below.refl _ _).alloc (Nat.le_refl _) _
  replace hd := (hd.keep b4).keep al4
  replace st := ((st.keepB b4).addD ⟨_, _, _, _⟩ (d4.within w4.heap.size rfl)).addB (.slice fo1 kept.length fc1) (.slice fo2 wait.length fc2) 26
  have c4 := bAll (bAll c3 ((Below.refl _ _).alloc (Nat.le_refl _) _)) b4
  have z4 := b4.size
  simp only [World.size_alloc] at z4
  have d4' := d4.reads.keep al4
  clear d4 p0 p1 pl
  obtain ⟨p0, p1, pl⟩ := st.box _ (List.mem_cons_of_mem _ (List.mem_cons_of_mem _ List.mem_cons_self))
  go_wp2_with fail
  -- what the program answers
  refine (unhide ImplC _ _ d4').mono ?_
  rintro e w5 ⟨v5, rfl, d5, b5⟩
  simp only [World.size_alloc] at d5
  obtain ⟨go1, gc1, go2, gc2, rfl⟩ := d5.reads.shape
  have al5 : Below w5.heap.size w5 (w5.alloc (.cells #[.slice go1 R.length gc1, .slice go2 X.length gc2] 26)) := (Below.refl _ _).alloc (Nat.le_refl _) _
  replace hd := (hd.keep b5).keep al5
  replace st := ((st.keepB b5).addD ⟨_, _, _, _⟩ (d5.within w5.heap.size rfl)).addB (.slice go1 R.length gc1) (.slice go2 X.length gc2) 26
  have c5 := bAll (bAll (bAll c4 al4) b5) al5
  have z5 := b5.size
  simp only [World.size_alloc] at z5
  clear d5 d4' p0 p1 pl
  obtain ⟨p0, p1, pl⟩ := st.box _ (List.mem_cons_self)
  obtain ⟨q0, q1, ql⟩ := st.box _ (List.mem_cons_of_mem _ (List.mem_cons_of_mem _ List.mem_cons_self))
  go_wp2_with fail
  refine (eqSecDisk_true _ _ R X _ (st.2 _ List.mem_cons_self).reads (st.2 _ (List.mem_cons_of_mem _ (List.mem_cons_of_mem _ List.mem_cons_self))).reads).mono ?_
  rintro e w6 ⟨rfl, b6⟩
  replace hd := hd.keep b6
  replace st := st.keepB b6
  have c6 := bAll c5 b6
  have z6 := b6.size
  simp only [World.size_alloc] at z6
  clear p0 p1 pl q0 q1 ql
  obtain ⟨p0, p1, pl⟩ := st.box _ (List.mem_cons_of_mem _ List.mem_cons_self)
  obtain ⟨q0, q1, ql⟩ := st.box _ (List.mem_cons_of_mem _ (List.mem_cons_of_mem _ (List.mem_cons_of_mem _ List.mem_cons_self)))
  go_wp2_with fail
  -- the argument is as it was
  have hxd := (st.2 _ (List.mem_cons_of_mem _ List.mem_cons_self)).reads.keep ((Below.refl _ _).drew)
  have Hto := hide (toSecDisk_any _ kept wait _ (hd.keep ((Below.refl _ _).drew)) hl1 hl2)
  go_region_with (first | (go_at_call 27; refine (unhide Hto).mono ?_; rintro e w7 ⟨v7, rfl, d7, b7⟩; obtain ⟨ho1, hc1, ho2, hc2, rfl⟩ := d7.reads.shape; have s0 : w7.cell? ⟨w4.heap.size, 0, none⟩ = some (.slice fo1 kept.length fc1) := (b7.cell (p := ⟨w4.heap.size, 0, none⟩) pl).trans p0; have s1 : w7.cell? ⟨w4.heap.size, 1, none⟩ = some (.slice fo2 wait.length fc2) := (b7.cell (p := ⟨w4.heap.size, 1, none⟩) pl).trans p1) | (go_at_call 28; refine (eqSecDisk_true _ _ kept wait _ (hxd.keep b7) d7.reads).mono ?_; rintro e w8 ⟨rfl, b8⟩))
  all_goals
    have b78 : Below w6.heap.size w6 w8 := bAll (bUndrew b7) b8
    clear p0 p1 pl q0 q1 ql s0 s1 d7 hxd Hto
    have hd8 := hd.keep b78
    have st8 := st.keepB b78
    have c8 := bAll c6 b78
    have z8 := b78.size
    clear b7 b8
    obtain ⟨p0, p1, pl⟩ := st8.box _ (List.mem_cons_of_mem _ List.mem_cons_self)
    go_wp2_with fail
    -- marks in the argument's copy
    refine (markSecDisk_any _ _ kept wait 1 _ (st8.2 _ (List.mem_cons_of_mem _ List.mem_cons_self)) (by omega) (by omega)).mono ?_
    rintro e w9 ⟨rfl, -, u9⟩
    have st9 := st8.drop2.keepU u9 (by intro b hm; simp only [List.mem_cons, List.not_mem_nil, or_false] at hm; rcases hm with rfl | rfl | rfl | rfl <;> (simp only; omega)) (by intro d hm; simp only [List.mem_cons, List.not_mem_nil, or_false] at hm; rcases hm with rfl | rfl <;> (intro k; simp only; omega))
    have c9 : Below w.heap.size w w9 := c8.trans (u9.below (by omega) (fun k h => by omega))
    have z9 := u9.size
    clear p0 p1 pl
    obtain ⟨p0, p1, pl⟩ := st9.box _ List.mem_cons_self
    obtain ⟨q0, q1, ql⟩ := st9.box _ (List.mem_cons_of_mem _ (List.mem_cons_of_mem _ List.mem_cons_self))
    go_wp2_with fail
    refine (eqSecDisk_true _ _ R X _ (st9.2 _ List.mem_cons_self).reads (st9.2 _ (List.mem_cons_of_mem _ List.mem_cons_self)).reads).mono ?_
    rintro e w10 ⟨rfl, b10⟩
    have st10 := st9.keepB b10
    have c10 := bAll c9 b10
    have z10 := b10.size
    clear p0 p1 pl q0 q1 ql
    obtain ⟨p0, p1, pl⟩ := st10.box _ List.mem_cons_self
    go_wp2_with fail
    -- marks in the answer
    refine (markSecDisk_any _ _ R X 1 _ (st10.2 _ List.mem_cons_self) (by omega) (by omega)).mono ?_
    rintro e w11 ⟨rfl, m11, u11⟩
    have st11 := st10.dropD.keepU u11 (by intro b hm; simp only [List.mem_cons, List.not_mem_nil, or_false] at hm; rcases hm with rfl | rfl | rfl | rfl <;> (simp only; omega)) (by intro d hm; simp only [List.mem_cons, List.not_mem_nil, or_false] at hm; subst hm; intro k; simp only; omega)
    have c11 : Below w.heap.size w w11 := c10.trans (u11.below (by omega) (fun k h => by omega))
    have z11 := u11.size
    clear p0 p1 pl
    obtain ⟨p0, p1, pl⟩ := st11.box _ List.mem_cons_self
    go_wp2_with fail
    refine (heldSecDisk_ok _ _ _ 1 _ m11.reads (by omega) (by omega)).mono ?_
    rintro e w12 ⟨rfl, b12⟩
    have st12 := st11.keepB b12
    have m12 := m11.keepB b12
    have c12 := bAll c11 b12
    clear p0 p1 pl
    obtain ⟨p0, p1, pl⟩ := st12.box _ (List.mem_cons_of_mem _ (List.mem_cons_of_mem _ (List.mem_cons_of_mem _ List.mem_cons_self)))
    go_wp2_with fail
    -- once more
    refine (toSecDisk_any _ kept wait _ (Hv.out.reads.keep c12) hl1 hl2).mono ?_
    rintro e w13 ⟨v13, rfl, d13, b13⟩
    obtain ⟨io1, ic1, io2, ic2, rfl⟩ := d13.reads.shape
    have st13 := st12.keepB b13
    have m13 := m12.keepB b13
    have c13 := bAll c12 b13
    clear p0 p1 pl
    go_wp2_with fail
    refine (unhide ImplC _ _ d13.reads).mono ?_
    rintro e w14 ⟨v14, rfl, d14, b14⟩
    obtain ⟨jo1, jc1, jo2, jc2, rfl⟩ := d14.reads.shape
    have al14 : Below w14.heap.size w14 (w14.alloc (.cells #[.slice jo1 R.length jc1, .slice jo2 X.length jc2] 26)) := (Below.refl _ _).alloc (Nat.le_refl _) _
    have st14 := (st13.keepB b14).addB (.slice jo1 R.length jc1) (.slice jo2 X.length jc2) 26
    have m14 := (m13.keepB b14).keepB al14
    have c14 := bAll (bAll c13 b14) al14
    obtain ⟨p0, p1, pl⟩ := st14.box _ (List.mem_cons_of_mem _ (List.mem_cons_of_mem _ (List.mem_cons_of_mem _ List.mem_cons_self)))
    go_wp2_with fail
    refine (eqSecDisk_true _ _ R X _ (d14.reads.keep al14) (st14.2 _ List.mem_cons_self).reads).mono ?_
    rintro e w15 ⟨rfl, b15⟩
    have st15 := st14.keepB b15
    have m15 := m14.keepB b15
    have c15 := bAll c14 b15
    clear p0 p1 pl
    obtain ⟨p0, p1, pl⟩ := st15.box _ (List.mem_cons_of_mem _ List.mem_cons_self)
    go_wp2_with fail
    refine (heldSecDisk_ok _ _ _ 1 _ m15.reads (by omega) (by omega)).mono ?_
    rintro e w16 ⟨rfl, b16⟩
    go_wp2
    go_ret
    exact ⟨rfl, bAll c15 b16⟩

end Go.Proofs.Ytpgkiacpadglbaa
