/- Contracts and plain facts that the claims of this seat lean on (texts WLMend); no statement of the seat is proved here. -/
import Derived.Test.YtapflnabiobonaaDoorPk10
import Derived.Test.YtapflnabiobonaaDoorPk17

/- What the law FnExactWalMend does: its walk; the statement itself is proved elsewhere. -/
namespace Go.Proofs.YtapflnabiobonaaDoor
open Go.RowKit

theorem len_walMend {kept : List ByteArray} {wait : List (Int × ByteArray)} : (mendL kept wait).length ≤ 2000 := by
  unfold mendL
  split
  · rename_i h
    have hf : formB kept wait = true := by have := h.1; simp only [readB, Bool.and_eq_true] at this; exact this.1
    have hok : okB kept wait = true := by simp only [formB, Bool.and_eq_true] at hf; exact hf.1
    obtain ⟨h1, -, -, -⟩ := okB_parts hok
    rw [applyL_len]
    have := logL_len (sign0 (flushK kept wait)) (flushK kept wait)
    have h3 : (flushK kept wait).length = kept.length := by rw [flushK, if_pos hok, flushL_len]
    omega
  · simp

set_option maxRecDepth 100000 in
set_option maxHeartbeats 4000000 in
theorem walMend_walk (v : Value) (kept : List ByteArray) (wait : List (Int × ByteArray)) (w : World) (hg : ErrVar w) (hv : DiskIn w v kept wait) :
    Calls Tryd.prog 4 #[v] w fun e w' => e = .returned (.bool true) ∧ Below w.heap.size w w' := by
  obtain ⟨ao, ca, ao', ca', rfl⟩ := hv.reads.shape
  obtain ⟨R, HR⟩ : ∃ R, Hid (mendL kept wait = R) := ⟨_, rfl⟩
  obtain ⟨O, HO⟩ : ∃ O, Hid (readB kept wait = O) := ⟨_, rfl⟩
  have hRl : R.length ≤ 2000 := by rw [← HR.out]; exact len_walMend
  have specC := fun v w hr => specWalMend_any v kept wait w hr hv.kept hv.wait
  have implC := fun v w hg hr => implWalMend_any v kept wait w hg hr hv.kept hv.wait
  rw [HR.out, HO.out] at specC implC
  have SpecC := hide specC
  have ImplC := hide implC
  clear specC implC HR HO
  have hal : Below w.heap.size w (w.alloc (.cells #[.slice ao kept.length ca, .slice ao' wait.length ca'] 25)) := (Below.refl _ _).alloc (Nat.le_refl _) _
  have st : St (w.alloc (.cells #[.slice ao kept.length ca, .slice ao' wait.length ca'] 25)) [⟨w.heap.size, .slice ao kept.length ca, .slice ao' wait.length ca', 25⟩] [] := St.addB ⟨by simp, by simp⟩ _ _ _
  have Hg := hide hg
  have Hv := hide hv
  have hd := hv.reads.keep hal
  clear hv hg
  go_enter Tryd.func4, Tryd.ntmps4
  go_wp2_with fail
  refine (szSecDisk_any _ kept wait _ hd Hv.out.kept Hv.out.wait).mono ?_
  rintro e w1 ⟨r, rfl, hz, b1⟩
  rcases hz with hneg | ⟨hr, hr0⟩
  · go_wp2
    go_ret
    exact ⟨rfl, bAll hal b1⟩
  have hl1 : kept.length ≤ 1048576 := by omega
  have hl2 : wait.length ≤ 1048576 := by omega
  have hr1 : r ≤ 1048576 := by omega
  clear hr
  have c1 := bAll hal b1
  replace hd := hd.keep b1
  replace st := st.keepB b1
  obtain ⟨p0, p1, pl⟩ := st.box _ (List.mem_cons_self)
  have zw : w.heap.size < w1.heap.size := pl
  go_wp2_with fail
  refine (toSecDisk_any _ kept wait _ hd hl1 hl2).mono ?_
  rintro e w2 ⟨v2, rfl, d2, b2⟩
  have zb2 := b2.size
  obtain ⟨do1, dc1, do2, dc2, rfl⟩ := d2.reads.shape
  replace hd := hd.keep b2
  replace st := st.keepB b2
  have c2 := bAll c1 b2
  clear p0 p1 pl
  go_wp2_with fail
  refine (unhide SpecC _ _ d2.reads).mono ?_
  rintro e w3 ⟨v3, rfl, r3, b3⟩
  obtain ⟨eo, ec, rfl⟩ := r3.shape
  replace r3 := r3.within w3.heap.size rfl
  replace hd := hd.keep b3
  replace st := st.keepB b3
  have c3 := bAll c2 b3
  have z3 := c3.size
  have zz3 := c2.size
  have zb3 := b3.size
  clear d2
  obtain ⟨p0, p1, pl⟩ := st.box _ (List.mem_cons_self)
  go_wp2_with fail
  -- the argument's copy that the program is given
  refine (toSecDisk_any _ kept wait _ hd hl1 hl2).mono ?_
  rintro e w4 ⟨v4, rfl, d4, b4⟩
  obtain ⟨fo1, fc1, fo2, fc2, rfl⟩ := d4.reads.shape
  have al4 : Below w4.heap.size w4 (w4.alloc (.cells #[.slice fo1 kept.length fc1, .slice fo2 wait.length fc2] 31)) := (Below.refl _ _).alloc (Nat.le_refl _) _
  replace hd := (hd.keep b4).keep al4
  replace st := ((st.keepB b4).addD ⟨_, _, _, _⟩ (d4.within w4.heap.size rfl)).addB (.slice fo1 kept.length fc1) (.slice fo2 wait.length fc2) 31
  replace r3 := (r3.keepB b4).keepB al4
  have c4 := bAll (bAll c3 b4) al4
  have z4 := b4.size
  have d4' := d4.reads.keep al4
  clear d4 p0 p1 pl
  obtain ⟨p0, p1, pl⟩ := st.box _ (List.mem_cons_self)
  go_wp2_with fail
  -- what the program answers
  refine (unhide ImplC _ _ (errVar_keep Hg.out c4) d4').mono ?_
  rintro e w5 ⟨v5, rfl, r5, b5⟩
  simp only [World.size_alloc] at r5
  obtain ⟨go, gc, rfl⟩ := r5.shape
  replace r5 := r5.within w5.heap.size rfl
  replace r3 := r3.keepB b5
  replace hd := hd.keep b5
  replace st := st.keepB b5
  have c5 := bAll c4 b5
  have z5 := b5.size
  simp only [World.size_alloc] at z5
  clear d4' p0 p1 pl
  go_wp2_with fail
  refine (eqSecStepS_true _ _ R.length R _ r5.reads r3.reads).mono ?_
  rintro e w6 ⟨rfl, b6⟩
  replace r3 := r3.keepB b6
  replace r5 := r5.keepB b6
  replace hd := hd.keep b6
  replace st := st.keepB b6
  have c6 := bAll c5 b6
  have z6 := b6.size
  obtain ⟨p0, p1, pl⟩ := st.box _ (List.mem_cons_self)
  obtain ⟨q0, q1, ql⟩ := st.box _ (List.mem_cons_of_mem _ List.mem_cons_self)
  go_wp2_with fail
  -- the argument is as it was
  have hxd := (st.2 _ List.mem_cons_self).reads.keep ((Below.refl _ _).drew)
  have Hto := hide (toSecDisk_any _ kept wait _ (hd.keep ((Below.refl _ _).drew)) hl1 hl2)
  go_region_with (first | (go_at_call 11; refine (unhide Hto).mono ?_; rintro e w7 ⟨v7, rfl, d7, b7⟩; obtain ⟨ho1, hc1, ho2, hc2, rfl⟩ := d7.reads.shape; have s0 : w7.cell? ⟨w4.heap.size, 0, none⟩ = some (.slice fo1 kept.length fc1) := (b7.cell (p := ⟨w4.heap.size, 0, none⟩) pl).trans p0; have s1 : w7.cell? ⟨w4.heap.size, 1, none⟩ = some (.slice fo2 wait.length fc2) := (b7.cell (p := ⟨w4.heap.size, 1, none⟩) pl).trans p1) | (go_at_call 14; refine (eqSecDisk_true _ _ kept wait _ (hxd.keep b7) d7.reads).mono ?_; rintro e w8 ⟨rfl, b8⟩))
  all_goals
    have b78 : Below w6.heap.size w6 w8 := bAll (bUndrew b7) b8
    clear p0 p1 pl q0 q1 ql s0 s1 d7 hxd Hto
    have hd8 := hd.keep b78
    have st8 := st.keepB b78
    have r38 := r3.keepB b78
    have r58 := r5.keepB b78
    have c8 := bAll c6 b78
    have z8 := b78.size
    clear b7 b8
    obtain ⟨p0, p1, pl⟩ := st8.box _ List.mem_cons_self
    go_wp2_with fail
    -- marks in the argument's copy
    refine (markSecDisk_any _ _ kept wait 1 _ (st8.2 _ List.mem_cons_self) (by omega) (by omega)).mono ?_
    rintro e w9 ⟨rfl, -, u9⟩
    have st9 := st8.dropD.keepU u9 (by intro b hm; simp only [List.mem_cons, List.not_mem_nil, or_false] at hm; rcases hm with rfl | rfl <;> (simp only; omega)) (by intro d hm; simp at hm)
    have r39 := r38.keep u9 (fun k h => by simp only; omega)
    have r59 := r58.keep u9 (fun k h => by simp only; omega)
    have c9 : Below w.heap.size w w9 := c8.trans (u9.below (by omega) (fun k h => by simp only at h; omega))
    have z9 := u9.size
    clear p0 p1 pl
    go_wp2_with fail
    refine (eqSecStepS_true _ _ R.length R _ r59.reads r39.reads).mono ?_
    rintro e w10 ⟨rfl, b10⟩
    have st10 := st9.keepB b10
    have r310 := r39.keepB b10
    have r510 := r59.keepB b10
    have c10 := bAll c9 b10
    have z10 := b10.size
    go_wp2_with fail
    -- marks in the answer
    refine (markSecStepS_any _ _ _ _ 1 _ r510 (by omega) (by omega)).mono ?_
    rintro e w11 ⟨rfl, m11, u11⟩
    have st11 := st10.keepU u11 (by intro b hm; simp only [List.mem_cons, List.not_mem_nil, or_false] at hm; rcases hm with rfl | rfl <;> (simp only; omega)) (by intro d hm; simp at hm)
    have r311 := r310.keep u11 (fun k h => by omega)
    have c11 : Below w.heap.size w w11 := c10.trans (u11.below (by omega) (fun k h => by omega))
    have z11 := u11.size
    go_wp2_with fail
    refine (heldSecStepS_ok _ _ 1 _ m11.reads (by omega) (by omega)).mono ?_
    rintro e w12 ⟨rfl, b12⟩
    have st12 := st11.keepB b12
    have m12 := m11.keepB b12
    have r312 := r311.keepB b12
    have c12 := bAll c11 b12
    obtain ⟨p0, p1, pl⟩ := st12.box _ (List.mem_cons_of_mem _ List.mem_cons_self)
    go_wp2_with fail
    -- once more
    refine (toSecDisk_any _ kept wait _ (Hv.out.reads.keep c12) hl1 hl2).mono ?_
    rintro e w13 ⟨v13, rfl, d13, b13⟩
    obtain ⟨io1, ic1, io2, ic2, rfl⟩ := d13.reads.shape
    have m13 := m12.keepB b13
    have r313 := r312.keepB b13
    have c13 := bAll c12 b13
    clear p0 p1 pl
    go_wp2_with fail
    refine (unhide ImplC _ _ (errVar_keep Hg.out c13) d13.reads).mono ?_
    rintro e w14 ⟨v14, rfl, r14, b14⟩
    obtain ⟨jo, jc, rfl⟩ := r14.shape
    have m14 := m13.keepB b14
    have r314 := r313.keepB b14
    have c14 := bAll c13 b14
    go_wp2_with fail
    refine (eqSecStepS_true _ _ R.length R _ r14.reads r314.reads).mono ?_
    rintro e w15 ⟨rfl, b15⟩
    have m15 := m14.keepB b15
    have c15 := bAll c14 b15
    go_wp2_with fail
    refine (heldSecStepS_ok _ _ 1 _ m15.reads (by omega) (by omega)).mono ?_
    rintro e w16 ⟨rfl, b16⟩
    go_wp2
    go_ret
    exact ⟨rfl, bAll c15 b16⟩

end Go.Proofs.YtapflnabiobonaaDoor
