/- What WalNew does, in the specification and in the program, and what the law FnExactWalNew does; the statement itself is proved elsewhere. -/
import Derived.Test.YtiffpgnmnahelaaNew
namespace Go.Proofs.Ytiffpgnmnahelaa
open Go.RowKit

theorem upd_box2 (w : World) (B : Nat) (x y : Value) : Upd (fun k => k = B) w ((w.setCell ⟨B, 0, none⟩ x).setCell ⟨B, 1, none⟩ y) :=
  (Upd.setCell (S := fun k => k = B) w B 0 x rfl).trans (Upd.setCell (S := fun k => k = B) _ B 1 y rfl)

set_option maxHeartbeats 400000 in
theorem specWalNew_any (w : World) :
    Calls Try.prog 21 #[] w fun e w' => ∃ v, e = .returned v ∧ DiskO w' (fun k => w.heap.size ≤ k) v (newKept 501) [] ∧ Below w.heap.size w w' := by
  have al0 : Below w.heap.size w (w.alloc (.cells #[.slice none 0 0, .slice none 0 0] 26)) := (Below.refl _ _).alloc (Nat.le_refl _) _
  have H0 := hide (al1_0 w (.cells #[.slice none 0 0, .slice none 0 0] 26))
  go_enter Try.func21, Try.ntmps21
  go_wp2_with fail
  refine (specSecNew_any 501 _).mono ?_
  rintro e w1 ⟨v, rfl, d1, b1⟩
  obtain ⟨ao, ca, ao', ca', rfl⟩ := d1.shape
  have k0 := bKeeps b1 H0.out
  obtain ⟨q0, q1, ql⟩ := box2 k0
  obtain ⟨q2, q3⟩ := box2f k0
  have z1 := b1.size
  simp only [World.size_alloc] at z1 d1
  clear k0
  obtain ⟨K, hK⟩ : ∃ K, newKept 501 = K := ⟨_, rfl⟩
  rw [hK] at d1 ⊢
  have HK := hide hK
  clear hK
  go_wp2
  have hu := upd_box2 w1 w.heap.size (.slice ao K.length ca) (.slice ao' 0 ca')
  refine bodyPost_ret (v := .agg #[.slice ao K.length ca, .slice ao' 0 ca']) (by simp [results, Try.results21, go_sem, q0, q1]) rfl ⟨_, rfl, ?_, ?_⟩
  · rw [HK.out]
    exact (d1.keep hu (fun k hk h => by omega)).mono (fun k _ h => Nat.le_trans (Nat.le_succ _) h)
  · exact (bAll al0 b1).trans (hu.below (by omega) (fun k h => Nat.le_of_eq h.symm))

set_option maxHeartbeats 400000 in
theorem implWalNew_any (w : World) :
    Calls Try.prog 22 #[] w fun e w' => ∃ v, e = .returned v ∧ DiskO w' (fun k => w.heap.size ≤ k) v (newKept 501) [] ∧ Below w.heap.size w w' := by
  have al0 : Below w.heap.size w (w.alloc (.cells #[.slice none 0 0, .slice none 0 0] 26)) := (Below.refl _ _).alloc (Nat.le_refl _) _
  have H0 := hide (al1_0 w (.cells #[.slice none 0 0, .slice none 0 0] 26))
  go_enter Try.func22, Try.ntmps22
  go_wp2_with fail
  refine (implSecNew_any 501 _).mono ?_
  rintro e w1 ⟨v, rfl, d1, b1⟩
  obtain ⟨ao, ca, ao', ca', rfl⟩ := d1.shape
  have k0 := bKeeps b1 H0.out
  obtain ⟨q0, q1, ql⟩ := box2 k0
  obtain ⟨q2, q3⟩ := box2f k0
  have z1 := b1.size
  simp only [World.size_alloc] at z1 d1
  clear k0
  obtain ⟨K, hK⟩ : ∃ K, newKept 501 = K := ⟨_, rfl⟩
  rw [hK] at d1 ⊢
  have HK := hide hK
  clear hK
  go_wp2
  have hu := upd_box2 w1 w.heap.size (.slice ao K.length ca) (.slice ao' 0 ca')
  refine bodyPost_ret (v := .agg #[.slice ao K.length ca, .slice ao' 0 ca']) (by simp [results, Try.results22, go_sem, q0, q1]) rfl ⟨_, rfl, ?_, ?_⟩
  · rw [HK.out]
    exact (d1.keep hu (fun k hk h => by omega)).mono (fun k _ h => Nat.le_trans (Nat.le_succ _) h)
  · exact (bAll al0 b1).trans (hu.below (by omega) (fun k h => Nat.le_of_eq h.symm))

set_option maxHeartbeats 1000000 in
theorem walNew_walk (w : World) :
    Calls Try.prog 7 #[] w fun e w' => e = .returned (.bool true) ∧ Below w.heap.size w w' := by
  have hlen0 := newKept_len 501
  obtain ⟨K, HK⟩ : ∃ K, Hid (newKept 501 = K) := ⟨_, rfl⟩
  obtain ⟨X, HX⟩ : ∃ X : List (Int × ByteArray), Hid ([] = X) := ⟨_, rfl⟩
  have hlen : K.length ≤ 512 := by rw [← HK.out]; exact hlen0
  have hlenX : X.length ≤ 512 := by rw [← HX.out]; simp
  clear hlen0
  have specC := fun w => specWalNew_any w
  have implC := fun w => implWalNew_any w
  rw [HK.out, HX.out] at specC implC
  have specH := hide specC
  have implH := hide implC
  clear specC implC HK HX
  go_enter Try.func7, Try.ntmps7
  go_wp2_with fail
  refine (unhide specH _).mono ?_
  rintro e w1 ⟨v0, rfl, d0, b1⟩
  replace d0 := d0.upto
  obtain ⟨ao, ca, ao', ca', rfl⟩ := d0.shape
  go_wp2_with fail
  refine (unhide implH _).mono ?_
  rintro e w2 ⟨v1, rfl, d1, b2⟩
  replace d1 := d1.upto
  obtain ⟨bo, cb, bo', cb', rfl⟩ := d1.shape
  have z2 := b2.size
  simp only [World.size_alloc] at z2 d1
  have hb0 := bKeeps b2 (heap_alloc_new w1 _)
  obtain ⟨q00, q01, q0l⟩ := box2 hb0
  have Hb0 := hide hb0
  clear hb0
  have n0 := d0.keepB (((Below.refl _ _).alloc (Nat.le_refl _) _ : Below w1.heap.size w1 (w1.alloc (.cells #[.slice ao K.length ca, .slice ao' X.length ca'] 26))))
  replace n0 := n0.keepB b2
  go_wp2_with fail
  -- the first comparison
  have al2 : Below w2.heap.size w2 (w2.alloc (.cells #[.slice bo K.length cb, .slice bo' X.length cb'] 26)) := (Below.refl _ _).alloc (Nat.le_refl _) _
  have m0 := n0.keepB al2
  have m1 := d1.keepB al2
  have B0 := bKeeps al2 Hb0.out
  have B1 := heap_alloc_new w2 (.cells #[.slice bo K.length cb, .slice bo' X.length cb'] 26)
  clear q00 q01 q0l Hb0
  refine (eqSecDisk_true _ _ K X _ m1.reads m0.reads).mono ?_
  rintro e w3 ⟨rfl, b3⟩
  replace m0 := m0.keepB b3
  replace m1 := m1.keepB b3
  replace B0 := bKeeps b3 B0
  replace B1 := bKeeps b3 B1
  have z3 := b3.size
  simp only [World.size_alloc] at z3
  obtain ⟨p00, p01, p0l⟩ := box2 B0
  obtain ⟨p10, p11, p1l⟩ := box2 B1
  have H0 := hide B0
  have H1 := hide B1
  clear B0 B1
  go_wp2_with fail
  -- the marks
  refine (markSecDisk_any _ _ K X 1 _ m1 (by omega) (by omega)).mono ?_
  rintro e w4 ⟨rfl, m1', u4⟩
  have B0 := u4.keeps H0.out (by simp; omega)
  have B1 := u4.keeps H1.out (by simp)
  replace m0 := m0.keep u4 (by intro k; simp; omega)
  clear p00 p01 p0l p10 p11 p1l H0 H1
  obtain ⟨p00, p01, p0l⟩ := box2 B0
  obtain ⟨p10, p11, p1l⟩ := box2 B1
  have H0 := hide B0
  have H1 := hide B1
  clear B0 B1
  go_wp2_with fail
  refine (heldSecDisk_ok _ _ _ 1 _ m1'.reads (by omega) (by omega)).mono ?_
  rintro e w5 ⟨rfl, b5⟩
  replace m0 := m0.keepB b5
  replace m1' := m1'.keepB b5
  have B0 := bKeeps b5 H0.out
  have B1 := bKeeps b5 H1.out
  clear p00 p01 p0l p10 p11 p1l H0 H1
  obtain ⟨p00, p01, p0l⟩ := box2 B0
  obtain ⟨p10, p11, p1l⟩ := box2 B1
  have H0 := hide B0
  have H1 := hide B1
  clear B0 B1
  go_wp2_with fail
  -- once more
  refine (unhide implH _).mono ?_
  rintro e w6 ⟨v2, rfl, d2, b6⟩
  obtain ⟨co, cc, co', cc', rfl⟩ := d2.shape
  replace m0 := m0.keepB b6
  replace m1' := m1'.keepB b6
  have B0 := bKeeps b6 H0.out
  have B1 := bKeeps b6 H1.out
  clear p00 p01 p0l p10 p11 p1l H0 H1
  obtain ⟨p00, p01, p0l⟩ := box2 B0
  obtain ⟨p10, p11, p1l⟩ := box2 B1
  have H0 := hide B0
  have H1 := hide B1
  clear B0 B1
  go_wp2_with fail
  have al6 : Below w6.heap.size w6 (w6.alloc (.cells #[.slice co K.length cc, .slice co' X.length cc'] 26)) := (Below.refl _ _).alloc (Nat.le_refl _) _
  replace m0 := m0.keepB al6
  replace m1' := m1'.keepB al6
  replace d2 := d2.keepB al6
  have B1 := bKeeps al6 H1.out
  clear p00 p01 p0l p10 p11 p1l H0 H1
  refine (eqSecDisk_true _ _ K X _ d2.reads m0.reads).mono ?_
  rintro e w7 ⟨rfl, b7⟩
  replace m1' := m1'.keepB b7
  replace B1 := bKeeps b7 B1
  obtain ⟨p10, p11, p1l⟩ := box2 B1
  clear B1
  go_wp2_with fail
  refine (heldSecDisk_ok _ _ _ 1 _ m1'.reads (by omega) (by omega)).mono ?_
  rintro e w8 ⟨rfl, b8⟩
  go_wp2
  go_ret
  refine ⟨rfl, ?_⟩
  have c1 : Below w.heap.size w w3 := bAll (bAll (bAll (bAll b1 ((Below.refl _ _).alloc (Nat.le_refl _) _)) b2) al2) b3
  have c2 : Below w.heap.size w3 w4 := u4.below (by have := c1.size; omega) (by intro k hk; have := b1.size; omega)
  have c3 : Below w4.heap.size w4 w8 := bAll (bAll (bAll (bAll b5 b6) al6) b7) b8
  exact c1.trans (c2.trans (c3.mono (by have := c1.size; have := c2.size; omega)))

end Go.Proofs.Ytiffpgnmnahelaa
