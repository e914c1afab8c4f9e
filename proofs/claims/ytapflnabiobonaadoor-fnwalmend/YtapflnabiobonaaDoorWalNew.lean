/- What WalNew does, in the specification and in the program, and what the law FnExactWalNew does; the statement itself is proved elsewhere. -/
import Derived.Test.YtapflnabiobonaaDoorNew
namespace Go.Proofs.YtapflnabiobonaaDoor
open Go.RowKit

theorem upd_box2 (w : World) (B : Nat) (x y : Value) : Upd (fun k => k = B) w ((w.setCell ⟨B, 0, none⟩ x).setCell ⟨B, 1, none⟩ y) :=
  (Upd.setCell (S := fun k => k = B) w B 0 x rfl).trans (Upd.setCell (S := fun k => k = B) _ B 1 y rfl)

set_option maxHeartbeats 400000 in
theorem specWalNew_any (w : World) :
    Calls Tryd.prog 95 #[] w fun e w' => ∃ v, e = .returned v ∧ DiskO w' (fun k => w.heap.size ≤ k) v (newKept 501) [] ∧ Below w.heap.size w w' := by
  have al0 : Below w.heap.size w (w.alloc (.cells #[.slice none 0 0, .slice none 0 0] 31)) := (Below.refl _ _).alloc (Nat.le_refl _) _
  have H0 := hide (al1_0 w (.cells #[.slice none 0 0, .slice none 0 0] 31))
  go_enter Tryd.func95, Tryd.ntmps95
  go_wp2_with fail
  refine (specSecNew_any 501 _).mono ?_
  rintro e w1 ⟨v, rfl, d1, b1⟩
  obtain ⟨ao, ca, ao', ca', rfl⟩ := d1.shape
  have k0 := bKeeps b1 H0.out
  obtain ⟨q0, q1, ql⟩ := box2 k0
  obtain ⟨q2, q3⟩ := box2f k0
  have z1 := b1.size
  simp only [World.size_alloc] at z1 d1
  clear k0
  obtain ⟨K, hK⟩ : ∃ K, newKept 501 = K := ⟨_, rfl⟩
  rw [hK] at d1 ⊢
  have HK := hide hK
  clear hK
  go_wp2
  have hu := upd_box2 w1 w.heap.size (.slice ao K.length ca) (.slice ao' 0 ca')
  refine bodyPost_ret (v := .agg #[.slice ao K.length ca, .slice ao' 0 ca']) (by simp [results, Tryd.results95, go_sem, q0, q1]) rfl ⟨_, rfl, ?_, ?_⟩
  · rw [HK.out]
    exact (d1.keep hu (fun k hk h => by omega)).mono (fun k _ h => Nat.le_trans (Nat.le_succ _) h)
  · exact (bAll al0 b1).trans (hu.below (by omega) (fun k h => Nat.le_of_eq h.symm))

end Go.Proofs.YtapflnabiobonaaDoor
