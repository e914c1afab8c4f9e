/- What SecFlush's law is drawn from: a contract; no statement of the seat is proved here. -/
import Derived.Test.YtiffpgnmnahelaaDraw2
namespace Go.Proofs.Ytiffpgnmnahelaa
open Go.RowKit

set_option maxRecDepth 100000 in
set_option maxHeartbeats 1000000 in
theorem drawSecFlush_any (w : World) (bo : Option Addr) (n cap : Nat) (bs : List Nat) (h : BytesIn w bo n cap bs) (hn : n ≤ 1048576) :
    Calls Try.prog 14 #[.slice bo n cap] w fun e w' => ∃ v kept wait, e = .returned v ∧ DiskAA w' w.heap.size v kept wait ∧ Small 1 kept wait ∧ Below w.heap.size w w' := by
  have al0 : Below w.heap.size w (w.alloc (.cells #[.slice none 0 0, .slice none 0 0] 26)) := (Below.refl _ _).alloc (Nat.le_refl _) _
  have H0 := hide (al1_0 w (.cells #[.slice none 0 0, .slice none 0 0] 26))
  have HB := hide (h.keep al0)
  go_enter Try.func14, Try.ntmps14
  go_wp2_with fail
  refine (l6Open_any _ bo n cap bs HB.out hn).mono ?_
  rintro e w1 ⟨rfl, hr1, b1⟩
  have c1 := bAll al0 b1
  have z1 := b1.size
  simp only [World.size_alloc] at z1
  replace H0 := hide (bKeeps b1 H0.out)
  rw [World.size_alloc] at hr1
  go_wp2_with fail
  refine (l72SecAny_any _ w1 (w.heap.size + 1) 0 hr1 (by omega)).mono ?_
  rintro e w2 ⟨v2, kept, wait, p', rfl, d2, sm2, hr2, hp2, hu2⟩
  obtain ⟨ao, ca, ao', ca', rfl⟩ := d2.shape
  have k0 := hu2.keeps H0.out (by omega)
  obtain ⟨q0, q1, ql⟩ := box2 k0
  obtain ⟨q2, q3⟩ := box2f k0
  have z2 := hu2.size
  clear k0
  go_wp2
  have hu := upd_set2 w2 w.heap.size 0 1 (.slice ao kept.length ca) (.slice ao' wait.length ca')
  refine bodyPost_ret (v := .agg #[.slice ao kept.length ca, .slice ao' wait.length ca']) (by simp [results, Try.results14, go_sem, q0, q1]) rfl ⟨_, kept, wait, rfl, ?_, sm2, ?_⟩
  · obtain ⟨vk, vw, e, a1, a2⟩ := d2
    exact ⟨vk, vw, e, (a1.keep hu (fun k hk h => by omega)).mono (by omega), (a2.keep hu (fun k hk h => by omega)).mono (by omega)⟩
  · exact (c1.trans (hu2.below (by omega) (fun k h => by omega))).trans (hu.below (by omega) (fun k h => by omega))

end Go.Proofs.Ytiffpgnmnahelaa
