/- What DrawWalMend draws: a contract; no statement of the seat is proved here. -/
import Derived.Test.YtapflnabiobonaaDoorWD4
namespace Go.Proofs.YtapflnabiobonaaDoor
open Go.RowKit

set_option maxRecDepth 100000 in
set_option maxHeartbeats 2000000 in
theorem drawWalMend_any (w : World) (bo : Option Addr) (n cap : Nat) (bs : List Nat) (h : BytesIn w bo n cap bs) (hn : n ≤ 1048576) :
    Calls Tryd.prog 31 #[.slice bo n cap] w fun e w' => ∃ v kept wait, e = .returned v ∧ DiskO w' (fun k => w.heap.size ≤ k) v kept wait ∧ Drawn kept wait ∧ Below w.heap.size w w' := by
  have al0 : Below w.heap.size w (w.alloc (.cells #[.slice none 0 0, .slice none 0 0] 31)) := (Below.refl _ _).alloc (Nat.le_refl _) _
  have H0 := hide (al1_0 w (.cells #[.slice none 0 0, .slice none 0 0] 31))
  have HB := hide (h.keep al0)
  go_enter Tryd.func31, Tryd.ntmps31
  go_wp2_with fail
  refine (l6Open_any _ bo n cap bs HB.out hn).mono ?_
  rintro e w1 ⟨rfl, hr1, b1⟩
  have c1 := bAll al0 b1
  have z1 := b1.size
  simp only [World.size_alloc] at z1
  replace H0 := hide (bKeeps b1 H0.out)
  rw [World.size_alloc] at hr1
  have hRl := hr1.lt
  go_wp2_with fail
  refine (l72WalAny_any _ w1 (w.heap.size + 1) 0 hr1 (by omega)).mono ?_
  rintro e w2 ⟨v2, kept, wait, p', rfl, d2, dr2, hr2, hp2, hu2⟩
  obtain ⟨ao, ca, ao', ca', rfl⟩ := d2.shapeO
  have B0 := hu2.keeps H0.out (by omega)
  have z2 := hu2.size
  obtain ⟨x0, x1, xl⟩ := box2 B0
  obtain ⟨x2, x3⟩ := box2f B0
  clear B0
  go_wp2
  have hs := upd_set2 w2 w.heap.size 0 1 (.slice ao kept.length ca) (.slice ao' wait.length ca')
  refine bodyPost_ret (v := .agg #[.slice ao kept.length ca, .slice ao' wait.length ca']) (by simp [results, Tryd.results31, go_sem, x0, x1]) rfl ⟨_, kept, wait, rfl, ?_, dr2, ?_⟩
  · exact (d2.keep hs (fun k h e => by omega)).mono (fun k _ h => by omega)
  · exact (c1.trans (hu2.below (by omega) (fun k h => by omega))).trans (hs.below (by omega) (fun k h => by omega))

end Go.Proofs.YtapflnabiobonaaDoor
