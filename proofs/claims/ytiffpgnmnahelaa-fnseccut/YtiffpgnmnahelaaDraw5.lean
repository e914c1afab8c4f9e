/- What the law on SecCut is drawn from: contracts; no statement of the seat is proved here. -/
import Derived.Test.YtiffpgnmnahelaaDraw4
namespace Go.Proofs.Ytiffpgnmnahelaa
open Go.RowKit

theorem pick_at (w0 w : World) (R p k : Nat) (a : Int) (ha : a = k) (hr : Rd w0 w R p) (hk : 1 ≤ k) (hk' : k ≤ 1073741824) (hp : p ≤ 1073741824) :
    Calls Try.prog 39 #[.pointer (some ⟨R, 0, none⟩), .int .i64 a] w fun e w' => ∃ q : Nat, e = .returned (.int .i64 q) ∧ q < k ∧ Rd w0 w' R (p + 1) ∧ Upd (fun j => j = R) w w' := by
  subst ha
  exact pick_any w0 w R p k hr hk hk' hp

set_option maxRecDepth 100000 in
set_option maxHeartbeats 1000000 in
theorem drawSecCut_any (w : World) (bo : Option Addr) (n cap : Nat) (bs : List Nat) (h : BytesIn w bo n cap bs) (hn : n ≤ 1048576) :
    Calls Try.prog 8 #[.slice bo n cap] w fun e w' => ∃ v kept wait, ∃ (ko : Option Addr) (kc : Nat) (ks : List Int), e = .returned (.tuple #[v, .slice ko ks.length kc]) ∧ DiskAA w' w.heap.size v kept wait ∧ Small 1 kept wait ∧
      RowA w' w.heap.size 3 1 (.slice ko ks.length kc) ks.length (ks.map (Value.int .i64)) ∧ ks.length ≤ 9 ∧ Below w.heap.size w w' := by
  have al0 : Below w.heap.size w (w.alloc (.cells #[.slice none 0 0, .slice none 0 0] 26)) := (Below.refl _ _).alloc (Nat.le_refl _) _
  have H0 := hide (al1_0 w (.cells #[.slice none 0 0, .slice none 0 0] 26))
  have HB := hide (h.keep al0)
  go_enter Try.func8, Try.ntmps8
  go_wp2_with fail
  refine (l6Open_any _ bo n cap bs HB.out hn).mono ?_
  rintro e w1 ⟨rfl, hr1, b1⟩
  have c1 := bAll al0 b1
  have z1 := b1.size
  simp only [World.size_alloc] at z1
  replace H0 := hide (bKeeps b1 H0.out)
  rw [World.size_alloc] at hr1
  go_wp2_with fail
  refine (l72SecAny_any _ w1 (w.heap.size + 1) 0 hr1 (by omega)).mono ?_
  rintro e w2 ⟨v2, kept, wait, p', rfl, d2, sm2, hr2, hp2, hu2⟩
  obtain ⟨ao, ca, ao', ca', rfl⟩ := d2.shape
  replace H0 := hide (hu2.keeps H0.out (by omega))
  have z2 := hu2.size
  go_wp2_with fail
  refine (l72Bits_any _ w2 (w.heap.size + 1) p' 9 hr2 (by omega) (by omega)).mono ?_
  rintro e w3 ⟨ko, kc, ks, p3, rfl, r3, hl3, hr3, hp3, hu3⟩
  have d3 := d2.keepU hu3 (fun k ht e => by subst e; exact hr2.apart (by decide) ht) (fun k ht e => by subst e; exact hr2.apart (by decide) ht)
  have k0 := hu3.keeps H0.out (by omega)
  obtain ⟨q0, q1, ql⟩ := box2 k0
  obtain ⟨q2, q3⟩ := box2f k0
  have z3 := hu3.size
  clear k0
  go_wp2
  have hu := upd_set2 w3 w.heap.size 0 1 (.slice ao kept.length ca) (.slice ao' wait.length ca')
  refine bodyPost_ret (v := .tuple #[.agg #[.slice ao kept.length ca, .slice ao' wait.length ca'], .slice ko ks.length kc]) (by simp [results, Try.results8, go_sem, q0, q1]) rfl ⟨_, kept, wait, ko, kc, ks, rfl, ?_, sm2, ?_, hl3, ?_⟩
  · obtain ⟨vk, vw, e, a1, a2⟩ := d3
    exact ⟨vk, vw, e, (a1.keep hu (fun k hk h => by omega)).mono (by omega), (a2.keep hu (fun k hk h => by omega)).mono (by omega)⟩
  · exact (r3.keep hu (fun k hk h => by omega)).mono (by omega)
  · exact ((c1.trans (hu2.below (by omega) (fun k h => by omega))).trans (hu3.below (by omega) (fun k h => by omega))).trans (hu.below (by omega) (fun k h => by omega))

end Go.Proofs.Ytiffpgnmnahelaa
