/- What the laws on SecPut are drawn from: a contract; no statement of the seat is proved here. -/
import Derived.Deep.RegionHeld3
import Derived.Test.YtiffpgnmnahelaaDraw5
namespace Go.Proofs.Ytiffpgnmnahelaa
open Go.RowKit

theorem wrapLen (q : Nat) (h : q ≤ 512 + 1) : IntKind.i64.wrap ((q : Int) + 2) = ((q + 2 : Nat) : Int) := by
  simp [IntKind.wrap, IntKind.bits, IntKind.signed]
  omega

theorem heldUpd {W w' : World} {B R Q : Nat} {x y : Value} (t0 : W.cell? ⟨B, 0, none⟩ = some x) (t1 : W.cell? ⟨B, 1, none⟩ = some y) (tl : B < W.heap.size) (hne : ¬ B = R) (hnq : ¬ B = Q) (hu : Upd (fun j => j = R ∨ j = Q) W w') :
    w'.cell? ⟨B, 0, none⟩ = some x ∧ w'.cell? ⟨B, 1, none⟩ = some y :=
  ⟨(World.cell?_of_block (a := ⟨B, 0, none⟩) (hu.block B tl (by omega))).trans t0, (World.cell?_of_block (a := ⟨B, 1, none⟩) (hu.block B tl (by omega))).trans t1⟩
theorem updL {R Q : Nat} {W w' : World} (h : Upd (fun j => j = R) W w') : Upd (fun j => j = R ∨ j = Q) W w' := h.mono (fun _ h => .inl h)

set_option maxRecDepth 100000 in
set_option maxHeartbeats 4000000 in
theorem drawSecPut_any (w : World) (bo : Option Addr) (n cap : Nat) (bs : List Nat) (h : BytesIn w bo n cap bs) (hn : n ≤ 1048576) :
    Calls Try.prog 18 #[.slice bo n cap] w fun e w' => ∃ v kept wait, ∃ (a : Int) (s : ByteArray), e = .returned (.tuple #[v, .int .i64 a, .string s]) ∧ DiskAA w' w.heap.size v kept wait ∧ Small 1 kept wait ∧ s.size ≤ 1000 ∧ Below w.heap.size w w' := by
  have al0 : Below w.heap.size w (w.alloc (.cells #[.slice none 0 0, .slice none 0 0] 26)) := (Below.refl _ _).alloc (Nat.le_refl _) _
  have H0 := hide (al1_0 w (.cells #[.slice none 0 0, .slice none 0 0] 26))
  have HB := hide (h.keep al0)
  go_enter Try.func18, Try.ntmps18
  go_wp2_with fail
  refine (l6Open_any _ bo n cap bs HB.out hn).mono ?_
  rintro e w1 ⟨rfl, hr1, b1⟩
  have c1 := bAll al0 b1
  have z1 := b1.size
  simp only [World.size_alloc] at z1
  replace H0 := hide (bKeeps b1 H0.out)
  rw [World.size_alloc] at hr1
  have hRl := hr1.lt
  go_wp2_with fail
  refine (l72SecAny_any _ w1 (w.heap.size + 1) 0 hr1 (by omega)).mono ?_
  rintro e w2 ⟨v2, kept, wait, p', rfl, d2, sm2, hr2, hp2, hu2⟩
  obtain ⟨ao, ca, ao', ca', rfl⟩ := d2.shape
  replace H0 := hide (hu2.keeps H0.out (by omega))
  have z2 := hu2.size
  have hkl := sm2.kl
  have hwl := sm2.wl
  obtain ⟨W, hW⟩ : ∃ W, W = w2.alloc (.cells #[.slice ao kept.length ca, .slice ao' wait.length ca'] 26) := ⟨_, rfl⟩
  have alW : Below w2.heap.size w2 W := by rw [hW]; exact (Below.refl _ _).alloc (Nat.le_refl _) _
  have ZW : Hid (W.heap.size = w2.heap.size + 1) := by show _ = _; rw [hW]; simp
  have HW := hide (by rw [hW]; exact al1_0 w2 _ : W.heap[w2.heap.size]? = some (.cells #[.slice ao kept.length ca, .slice ao' wait.length ca'] 26 (0, 0)))
  replace H0 := hide (bKeeps alW H0.out)
  have rW := hr2.keepB alW
  have dW := d2.keepB alW
  clear hr2 d2
  go_wp2
  rw [← hW]
  clear hW
  obtain ⟨t0, t1, tl⟩ := box2 HW.out
  obtain ⟨x0, x1, xl⟩ := box2 H0.out
  obtain ⟨x2, x3⟩ := box2f H0.out
  have rWd : Rd _ W.drew (w.heap.size + 1) p' := rW.keepB ((Below.refl _ _).drew)
  have hlt1 : w.heap.size + 1 < w2.heap.size := by have := hRl.1; omega
  have hne : ¬ w2.heap.size = w.heap.size + 1 := by omega
  have hneQ : ¬ w2.heap.size = w.heap.size := by omega
  have hne0 : ¬ w.heap.size = w.heap.size + 1 := by omega
  go_region_held3 (fun w' => w'.cell? ⟨w2.heap.size, 0, none⟩ = some (.slice ao kept.length ca) ∧ w'.cell? ⟨w2.heap.size, 1, none⟩ = some (.slice ao' wait.length ca'))
    ((refine heldUpd t0 t1 tl hne hneQ ?_; first | exact updL (by assumption) | exact Upd.ofBelow (Below.drew (Below.refl _ _)) | exact (updL u46).trans ((upd_set2 _ _ _ _ _ _).mono (fun _ h => .inr h))))
    (first
    | (go_at_call 40; refine (l72Text_any _ w5 (w.heap.size + 1) (p' + 1 + 1) 17 hr5 (by omega) (by omega)).mono ?_; rintro e w6 ⟨s6, rfl, hs6, hr6, hu6⟩; have u46 : Upd (fun j => j = w.heap.size + 1) W w6 := u45.trans hu6; obtain ⟨n0, n1, nl⟩ := box2 (u46.keeps H0.out hne0); obtain ⟨n2, n3⟩ := box2f (u46.keeps H0.out hne0))
    | (go_at_call 39; refine (pick_any _ w4 (w.heap.size + 1) (p' + 1) 2 hr4 (by omega) (by omega) (by omega)).mono ?_; rintro e w5 ⟨a5, rfl, ha5, hr5, hu5⟩; have u45 : Upd (fun j => j = w.heap.size + 1) W w5 := u44.trans hu5)
    | (go_at_call 39; refine (pick_at _ W.drew (w.heap.size + 1) p' (kept.length + 2) _ (by first | omega | exact wrapLen _ hkl) rWd (by omega) (by omega) (by omega)).mono ?_; rintro e w4 ⟨a4, rfl, ha4, hr4, hu4⟩; have u44 : Upd (fun j => j = w.heap.size + 1) W w4 := ⟨hu4.os, hu4.tape, hu4.output, hu4.size, hu4.block⟩))
  all_goals
    try go_wp2
    have z6 := u46.size
    have zW := unhide ZW
    have d6 := dW.keepU u46 (fun k ht e => by subst e; exact rW.apart (by decide) ht) (fun k ht e => by subst e; exact rW.apart (by decide) ht)
    have hu := upd_set2 w6 w.heap.size 0 1 (.slice ao kept.length ca) (.slice ao' wait.length ca')
    refine bodyPost_ret (v := .tuple #[.agg #[.slice ao kept.length ca, .slice ao' wait.length ca'], .int .i64 (IntKind.i64.wrap ((a4 : Int) - (a5 : Int))), .string s6]) (by simp [results, Try.results18, go_sem, n0, n1]) rfl ⟨_, kept, wait, _, _, rfl, ?_, sm2, hs6, ?_⟩
    · obtain ⟨vk, vw, e, a1, a2⟩ := d6
      exact ⟨vk, vw, e, (a1.keep hu (fun k hk h => by omega)).mono (by omega), (a2.keep hu (fun k hk h => by omega)).mono (by omega)⟩
    · exact (((c1.trans (hu2.below (by omega) (fun k h => by omega))).trans (alW.mono (by omega))).trans (u46.below (by omega) (fun k h => by omega))).trans (hu.below (by omega) (fun k h => by omega))

end Go.Proofs.Ytiffpgnmnahelaa
