/- What SecPut of the program does: a contract; no statement of the seat is proved here. -/
import Derived.Test.YtiffpgnmnahelaaPut
namespace Go.Proofs.Ytiffpgnmnahelaa
open Go.RowKit

theorem put_all {kept : List ByteArray} {wait : List (Int × ByteArray)} (a : Int) (s : ByteArray) (h : okB kept wait = true) : putB kept wait a s = putO kept wait a s ∧ putK kept wait = kept ∧ putW kept wait a s = putX kept wait a s := by
  have h1 : putB kept wait a s = putO kept wait a s := by simp [putB, putO, h]
  exact ⟨h1, by simp [putK, h], by simp [putW, putX, h, h1]⟩

set_option maxRecDepth 100000 in
set_option maxHeartbeats 2000000 in
theorem implSecPut_any (v : Value) (kept : List ByteArray) (wait : List (Int × ByteArray)) (a : Int) (s : ByteArray) (w : World) (hr : DiskR w v kept wait) (hs : ∀ s ∈ kept, s.size ≤ 9223372036854775807) (hs' : ∀ s ∈ wait, s.2.size ≤ 9223372036854775807) (hss : s.size ≤ 9223372036854775807) :
    Calls Try.prog 20 #[v, .int .i64 a, .string s] w fun e w' => ∃ v', e = .returned (.tuple #[v', .bool (putB kept wait a s)]) ∧ DiskO w' (fun k => w.heap.size ≤ k) v' (putK kept wait) (putW kept wait a s) ∧ Below w.heap.size w w' := by
  have Hr := hide hr
  obtain ⟨ak, aw, rfl, ⟨ao, ca, rfl, -⟩, ⟨bo, cb, rfl, -⟩⟩ := hr
  have hal : Below w.heap.size w ((w.alloc (.cells #[.slice ao kept.length ca, .slice bo wait.length cb] 26)).alloc (.cells #[.slice none 0 0, .slice none 0 0] 26)) := ((Below.refl _ _).alloc (Nat.le_refl _) _).alloc (by simp) _
  have H0 := hide (al2_0 w (.cells #[.slice ao kept.length ca, .slice bo wait.length cb] 26) (.cells #[.slice none 0 0, .slice none 0 0] 26))
  have H1 := hide (al2_1 w (.cells #[.slice ao kept.length ca, .slice bo wait.length cb] 26) (.cells #[.slice none 0 0, .slice none 0 0] 26))
  have Hs := hide hs
  have Hs' := hide hs'
  clear hs hs'
  go_enter Try.func20, Try.ntmps20
  go_wp2_with fail
  refine (implSecOk_any kept wait _ _ (Hr.out.keep hal) Hs.out Hs'.out).mono ?_
  rintro e w1 ⟨rfl, b1⟩
  have z1 : w.heap.size + 1 + 1 ≤ w1.heap.size := by have := b1.size; simpa only [World.size_alloc] using this
  have B0 := bKeeps b1 H0.out
  have B1 := bKeeps b1 H1.out
  clear H0 H1
  obtain ⟨p0, p1, pl⟩ := box2 B0
  obtain ⟨q0, q1, ql⟩ := box2 B1
  obtain ⟨q2, q3⟩ := box2f B1
  have H1 := hide B1
  clear B0 B1
  cases hok : okB kept wait
  · have HX : Hid (putB kept wait a s = false ∧ putK kept wait = [] ∧ putW kept wait a s = []) := ⟨by simp [putB, hok], by simp [putK, hok], by simp [putW, hok]⟩
    go_wp2
    have hu := upd_set2 w1 (w.heap.size + 1) 0 1 (.slice none 0 0) (.slice none 0 0)
    refine bodyPost_ret (v := .tuple #[.agg #[.slice none 0 0, .slice none 0 0], .bool false]) (by simp [results, Try.results20, go_sem, q0, q1]) rfl ⟨.agg #[.slice none 0 0, .slice none 0 0], ?_, ?_, (bAll hal b1).trans (hu.below (by omega) (by intro k hk; omega))⟩
    · rw [HX.out.1]
    · rw [HX.out.2.1, HX.out.2.2]
      exact ⟨_, _, rfl, Row.nil _ _ _ _, Row.nil _ _ _ _⟩
  · obtain ⟨x1, x2, x3⟩ := put_all a s hok
    obtain ⟨O, hO⟩ : ∃ O, putO kept wait a s = O := ⟨_, rfl⟩
    obtain ⟨X, hX⟩ : ∃ X, putX kept wait a s = X := ⟨_, rfl⟩
    rw [hO] at x1
    rw [hX] at x3
    have HX := hide (And.intro x1 (And.intro x2 x3))
    have HO := hide hO
    have HXX := hide hX
    clear x1 x2 x3 hO hX
    obtain ⟨hl1, hl2, -, -⟩ := okB_parts hok
    clear hok q0 q1 ql q2 q3
    go_wp2_with fail
    refine (secOwnA_any kept wait _ _ ((Hr.out.keep hal).keep b1) (by omega) (by omega)).mono ?_
    rintro e w2 ⟨v2, rfl, ⟨vk, vw, rfl, r2, s2⟩, b2⟩
    obtain ⟨no, cn, rfl⟩ := r2.shape
    obtain ⟨mo, cm, rfl⟩ := s2.shape
    have z2 := b2.size
    clear p0 p1 pl
    go_wp2_with fail
    have al3 : Below w2.heap.size w2 (w2.alloc (.cells #[.slice no kept.length cn, .slice mo wait.length cm] 57)) := (Below.refl _ _).alloc (Nat.le_refl _) _
    have r3 := (r2.keepB al3).typed
    have s3 := s2.keepB al3
    have hb3 := al1_0 w2 (.cells #[.slice no kept.length cn, .slice mo wait.length cm] 57)
    refine (put_any kept wait a s w1.heap.size w2.heap.size no mo cn cm _ hb3 s3 (by simp; omega) hl1 hl2 hss).mono ?_
    rintro e w4 ⟨rfl, mo', cm', hbx, s4, u4⟩
    rw [HO.out]
    rw [HXX.out] at hbx s4
    have u4' : Upd (fun k => w1.heap.size ≤ k) (w2.alloc (.cells #[.slice no kept.length cn, .slice mo wait.length cm] 57)) w4 := u4.mono (fun k h => by rcases h with h | h; omega; exact h.1)
    have B1 := u4'.keeps (bKeeps al3 (bKeeps b2 H1.out)) (by omega)
    have r4 := r3.keep u4 (by rintro k ht (rfl | h); exact typed_box hb3 (by decide) rfl ht; exact typed_apart (by decide) k ht h)
    clear H1
    have H1 := hide B1
    clear B1 hb3
    have z4 := u4.size
    simp only [World.size_alloc] at z4
    obtain ⟨p0, p1, pl⟩ := box2 hbx
    clear hbx
    go_wp2_with fail
    refine (disk_any no mo' _ cn _ cm' _).mono ?_
    rintro e w5 ⟨rfl, b5⟩
    have B1 := bKeeps b5 H1.out
    obtain ⟨q0, q1, ql⟩ := box2 B1
    obtain ⟨q2, q3⟩ := box2f B1
    have z5 := b5.size
    clear B1 p0 p1 pl
    go_wp2
    have hu := upd_set2 w5 (w.heap.size + 1) 0 1 (.slice no kept.length cn) (.slice mo' X.length cm')
    refine bodyPost_ret (v := .tuple #[.agg #[.slice no kept.length cn, .slice mo' X.length cm'], .bool O]) (by simp [results, Try.results20, go_sem, q0, q1]) rfl ⟨.agg #[.slice no kept.length cn, .slice mo' X.length cm'], ?_, ?_, ?_⟩
    · rw [HX.out.1]
    · rw [HX.out.2.1, HX.out.2.2]
      refine ⟨_, _, rfl, ?_, ?_⟩
      · exact ((r4.keepB b5).keep hu (fun k h => by have := h.1; omega)).mono (fun k _ h => by have := h.1; omega)
      · exact ((s4.keepB b5).keep hu (fun k h => by omega)).mono (fun k _ h => by omega)
    · have c1 : Below w.heap.size w w2 := (bAll (bAll hal b1) b2)
      have c2 : Below w.heap.size w2 w4 := (al3.mono (by omega)).trans (u4'.below (by simp; omega) (fun k h => by omega))
      exact (c1.trans (c2.trans (b5.mono (by omega)))).trans (hu.below (by omega) (by intro k hk; omega))

end Go.Proofs.Ytiffpgnmnahelaa
