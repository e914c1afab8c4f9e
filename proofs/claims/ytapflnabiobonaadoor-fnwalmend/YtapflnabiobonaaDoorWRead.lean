/- WalRead of the program: contracts; no statement of the seat is proved here. -/
import Derived.Test.YtapflnabiobonaaDoorWOpenP
import Derived.Test.YtapflnabiobonaaDoorSaid
namespace Go.Proofs.YtapflnabiobonaaDoor
open Go.RowKit

/-- What walOpen gives. -/
def OpenR (w' : World) (kept : List ByteArray) (wait : List (Int × ByteArray)) (e : Ending) : Prop :=
  (readB kept wait = true ∧ ∃ F s L g gc no nc, flushK kept wait = F ∧ F.length = 501 ∧ F[0]? = some s ∧ logL s F = L ∧ logB s F = true ∧ (∀ t ∈ F, t.size ≤ 16) ∧ e = .returned (.tuple #[.agg #[.slice (some ⟨g, 0, none⟩) F.length gc, .slice no L.length nc], .bool true]) ∧ F.length ≤ gc ∧ RowR w' 1 (.slice (some ⟨g, 0, none⟩) F.length gc) F.length (F.map Value.string) ∧ RowR w' 2 (.slice no L.length nc) L.length (wcells L)) ∨
  (readB kept wait = false ∧ e = .returned (.tuple #[.agg #[.slice none 0 0, .slice none 0 0], .bool false]))

theorem sign0_of {F : List ByteArray} {s : ByteArray} (h : F[0]? = some s) : sign0 F = s := by simp [sign0, h]

set_option maxRecDepth 100000 in
set_option maxHeartbeats 2000000 in
theorem walOpen_any (v : Value) (kept : List ByteArray) (wait : List (Int × ByteArray)) (w : World) (hg : ErrVar w) (hr : DiskR w v kept wait) (hs : ∀ s ∈ kept, s.size ≤ 9223372036854775807) (hs' : ∀ s ∈ wait, s.2.size ≤ 9223372036854775807) :
    Calls Tryd.prog 38 #[v] w fun e w' => OpenR w' kept wait e ∧ Below w.heap.size w w' := by
  cases hf : formB kept wait
  · have HNO : Hid (readB kept wait = false) := by show _ = _; simp [readB, hf]
    have Hr := hide hr
    obtain ⟨ak, aw, rfl, ⟨ao, ca, rfl, -⟩, ⟨bo, cb, rfl, -⟩⟩ := hr
    obtain ⟨Wa, hWa⟩ : ∃ Wa, Wa = ((w.alloc (.cells #[.slice ao kept.length ca, .slice bo wait.length cb] 31)).alloc (.cells #[.slice none 0 0, .slice none 0 0] 69)).alloc (.cells #[.bool false] 4) := ⟨_, rfl⟩
    have hal : Below w.heap.size w Wa := by rw [hWa]; exact (((Below.refl _ _).alloc (Nat.le_refl _) _).alloc (by simp) _).alloc (by simp; omega) _
    have X0 := hide (show Wa.heap[w.heap.size]? = some (.cells #[.slice ao kept.length ca, .slice bo wait.length cb] 31 (0, 0)) by rw [hWa]; exact al3_0 w _ _ _)
    have X1 := hide (show Wa.heap[w.heap.size + 1]? = some (.cells #[.slice none 0 0, .slice none 0 0] 69 (0, 0)) by rw [hWa]; exact al3_1 w _ _ _)
    have X2 := hide (show Wa.heap[w.heap.size + 1 + 1]? = some (.cells #[.bool false] 4 (0, 0)) by rw [hWa]; exact al3_2 w _ _ _)
    have hza : Wa.heap.size = w.heap.size + 3 := by rw [hWa]; simp
    go_enter Tryd.func38, Tryd.ntmps38
    go_wp2_with fail
    rw [← hWa]
    clear hWa
    refine (implSecOk_any kept wait _ _ (Hr.out.keep hal) hs hs').mono ?_
    rintro e w1 ⟨rfl, b1⟩
    have c1 := bAll hal b1
    have z1 := b1.size
    have y1 := bKeeps b1 X1.out
    have y2 := bKeeps b1 X2.out
    obtain ⟨p0, p1, pl⟩ := box2 (bKeeps b1 X0.out)
    obtain ⟨q0, q1, ql⟩ := box2 y1
    obtain ⟨q2, q3⟩ := box2f y1
    have r0 : w1.cell? ⟨w.heap.size + 1 + 1, 0, none⟩ = some (.bool false) := (cell_of_row w1 _ 0 _ _ (0, 0) y2).trans rfl
    have r1 : w1.frozen? ⟨w.heap.size + 1 + 1, 0, none⟩ = false := frozen_of_row w1 _ 0 _ _ y2
    have G1 := hide y1
    have G2 := hide y2
    clear y1 y2
    have fin : ∀ (K : Prop), K → K := fun _ h => h
    have ua := hide (upd_set2 w1 (w.heap.size + 1) 0 1 (.slice none 0 0) (.slice none 0 0))
    have ub := hide (Upd.setCell (S := fun k => k = w.heap.size + 1 + 1) ((w1.setCell ⟨w.heap.size + 1, 0, none⟩ (.slice none 0 0)).setCell ⟨w.heap.size + 1, 1, none⟩ (.slice none 0 0)) (w.heap.size + 1 + 1) 0 (.bool false) rfl)
    have hx1 := hide (ub.out.keeps (row_set (j := 1) (.slice none 0 0) (row_set (j := 0) (.slice none 0 0) G1.out)) (by omega))
    have hx2 := hide (row_set (j := 0) (.bool false) (ua.out.keeps G2.out (by omega)))
    have hbl := hide (c1.trans ((ua.out.below (by omega) (fun k h => by omega)).trans (ub.out.below (by have := ua.out.size; omega) (fun k h => by omega))))
    cases hok : okB kept wait
    · go_wp2
      obtain ⟨t0, t1, tl⟩ := box2 (x := .slice none 0 0) (y := .slice none 0 0) hx1.out
      have t2 := (cell_of_row _ _ 0 _ _ (0, 0) hx2.out).trans rfl
      exact bodyPost_ret (v := .tuple #[.agg #[.slice none 0 0, .slice none 0 0], .bool false]) (by simp [results, Tryd.results38, go_sem, t0, t1, t2]) rfl ⟨.inr ⟨HNO.out, rfl⟩, hbl.out⟩
    · have h5 : ((kept.length : Int) != 501) = true := by
        simp only [formB, hok, Bool.true_and, decide_eq_false_iff_not] at hf
        simp only [bne_iff_ne, ne_eq]
        omega
      clear hf
      go_wp2
      obtain ⟨t0, t1, tl⟩ := box2 (x := .slice none 0 0) (y := .slice none 0 0) hx1.out
      have t2 := (cell_of_row _ _ 0 _ _ (0, 0) hx2.out).trans rfl
      exact bodyPost_ret (v := .tuple #[.agg #[.slice none 0 0, .slice none 0 0], .bool false]) (by simp [results, Tryd.results38, go_sem, t0, t1, t2]) rfl ⟨.inr ⟨HNO.out, rfl⟩, hbl.out⟩
  · have hok : okB kept wait = true := by simp only [formB, Bool.and_eq_true] at hf; exact hf.1
    have h5 : kept.length = 501 := by simp only [formB, Bool.and_eq_true, decide_eq_true_eq] at hf; exact hf.2
    obtain ⟨hp1, hp2, hp3, hp4⟩ := okB_parts hok
    have hflK : flushK kept wait = flushL kept wait := by simp [flushK, hok]
    have hFl : (flushK kept wait).length = 501 := by rw [hflK, flushL_len, h5]
    have hFz : ∀ t ∈ flushK kept wait, t.size ≤ 16 := by rw [hflK]; exact flushL_all hp3 (fun x hx => (hp4 x hx).2.2)
    obtain ⟨F, hF⟩ : ∃ F, flushK kept wait = F := ⟨_, rfl⟩
    obtain ⟨s, h0⟩ := getAt F 0 (by rw [← hF]; omega)
    have hrb : readB kept wait = logB s F := by simp only [readB, hf, hF, Bool.true_and, sign0_of h0]
    refine (callsIn_wide.1 (walOpen_in v kept wait F s (logL s F) w hg hr hf hF h0 rfl)).mono ?_
    rintro e w' ⟨⟨h1, g, gc, no, nc, h2, h3, h4, h6⟩ | ⟨h1, h2⟩, hb⟩
    · exact ⟨.inl ⟨hrb.trans h1, F, s, _, g, gc, no, nc, hF, by rw [← hF]; exact hFl, h0, rfl, h1, by rw [← hF]; exact hFz, h2, h3, h4, h6⟩, hb⟩
    · exact ⟨.inr ⟨hrb.trans h1, h2⟩, hb⟩

set_option maxRecDepth 100000 in
set_option maxHeartbeats 2000000 in
theorem implWalRead_any (v : Value) (kept : List ByteArray) (wait : List (Int × ByteArray)) (w : World) (hg : ErrVar w) (hr : DiskR w v kept wait) (hs : ∀ s ∈ kept, s.size ≤ 9223372036854775807) (hs' : ∀ s ∈ wait, s.2.size ≤ 9223372036854775807) :
    Calls Tryd.prog 12 #[v] w fun e w' => ∃ v', e = .returned (.tuple #[v', .bool (readB kept wait)]) ∧ Row w' 9 1 (fun k => w.heap.size ≤ k) v' (readH kept wait).length ((readH kept wait).map Value.string) ∧ Below w.heap.size w w' := by
  have Hr := hide hr
  obtain ⟨ak, aw, rfl, ⟨ao, ca, rfl, -⟩, ⟨bo, cb, rfl, -⟩⟩ := hr
  have hal : Below w.heap.size w (w.alloc (.cells #[.slice ao kept.length ca, .slice bo wait.length cb] 31)) := (Below.refl _ _).alloc (Nat.le_refl _) _
  have Hg := hide (errVar_keep hg hal)
  clear hg
  go_enter Tryd.func12, Tryd.ntmps12
  go_wp2_with fail
  refine (walOpen_any _ kept wait _ Hg.out (Hr.out.keep hal) hs hs').mono ?_
  rintro e w1 ⟨⟨hrb, F, s, L, g, gc, no, nc, hF, hFl, h0, hL, hlb, hFz, rfl, hgc, kF, kL⟩ | ⟨hrb, rfl⟩, b1⟩
  · have c1 := bAll hal b1
    have al2 : Below w1.heap.size w1 (w1.alloc (.cells #[.slice (some ⟨g, 0, none⟩) F.length gc, .slice no L.length nc] 69)) := (Below.refl _ _).alloc (Nat.le_refl _) _
    have HX : Hid (readB kept wait = true ∧ readH kept wait = flushL (F.drop 251) L) := by
      refine ⟨hrb, ?_⟩
      simp only [readH, hrb, if_true, hF, homesL, sign0_of h0, hL]
    have hLb : ∀ x ∈ L, 0 ≤ x.1 ∧ x.1 < 250 := by rw [← hL]; exact logL_bound hlb
    have HC := hide (said_any g gc no nc F L _ (kF.keep al2) hgc hFl (kL.keep al2) hLb)
    have z1 := c1.size
    clear hrb hF hFl hL hlb hFz hgc kF kL hLb h0
    go_wp2_with fail
    refine (unhide HC).mono ?_
    rintro e w2 ⟨v2, rfl, r2, b2⟩
    obtain ⟨ho, hc, rfl⟩ := r2.shape
    go_wp2
    go_ret2
    rw [HX.out.1, HX.out.2]
    exact ⟨_, rfl, r2.mono (fun k _ h => by simp at h; omega), bAll (bAll c1 al2) b2⟩
  · have HX : Hid (readB kept wait = false ∧ readH kept wait = []) := ⟨hrb, by simp [readH, hrb]⟩
    have c1 := bAll hal b1
    clear hrb
    go_wp2
    go_ret2
    rw [HX.out.1, HX.out.2]
    exact ⟨_, rfl, Row.nil _ _ _ _, c1.alloc c1.size _⟩

end Go.Proofs.YtapflnabiobonaaDoor
