/- WalMend and WalSteps of the program, with the room of their answers: contracts; no statement of the seat is proved here. -/
import Derived.Test.YtapflnabiobonaaDoorWStepS
namespace Go.Proofs.YtapflnabiobonaaDoor
open Go.RowKit

theorem RowA.capOk {w : World} {base : Nat} {e : TypeId} {size n : Nat} {v : Value} {cs : List Value} (h : RowA w base e size v n cs) : CapOk v n := by
  rcases h with h | ⟨rfl, _, ao, rfl⟩
  · exact owns_cap h
  · exact ⟨ao, 0, rfl, Nat.le_refl _⟩

set_option maxRecDepth 100000 in
set_option maxHeartbeats 2000000 in
theorem implWalMendC_any (v : Value) (kept : List ByteArray) (wait : List (Int × ByteArray)) (w : World) (hg : ErrVar w) (hr : DiskR w v kept wait) (hs : ∀ s ∈ kept, s.size ≤ 9223372036854775807) (hs' : ∀ s ∈ wait, s.2.size ≤ 9223372036854775807) :
    Calls Tryd.prog 19 #[v] w fun e w' => ∃ v', e = .returned (.tuple #[v', .bool (readB kept wait)]) ∧ Row w' 50 3 (fun k => w.heap.size ≤ k) v' (mendL kept wait).length (scells (mendL kept wait)) ∧ Below w.heap.size w w' ∧ CapOk v' (mendL kept wait).length := by
  have Hr := hide hr
  obtain ⟨ak, aw, rfl, ⟨ao, ca, rfl, -⟩, ⟨bo, cb, rfl, -⟩⟩ := hr
  have hal : Below w.heap.size w (w.alloc (.cells #[.slice ao kept.length ca, .slice bo wait.length cb] 31)) := (Below.refl _ _).alloc (Nat.le_refl _) _
  have Hg := hide (errVar_keep hg hal)
  clear hg
  go_enter Tryd.func19, Tryd.ntmps19
  go_wp2_with fail
  refine (walOpen_any _ kept wait _ Hg.out (Hr.out.keep hal) hs hs').mono ?_
  rintro e w1 ⟨⟨hrb, F, s, L, g, gc, no, nc, hF, hFl, h0, hL, hlb, hFz, rfl, hgc, kF, kL⟩ | ⟨hrb, rfl⟩, b1⟩
  · have c1 := bAll hal b1
    have z1 := c1.size
    have hLb : ∀ x ∈ L, 0 ≤ x.1 ∧ x.1 < 250 := by rw [← hL]; exact logL_bound hlb
    have hLn : L.length ≤ 512 := by rw [← hL]; have := logL_len s F; omega
    have HRB := hide hrb
    have HM := hide (mendL_of hrb hF h0)
    rw [hL] at HM
    obtain ⟨W, hW⟩ : ∃ W, W = (w1.alloc (.cells #[.slice (some ⟨g, 0, none⟩) F.length gc, .slice no L.length nc] 69)).alloc (.cells #[.slice none 0 0] 78) := ⟨_, rfl⟩
    have al2 : Below w1.heap.size w1 W := by rw [hW]; exact ((Below.refl _ _).alloc (Nat.le_refl _) _).alloc (by simp) _
    have hzW : W.heap.size = w1.heap.size + 2 := by rw [hW]; simp
    have X0 := hide (show W.heap[w1.heap.size]? = some (.cells #[.slice (some ⟨g, 0, none⟩) F.length gc, .slice no L.length nc] 69 (0, 0)) by rw [hW]; exact al2_0 w1 _ _)
    have X1 := hide (show W.heap[w1.heap.size + 1]? = some (.cells #[.slice none 0 0] 78 (0, 0)) by rw [hW]; exact al2_1 w1 _ _)
    have HS := hide (signed_any _ no gc L.length nc F s W (kF.keep al2) h0)
    have kL2 := hide (kL.keep al2)
    clear hrb hF hFl hL hlb hFz hgc kF kL h0
    go_wp2_with fail
    rw [← hW]
    clear hW
    refine (unhide HS).mono ?_
    rintro e w2 ⟨rfl, b2⟩
    have c2 := bAll (bAll c1 al2) b2
    have z2 := b2.size
    replace X0 := hide (bKeeps b2 X0.out)
    replace X1 := hide (bKeeps b2 X1.out)
    obtain ⟨p0, p1, pl⟩ := box2 X0.out
    obtain ⟨q0, q1, ql⟩ := box1 X1.out
    clear HS
    cases he : s.toList.isEmpty
    · have hsz : s.size ≠ 0 := by have := size_pos he; omega
      have HM2 : Hid (mendL kept wait = applyL L) := by show _ = _; rw [HM.out, if_pos hsz]
      have HA := hide (bapply_any (w1.heap.size + 1) W.heap.size [] no nc L w2 ⟨by omega, by omega, none, 0, X1.out, .inl (World.ownsRow_nil _ _ _ _)⟩ (by simp) (kL2.out.keep b2) hLb hLn)
      clear hsz he HM
      go_wp2_with fail
      refine (unhide HA).mono ?_
      rintro e w3 ⟨rfl, ⟨hb1, hb2, so, sc, hbx, hrow⟩, u3⟩
      have r3 := (hrow.row (by rw [List.nil_append, applyL_len]; omega)).mono (T := fun k => w.heap.size ≤ k) (fun k _ h => by omega)
      rw [List.nil_append] at r3 hbx
      have R3 := hide r3
      rw [List.nil_append] at hrow
      have C3 := hide hrow.capOk
      obtain ⟨t0, t1, tl⟩ := box1 hbx
      have c3 : Below w.heap.size w w3 := c2.trans (u3.below (by have := c2.size; omega) (fun k h => by omega))
      clear p0 p1 pl q0 q1 ql HA hbx hrow r3
      go_wp2
      go_ret2
      rw [HRB.out, HM2.out]
      exact ⟨_, rfl, R3.out, c3, C3.out⟩
    · have hsz : s.size = 0 := empty_size he
      have HM2 : Hid (mendL kept wait = []) := by show _ = _; rw [HM.out, if_neg (by simpa using hsz)]
      clear hsz HM
      go_wp2
      go_ret2
      rw [HRB.out, HM2.out]
      exact ⟨_, rfl, Row.nil _ _ _ _, c2, _, _, rfl, Nat.le_refl _⟩
  · have HX : Hid (readB kept wait = false ∧ mendL kept wait = []) := ⟨hrb, mendL_no hrb⟩
    have c1 := bAll hal b1
    clear hrb
    go_wp2
    go_ret2
    rw [HX.out.1, HX.out.2]
    exact ⟨_, rfl, Row.nil _ _ _ _, c1.alloc c1.size _, _, _, rfl, Nat.le_refl _⟩

set_option maxRecDepth 100000 in
set_option maxHeartbeats 4000000 in
theorem implWalStepsC_any (v : Value) (so : Option Addr) (sc : Nat) (hs : List ByteArray) (kept : List ByteArray) (wait : List (Int × ByteArray)) (w : World) (hg : ErrVar w) (hr : DiskR w v kept wait) (hx : RowR w 1 (.slice so hs.length sc) hs.length (hs.map Value.string)) (hxz : ∀ s ∈ hs, s.size ≤ 9223372036854775807) (hs1 : ∀ s ∈ kept, s.size ≤ 9223372036854775807) (hs2 : ∀ s ∈ wait, s.2.size ≤ 9223372036854775807) :
    Calls Tryd.prog 26 #[v, .slice so hs.length sc] w fun e w' => ∃ v', e = .returned (.tuple #[v', .bool (stepsB kept wait hs)]) ∧ Row w' 50 3 (fun k => w.heap.size ≤ k) v' (stepsL kept wait hs).length (scells (stepsL kept wait hs)) ∧ Below w.heap.size w w' ∧ CapOk v' (stepsL kept wait hs).length := by
  have Hr := hide hr
  have HX := hide hx
  obtain ⟨ak, aw, rfl, ⟨ao, ca, rfl, -⟩, ⟨bo, cb, rfl, -⟩⟩ := hr
  have hal : Below w.heap.size w (w.alloc (.cells #[.slice ao kept.length ca, .slice bo wait.length cb] 31)) := (Below.refl _ _).alloc (Nat.le_refl _) _
  have Hg := hide (errVar_keep hg hal)
  have HOP := hide (walOpen_any _ kept wait _ Hg.out (Hr.out.keep hal) hs1 hs2)
  have HFC := fun w h => walFit_any so sc hs w h hxz
  clear hg hx hxz hs1 hs2
  go_enter Tryd.func26, Tryd.ntmps26
  go_wp2_with fail
  refine (unhide HOP).mono ?_
  rintro e w1 ⟨⟨hrb, F, s, L, g, gc, no, nc, hF, hFl, h0, hL, hlb, hFz, rfl, hgc, kF, kL⟩ | ⟨hrb, rfl⟩, b1⟩
  · have c1 := bAll hal b1
    have z1 := c1.size
    have hLb : ∀ x ∈ L, 0 ≤ x.1 ∧ x.1 < 250 := by rw [← hL]; exact logL_bound hlb
    have HB : Hid (stepsB kept wait hs = (decide (s.size = 0) && fitB hs)) := by show _ = _; simp only [stepsB, hrb, hF, sign0_of h0, Bool.true_and]
    have HH : Hid (readH kept wait = flushL (F.drop 251) L) := by show _ = _; simp only [readH, hrb, if_true, hF, homesL, sign0_of h0, hL]
    have al2 : Below w1.heap.size w1 (w1.alloc (.cells #[.slice (some ⟨g, 0, none⟩) F.length gc, .slice no L.length nc] 69)) := (Below.refl _ _).alloc (Nat.le_refl _) _
    have X0 := hide (al1_0 w1 (.cells #[.slice (some ⟨g, 0, none⟩) F.length gc, .slice no L.length nc] 69))
    have HS := hide (signed_any _ no gc L.length nc F s _ (kF.keep al2) h0)
    have c2 := bAll c1 al2
    have kF2 := hide (kF.keep al2)
    have kL2 := hide (kL.keep al2)
    have HFl := hide hFl
    have HLb := hide hLb
    have Hgc := hide hgc
    clear hrb hF hFl hL hlb hFz hgc kF kL h0 HOP hLb
    go_wp2_with fail
    refine (unhide HS).mono ?_
    rintro e w3 ⟨rfl, b3⟩
    have c3 := bAll c2 b3
    clear HS
    cases he : s.toList.isEmpty
    · have hsz : s.size ≠ 0 := by have := size_pos he; omega
      have HN : Hid (stepsB kept wait hs = false) := by show _ = _; rw [HB.out]; simp [hsz]
      have HN2 := hide (stepsL_no HN.out)
      clear hsz
      go_wp2
      go_ret2
      rw [HN.out, HN2.out]
      exact ⟨_, rfl, Row.nil _ _ _ _, c3, _, _, rfl, Nat.le_refl _⟩
    · have hsz : s.size = 0 := empty_size he
      have HB2 : Hid (stepsB kept wait hs = fitB hs) := by show _ = _; rw [HB.out]; simp [hsz]
      have HF3 := hide (HFC w3 (HX.out.keep c3))
      clear hsz HB
      go_wp2_with fail
      refine (unhide HF3).mono ?_
      rintro e w3' ⟨rfl, e3⟩
      rw [e3]
      clear e3 w3' HF3 HFC
      cases hfit : fitB hs
      · have HN : Hid (stepsB kept wait hs = false) := HB2.out.trans hfit
        have HN2 := hide (stepsL_no HN.out)
        clear hfit
        go_wp2
        go_ret2
        rw [HN.out, HN2.out]
        exact ⟨_, rfl, Row.nil _ _ _ _, c3, _, _, rfl, Nat.le_refl _⟩
      · have HY : Hid (stepsB kept wait hs = true) := HB2.out.trans hfit
        have HY2 := hide (stepsL_yes HY.out)
        obtain ⟨p0, p1, pl⟩ := box2 (bKeeps b3 X0.out)
        have HCH := hide (changes_any g gc no nc F L so sc hs w3 (kF2.out.keep b3) Hgc.out HFl.out (kL2.out.keep b3) HLb.out (HX.out.keep c3) (fitB_parts hfit).1)
        have hCb := chgK_bound (now := flushL (F.drop 251) L) hfit
        have hCl := chgK_len (flushL (F.drop 251) L) hs 250
        rw [HH.out] at HY2
        obtain ⟨C, hC⟩ : ∃ C, chgK (flushL (F.drop 251) L) hs 250 = C := ⟨_, rfl⟩
        rw [hC] at HCH hCb hCl HY2
        have HCb := hide hCb
        clear hfit hC HB2 HH kF2 kL2 HLb Hgc HFl hCb
        go_wp2_with fail
        refine (unhide HCH).mono ?_
        rintro e w4 ⟨xo, xc, rfl, r4, b4⟩
        have c4 := bAll c3 b4
        have z4 := c4.size
        have r4' := r4.mono (T := fun k => k < w4.heap.size) (fun k hk _ => hk)
        clear HCH r4 p0 p1 pl
        by_cases hc0 : C.length = 0
        · have hc0' : ((C.length : Int) == 0) = true := by simp only [beq_iff_eq]; omega
          have HE : Hid (stepsL kept wait hs = []) := by show _ = _; rw [HY2.out]; simp [stepsOf, hc0]
          clear hc0 r4'
          go_wp2
          go_ret2
          rw [HY.out, HE.out]
          exact ⟨_, rfl, Row.nil _ _ _ _, c4, _, _, rfl, Nat.le_refl _⟩
        · have hc0' : ((C.length : Int) == 0) = false := by simp only [beq_eq_false_iff_ne, ne_eq]; omega
          have HE : Hid (stepsL kept wait hs = commitL C ++ applyL C) := by show _ = _; rw [HY2.out]; simp [stepsOf, hc0]
          have al5 : Below w4.heap.size w4 (w4.alloc (.cells #[.slice none 0 0] 78)) := (Below.refl _ _).alloc (Nat.le_refl _) _
          have r5 := r4'.keepB al5
          have HCM := hide (bcommit_any w4.heap.size (w4.heap.size + 1) [] xo xc C _ ⟨by omega, by simp, none, 0, al1_0 w4 _, .inl (World.ownsRow_nil _ _ _ _)⟩ (by simp) r5.reads HCb.out hCl)
          clear hc0 HY2 r4'
          go_wp2_with fail
          refine (unhide HCM).mono ?_
          rintro e w6 ⟨rfl, B6, u6⟩
          have r6 := r5.keep u6 (fun k h => by omega)
          have HAP := hide (bapply_any w4.heap.size (w4.heap.size + 1) _ xo xc C w6 B6 (by rw [List.nil_append, commitL_len]; omega) r6.reads (fun x hx => ⟨(HCb.out x hx).1, (HCb.out x hx).2.1⟩) (by omega))
          clear HCM B6 r5 r6
          go_wp2_with fail
          refine (unhide HAP).mono ?_
          rintro e w7 ⟨rfl, ⟨hb1, hb2, yo, yc, hbx, hrow⟩, u7⟩
          rw [List.nil_append] at hrow hbx
          have hll : (commitL C ++ applyL C).length ≤ 1000 := by rw [List.length_append, commitL_len, applyL_len]; omega
          obtain ⟨T, hT⟩ : ∃ T, commitL C ++ applyL C = T := ⟨_, rfl⟩
          rw [hT] at hrow hbx hll HE
          clear hT
          have r7 := hide ((hrow.row (by omega)).mono (T := fun k => w.heap.size ≤ k) (fun k _ h => by omega))
          have C7 := hide hrow.capOk
          obtain ⟨t0, t1, tl⟩ := box1 hbx
          have c7 : Below w.heap.size w w7 := ((bAll c4 al5).trans (u6.below (by simp; omega) (fun k h => by omega))).trans (u7.below (by have := u6.size; simp at this; omega) (fun k h => by omega))
          clear HAP hrow hbx
          go_wp2
          go_ret2
          rw [HY.out, HE.out]
          exact ⟨_, rfl, r7.out, c7, C7.out⟩
  · have HN : Hid (stepsB kept wait hs = false) := by show _ = _; simp [stepsB, hrb]
    have HN2 := hide (stepsL_no HN.out)
    have c1 := bAll hal b1
    clear hrb HOP HFC
    go_wp2
    go_ret2
    rw [HN.out, HN2.out]
    exact ⟨_, rfl, Row.nil _ _ _ _, c1.alloc c1.size _, _, _, rfl, Nat.le_refl _⟩

end Go.Proofs.YtapflnabiobonaaDoor
