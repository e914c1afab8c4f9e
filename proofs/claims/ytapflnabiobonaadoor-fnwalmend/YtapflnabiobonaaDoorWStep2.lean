/- WalSteps of the program, whole: a contract; no statement of the seat is proved here. -/
import Derived.Test.YtapflnabiobonaaDoorWStep
namespace Go.Proofs.YtapflnabiobonaaDoor
open Go.RowKit

/-- Whether there are steps that make homes say these texts. -/
def stepsB (kept : List ByteArray) (wait : List (Int × ByteArray)) (hs : List ByteArray) : Bool := readB kept wait && (decide ((sign0 (flushK kept wait)).size = 0) && fitB hs)
def stepsOf (C : List (Int × ByteArray)) : List Stp := if C.length = 0 then [] else commitL C ++ applyL C
def stepsL (kept : List ByteArray) (wait : List (Int × ByteArray)) (hs : List ByteArray) : List Stp :=
  if stepsB kept wait hs = true then stepsOf (chgK (readH kept wait) hs 250) else []
theorem stepsL_no {kept : List ByteArray} {wait : List (Int × ByteArray)} {hs : List ByteArray} (h : stepsB kept wait hs = false) : stepsL kept wait hs = [] := by simp [stepsL, h]
theorem stepsL_yes {kept : List ByteArray} {wait : List (Int × ByteArray)} {hs : List ByteArray} (h : stepsB kept wait hs = true) : stepsL kept wait hs = stepsOf (chgK (readH kept wait) hs 250) := by simp [stepsL, h]
theorem stepsOf_len (C : List (Int × ByteArray)) : (stepsOf C).length ≤ 2 * C.length + 6 := by
  unfold stepsOf
  split
  · simp
  · rw [List.length_append, commitL_len, applyL_len]; omega
theorem fitB_parts {hs : List ByteArray} (h : fitB hs = true) : hs.length = 250 ∧ ∀ s ∈ hs, s.size ≤ 15 := by
  simp only [fitB, Bool.and_eq_true, decide_eq_true_eq, List.all_eq_true] at h
  exact h
theorem chgK_bound {now hs : List ByteArray} (h : fitB hs = true) : ∀ x ∈ chgK now hs 250, 0 ≤ x.1 ∧ x.1 < 250 ∧ x.2.size ≤ 1000 := by
  intro x hx
  obtain ⟨h1, h2, i, rfl⟩ := chgK_mem hx
  refine ⟨h1, h2, ?_⟩
  show (tAt hs i).size ≤ 1000
  unfold tAt
  cases hi : hs[i]? with
  | none => show (0 : Nat) ≤ _; omega
  | some t => have := (fitB_parts h).2 t (List.mem_of_getElem? hi); show t.size ≤ 1000; omega

set_option maxRecDepth 100000 in
set_option maxHeartbeats 4000000 in
theorem implWalSteps_any (v : Value) (so : Option Addr) (sc : Nat) (hs : List ByteArray) (kept : List ByteArray) (wait : List (Int × ByteArray)) (w : World) (hg : ErrVar w) (hr : DiskR w v kept wait) (hx : RowR w 1 (.slice so hs.length sc) hs.length (hs.map Value.string)) (hxz : ∀ s ∈ hs, s.size ≤ 9223372036854775807) (hs1 : ∀ s ∈ kept, s.size ≤ 9223372036854775807) (hs2 : ∀ s ∈ wait, s.2.size ≤ 9223372036854775807) :
    Calls Tryd.prog 26 #[v, .slice so hs.length sc] w fun e w' => ∃ v', e = .returned (.tuple #[v', .bool (stepsB kept wait hs)]) ∧ Row w' 50 3 (fun k => w.heap.size ≤ k) v' (stepsL kept wait hs).length (scells (stepsL kept wait hs)) ∧ Below w.heap.size w w' := by
  have Hr := hide hr
  have HX := hide hx
  obtain ⟨ak, aw, rfl, ⟨ao, ca, rfl, -⟩, ⟨bo, cb, rfl, -⟩⟩ := hr
  have hal : Below w.heap.size w (w.alloc (.cells #[.slice ao kept.length ca, .slice bo wait.length cb] 31)) := (Below.refl _ _).alloc (Nat.le_refl _) _
  have Hg := hide (errVar_keep hg hal)
  have HOP := hide (walOpen_any _ kept wait _ Hg.out (Hr.out.keep hal) hs1 hs2)
  have HFC := fun w h => walFit_any so sc hs w h hxz
  clear hg hx hxz hs1 hs2
  go_enter Tryd.func26, Tryd.ntmps26
  go_wp2_with fail
  refine (unhide HOP).mono ?_
  rintro e w1 ⟨⟨hrb, F, s, L, g, gc, no, nc, hF, hFl, h0, hL, hlb, hFz, rfl, hgc, kF, kL⟩ | ⟨hrb, rfl⟩, b1⟩
  · have c1 := bAll hal b1
    have z1 := c1.size
    have hLb : ∀ x ∈ L, 0 ≤ x.1 ∧ x.1 < 250 := by rw [← hL]; exact logL_bound hlb
    have HB : Hid (stepsB kept wait hs = (decide (s.size = 0) && fitB hs)) := by show _ = _; simp only [stepsB, hrb, hF, sign0_of h0, Bool.true_and]
    have HH : Hid (readH kept wait = flushL (F.drop 251) L) := by show _ = _; simp only [readH, hrb, if_true, hF, homesL, sign0_of h0, hL]
    have al2 : Below w1.heap.size w1 (w1.alloc (.cells #[.slice (some ⟨g, 0, none⟩) F.length gc, .slice no L.length nc] 69)) := (Below.refl _ _).alloc (Nat.le_refl _) _
    have X0 := hide (al1_0 w1 (.cells #[.slice (some ⟨g, 0, none⟩) F.length gc, .slice no L.length nc] 69))
    have HS := hide (signed_any _ no gc L.length nc F s _ (kF.keep al2) h0)
    have c2 := bAll c1 al2
    have kF2 := hide (kF.keep al2)
    have kL2 := hide (kL.keep al2)
    have HFl := hide hFl
    have HLb := hide hLb
    have Hgc := hide hgc
    clear hrb hF hFl hL hlb hFz hgc kF kL h0 HOP hLb
    go_wp2_with fail
    refine (unhide HS).mono ?_
    rintro e w3 ⟨rfl, b3⟩
    have c3 := bAll c2 b3
    clear HS
    cases he : s.toList.isEmpty
    · have hsz : s.size ≠ 0 := by have := size_pos he; omega
      have HN : Hid (stepsB kept wait hs = false) := by show _ = _; rw [HB.out]; simp [hsz]
      have HN2 := hide (stepsL_no HN.out)
      clear hsz
      go_wp2
      go_ret2
      rw [HN.out, HN2.out]
      exact ⟨_, rfl, Row.nil _ _ _ _, c3⟩
    · have hsz : s.size = 0 := empty_size he
      have HB2 : Hid (stepsB kept wait hs = fitB hs) := by show _ = _; rw [HB.out]; simp [hsz]
      have HF3 := hide (HFC w3 (HX.out.keep c3))
      clear hsz HB
      go_wp2_with fail
      refine (unhide HF3).mono ?_
      rintro e w3' ⟨rfl, e3⟩
      rw [e3]
      clear e3 w3' HF3 HFC
      cases hfit : fitB hs
      · have HN : Hid (stepsB kept wait hs = false) := HB2.out.trans hfit
        have HN2 := hide (stepsL_no HN.out)
        clear hfit
        go_wp2
        go_ret2
        rw [HN.out, HN2.out]
        exact ⟨_, rfl, Row.nil _ _ _ _, c3⟩
      · have HY : Hid (stepsB kept wait hs = true) := HB2.out.trans hfit
        have HY2 := hide (stepsL_yes HY.out)
        obtain ⟨p0, p1, pl⟩ := box2 (bKeeps b3 X0.out)
        have HCH := hide (changes_any g gc no nc F L so sc hs w3 (kF2.out.keep b3) Hgc.out HFl.out (kL2.out.keep b3) HLb.out (HX.out.keep c3) (fitB_parts hfit).1)
        have hCb := chgK_bound (now := flushL (F.drop 251) L) hfit
        have hCl := chgK_len (flushL (F.drop 251) L) hs 250
        rw [HH.out] at HY2
        obtain ⟨C, hC⟩ : ∃ C, chgK (flushL (F.drop 251) L) hs 250 = C := ⟨_, rfl⟩
        rw [hC] at HCH hCb hCl HY2
        have HCb := hide hCb
        clear hfit hC HB2 HH kF2 kL2 HLb Hgc HFl hCb
        go_wp2_with fail
        refine (unhide HCH).mono ?_
        rintro e w4 ⟨xo, xc, rfl, r4, b4⟩
        have c4 := bAll c3 b4
        have z4 := c4.size
        have r4' := r4.mono (T := fun k => k < w4.heap.size) (fun k hk _ => hk)
        clear HCH r4 p0 p1 pl
        by_cases hc0 : C.length = 0
        · have hc0' : ((C.length : Int) == 0) = true := by simp only [beq_iff_eq]; omega
          have HE : Hid (stepsL kept wait hs = []) := by show _ = _; rw [HY2.out]; simp [stepsOf, hc0]
          clear hc0 r4'
          go_wp2
          go_ret2
          rw [HY.out, HE.out]
          exact ⟨_, rfl, Row.nil _ _ _ _, c4⟩
        · have hc0' : ((C.length : Int) == 0) = false := by simp only [beq_eq_false_iff_ne, ne_eq]; omega
          have HE : Hid (stepsL kept wait hs = commitL C ++ applyL C) := by show _ = _; rw [HY2.out]; simp [stepsOf, hc0]
          have al5 : Below w4.heap.size w4 (w4.alloc (.cells #[.slice none 0 0] 78)) := (Below.refl _ _).alloc (Nat.le_refl _) _
          have r5 := r4'.keepB al5
          have HCM := hide (bcommit_any w4.heap.size (w4.heap.size + 1) [] xo xc C _ ⟨by omega, by simp, none, 0, al1_0 w4 _, .inl (World.ownsRow_nil _ _ _ _)⟩ (by simp) r5.reads HCb.out hCl)
          clear hc0 HY2 r4'
          go_wp2_with fail
          refine (unhide HCM).mono ?_
          rintro e w6 ⟨rfl, B6, u6⟩
          have r6 := r5.keep u6 (fun k h => by omega)
          have HAP := hide (bapply_any w4.heap.size (w4.heap.size + 1) _ xo xc C w6 B6 (by rw [List.nil_append, commitL_len]; omega) r6.reads (fun x hx => ⟨(HCb.out x hx).1, (HCb.out x hx).2.1⟩) (by omega))
          clear HCM B6 r5 r6
          go_wp2_with fail
          refine (unhide HAP).mono ?_
          rintro e w7 ⟨rfl, ⟨hb1, hb2, yo, yc, hbx, hrow⟩, u7⟩
          rw [List.nil_append] at hrow hbx
          have hll : (commitL C ++ applyL C).length ≤ 1000 := by rw [List.length_append, commitL_len, applyL_len]; omega
          obtain ⟨T, hT⟩ : ∃ T, commitL C ++ applyL C = T := ⟨_, rfl⟩
          rw [hT] at hrow hbx hll HE
          clear hT
          have r7 := hide ((hrow.row (by omega)).mono (T := fun k => w.heap.size ≤ k) (fun k _ h => by omega))
          obtain ⟨t0, t1, tl⟩ := box1 hbx
          have c7 : Below w.heap.size w w7 := ((bAll c4 al5).trans (u6.below (by simp; omega) (fun k h => by omega))).trans (u7.below (by have := u6.size; simp at this; omega) (fun k h => by omega))
          clear HAP hrow hbx
          go_wp2
          go_ret2
          rw [HY.out, HE.out]
          exact ⟨_, rfl, r7.out, c7⟩
  · have HN : Hid (stepsB kept wait hs = false) := by show _ = _; simp [stepsB, hrb]
    have HN2 := hide (stepsL_no HN.out)
    have c1 := bAll hal b1
    clear hrb HOP HFC
    go_wp2
    go_ret2
    rw [HN.out, HN2.out]
    exact ⟨_, rfl, Row.nil _ _ _ _, c1.alloc c1.size _⟩

end Go.Proofs.YtapflnabiobonaaDoor
