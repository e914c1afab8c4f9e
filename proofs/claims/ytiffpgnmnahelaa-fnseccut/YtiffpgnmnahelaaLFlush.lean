/- What the law FnSecFlush does: its walk; the statement itself is proved elsewhere. -/
import Derived.Deep.RegionHeld3
import Derived.Test.YtiffpgnmnahelaaDraw3
import Derived.Test.YtiffpgnmnahelaaDraw5
import Derived.Test.YtiffpgnmnahelaaLp
import Derived.Test.YtiffpgnmnahelaaSM
import Derived.Test.YtiffpgnmnahelaaCut
namespace Go.Proofs.Ytiffpgnmnahelaa
open Go.RowKit

theorem Small.big {d : Nat} {kept : List ByteArray} {wait : List (Int × ByteArray)} (h : Small d kept wait) : (∀ s ∈ kept, s.size ≤ 9223372036854775807) ∧ ∀ x ∈ wait, x.2.size ≤ 9223372036854775807 :=
  ⟨fun s hs => by have := h.ks s hs; omega, fun x hx => by have := h.ws x hx; omega⟩
theorem okB_big {kept : List ByteArray} {wait : List (Int × ByteArray)} (h : okB kept wait = true) : (∀ s ∈ kept, s.size ≤ 9223372036854775807) ∧ ∀ x ∈ wait, x.2.size ≤ 9223372036854775807 := by
  obtain ⟨_, _, h3, h4⟩ := okB_parts h
  exact ⟨fun s hs => by have := h3 s hs; omega, fun x hx => by have := (h4 x hx).2.2; omega⟩
theorem DiskR.shapeR {w : World} {v : Value} {kept : List ByteArray} {wait : List (Int × ByteArray)} (h : DiskR w v kept wait) : ∃ ao ca ao' ca', v = .agg #[.slice ao kept.length ca, .slice ao' wait.length ca'] := by
  obtain ⟨vk, vw, rfl, ⟨ao, ca, rfl, -⟩, ⟨ao', ca', rfl, -⟩⟩ := h
  exact ⟨ao, ca, ao', ca', rfl⟩
theorem alB (w : World) (o : Obj) : Below w.heap.size w (w.alloc o) := (Below.refl _ _).alloc (Nat.le_refl _) _
theorem bDrew (w : World) : Below w.heap.size w w.drew := (Below.refl _ _).drew
/-- What a variable of two cells holds in a later world. -/
theorem boxB {w w' : World} {B : Nat} {x y : Value} {t : TypeId} (hb : Below w.heap.size w w') (h : w.heap[B]? = some (.cells #[x, y] t (0, 0))) : w'.cell? ⟨B, 0, none⟩ = some x ∧ w'.cell? ⟨B, 1, none⟩ = some y ∧ B < w'.heap.size := box2 (bKeeps hb h)

/-- Two variables of two cells, in a later world. -/
theorem heldTwo {W w' : World} {B C : Nat} {x y x' y' : Value} {t t' : TypeId} (h : W.heap[B]? = some (.cells #[x, y] t (0, 0))) (h' : W.heap[C]? = some (.cells #[x', y'] t' (0, 0))) (hb : Below W.heap.size W w') :
    (w'.cell? ⟨B, 0, none⟩ = some x ∧ w'.cell? ⟨B, 1, none⟩ = some y) ∧ (w'.cell? ⟨C, 0, none⟩ = some x' ∧ w'.cell? ⟨C, 1, none⟩ = some y') :=
  ⟨⟨(boxB hb h).1, (boxB hb h).2.1⟩, (boxB hb h').1, (boxB hb h').2.1⟩
theorem heldOne {W w' : World} {B : Nat} {x y : Value} {t : TypeId} (h : W.heap[B]? = some (.cells #[x, y] t (0, 0))) (hb : Below W.heap.size W w') :
    w'.cell? ⟨B, 0, none⟩ = some x ∧ w'.cell? ⟨B, 1, none⟩ = some y :=
  ⟨(boxB hb h).1, (boxB hb h).2.1⟩

set_option maxRecDepth 100000 in
set_option maxHeartbeats 4000000 in
theorem lawSecFlush_walk (bo bo' : Option Addr) (n n' cap cap' : Nat) (bs bs' : List Nat) (w : World) (h : BytesIn w bo n cap bs) (h' : BytesIn w bo' n' cap' bs') :
    Calls Try.prog 4 #[.slice bo n cap, .slice bo' n' cap'] w fun e w' => e = .returned (.bool true) ∧ Below w.heap.size w w' := by
  by_cases hb1 : (n : Int) > 1048576
  · go_enter Try.func4, Try.ntmps4
    go_wp2
    go_ret
    exact ⟨rfl, Below.refl _ _⟩
  by_cases hb2 : (n' : Int) > 1048576
  · go_enter Try.func4, Try.ntmps4
    go_wp2
    go_ret
    exact ⟨rfl, Below.refl _ _⟩
  have HB := hide h
  have HB' := hide h'
  clear h h'
  go_enter Try.func4, Try.ntmps4
  go_wp2_with fail
  refine (drawSecFlush_any w bo n cap bs HB.out (by omega)).mono ?_
  rintro e w1 ⟨v1, kept, wait, rfl, d1, sm, b1⟩
  have D := d1.reads (by have := sm.kl; omega) (by have := sm.wl; omega)
  obtain ⟨ao, ca, ao', ca', rfl⟩ := D.shapeR
  obtain ⟨big, big'⟩ := sm.big
  have Big := hide (And.intro big big')
  have hkl := sm.kl
  clear big big' sm d1
  have H5 := al1_0 w1 (.cells #[.slice ao kept.length ca, .slice ao' wait.length ca'] 26)
  have c1 := bAll b1 (alB w1 (.cells #[.slice ao kept.length ca, .slice ao' wait.length ca'] 26))
  replace D := D.keep (alB w1 (.cells #[.slice ao kept.length ca, .slice ao' wait.length ca'] 26))
  have HH5 := hide H5
  clear H5
  go_wp2_with fail
  refine (drawSecCut_any _ bo' n' cap' bs' (HB'.out.keep c1) (by omega)).mono ?_
  rintro e w2 ⟨v2, kept2, wait2, ko, kc, ks, rfl, d2, sm2, k2, hk2, b2⟩
  obtain ⟨eo, ec, eo', ec', rfl⟩ := d2.shape
  have K := (k2.row (by omega)).reads
  replace HH5 := hide (bKeeps b2 HH5.out)
  replace D := D.keep b2
  have c2 := bAll c1 b2
  clear d2 sm2 k2
  have al2 := alB w2 (.cells #[.slice eo kept2.length ec, .slice eo' wait2.length ec'] 26)
  replace HH5 := hide (bKeeps al2 HH5.out)
  replace D := D.keep al2
  replace K := K.keep al2
  replace c2 := bAll c2 al2
  obtain ⟨p0, p1, pl⟩ := box2 HH5.out
  go_wp2_with fail
  refine (specSecFlush_any _ kept wait _ D Big.out.1 Big.out.2).mono ?_
  rintro e w3 ⟨v3, rfl, d3, b3⟩
  have hF := hide (ok_flushK kept wait)
  have hFl : Hid (∀ a : Int, okB kept wait = true → lookB (flushK kept wait) [] a = lookB kept wait a) := by
    intro a hok
    have e : flushK kept wait = flushL kept wait := by simp [flushK, hok]
    rw [e]
    exact lookB_flush hok a
  obtain ⟨F, eF⟩ : ∃ F, flushK kept wait = F := ⟨_, rfl⟩
  have EF := hide eF
  rw [eF] at d3 hF hFl
  clear eF
  have R := d3.reads
  obtain ⟨fo, fc, fo', fc', rfl⟩ := R.shapeR
  clear d3 p0 p1 pl
  have al3 := alB w3 (.cells #[.slice fo F.length fc, .slice fo' 0 fc'] 26)
  have HH8 := hide (al1_0 w3 (.cells #[.slice fo F.length fc, .slice fo' 0 fc'] 26))
  replace HH5 := hide (bKeeps al3 (bKeeps b3 HH5.out))
  replace D := (D.keep b3).keep al3
  replace K := (K.keep b3).keep al3
  replace R := R.keep al3
  have c3 := bAll (bAll c2 b3) al3
  obtain ⟨p0, p1, pl⟩ := box2 HH5.out
  go_wp2_with fail
  refine (implSecFlush_any _ kept wait _ D Big.out.1 Big.out.2).mono ?_
  rintro e w4 ⟨v4, rfl, d4, b4⟩
  rw [EF.out] at d4
  have X := d4.reads
  obtain ⟨go, gc, go', gc', rfl⟩ := X.shapeR
  clear d4 p0 p1 pl
  have al4 := alB w4 (.cells #[.slice go F.length gc, .slice go' 0 gc'] 26)
  have HH9 := hide (al1_0 w4 (.cells #[.slice go F.length gc, .slice go' 0 gc'] 26))
  replace HH5 := hide (bKeeps al4 (bKeeps b4 HH5.out))
  replace HH8 := hide (bKeeps al4 (bKeeps b4 HH8.out))
  replace D := (D.keep b4).keep al4
  replace K := (K.keep b4).keep al4
  replace R := (R.keep b4).keep al4
  replace X := X.keep al4
  have c4 := bAll (bAll c3 b4) al4
  obtain ⟨W, hW⟩ : ∃ W, W = w4.alloc (.cells #[.slice go F.length gc, .slice go' 0 gc'] 26) := ⟨_, rfl⟩
  go_wp2_with fail
  rw [← hW]
  rw [← hW] at HH5 HH8 HH9 D K R X c4
  clear hW al4 b4 al3 b3 al2 b2 b1
  have HC : Hid (cutK F [] ks = F) := cutK_nil ks hF.out
  obtain ⟨m0, m1, ml⟩ := box2 HH9.out
  obtain ⟨n0, n1, nl⟩ := box2 HH8.out
  have Hl1 := hide (lpSec_true _ _ F [] W.drew (X.keep (bDrew W)) (R.keep (bDrew W)))
  have HX := hide X
  have HK := hide K
  have HD := hide D
  have HBg := hide (okB_big hF.out)
  clear X K D R
  go_region_held3 (fun w' => (w'.cell? ⟨w4.heap.size, 0, none⟩ = some (.slice go F.length gc) ∧ w'.cell? ⟨w4.heap.size, 1, none⟩ = some (.slice go' 0 gc')) ∧ (w'.cell? ⟨w3.heap.size, 0, none⟩ = some (.slice fo F.length fc) ∧ w'.cell? ⟨w3.heap.size, 1, none⟩ = some (.slice fo' 0 fc')))
    ((refine heldTwo HH9.out HH8.out ?_; first | assumption | exact bDrew _ | exact Below.refl _ _))
    (first
    | (go_at_call 12; refine (lpSec_true _ _ F [] w6 d6.reads (HX.out.keep b6')).mono ?_; rintro e w7 ⟨rfl, b7⟩; have b7' : Below W.heap.size W w7 := bAll b6' b7)
    | (go_at_call 11; refine (implSecCut_any _ F [] ko kc ks w5 (HX.out.keep b5') (HK.out.keep b5') HBg.out.1 HBg.out.2).mono ?_; rintro e w6 ⟨v6, rfl, d6, b6⟩; rw [HC.out] at d6; obtain ⟨jo, jc, jo', jc', rfl⟩ := d6.reads.shapeR; have b6' : Below W.heap.size W w6 := bAll b5' b6)
    | (go_at_call 12; refine (unhide Hl1).mono ?_; rintro e w5 ⟨rfl, b5⟩; have b5' : Below W.heap.size W w5 := bUndrew b5))
  all_goals
    clear b5 b5' b6 b6' b7 d6 Hl1 m0 m1 ml n0 n1 nl
    go_wp2
    go_loopw [10] (fun i wr => ∃ k : Nat, k ≤ kept.length ∧ i = .int .i64 k ∧ Below W.heap.size W wr) (fun i _ => kept.length - (intOf i).toNat)
    case atStart => exact ⟨0, Nat.zero_le _, rfl, b7'⟩
    case round =>
      clear b7'
      obtain ⟨k, hk, rfl, hbel⟩ := hrel
      obtain ⟨p0, p1, pl⟩ := boxB hbel HH5.out
      by_cases hlt : k < kept.length
      · have hi : (k : Int) < (kept.length : Int) := by omega
        go_wp2_with fail
        refine (specSecOk_any _ kept wait _ (HD.out.keep hbel) Big.out.1 Big.out.2).mono ?_
        rintro e w8 ⟨rfl, b8⟩
        have hb8 := bAll hbel b8
        clear p0 p1 pl
        cases hok : okB kept wait
        · go_wp2
          go_ret
          exact ⟨rfl, bAll c4 hb8⟩
        · obtain ⟨s, hs⟩ : ∃ s, lookB kept wait (k : Int) = s := ⟨_, rfl⟩
          have Hk1 := hide (implSecLook_any _ F [] (k : Int) w8.drew (HX.out.keep (bAll hb8 (bDrew w8))) HBg.out.1 HBg.out.2)
          rw [hFl.out _ hok, hs] at Hk1
          have Hs := hide hs
          clear hs hok
          obtain ⟨p0, p1, pl⟩ := boxB hb8 HH5.out
          obtain ⟨m0, m1, ml⟩ := boxB hb8 HH9.out
          go_wp2
          go_region_held3 (fun w' => (w'.cell? ⟨w4.heap.size, 0, none⟩ = some (.slice go F.length gc) ∧ w'.cell? ⟨w4.heap.size, 1, none⟩ = some (.slice go' 0 gc')) ∧ (w'.cell? ⟨w1.heap.size, 0, none⟩ = some (.slice ao kept.length ca) ∧ w'.cell? ⟨w1.heap.size, 1, none⟩ = some (.slice ao' wait.length ca')))
            ((refine heldTwo HH9.out HH5.out ?_; first | assumption | exact bAll hb8 (bDrew _)))
            (first
            | (go_at_call 17; refine (implSecLook_any _ kept wait (k : Int) w9 (HD.out.keep b9') Big.out.1 Big.out.2).mono ?_; rintro e w10 ⟨rfl, b10⟩; rw [Hs.out]; have b10' : Below W.heap.size W w10 := bAll b9' b10)
            | (go_at_call 17; refine (unhide Hk1).mono ?_; rintro e w9 ⟨rfl, b9⟩; have b9' : Below W.heap.size W w9 := bAll hb8 (bUndrew b9)))
          all_goals
            go_wp2
            go_roundw
            case rel => exact ⟨k + 1, by omega, by go_num, b10'⟩
            case measure => simp [intOf]; omega
      · go_wp2
        go_ret
        exact ⟨rfl, bAll c4 hbel⟩

end Go.Proofs.Ytiffpgnmnahelaa
