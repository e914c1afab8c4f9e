/- What the law FnSecCut does: its walk; the statement itself is proved elsewhere. -/
import Derived.Test.YtiffpgnmnahelaaLFlush
namespace Go.Proofs.Ytiffpgnmnahelaa
open Go.RowKit

theorem cut_ok_len {kept : List ByteArray} {wait : List (Int × ByteArray)} (ks : List Int) (h : okB kept wait = true) : (cutK kept wait ks).length = kept.length := by
  simp [cutK, h, cutL_len]
theorem cut_no {kept : List ByteArray} {wait : List (Int × ByteArray)} (ks : List Int) (h : okB kept wait = false) : cutK kept wait ks = [] := by simp [cutK, h]

set_option maxRecDepth 100000 in
set_option maxHeartbeats 4000000 in
theorem lawSecCut_walk (bo : Option Addr) (n cap : Nat) (bs : List Nat) (w : World) (h : BytesIn w bo n cap bs) :
    Calls Try.prog 3 #[.slice bo n cap] w fun e w' => e = .returned (.bool true) ∧ Below w.heap.size w w' := by
  by_cases hb1 : (n : Int) > 1048576
  · go_enter Try.func3, Try.ntmps3
    go_wp2
    go_ret
    exact ⟨rfl, Below.refl _ _⟩
  have HB := hide h
  clear h
  go_enter Try.func3, Try.ntmps3
  go_wp2_with fail
  refine (drawSecCut_any w bo n cap bs HB.out (by omega)).mono ?_
  rintro e w1 ⟨v1, kept, wait, ko, kc, ks, rfl, d1, sm, k1, hkl9, b1⟩
  have hkl := sm.kl
  have hwl := sm.wl
  have D := d1.reads (by omega) (by omega)
  have K := (k1.row (by omega)).reads
  obtain ⟨ao, ca, ao', ca', rfl⟩ := D.shapeR
  clear d1 k1
  have al1 := alB w1 (.cells #[.slice ao kept.length ca, .slice ao' wait.length ca'] 26)
  have H3 := hide (al1_0 w1 (.cells #[.slice ao kept.length ca, .slice ao' wait.length ca'] 26))
  have c1 := bAll b1 al1
  replace D := D.keep al1
  replace K := K.keep al1
  have Big := hide sm.big
  have C1s := fun v w hr hk => specSecCut_any v kept wait ko kc ks w hr hk Big.out.1 Big.out.2
  have C1 := fun v w hr hk => implSecCut_any v kept wait ko kc ks w hr hk Big.out.1 Big.out.2
  have HT : Hid (okB kept wait = true → (cutK kept wait ks).length = kept.length ∧ ∀ (i : Nat) (s : ByteArray), (cutK kept wait ks)[i]? = some s → kept[i]? = some s ∨ (((i : Nat) : Int), s) ∈ wait) := fun h => ⟨cut_ok_len ks h, fun i s hs => cutK_at ks h i s hs⟩
  have HF : Hid (okB kept wait = false → cutK kept wait ks = []) := fun h => cut_no ks h
  have HO := hide (ok_cutK kept wait ks)
  obtain ⟨K1, e1⟩ : ∃ K1, cutK kept wait ks = K1 := ⟨_, rfl⟩
  rw [e1] at C1s C1 HT HF HO
  have Big1 := hide (okB_big HO.out)
  replace C1s := hide C1s
  replace C1 := hide C1
  clear e1 sm
  obtain ⟨p0, p1, pl⟩ := box2 H3.out
  go_wp2_with fail
  refine (unhide C1s _ _ D K).mono ?_
  rintro e w3 ⟨v3, rfl, d3, b3⟩
  have E := d3.reads
  obtain ⟨fo, fc, fo', fc', rfl⟩ := E.shapeR
  have al3 := alB w3 (.cells #[.slice fo K1.length fc, .slice fo' 0 fc'] 26)
  have H5 := hide (al1_0 w3 (.cells #[.slice fo K1.length fc, .slice fo' 0 fc'] 26))
  replace H3 := hide (bKeeps al3 (bKeeps b3 H3.out))
  replace D := (D.keep b3).keep al3
  replace K := (K.keep b3).keep al3
  replace E := E.keep al3
  have c3 := bAll (bAll c1 b3) al3
  clear p0 p1 pl d3
  obtain ⟨p0, p1, pl⟩ := box2 H3.out
  go_wp2_with fail
  refine (specSecOk_any _ kept wait _ D Big.out.1 Big.out.2).mono ?_
  rintro e w4 ⟨rfl, b4⟩
  replace H3 := hide (bKeeps b4 H3.out)
  replace H5 := hide (bKeeps b4 H5.out)
  replace D := D.keep b4
  replace K := K.keep b4
  replace E := E.keep b4
  have c4 := bAll c3 b4
  clear p0 p1 pl
  obtain ⟨p0, p1, pl⟩ := box2 H3.out
  obtain ⟨O, hO⟩ : ∃ O, okB kept wait = O := ⟨_, rfl⟩
  rw [hO] at HF HT ⊢
  clear hO
  go_wp2_with fail
  refine (unhide C1 _ _ D K).mono ?_
  rintro e w5 ⟨v5, rfl, d5, b5⟩
  have X := d5.reads
  obtain ⟨go, gc, go', gc', rfl⟩ := X.shapeR
  have al5 := alB w5 (.cells #[.slice go K1.length gc, .slice go' 0 gc'] 26)
  have H7 := hide (al1_0 w5 (.cells #[.slice go K1.length gc, .slice go' 0 gc'] 26))
  replace H3 := hide (bKeeps al5 (bKeeps b5 H3.out))
  replace H5 := hide (bKeeps al5 (bKeeps b5 H5.out))
  replace D := (D.keep b5).keep al5
  replace E := (E.keep b5).keep al5
  replace X := X.keep al5
  have c5 := bAll (bAll c4 b5) al5
  clear p0 p1 pl d5 K
  obtain ⟨p0, p1, pl⟩ := box2 H5.out
  obtain ⟨q0, q1, ql⟩ := box2 H7.out
  go_wp2_with fail
  refine (lpSec_true _ _ K1 [] _ X E).mono ?_
  rintro e w6 ⟨rfl, b6⟩
  replace H3 := hide (bKeeps b6 H3.out)
  replace H7 := hide (bKeeps b6 H7.out)
  replace D := D.keep b6
  replace X := X.keep b6
  have c6 := bAll c5 b6
  clear p0 p1 pl q0 q1 ql E H5
  obtain ⟨p0, p1, pl⟩ := box2 H3.out
  obtain ⟨q0, q1, ql⟩ := box2 H7.out
  cases O
  · have e1 := HF.out rfl
    subst e1
    go_wp2
    go_ret
    exact ⟨rfl, c6⟩
  · obtain ⟨hl1, hat⟩ := HT.out rfl
    have HA := hide hat
    have HL1 := hide hl1
    clear HT HF C1s C1 hat hl1
    have HX := hide X
    obtain ⟨_, _, ev, dk, dw⟩ := D
    simp only [Value.agg.injEq, Array.mk.injEq, List.cons.injEq, and_true] at ev
    obtain ⟨rfl, rfl⟩ := ev
    obtain ⟨_, _, ev, xk, -⟩ := X
    simp only [Value.agg.injEq, Array.mk.injEq, List.cons.injEq, and_true] at ev
    obtain ⟨rfl, rfl⟩ := ev
    have HDk := hide dk
    have HDw := hide dw
    have HXk := hide xk
    clear dk dw xk p0 p1 pl q0 q1 ql
    go_wp2
    go_loopw [8] (fun i wr => ∃ k : Nat, k ≤ kept.length ∧ i = .int .i64 k ∧ Below w6.heap.size w6 wr) (fun i _ => kept.length - (intOf i).toNat)
    case atStart => exact ⟨0, Nat.zero_le _, rfl, Below.refl _ _⟩
    case round =>
      obtain ⟨k, hk, rfl, hbel⟩ := hrel
      obtain ⟨p0, p1, pl⟩ := boxB hbel H3.out
      obtain ⟨q0, q1, ql⟩ := boxB hbel H7.out
      by_cases hlt : k < kept.length
      · have hi : (k : Int) < (kept.length : Int) := by omega
        have hlt' : k < K1.length := by have := HL1.out; omega
        have hi' : (k : Int) < (K1.length : Int) := by omega
        obtain ⟨gb, goff, gcap, u, ev, hgb, hu, hcu⟩ := RowR.ptr HDk.out k hlt
        simp only [Value.slice.injEq, true_and] at ev
        obtain ⟨rfl, rfl⟩ := ev
        obtain ⟨xb, xoff, xcap, y, ev, hxb, hy, hcy⟩ := RowR.ptr HXk.out k hlt'
        simp only [Value.slice.injEq, true_and] at ev
        obtain ⟨rfl, rfl⟩ := ev
        obtain ⟨s, hs⟩ := getAt kept k hlt
        obtain ⟨t, ht⟩ := getAt K1 k hlt'
        obtain rfl : u = .string s := by rw [List.getElem?_map, hs] at hu; simpa using hu.symm
        obtain rfl : y = .string t := by rw [List.getElem?_map, ht] at hy; simpa using hy.symm
        have f1 : wr.cell? ⟨gb, goff + k, none⟩ = some (.string s) := (hbel.cell (p := ⟨gb, goff + k, none⟩) hgb).trans hcu
        have f2 : wr.cell? ⟨xb, xoff + k, none⟩ = some (.string t) := (hbel.cell (p := ⟨xb, xoff + k, none⟩) hxb).trans hcy
        have hat := hide (HA.out k t ht)
        rw [hs] at hat
        have HXC := hide (And.intro hxb hcy)
        clear hu hy hcu hcy hs ht
        go_wp2
        go_quiet (fail)
        go_wp2
        have hbq : ∀ nq, Below w6.heap.size w6 (wr.drewN nq) := fun nq => below_drewN hbel nq
        clear f1 f2 p0 p1 pl q0 q1 ql
        go_loopw [9, 10] (fun fv iv wi => ∃ (j : Nat) (f : Bool), j ≤ wait.length ∧ fv = .bool f ∧ iv = .int .i64 j ∧ (t = s → f = true) ∧ (∀ i, i < j → wait[i]? = some ((k : Int), t) → f = true) ∧ Below w6.heap.size w6 wi) (fun _ iv _ => wait.length - (intOf iv).toNat)
        case atStart => exact ⟨0, _, Nat.zero_le _, rfl, rfl, fun h => by simp [h], fun i hi => by omega, hbq _⟩
        case round =>
          obtain ⟨j, f, hj, rfl, rfl, hf1, hf2, hbi⟩ := hrel
          obtain ⟨p0, p1, pl⟩ := boxB hbi H3.out
          obtain ⟨q0, q1, ql⟩ := boxB hbi H7.out
          have F1 := hide hf1
          have F2 := hide hf2
          clear hf1 hf2
          by_cases hjl : j < wait.length
          · have hji : (j : Int) < (wait.length : Int) := by omega
            obtain ⟨⟨a', s'⟩, hx⟩ := getAt wait j hjl
            obtain ⟨e0, e1⟩ := wcells_at wait j (a', s') hx
            obtain ⟨_, _, ev, _, _, hrow⟩ := HDw.out
            simp only [Value.slice.injEq, true_and] at ev
            obtain ⟨rfl, rfl⟩ := ev
            obtain ⟨wb, woff, rfl, hcw⟩ := hrow (by omega)
            have g1 := hcw _ _ e0
            have g2 := hcw _ _ e1
            have lw : wb < w6.heap.size := World.block_lt_of_cell? w6 _ g1
            have f3 : wr.cell? ⟨wb, woff + j * 2, none⟩ = some (.int .i64 a') := by rw [Nat.mul_comm j 2]; exact (hbi.cell (p := ⟨wb, woff + 2 * j, none⟩) lw).trans g1
            have f4 : wr.cell? ⟨wb, woff + j * 2 + 1, none⟩ = some (.string s') := by rw [Nat.mul_comm j 2]; exact (hbi.cell (p := ⟨wb, woff + (2 * j + 1), none⟩) lw).trans g2
            have f2 : wr.cell? ⟨xb, xoff + k, none⟩ = some (.string t) := (hbi.cell (p := ⟨xb, xoff + k, none⟩) HXC.out.1).trans HXC.out.2
            have Hx := hide hx
            clear hcw g1 g2 e0 e1 hx hrow
            cases f
            · by_cases ha : a' = (k : Int)
              · subst ha
                by_cases hst : s' = t
                · subst hst
                  go_wp2
                  go_quiet (fail)
                  go_wp2
                  go_roundw
                  case rel => exact ⟨j + 1, true, by omega, by simp, by go_num, fun _ => rfl, fun _ _ _ => rfl, below_drewN hbi _⟩
                  case measure => simp [intOf]; omega
                · go_wp2
                  go_quiet (fail)
                  go_wp2
                  go_roundw
                  case rel =>
                    refine ⟨j + 1, _, by omega, rfl, by go_num, fun h => absurd (F1.out h) (by simp), fun i hi hw => ?_, below_drewN hbi _⟩
                    by_cases hij : i = j
                    · subst hij
                      rw [Hx.out] at hw
                      simp only [Option.some.injEq, Prod.mk.injEq, true_and] at hw
                      exact absurd hw hst
                    · exact absurd (F2.out i (by omega) hw) (by simp)
                  case measure => simp [intOf]; omega
              · have ha' : (a' == (k : Int)) = false := by simpa using ha
                have ha2 : decide (a' = (k : Int)) = false := by simpa using ha
                go_wp2
                go_quiet (fail)
                go_wp2
                go_roundw
                case rel =>
                  refine ⟨j + 1, false, by omega, by simp, by go_num, F1.out, fun i hi hw => ?_, below_drewN hbi _⟩
                  by_cases hij : i = j
                  · subst hij
                    rw [Hx.out] at hw
                    simp only [Option.some.injEq, Prod.mk.injEq] at hw
                    exact absurd hw.1 ha
                  · exact F2.out i (by omega) hw
                case measure => simp [intOf]; omega
            · go_wp2
              go_quiet (fail)
              go_wp2
              go_roundw
              case rel => exact ⟨j + 1, true, by omega, by simp, by go_num, fun _ => rfl, fun _ _ _ => rfl, below_drewN hbi _⟩
              case measure => simp [intOf]; omega
          · have hft : f = true := by
              rcases hat.out with h | h
              · exact F1.out (Option.some.inj h).symm
              · obtain ⟨i, hi⟩ := List.getElem?_of_mem h
                exact F2.out i (by have := (List.getElem?_eq_some_iff.1 hi).1; omega) hi
            subst hft
            clear F1 F2
            go_wp2
            go_roundw
            case rel => exact ⟨k + 1, by omega, by go_num, hbi⟩
            case measure => simp [intOf]; omega
      · go_wp2_with fail
        refine (implSecOk_any K1 [] _ _ (HX.out.keep hbel) Big1.out.1 Big1.out.2).mono ?_
        rintro e w11 ⟨rfl, b11⟩
        rw [HO.out]
        obtain ⟨p0', p1', pl'⟩ := boxB (bAll hbel b11) H3.out
        obtain ⟨q0', q1', ql'⟩ := boxB (bAll hbel b11) H7.out
        have hl1 := HL1.out
        have hl1' : ((K1.length : Int) == (kept.length : Int)) = true := by simp [hl1]
        clear hl1 p0 p1 pl q0 q1 ql
        go_wp2
        go_ret
        exact ⟨rfl, bAll c6 (bAll hbel b11)⟩

end Go.Proofs.Ytiffpgnmnahelaa
