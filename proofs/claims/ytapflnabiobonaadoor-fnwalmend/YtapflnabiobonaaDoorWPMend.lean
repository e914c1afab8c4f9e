/- What the law FnWalMend does: its walk; the statement itself is proved elsewhere. -/
import Derived.Test.YtapflnabiobonaaDoorWD5
import Derived.Test.YtapflnabiobonaaDoorWC
import Derived.Test.YtapflnabiobonaaDoorLp
namespace Go.Proofs.YtapflnabiobonaaDoor
open Go.RowKit

theorem Drawn.win {kept : List ByteArray} {wait : List (Int × ByteArray)} (h : Drawn kept wait) (hr : readB kept wait = true) : WInv kept wait := by
  rcases h.inv with hi | hl
  · exact hi
  · have := (form_parts (read_form hr)).2.1
    omega

set_option maxRecDepth 100000 in
set_option maxHeartbeats 4000000 in
theorem lawWalMend_walk (bo : Option Addr) (n cap : Nat) (bs : List Nat) (w : World) (hg : ErrVar w) (h : BytesIn w bo n cap bs) :
    Calls Tryd.prog 7 #[.slice bo n cap] w fun e w' => e = .returned (.bool true) ∧ Below w.heap.size w w' := by
  by_cases hb1 : (n : Int) > 1048576
  · go_enter Tryd.func7, Tryd.ntmps7
    go_wp2
    go_ret
    exact ⟨rfl, Below.refl _ _⟩
  have HB := hide h
  have Hg := hide hg
  clear h hg
  go_enter Tryd.func7, Tryd.ntmps7
  go_wp2_with fail
  refine (drawWalMend_any w bo n cap bs HB.out (by omega)).mono ?_
  rintro e w1 ⟨v1, kept, wait, rfl, d1, dr, b1⟩
  obtain ⟨ao, ca, ao', ca', rfl⟩ := d1.shapeO
  have al1 : Below w1.heap.size w1 (w1.alloc (.cells #[.slice ao kept.length ca, .slice ao' wait.length ca'] 31)) := (Below.refl _ _).alloc (Nat.le_refl _) _
  have X := hide (al1_0 w1 (.cells #[.slice ao kept.length ca, .slice ao' wait.length ca'] 31))
  have c1 := bAll b1 al1
  have hd := d1.reads.keep al1
  have HMS := fun w h => specWalMend_any (.agg #[.slice ao kept.length ca, .slice ao' wait.length ca']) kept wait w h dr.ks dr.ws
  have HRS := fun w h => specWalRead_any (.agg #[.slice ao kept.length ca, .slice ao' wait.length ca']) kept wait w h dr.ks dr.ws
  have HMI := fun w hg h => implWalMendC_any (.agg #[.slice ao kept.length ca, .slice ao' wait.length ca']) kept wait w hg h dr.ks dr.ws
  have HDO := fun so sc xs w h hx hc hz => implWalDo_any (.agg #[.slice ao kept.length ca, .slice ao' wait.length ca']) kept wait so none sc 0 xs false 0 [] w h hx hc hz (RowR.nil _ _) dr.ks dr.ws
  simp only [List.length_nil] at HDO
  have hfact : Hid (readB kept wait = true → WInv kept wait ∧ _) := fun hb => ⟨dr.win hb, mend_fact (dr.win hb) hb⟩
  have hno : Hid (readB kept wait = false → mendL kept wait = []) := mendL_no
  have hrl : (readH kept wait).length ≤ 2000 := by
    cases hb : readB kept wait
    · simp [readH, hb]
    · rw [readH_len hb]; omega
  have hml : WInv kept wait → (mendL kept wait).length ≤ 253 ∧ ∀ x ∈ mendL kept wait, x.2.2.size ≤ 16 := fun hi => mendL_small hi.1
  have HML := hide hml
  obtain ⟨T, hT⟩ : ∃ T, mendL kept wait = T := ⟨_, rfl⟩
  obtain ⟨bf, hbf⟩ : ∃ bf, readH kept wait = bf := ⟨_, rfl⟩
  obtain ⟨O, hO⟩ : ∃ O, readB kept wait = O := ⟨_, rfl⟩
  simp only [hT, hO] at HMS HMI
  simp only [hbf, hO] at HRS
  rw [hbf] at hrl
  rw [hT] at HML
  have HF : Hid (O = true → WInv kept wait ∧ WInv (doR kept wait T false 0 []).1 (doR kept wait T false 0 []).2 ∧ readB (doR kept wait T false 0 []).1 (doR kept wait T false 0 []).2 = true ∧ readH (doR kept wait T false 0 []).1 (doR kept wait T false 0 []).2 = bf ∧ mendL (doR kept wait T false 0 []).1 (doR kept wait T false 0 []).2 = []) := by
    intro ho
    obtain ⟨h1, h2⟩ := hfact.out (hO.trans ho)
    simp only [hT, hbf] at h2
    exact ⟨h1, h2⟩
  have HN : Hid (O = false → T = []) := fun ho => by rw [← hT]; exact mendL_no (hO.trans ho)
  clear hfact hno hml hT hbf hO d1
  obtain ⟨t0, t1, tl⟩ := box2 X.out
  go_wp2_with fail
  refine (HMS _ hd).mono ?_
  rintro e w2 ⟨v2, rfl, r2, b2⟩
  obtain ⟨so2, sc2, rfl⟩ := r2.shape
  have c2 := bAll c1 b2
  replace hd := hd.keep b2
  clear t0 t1 tl r2
  obtain ⟨t0, t1, tl⟩ := box2 (bKeeps b2 X.out)
  go_wp2_with fail
  refine (HRS _ hd).mono ?_
  rintro e w3 ⟨v3, rfl, r3, b3⟩
  obtain ⟨so3, sc3, rfl⟩ := r3.shape
  have c3 := bAll c2 b3
  replace hd := hd.keep b3
  have RB := hide r3.reads
  clear t0 t1 tl r3
  obtain ⟨t0, t1, tl⟩ := box2 (bKeeps b3 (bKeeps b2 X.out))
  go_wp2_with fail
  refine (HMI _ (errVar_keep Hg.out c3) hd).mono ?_
  rintro e w4 ⟨v4, rfl, r4, b4, so4, sc4, rfl, hcap4⟩
  have c4 := bAll c3 b4
  replace hd := hd.keep b4
  replace RB := hide (RB.out.keep b4)
  have R4 := hide r4.reads
  clear t0 t1 tl r4
  obtain ⟨t0, t1, tl⟩ := box2 (bKeeps b4 (bKeeps b3 (bKeeps b2 X.out)))
  cases O
  · have hT0 := HN.out rfl
    subst hT0
    simp only [List.length_nil]
    go_wp2
    go_ret
    exact ⟨rfl, c4⟩
  · obtain ⟨f0, f1, f2, f3, f4⟩ := HF.out rfl
    obtain ⟨m1, m2⟩ := HML.out f0
    have HD4 := hide (HDO so4 sc4 T w4 hd R4.out hcap4 (fun x hx => by have := m2 x hx; omega))
    obtain ⟨⟨K, Y⟩, hKY⟩ : ∃ r, doR kept wait T false 0 [] = r := ⟨_, rfl⟩
    rw [hKY] at HD4 f1 f2 f3 f4
    dsimp only at HD4 f1 f2 f3 f4
    obtain ⟨bk, bw⟩ := ok_big f1.1
    have HRI := fun w v hg h => implWalRead_any v K Y w hg h bk bw
    have HMI2 := fun w v hg h => implWalMend_any v K Y w hg h bk bw
    simp only [f2, f3] at HRI
    simp only [f2, f4, List.length_nil] at HMI2
    have hTl : T.length ≤ 253 := m1
    clear hKY HF HN HML m2 f0 HMI HMS HRS HDO f2 f3 f4
    go_wp2_with fail
    refine (unhide HD4).mono ?_
    rintro e w5 ⟨v5, rfl, d5, b5⟩
    obtain ⟨jo, jc, jo', jc', rfl⟩ := d5.shapeO
    have al5 : Below w5.heap.size w5 (w5.alloc (.cells #[.slice jo K.length jc, .slice jo' Y.length jc'] 31)) := (Below.refl _ _).alloc (Nat.le_refl _) _
    have X5 := hide (al1_0 w5 (.cells #[.slice jo K.length jc, .slice jo' Y.length jc'] 31))
    have c5 := bAll (bAll c4 b5) al5
    have hd5 := d5.reads.keep al5
    replace RB := hide ((RB.out.keep b5).keep al5)
    clear t0 t1 tl HD4 d5
    go_wp2_with fail
    refine (HRI _ _ (errVar_keep Hg.out c5) hd5).mono ?_
    rintro e w6 ⟨v6, rfl, r6, b6⟩
    obtain ⟨so6, sc6, rfl⟩ := r6.shape
    have c6 := bAll c5 b6
    have RN := hide r6.reads
    replace RB := hide (RB.out.keep b6)
    replace hd5 := hd5.keep b6
    obtain ⟨t0, t1, tl⟩ := box2 (bKeeps b6 X5.out)
    clear r6
    go_wp2_with fail
    refine (HMI2 _ _ (errVar_keep Hg.out c6) hd5).mono ?_
    rintro e w7 ⟨v7, rfl, r7, b7⟩
    obtain ⟨so7, sc7, rfl⟩ := r7.shape
    have c7 := bAll c6 b7
    replace RN := hide (RN.out.keep b7)
    replace RB := hide (RB.out.keep b7)
    clear t0 t1 tl r7
    go_wp2_with fail
    refine (lpTexts_true _ _ bf.length bf _ RN.out RB.out).mono ?_
    rintro e w8 ⟨rfl, b8⟩
    go_wp2
    go_ret
    exact ⟨rfl, bAll c7 b8⟩

end Go.Proofs.YtapflnabiobonaaDoor
