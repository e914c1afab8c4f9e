/- SynSeekerOk of the specification: a contract; no statement of the seat is proved here. -/
import Derived.Test.YteddhdbglciahaaGreatZk13
import Derived.Test.YteddhdbglciahaaGreatZk10
namespace Go.Proofs.YteddhdbglciahaaGreat
open Go.RowKit

set_option maxRecDepth 100000 in
set_option maxHeartbeats 16000000 in
theorem specSynSeekerOk_any (v : Value) (k : Sk) (w : World) (h : SkR w v k) :
    Calls Tryz.prog 59 #[v] w fun e w' => e = .returned (.bool (okS k)) ∧ Below w.heap.size w w' := by
  obtain ⟨yo, yc, rfl, hr⟩ := h
  have HR := hide hr
  clear hr
  obtain ⟨j1, hj1⟩ : ∃ j, isZ k.m = j := ⟨_, rfl⟩
  obtain ⟨j7, hj7⟩ : ∃ j, isZP k.p = j := ⟨_, rfl⟩
  obtain ⟨j8, hj8⟩ : ∃ j, ppI k.p = j := ⟨_, rfl⟩
  obtain ⟨i1, hi1⟩ : ∃ j, inI k.s 1 60 = j := ⟨_, rfl⟩
  obtain ⟨i2, hi2⟩ : ∃ j, inI k.b 1 99999 = j := ⟨_, rfl⟩
  obtain ⟨i3, hi3⟩ : ∃ j, inI k.ph 1 2 = j := ⟨_, rfl⟩
  obtain ⟨i4, hi4⟩ : ∃ j, cmdI k.m = j := ⟨_, rfl⟩
  have cP := fun V => l21PaperOk_any k.p.1 k.p.2.1 k.p.2.2 V
  rw [show ppI (k.p.1, k.p.2.1, k.p.2.2) = j8 from hj8] at cP
  have c1 := fun V => l6In_inI k.s 1 60 V
  have c2 := fun V => l6In_inI k.b 1 99999 V
  have c3 := fun V => l6In_inI k.ph 1 2 V
  have c4 := fun V => l11CmdOk_any k.m V
  rw [hi1] at c1
  rw [hi2] at c2
  rw [hi3] at c3
  rw [hi4] at c4
  have H1 := hide hj1
  have H7 := hide hj7
  have hB : Hid (bestI k = (j7 || (j8 && (decide (k.p.1 = k.s) && decide (k.p.2.1 < k.b))))) := by show _ = _; rw [bestI, hj7, hj8]
  have hM : Hid (mayS k = ((i1 && (i2 && i4)) && (i3 && (yesI k.ys && bestI k)))) := by show _ = _; rw [mayS]; show ((inI k.s 1 60 && (inI k.b 1 99999 && cmdI k.m)) && _) = _; rw [hi1, hi2, hi3, hi4]
  have h0ph : Hid (k.ph = 0 → mayS k = false) := fun h => by rw [mayS, h]; simp [inI]
  clear hi1 hi2 hi3 hi4 hj8
  go_enter Tryz.func59, Tryz.ntmps59
  go_upto_region 1 with fail
  generalize hW : World.alloc _ _ = W
  have al : Below w.heap.size w W := by rw [← hW]; exact bal (Below.refl _ _) _
  have A0 : Hid (W.heap[w.heap.size]? = some (.cells (skarr k (.slice yo k.ys.length yc)) 80 (0, 0))) := by show _ = _; rw [← hW]; exact al1_0 w _
  clear hW
  obtain ⟨x0, x1, x2, xm, xp, x13, x14, xy⟩ := sk_cells A0.out
  have XP := hide xp
  have XM := hide xm
  clear xp xm
  by_cases hph : k.ph = 0
  · have hp1 : (k.ph == 0) = true := by simpa using hph
    have hO : Hid (okS k = noS k) := by show _ = _; rw [okS, h0ph.out hph, Bool.or_false]
    clear hph c1 c2 c3 c4 cP
    by_cases hs : k.s ≠ 0
    · have h00 : (k.s == 0) = false := by simpa using hs
      go_wp2
      go_ret
      exact ⟨by rw [hO.out, noS, h00]; rfl, al⟩
    have h00 : (k.s == 0) = true := by simpa using hs
    clear hs
    by_cases hb : k.b ≠ 0
    · have h11 : (k.b == 0) = false := by simpa using hb
      go_wp2
      go_ret
      exact ⟨by rw [hO.out, noS, h00, h11]; rfl, al⟩
    have h11 : (k.b == 0) = true := by simpa using hb
    clear hb
    have hO2 : Hid (okS k = (j1 && (j7 && decide (k.ys.length = 0)))) := by show _ = _; rw [hO.out, noS, h00, h11, hp1, hj1, hj7]; rfl
    clear hj1 hj7
    cases j1
    · go_wp2_with (first
      | (refine wpList_load_at (by rfl) 31 (.tmp 16) rfl w.heap.size 3 rfl #[.int .i64 k.m.c0, .int .i64 k.m.c1, .int .i64 k.m.c2, .int .i64 k.m.c3, .int .i64 k.m.c4, .int .i64 k.m.c5, .int .i64 k.m.c6, .int .i64 k.m.c7, .int .i64 k.m.c8, .int .i64 k.m.c9] _ XM.out Tryz.underlying31 rfl infoCm10 ?_)
      | (refine wpList_buildG (by rfl) 31 _ rfl [] _ rfl builtCmd0 ?_)
      | (refine wpList_eqlCmd (by rfl) _ _ _ rfl k.m rfl rfl ?_; rw [H1.out])
      | (refine wpList_load_at (by rfl) 64 (.tmp 22) rfl w.heap.size 13 rfl (pparr k.p) _ XP.out Tryz.underlying64 rfl infoPpS ?_)
      | (refine wpList_buildG (by rfl) 64 _ rfl [] _ rfl builtPaper0 ?_)
      | (refine wpList_eqlPaper (by rfl) _ _ _ rfl k.p rfl rfl ?_; rw [H7.out]))
      go_ret
      exact ⟨by rw [hO2.out]; rfl, al⟩
    cases j7
    · go_wp2_with (first
      | (refine wpList_load_at (by rfl) 31 (.tmp 16) rfl w.heap.size 3 rfl #[.int .i64 k.m.c0, .int .i64 k.m.c1, .int .i64 k.m.c2, .int .i64 k.m.c3, .int .i64 k.m.c4, .int .i64 k.m.c5, .int .i64 k.m.c6, .int .i64 k.m.c7, .int .i64 k.m.c8, .int .i64 k.m.c9] _ XM.out Tryz.underlying31 rfl infoCm10 ?_)
      | (refine wpList_buildG (by rfl) 31 _ rfl [] _ rfl builtCmd0 ?_)
      | (refine wpList_eqlCmd (by rfl) _ _ _ rfl k.m rfl rfl ?_; rw [H1.out])
      | (refine wpList_load_at (by rfl) 64 (.tmp 22) rfl w.heap.size 13 rfl (pparr k.p) _ XP.out Tryz.underlying64 rfl infoPpS ?_)
      | (refine wpList_buildG (by rfl) 64 _ rfl [] _ rfl builtPaper0 ?_)
      | (refine wpList_eqlPaper (by rfl) _ _ _ rfl k.p rfl rfl ?_; rw [H7.out]))
      go_ret
      exact ⟨by rw [hO2.out]; rfl, al⟩
    by_cases hl : k.ys.length = 0
    · have hl1 : ((k.ys.length : Int) == 0) = true := by simp [hl]
      have HL : Hid (decide (k.ys.length = 0) = true) := decide_eq_true hl
      clear hl
      go_wp2_with (first
      | (refine wpList_load_at (by rfl) 31 (.tmp 16) rfl w.heap.size 3 rfl #[.int .i64 k.m.c0, .int .i64 k.m.c1, .int .i64 k.m.c2, .int .i64 k.m.c3, .int .i64 k.m.c4, .int .i64 k.m.c5, .int .i64 k.m.c6, .int .i64 k.m.c7, .int .i64 k.m.c8, .int .i64 k.m.c9] _ XM.out Tryz.underlying31 rfl infoCm10 ?_)
      | (refine wpList_buildG (by rfl) 31 _ rfl [] _ rfl builtCmd0 ?_)
      | (refine wpList_eqlCmd (by rfl) _ _ _ rfl k.m rfl rfl ?_; rw [H1.out])
      | (refine wpList_load_at (by rfl) 64 (.tmp 22) rfl w.heap.size 13 rfl (pparr k.p) _ XP.out Tryz.underlying64 rfl infoPpS ?_)
      | (refine wpList_buildG (by rfl) 64 _ rfl [] _ rfl builtPaper0 ?_)
      | (refine wpList_eqlPaper (by rfl) _ _ _ rfl k.p rfl rfl ?_; rw [H7.out]))
      go_ret
      exact ⟨by rw [hO2.out, HL.out]; rfl, al⟩
    · have hl1 : ((k.ys.length : Int) == 0) = false := beq_eq_false_iff_ne.2 (by omega)
      have HL : Hid (decide (k.ys.length = 0) = false) := decide_eq_false hl
      clear hl
      go_wp2_with (first
      | (refine wpList_load_at (by rfl) 31 (.tmp 16) rfl w.heap.size 3 rfl #[.int .i64 k.m.c0, .int .i64 k.m.c1, .int .i64 k.m.c2, .int .i64 k.m.c3, .int .i64 k.m.c4, .int .i64 k.m.c5, .int .i64 k.m.c6, .int .i64 k.m.c7, .int .i64 k.m.c8, .int .i64 k.m.c9] _ XM.out Tryz.underlying31 rfl infoCm10 ?_)
      | (refine wpList_buildG (by rfl) 31 _ rfl [] _ rfl builtCmd0 ?_)
      | (refine wpList_eqlCmd (by rfl) _ _ _ rfl k.m rfl rfl ?_; rw [H1.out])
      | (refine wpList_load_at (by rfl) 64 (.tmp 22) rfl w.heap.size 13 rfl (pparr k.p) _ XP.out Tryz.underlying64 rfl infoPpS ?_)
      | (refine wpList_buildG (by rfl) 64 _ rfl [] _ rfl builtPaper0 ?_)
      | (refine wpList_eqlPaper (by rfl) _ _ _ rfl k.p rfl rfl ?_; rw [H7.out]))
      go_ret
      exact ⟨by rw [hO2.out, HL.out]; rfl, al⟩
  have hp1 : (k.ph == 0) = false := by simpa using hph
  have hO : Hid (okS k = mayS k) := by show _ = _; rw [okS, show noS k = false from by rw [noS, hp1]; simp, Bool.false_or]
  clear hph hj1 hj7 h0ph
  go_wp2_with fail
  refine (c1 _).mono ?_
  rintro e V1 ⟨rfl, rfl⟩
  cases i1
  · go_wp2
    go_ret
    exact ⟨by rw [hO.out, hM.out]; rfl, al⟩
  go_wp2_with fail
  refine (c2 _).mono ?_
  rintro e V2 ⟨rfl, rfl⟩
  cases i2
  · go_wp2
    go_ret
    exact ⟨by rw [hO.out, hM.out]; rfl, al⟩
  go_wp2_with fail
  refine (c3 _).mono ?_
  rintro e V3 ⟨rfl, rfl⟩
  cases i3
  · go_wp2
    go_ret
    exact ⟨by rw [hO.out, hM.out]; simp, al⟩
  go_wp2_with (refine wpList_load_at (by rfl) 31 (.tmp 50) rfl w.heap.size 3 rfl #[.int .i64 k.m.c0, .int .i64 k.m.c1, .int .i64 k.m.c2, .int .i64 k.m.c3, .int .i64 k.m.c4, .int .i64 k.m.c5, .int .i64 k.m.c6, .int .i64 k.m.c7, .int .i64 k.m.c8, .int .i64 k.m.c9] _ XM.out Tryz.underlying31 rfl infoCm10 ?_)
  refine (c4 _).mono ?_
  rintro e V4 ⟨rfl, b4⟩
  cases i4
  · go_wp2
    go_ret
    exact ⟨by rw [hO.out, hM.out]; rfl, bAll al b4⟩
  have xy := (sk_cells (bKeeps b4 A0.out)).2.2.2.2.2.2.2
  clear x0 x1 x2 XM XP x13 x14 c1 c2 c3 c4
  rcases hys : k.ys with _ | ⟨a, l⟩
  · have h1 : k.ys.length = 0 := by rw [hys]; rfl
    rw [h1] at xy
    have HB : Hid (okS k = (j7 || (j8 && (decide (k.p.1 = k.s) && decide (k.p.2.1 < k.b))))) := by show _ = _; rw [hO.out, hM.out, hB.out, hys]; rfl
    clear hys hB hM hO HR h1
    go_wp2
    refine wp_loop_rounds 1 ?_
    rw [rounds_succ]
    obtain ⟨x0, x1, -, -, xp, x13, x14, -⟩ := sk_cells (bKeeps b4 A0.out)
    have XP := hide xp
    clear xp
    go_upto_region 10 with fail
    cases j7
    · go_wp2_with (first
          | (refine wpList_load_at (by rfl) 64 (.tmp 75) rfl w.heap.size 13 rfl (pparr k.p) _ XP.out Tryz.underlying64 rfl infoPpS ?_)
          | (refine wpList_load_at (by rfl) 64 (.tmp 80) rfl w.heap.size 13 rfl (pparr k.p) _ XP.out Tryz.underlying64 rfl infoPpS ?_)
          | (refine wpList_buildG (by rfl) 64 _ rfl [] _ rfl builtPaper0 ?_)
          | (refine wpList_eqlPaper (by rfl) _ _ _ rfl k.p rfl rfl ?_; rw [H7.out]))
      refine (cP _).mono ?_
      rintro e V9 ⟨rfl, b9⟩
      have b9' := bAll b4 b9
      obtain ⟨x0, x1, -, -, -, x13, x14, -⟩ := sk_cells (bKeeps b9' A0.out)
      cases j8
      · go_wp2
        go_ret
        exact ⟨by rw [HB.out]; rfl, bAll al b9'⟩
      by_cases h1 : k.p.1 = k.s
      · have e1 : (k.p.1 == k.s) = true := by simpa using h1
        have E1 : Hid (decide (k.p.1 = k.s) = true) := decide_eq_true h1
        clear h1
        go_wp2
        go_ret
        exact ⟨by rw [HB.out, E1.out]; rfl, bAll al b9'⟩
      · have e1 : (k.p.1 == k.s) = false := by simpa using h1
        have E1 : Hid (decide (k.p.1 = k.s) = false) := decide_eq_false h1
        clear h1
        go_wp2
        go_ret
        exact ⟨by rw [HB.out, E1.out]; rfl, bAll al b9'⟩
    · skip
      iterate 11 (first
        | (refine wpList_load_at (by rfl) 64 (.tmp 75) rfl w.heap.size 13 rfl (pparr k.p) _ XP.out Tryz.underlying64 rfl infoPpS ?_; simp only [Act.put, List.setIfInBounds_toArray, List.set_cons_zero, List.set_cons_succ])
        | (refine wpList_buildG (by rfl) 64 _ rfl [] _ rfl builtPaper0 ?_; simp only [Act.put, List.setIfInBounds_toArray, List.set_cons_zero, List.set_cons_succ])
        | (refine wpList_eqlPaper (by rfl) _ _ _ rfl k.p rfl rfl ?_; rw [H7.out]; simp only [Act.put, List.setIfInBounds_toArray, List.set_cons_zero, List.set_cons_succ])
        | go_values | go_skip | go_guarded | go_step | go_upon)
      go_wp2
      go_ret
      exact ⟨by rw [HB.out]; rfl, bAll al b4⟩
  · rcases hl : l with _ | ⟨b, l'⟩
    · have h1 : k.ys.length = 1 := by rw [hys, hl]; rfl
      have hr := HR.out.keep (bAll al b4)
      rw [h1, hys, hl] at hr
      rw [h1] at xy
      obtain ⟨ao, ca, e0, -, -, hc⟩ := hr
      injection e0 with e1 _ e2
      subst e1 e2
      obtain ⟨bb, off, rfl, hc2⟩ := hc (by decide)
      have xa : V4.cell? ⟨bb, off, none⟩ = some (.int .i64 a) := hc2 0 _ rfl
      obtain ⟨i5, hi5⟩ : ∃ j, inI a 0 2 = j := ⟨_, rfl⟩
      have c5 := fun V => l6In_inI a 0 2 V
      rw [hi5] at c5
      have HB0 : Hid (okS k = (i5 && bestI k)) := by show _ = _; rw [hO.out, hM.out, hys, hl]; show (true && (true && ((false || (true && inI a 0 2)) && bestI k))) = _; rw [hi5]; simp
      clear hys hl hM hO HR hc hc2 hi5 h1
      go_wp2
      refine wp_loop_rounds 2 ?_
      rw [rounds_succ]
      go_wp2_with fail
      refine (c5 _).mono ?_
      rintro e V5 ⟨rfl, rfl⟩
      cases i5
      · go_wp2
        go_ret
        exact ⟨by rw [HB0.out]; rfl, bAll al b4⟩
      have HB : Hid (okS k = (j7 || (j8 && (decide (k.p.1 = k.s) && decide (k.p.2.1 < k.b))))) := by show _ = _; rw [HB0.out, hB.out]; rfl
      clear HB0 hB
      go_wp2
      rw [rounds_succ]
      obtain ⟨x0, x1, -, -, xp, x13, x14, -⟩ := sk_cells (bKeeps b4 A0.out)
      have XP := hide xp
      clear xp
      go_upto_region 10 with fail
      cases j7
      · go_wp2_with (first
            | (refine wpList_load_at (by rfl) 64 (.tmp 75) rfl w.heap.size 13 rfl (pparr k.p) _ XP.out Tryz.underlying64 rfl infoPpS ?_)
            | (refine wpList_load_at (by rfl) 64 (.tmp 80) rfl w.heap.size 13 rfl (pparr k.p) _ XP.out Tryz.underlying64 rfl infoPpS ?_)
            | (refine wpList_buildG (by rfl) 64 _ rfl [] _ rfl builtPaper0 ?_)
            | (refine wpList_eqlPaper (by rfl) _ _ _ rfl k.p rfl rfl ?_; rw [H7.out]))
        refine (cP _).mono ?_
        rintro e V9 ⟨rfl, b9⟩
        have b9' := bAll b4 b9
        obtain ⟨x0, x1, -, -, -, x13, x14, -⟩ := sk_cells (bKeeps b9' A0.out)
        cases j8
        · go_wp2
          go_ret
          exact ⟨by rw [HB.out]; rfl, bAll al b9'⟩
        by_cases h1 : k.p.1 = k.s
        · have e1 : (k.p.1 == k.s) = true := by simpa using h1
          have E1 : Hid (decide (k.p.1 = k.s) = true) := decide_eq_true h1
          clear h1
          go_wp2
          go_ret
          exact ⟨by rw [HB.out, E1.out]; rfl, bAll al b9'⟩
        · have e1 : (k.p.1 == k.s) = false := by simpa using h1
          have E1 : Hid (decide (k.p.1 = k.s) = false) := decide_eq_false h1
          clear h1
          go_wp2
          go_ret
          exact ⟨by rw [HB.out, E1.out]; rfl, bAll al b9'⟩
      · skip
        iterate 11 (first
          | (refine wpList_load_at (by rfl) 64 (.tmp 75) rfl w.heap.size 13 rfl (pparr k.p) _ XP.out Tryz.underlying64 rfl infoPpS ?_; simp only [Act.put, List.setIfInBounds_toArray, List.set_cons_zero, List.set_cons_succ])
          | (refine wpList_buildG (by rfl) 64 _ rfl [] _ rfl builtPaper0 ?_; simp only [Act.put, List.setIfInBounds_toArray, List.set_cons_zero, List.set_cons_succ])
          | (refine wpList_eqlPaper (by rfl) _ _ _ rfl k.p rfl rfl ?_; rw [H7.out]; simp only [Act.put, List.setIfInBounds_toArray, List.set_cons_zero, List.set_cons_succ])
          | go_values | go_skip | go_guarded | go_step | go_upon)
        go_wp2
        go_ret
        exact ⟨by rw [HB.out]; rfl, bAll al b4⟩
    · have h1 : k.ys.length = l'.length + 2 := by rw [hys, hl]; rfl
      have h2 : (2 : Int) ≤ (k.ys.length : Int) := by omega
      have hf : Hid (okS k = false) := by show _ = _; rw [hO.out, hM.out, hys, hl]; simp [yesI]
      clear hys hl h1 hM hO hB HR
      go_wp2
      go_ret
      exact ⟨by rw [hf.out]; rfl, bAll al b4⟩

end Go.Proofs.YteddhdbglciahaaGreat
