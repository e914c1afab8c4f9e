/- Contracts and plain facts that this claim leans on (texts SK5, VS2, VL0, XD); no statement of the seat is proved here. -/
import Derived.Test.YteddhdbglciahaaLk11
import Derived.Test.YteddhdbglciahaaLk8
import Derived.Test.YteddhdbglciahaaLk9
import Derived.Test.YteddhdbglciahaaLk10

/- SynSeekerOk of the specification: a contract; no statement of the seat is proved here. -/
namespace Go.Proofs.Yteddhdbglciahaa
open Go.RowKit

set_option maxRecDepth 100000 in
set_option maxHeartbeats 16000000 in
theorem specSynSeekerOk_any (v : Value) (k : Sk) (w : World) (h : SkR w v k) :
    Calls Try.prog 22 #[v] w fun e w' => e = .returned (.bool (okS k)) ∧ Below w.heap.size w w' := by
  obtain ⟨yo, yc, rfl, hr⟩ := h
  have HR := hide hr
  clear hr
  obtain ⟨j1, hj1⟩ : ∃ j, isZ k.m = j := ⟨_, rfl⟩
  obtain ⟨j7, hj7⟩ : ∃ j, isZP k.p = j := ⟨_, rfl⟩
  obtain ⟨j8, hj8⟩ : ∃ j, ppI k.p = j := ⟨_, rfl⟩
  obtain ⟨i1, hi1⟩ : ∃ j, inI k.s 1 60 = j := ⟨_, rfl⟩
  obtain ⟨i2, hi2⟩ : ∃ j, inI k.b 1 99999 = j := ⟨_, rfl⟩
  obtain ⟨i3, hi3⟩ : ∃ j, inI k.ph 1 2 = j := ⟨_, rfl⟩
  obtain ⟨i4, hi4⟩ : ∃ j, cmdI k.m = j := ⟨_, rfl⟩
  have cP := fun V => l21PaperOk_any k.p.1 k.p.2.1 k.p.2.2 V
  rw [show ppI (k.p.1, k.p.2.1, k.p.2.2) = j8 from hj8] at cP
  have c1 := fun V => l6In_inI k.s 1 60 V
  have c2 := fun V => l6In_inI k.b 1 99999 V
  have c3 := fun V => l6In_inI k.ph 1 2 V
  have c4 := fun V => l11CmdOk_any k.m V
  rw [hi1] at c1
  rw [hi2] at c2
  rw [hi3] at c3
  rw [hi4] at c4
  have H1 := hide hj1
  have H7 := hide hj7
  have hB : Hid (bestI k = (j7 || (j8 && (decide (k.p.1 = k.s) && decide (k.p.2.1 < k.b))))) := by show _ = _; rw [bestI, hj7, hj8]
  have hM : Hid (mayS k = ((i1 && (i2 && i4)) && (i3 && (yesI k.ys && bestI k)))) := by show _ = _; rw [mayS]; show ((inI k.s 1 60 && (inI k.b 1 99999 && cmdI k.m)) && _) = _; rw [hi1, hi2, hi3, hi4]
  have h0ph : Hid (k.ph = 0 → mayS k = false) := fun h => by rw [mayS, h]; simp [inI]
  clear hi1 hi2 hi3 hi4 hj8
  go_enter Try.func22, Try.ntmps22
  go_upto_region 1 with fail
  generalize hW : World.alloc _ _ = W
  have al : Below w.heap.size w W := by rw [← hW]; exact bal (Below.refl _ _) _
  have A0 : Hid (W.heap[w.heap.size]? = some (.cells (skarr k (.slice yo k.ys.length yc)) 39 (0, 0))) := by show _ = _; rw [← hW]; exact al1_0 w _
  clear hW
  obtain ⟨x0, x1, x2, xm, xp, x13, x14, xy⟩ := sk_cells A0.out
  have XP := hide xp
  have XM := hide xm
  clear xp xm
  by_cases hph : k.ph = 0
  · have hp1 : (k.ph == 0) = true := by simpa using hph
    have hO : Hid (okS k = noS k) := by show _ = _; rw [okS, h0ph.out hph, Bool.or_false]
    clear hph c1 c2 c3 c4 cP
    by_cases hs : k.s ≠ 0
    · have h00 : (k.s == 0) = false := by simpa using hs
      go_wp2
      go_ret
      exact ⟨by rw [hO.out, noS, h00]; rfl, al⟩
    have h00 : (k.s == 0) = true := by simpa using hs
    clear hs
    by_cases hb : k.b ≠ 0
    · have h11 : (k.b == 0) = false := by simpa using hb
      go_wp2
      go_ret
      exact ⟨by rw [hO.out, noS, h00, h11]; rfl, al⟩
    have h11 : (k.b == 0) = true := by simpa using hb
    clear hb
    have hO2 : Hid (okS k = (j1 && (j7 && decide (k.ys.length = 0)))) := by show _ = _; rw [hO.out, noS, h00, h11, hp1, hj1, hj7]; rfl
    clear hj1 hj7
    cases j1
    · go_wp2_with (first
      | (refine wpList_load_at (by rfl) 35 (.tmp 16) rfl w.heap.size 3 rfl #[.int .i64 k.m.c0, .int .i64 k.m.c1, .int .i64 k.m.c2, .int .i64 k.m.c3, .int .i64 k.m.c4, .int .i64 k.m.c5, .int .i64 k.m.c6, .int .i64 k.m.c7, .int .i64 k.m.c8, .int .i64 k.m.c9] _ XM.out Try.underlying35 rfl infoCm10 ?_)
      | (refine wpList_buildG (by rfl) 35 _ rfl [] _ rfl builtCmd0 ?_)
      | (refine wpList_eqlCmd (by rfl) _ _ _ rfl k.m rfl rfl ?_; rw [H1.out])
      | (refine wpList_load_at (by rfl) 37 (.tmp 22) rfl w.heap.size 13 rfl (pparr k.p) _ XP.out Try.underlying37 rfl infoPpS ?_)
      | (refine wpList_buildG (by rfl) 37 _ rfl [] _ rfl builtPaper0 ?_)
      | (refine wpList_eqlPaper (by rfl) _ _ _ rfl k.p rfl rfl ?_; rw [H7.out]))
      go_ret
      exact ⟨by rw [hO2.out]; rfl, al⟩
    cases j7
    · go_wp2_with (first
      | (refine wpList_load_at (by rfl) 35 (.tmp 16) rfl w.heap.size 3 rfl #[.int .i64 k.m.c0, .int .i64 k.m.c1, .int .i64 k.m.c2, .int .i64 k.m.c3, .int .i64 k.m.c4, .int .i64 k.m.c5, .int .i64 k.m.c6, .int .i64 k.m.c7, .int .i64 k.m.c8, .int .i64 k.m.c9] _ XM.out Try.underlying35 rfl infoCm10 ?_)
      | (refine wpList_buildG (by rfl) 35 _ rfl [] _ rfl builtCmd0 ?_)
      | (refine wpList_eqlCmd (by rfl) _ _ _ rfl k.m rfl rfl ?_; rw [H1.out])
      | (refine wpList_load_at (by rfl) 37 (.tmp 22) rfl w.heap.size 13 rfl (pparr k.p) _ XP.out Try.underlying37 rfl infoPpS ?_)
      | (refine wpList_buildG (by rfl) 37 _ rfl [] _ rfl builtPaper0 ?_)
      | (refine wpList_eqlPaper (by rfl) _ _ _ rfl k.p rfl rfl ?_; rw [H7.out]))
      go_ret
      exact ⟨by rw [hO2.out]; rfl, al⟩
    by_cases hl : k.ys.length = 0
    · have hl1 : ((k.ys.length : Int) == 0) = true := by simp [hl]
      have HL : Hid (decide (k.ys.length = 0) = true) := decide_eq_true hl
      clear hl
      go_wp2_with (first
      | (refine wpList_load_at (by rfl) 35 (.tmp 16) rfl w.heap.size 3 rfl #[.int .i64 k.m.c0, .int .i64 k.m.c1, .int .i64 k.m.c2, .int .i64 k.m.c3, .int .i64 k.m.c4, .int .i64 k.m.c5, .int .i64 k.m.c6, .int .i64 k.m.c7, .int .i64 k.m.c8, .int .i64 k.m.c9] _ XM.out Try.underlying35 rfl infoCm10 ?_)
      | (refine wpList_buildG (by rfl) 35 _ rfl [] _ rfl builtCmd0 ?_)
      | (refine wpList_eqlCmd (by rfl) _ _ _ rfl k.m rfl rfl ?_; rw [H1.out])
      | (refine wpList_load_at (by rfl) 37 (.tmp 22) rfl w.heap.size 13 rfl (pparr k.p) _ XP.out Try.underlying37 rfl infoPpS ?_)
      | (refine wpList_buildG (by rfl) 37 _ rfl [] _ rfl builtPaper0 ?_)
      | (refine wpList_eqlPaper (by rfl) _ _ _ rfl k.p rfl rfl ?_; rw [H7.out]))
      go_ret
      exact ⟨by rw [hO2.out, HL.out]; rfl, al⟩
    · have hl1 : ((k.ys.length : Int) == 0) = false := beq_eq_false_iff_ne.2 (by omega)
      have HL : Hid (decide (k.ys.length = 0) = false) := decide_eq_false hl
      clear hl
      go_wp2_with (first
      | (refine wpList_load_at (by rfl) 35 (.tmp 16) rfl w.heap.size 3 rfl #[.int .i64 k.m.c0, .int .i64 k.m.c1, .int .i64 k.m.c2, .int .i64 k.m.c3, .int .i64 k.m.c4, .int .i64 k.m.c5, .int .i64 k.m.c6, .int .i64 k.m.c7, .int .i64 k.m.c8, .int .i64 k.m.c9] _ XM.out Try.underlying35 rfl infoCm10 ?_)
      | (refine wpList_buildG (by rfl) 35 _ rfl [] _ rfl builtCmd0 ?_)
      | (refine wpList_eqlCmd (by rfl) _ _ _ rfl k.m rfl rfl ?_; rw [H1.out])
      | (refine wpList_load_at (by rfl) 37 (.tmp 22) rfl w.heap.size 13 rfl (pparr k.p) _ XP.out Try.underlying37 rfl infoPpS ?_)
      | (refine wpList_buildG (by rfl) 37 _ rfl [] _ rfl builtPaper0 ?_)
      | (refine wpList_eqlPaper (by rfl) _ _ _ rfl k.p rfl rfl ?_; rw [H7.out]))
      go_ret
      exact ⟨by rw [hO2.out, HL.out]; rfl, al⟩
  have hp1 : (k.ph == 0) = false := by simpa using hph
  have hO : Hid (okS k = mayS k) := by show _ = _; rw [okS, show noS k = false from by rw [noS, hp1]; simp, Bool.false_or]
  clear hph hj1 hj7 h0ph
  go_wp2_with fail
  refine (c1 _).mono ?_
  rintro e V1 ⟨rfl, rfl⟩
  cases i1
  · go_wp2
    go_ret
    exact ⟨by rw [hO.out, hM.out]; rfl, al⟩
  go_wp2_with fail
  refine (c2 _).mono ?_
  rintro e V2 ⟨rfl, rfl⟩
  cases i2
  · go_wp2
    go_ret
    exact ⟨by rw [hO.out, hM.out]; rfl, al⟩
  go_wp2_with fail
  refine (c3 _).mono ?_
  rintro e V3 ⟨rfl, rfl⟩
  cases i3
  · go_wp2
    go_ret
    exact ⟨by rw [hO.out, hM.out]; simp, al⟩
  go_wp2_with (refine wpList_load_at (by rfl) 35 (.tmp 50) rfl w.heap.size 3 rfl #[.int .i64 k.m.c0, .int .i64 k.m.c1, .int .i64 k.m.c2, .int .i64 k.m.c3, .int .i64 k.m.c4, .int .i64 k.m.c5, .int .i64 k.m.c6, .int .i64 k.m.c7, .int .i64 k.m.c8, .int .i64 k.m.c9] _ XM.out Try.underlying35 rfl infoCm10 ?_)
  refine (c4 _).mono ?_
  rintro e V4 ⟨rfl, b4⟩
  cases i4
  · go_wp2
    go_ret
    exact ⟨by rw [hO.out, hM.out]; rfl, bAll al b4⟩
  have xy := (sk_cells (bKeeps b4 A0.out)).2.2.2.2.2.2.2
  clear x0 x1 x2 XM XP x13 x14 c1 c2 c3 c4
  rcases hys : k.ys with _ | ⟨a, l⟩
  · have h1 : k.ys.length = 0 := by rw [hys]; rfl
    rw [h1] at xy
    have HB : Hid (okS k = (j7 || (j8 && (decide (k.p.1 = k.s) && decide (k.p.2.1 < k.b))))) := by show _ = _; rw [hO.out, hM.out, hB.out, hys]; rfl
    clear hys hB hM hO HR h1
    go_wp2
    refine wp_loop_rounds 1 ?_
    rw [rounds_succ]
    obtain ⟨x0, x1, -, -, xp, x13, x14, -⟩ := sk_cells (bKeeps b4 A0.out)
    have XP := hide xp
    clear xp
    go_upto_region 10 with fail
    cases j7
    · go_wp2_with (first
          | (refine wpList_load_at (by rfl) 37 (.tmp 75) rfl w.heap.size 13 rfl (pparr k.p) _ XP.out Try.underlying37 rfl infoPpS ?_)
          | (refine wpList_load_at (by rfl) 37 (.tmp 80) rfl w.heap.size 13 rfl (pparr k.p) _ XP.out Try.underlying37 rfl infoPpS ?_)
          | (refine wpList_buildG (by rfl) 37 _ rfl [] _ rfl builtPaper0 ?_)
          | (refine wpList_eqlPaper (by rfl) _ _ _ rfl k.p rfl rfl ?_; rw [H7.out]))
      refine (cP _).mono ?_
      rintro e V9 ⟨rfl, b9⟩
      have b9' := bAll b4 b9
      obtain ⟨x0, x1, -, -, -, x13, x14, -⟩ := sk_cells (bKeeps b9' A0.out)
      cases j8
      · go_wp2
        go_ret
        exact ⟨by rw [HB.out]; rfl, bAll al b9'⟩
      by_cases h1 : k.p.1 = k.s
      · have e1 : (k.p.1 == k.s) = true := by simpa using h1
        have E1 : Hid (decide (k.p.1 = k.s) = true) := decide_eq_true h1
        clear h1
        go_wp2
        go_ret
        exact ⟨by rw [HB.out, E1.out]; rfl, bAll al b9'⟩
      · have e1 : (k.p.1 == k.s) = false := by simpa using h1
        have E1 : Hid (decide (k.p.1 = k.s) = false) := decide_eq_false h1
        clear h1
        go_wp2
        go_ret
        exact ⟨by rw [HB.out, E1.out]; rfl, bAll al b9'⟩
    · skip
      iterate 11 (first
        | (refine wpList_load_at (by rfl) 37 (.tmp 75) rfl w.heap.size 13 rfl (pparr k.p) _ XP.out Try.underlying37 rfl infoPpS ?_; simp only [Act.put, List.setIfInBounds_toArray, List.set_cons_zero, List.set_cons_succ])
        | (refine wpList_buildG (by rfl) 37 _ rfl [] _ rfl builtPaper0 ?_; simp only [Act.put, List.setIfInBounds_toArray, List.set_cons_zero, List.set_cons_succ])
        | (refine wpList_eqlPaper (by rfl) _ _ _ rfl k.p rfl rfl ?_; rw [H7.out]; simp only [Act.put, List.setIfInBounds_toArray, List.set_cons_zero, List.set_cons_succ])
        | go_values | go_skip | go_guarded | go_step | go_upon)
      go_wp2
      go_ret
      exact ⟨by rw [HB.out]; rfl, bAll al b4⟩
  · rcases hl : l with _ | ⟨b, l'⟩
    · have h1 : k.ys.length = 1 := by rw [hys, hl]; rfl
      have hr := HR.out.keep (bAll al b4)
      rw [h1, hys, hl] at hr
      rw [h1] at xy
      obtain ⟨ao, ca, e0, -, -, hc⟩ := hr
      injection e0 with e1 _ e2
      subst e1 e2
      obtain ⟨bb, off, rfl, hc2⟩ := hc (by decide)
      have xa : V4.cell? ⟨bb, off, none⟩ = some (.int .i64 a) := hc2 0 _ rfl
      obtain ⟨i5, hi5⟩ : ∃ j, inI a 0 2 = j := ⟨_, rfl⟩
      have c5 := fun V => l6In_inI a 0 2 V
      rw [hi5] at c5
      have HB0 : Hid (okS k = (i5 && bestI k)) := by show _ = _; rw [hO.out, hM.out, hys, hl]; show (true && (true && ((false || (true && inI a 0 2)) && bestI k))) = _; rw [hi5]; simp
      clear hys hl hM hO HR hc hc2 hi5 h1
      go_wp2
      refine wp_loop_rounds 2 ?_
      rw [rounds_succ]
      go_wp2_with fail
      refine (c5 _).mono ?_
      rintro e V5 ⟨rfl, rfl⟩
      cases i5
      · go_wp2
        go_ret
        exact ⟨by rw [HB0.out]; rfl, bAll al b4⟩
      have HB : Hid (okS k = (j7 || (j8 && (decide (k.p.1 = k.s) && decide (k.p.2.1 < k.b))))) := by show _ = _; rw [HB0.out, hB.out]; rfl
      clear HB0 hB
      go_wp2
      rw [rounds_succ]
      obtain ⟨x0, x1, -, -, xp, x13, x14, -⟩ := sk_cells (bKeeps b4 A0.out)
      have XP := hide xp
      clear xp
      go_upto_region 10 with fail
      cases j7
      · go_wp2_with (first
            | (refine wpList_load_at (by rfl) 37 (.tmp 75) rfl w.heap.size 13 rfl (pparr k.p) _ XP.out Try.underlying37 rfl infoPpS ?_)
            | (refine wpList_load_at (by rfl) 37 (.tmp 80) rfl w.heap.size 13 rfl (pparr k.p) _ XP.out Try.underlying37 rfl infoPpS ?_)
            | (refine wpList_buildG (by rfl) 37 _ rfl [] _ rfl builtPaper0 ?_)
            | (refine wpList_eqlPaper (by rfl) _ _ _ rfl k.p rfl rfl ?_; rw [H7.out]))
        refine (cP _).mono ?_
        rintro e V9 ⟨rfl, b9⟩
        have b9' := bAll b4 b9
        obtain ⟨x0, x1, -, -, -, x13, x14, -⟩ := sk_cells (bKeeps b9' A0.out)
        cases j8
        · go_wp2
          go_ret
          exact ⟨by rw [HB.out]; rfl, bAll al b9'⟩
        by_cases h1 : k.p.1 = k.s
        · have e1 : (k.p.1 == k.s) = true := by simpa using h1
          have E1 : Hid (decide (k.p.1 = k.s) = true) := decide_eq_true h1
          clear h1
          go_wp2
          go_ret
          exact ⟨by rw [HB.out, E1.out]; rfl, bAll al b9'⟩
        · have e1 : (k.p.1 == k.s) = false := by simpa using h1
          have E1 : Hid (decide (k.p.1 = k.s) = false) := decide_eq_false h1
          clear h1
          go_wp2
          go_ret
          exact ⟨by rw [HB.out, E1.out]; rfl, bAll al b9'⟩
      · skip
        iterate 11 (first
          | (refine wpList_load_at (by rfl) 37 (.tmp 75) rfl w.heap.size 13 rfl (pparr k.p) _ XP.out Try.underlying37 rfl infoPpS ?_; simp only [Act.put, List.setIfInBounds_toArray, List.set_cons_zero, List.set_cons_succ])
          | (refine wpList_buildG (by rfl) 37 _ rfl [] _ rfl builtPaper0 ?_; simp only [Act.put, List.setIfInBounds_toArray, List.set_cons_zero, List.set_cons_succ])
          | (refine wpList_eqlPaper (by rfl) _ _ _ rfl k.p rfl rfl ?_; rw [H7.out]; simp only [Act.put, List.setIfInBounds_toArray, List.set_cons_zero, List.set_cons_succ])
          | go_values | go_skip | go_guarded | go_step | go_upon)
        go_wp2
        go_ret
        exact ⟨by rw [HB.out]; rfl, bAll al b4⟩
    · have h1 : k.ys.length = l'.length + 2 := by rw [hys, hl]; rfl
      have h2 : (2 : Int) ≤ (k.ys.length : Int) := by omega
      have hf : Hid (okS k = false) := by show _ = _; rw [hO.out, hM.out, hys, hl]; simp [yesI]
      clear hys hl h1 hM hO hB HR
      go_wp2
      go_ret
      exact ⟨by rw [hf.out]; rfl, bAll al b4⟩

end Go.Proofs.Yteddhdbglciahaa

/- What a voter does with a word, by the specification, with the room of its papers: contracts; no statement of the seat is proved here. -/
namespace Go.Proofs.Yteddhdbglciahaa
open Go.RowKit

theorem rowA_keep_box {w w' : World} {base : Nat} {e f : TypeId} {g size n : Nat} {c : Array Value} {v : Value} {cs : List Value} (hne : e ≠ f) (h : RowA w base e size v n cs) (hg : w.heap[g]? = some (.cells c f (0, 0))) (hu : Upd (fun j => j = g) w w') : RowA w' base e size v n cs := by
  rcases h with ⟨hl, h⟩ | h
  · refine .inl ⟨hl, ?_⟩
    rcases h with h | ⟨q, cap, cur, rfl, hq, hh, h1, h2, h3, h4⟩
    · exact .inl h
    · refine .inr ⟨q, cap, cur, rfl, hq, ?_, h1, h2, h3, h4⟩
      exact hu.keeps hh (fun e => by rw [e, hg] at hh; simp at hh; exact hne hh.2.symm)
  · exact .inr h

end Go.Proofs.Yteddhdbglciahaa

/- What the laws of votes have in common: contracts and plain facts; no statement of the seat is proved here. -/
namespace Go.Proofs.Yteddhdbglciahaa
open Go.RowKit

theorem VtO.keep {w w' : World} {S T : Nat → Prop} {v : Value} {P : Int} {xs : List Pp} (h : VtO w S v P xs) (u : Upd T w w') (hT : ∀ k, S k → ¬ T k) : VtO w' S v P xs := by
  obtain ⟨ao, cap, e, hc, h⟩ := h
  exact ⟨ao, cap, e, hc, h.keep u hT⟩
theorem VtO.keepB {w w' : World} {S : Nat → Prop} {v : Value} {P : Int} {xs : List Pp} (h : VtO w S v P xs) (b : Below w.heap.size w w') : VtO w' S v P xs := by
  obtain ⟨ao, cap, e, hc, h⟩ := h
  exact ⟨ao, cap, e, hc, h.keepB b⟩
theorem VtO.mono {w : World} {S T : Nat → Prop} {v : Value} {P : Int} {xs : List Pp} (h : VtO w S v P xs) (hST : ∀ k, k < w.heap.size → S k → T k) : VtO w T v P xs := by
  obtain ⟨ao, cap, e, hc, h⟩ := h
  exact ⟨ao, cap, e, hc, h.mono hST⟩
theorem rowIn {w : World} {e : TypeId} {size : Nat} {S : Nat → Prop} {v : Value} {n : Nat} {cs : List Value} (h : Row w e size S v n cs) : Row w e size (fun k => S k ∧ k < w.heap.size) v n cs := by
  obtain ⟨ao, cap, rfl, hn, hl, h⟩ := h
  refine ⟨ao, cap, rfl, hn, hl, fun hp => ?_⟩
  obtain ⟨g, cur, e, hS, hg, ht⟩ := h hp
  exact ⟨g, cur, e, ⟨hS, heap_lt hg⟩, hg, ht⟩
theorem wdIn {w : World} {S : Nat → Prop} {v : Value} {x : Wd} (h : WdO w S v x) : WdO w (fun k => S k ∧ k < w.heap.size) v x := by
  obtain ⟨po, pc, lo, lc, e, h1, h2⟩ := h
  exact ⟨po, pc, lo, lc, e, rowIn h1, rowIn h2⟩
/-- What a voter gives, in two boxes; all of it lies between base and top. -/
def VoB (V : World) (base top g h : Nat) (R : Int × List Pp × Wd × Bool) : Prop :=
  ∃ so sc cs lo hi, V.heap[g]? = some (.cells #[.int .i64 R.1, .slice so R.2.1.length sc] 120 (0, 0)) ∧ V.heap[h]? = some (.cells cs 47 (0, 0)) ∧
    VtO V (fun k => lo ≤ k ∧ k < hi) (.agg #[.int .i64 R.1, .slice so R.2.1.length sc]) R.1 R.2.1 ∧ WdO V (fun _ => False) (.agg cs) R.2.2.1 ∧
    base ≤ g ∧ g < top ∧ base ≤ h ∧ h < top ∧ g ≠ h ∧ base ≤ lo ∧ hi ≤ top ∧ ¬ (lo ≤ g ∧ g < hi) ∧ ¬ (lo ≤ h ∧ h < hi)

theorem VoB.keep {V V' : World} {base top g h : Nat} {R : Int × List Pp × Wd × Bool} {T : Nat → Prop} (H : VoB V base top g h R) (u : Upd T V V') (hT : ∀ k, base ≤ k → k < top → ¬ T k) : VoB V' base top g h R := by
  obtain ⟨so, sc, cs, lo, hi, h1, h2, h3, h4, h5, h6, h7, h8, h9, h10, h11, h12, h13⟩ := H
  exact ⟨so, sc, cs, lo, hi, u.keeps h1 (hT g h5 h6), u.keeps h2 (hT h h7 h8), h3.keep u (fun k hk => hT k (by omega) (by omega)), h4.keep u (fun _ h => h.elim), h5, h6, h7, h8, h9, h10, h11, h12, h13⟩
theorem VoB.keepB {V V' : World} {base top g h : Nat} {R : Int × List Pp × Wd × Bool} (H : VoB V base top g h R) (b : Below V.heap.size V V') : VoB V' base top g h R :=
  H.keep (T := fun _ => False) (Upd.ofBelow b) (fun _ _ _ h => h)
theorem VoB.mono {V : World} {base base' top top' g h : Nat} {R : Int × List Pp × Wd × Bool} (H : VoB V base top g h R) (hb : base' ≤ base) (ht : top ≤ top') : VoB V base' top' g h R := by
  obtain ⟨so, sc, cs, lo, hi, h1, h2, h3, h4, h5, h6, h7, h8, h9, h10, h11, h12, h13⟩ := H
  exact ⟨so, sc, cs, lo, hi, h1, h2, h3, h4, by omega, by omega, by omega, by omega, h9, by omega, by omega, h12, h13⟩

/-- Two new boxes, filled one behind the other. -/
theorem two_boxes (U : World) (z zz vs cs : Array Value) (t1 t2 : TypeId) :
    Below U.heap.size U ((((U.alloc (.cells z t1)).alloc (.cells zz t2)).setRow U.heap.size vs).setRow (U.heap.size + 1) cs) ∧
    ((((U.alloc (.cells z t1)).alloc (.cells zz t2)).setRow U.heap.size vs).setRow (U.heap.size + 1) cs).heap[U.heap.size]? = some (.cells vs t1 (0, 0)) ∧
    ((((U.alloc (.cells z t1)).alloc (.cells zz t2)).setRow U.heap.size vs).setRow (U.heap.size + 1) cs).heap[U.heap.size + 1]? = some (.cells cs t2 (0, 0)) ∧
    (((U.alloc (.cells z t1)).alloc (.cells zz t2)).setRow U.heap.size vs).heap[U.heap.size + 1]? = some (.cells zz t2 (0, 0)) ∧
    ((((U.alloc (.cells z t1)).alloc (.cells zz t2)).setRow U.heap.size vs).setRow (U.heap.size + 1) cs).heap.size = U.heap.size + 2 := by
  have r1 := updRow ((U.alloc (.cells z t1)).alloc (.cells zz t2)) U.heap.size vs
  have r2 := updRow (((U.alloc (.cells z t1)).alloc (.cells zz t2)).setRow U.heap.size vs) (U.heap.size + 1) cs
  have n1 : (((U.alloc (.cells z t1)).alloc (.cells zz t2)).setRow U.heap.size vs).heap[U.heap.size + 1]? = some (.cells zz t2 (0, 0)) := r1.keeps (al2_1 U _ _) (by omega)
  have al := bal (bal (Below.refl U.heap.size U) (.cells z t1)) (.cells zz t2)
  have z1 := al.size
  have z2 := r1.size
  refine ⟨(al.trans (r1.below (by omega) (fun k h => by omega))).trans (r2.below (by omega) (fun k h => by omega)), r2.keeps (setRow_heap _ _ _ _ _ _ (al2_0 U _ _)) (by omega), setRow_heap _ _ _ _ _ _ n1, n1, by simp⟩

end Go.Proofs.Yteddhdbglciahaa

/- Words that are drawn: contracts; no statement of the seat is proved here. -/
namespace Go.Proofs.Yteddhdbglciahaa
open Go.RowKit

theorem infoCm : (Try.prog.info? 35).map (·.size) = some 10 := by kernel_rfl
/-- A number of a row of numbers. -/
theorem litAt (w : World) (xs : List Int) (t : TypeId) (k : Nat) (hk : k < xs.length) : ∃ z : Int, (w.alloc (.cells (xs.map (Value.int .i64)).toArray t)).cell? ⟨w.heap.size, k, none⟩ = some (.int .i64 z) := by
  obtain ⟨z, hz⟩ := getAt xs k hk
  exact ⟨z, by rw [boxAt (heap_alloc_new w _)]; simp [hz]⟩

set_option maxRecDepth 100000 in
set_option maxHeartbeats 8000000 in
theorem l72Cmd_any (w0 w : World) (R p : Nat) (hr : Rd w0 w R p) (hp : p ≤ 800000) :
    Calls Try.prog 68 #[.pointer (some ⟨R, 0, none⟩)] w fun e w' => ∃ (x : Wd) (p' : Nat), e = .returned (.agg #[.int .i64 x.c0, .int .i64 x.c1, .int .i64 x.c2, .int .i64 x.c3, .int .i64 x.c4, .int .i64 x.c5, .int .i64 x.c6, .int .i64 x.c7, .int .i64 x.c8, .int .i64 x.c9]) ∧ Rd w0 w' R p' ∧ p' ≤ p + 20 ∧ Upd (fun j => j = R) w w' := by
  obtain ⟨hRl, hR0, hw0⟩ := hr.lt
  have al0 := bal (Below.refl w.heap.size w) (.cells #[.int .i64 0, .int .i64 0, .int .i64 0, .int .i64 0, .int .i64 0, .int .i64 0, .int .i64 0, .int .i64 0, .int .i64 0, .int .i64 0] 35)
  have hr0 := hr.keepB al0
  have U0 : Upd (fun j => j = R) (w.alloc (.cells #[.int .i64 0, .int .i64 0, .int .i64 0, .int .i64 0, .int .i64 0, .int .i64 0, .int .i64 0, .int .i64 0, .int .i64 0, .int .i64 0] 35)) (w.alloc (.cells #[.int .i64 0, .int .i64 0, .int .i64 0, .int .i64 0, .int .i64 0, .int .i64 0, .int .i64 0, .int .i64 0, .int .i64 0, .int .i64 0] 35)) := Upd.refl _ _
  have G := hide (heap_alloc_new w (.cells #[.int .i64 0, .int .i64 0, .int .i64 0, .int .i64 0, .int .i64 0, .int .i64 0, .int .i64 0, .int .i64 0, .int .i64 0, .int .i64 0] 35))
  clear hr
  go_enter Try.func68, Try.ntmps68
  go_wp2_with fail
  refine (pick_any w0 _ R _ 8 hr0 (by omega) (by omega) (by omega)).mono ?_
  rintro e w1 ⟨q1, rfl, -, hr1, hu1⟩
  have U1 := U0.trans hu1
  clear hr0 hu1 U0
  go_wp2_with fail
  refine (pick_any w0 _ R _ 4 hr1 (by omega) (by omega) (by omega)).mono ?_
  rintro e w2 ⟨q2, rfl, -, hr2, hu2⟩
  have U2 := U1.trans hu2
  clear hr1 hu2 U1
  go_wp2_with fail
  refine (pick_any w0 _ R _ 4 hr2 (by omega) (by omega) (by omega)).mono ?_
  rintro e w3 ⟨q3, rfl, -, hr3, hu3⟩
  have U3 := U2.trans hu3
  clear hr2 hu3 U2
  go_wp2_with fail
  refine (pick_any w0 _ R _ 3 hr3 (by omega) (by omega) (by omega)).mono ?_
  rintro e w4 ⟨q4, rfl, -, hr4, hu4⟩
  have U4 := U3.trans hu4
  clear hr3 hu4 U3
  go_wp2_with fail
  refine (pick_any w0 _ R _ 5 hr4 (by omega) (by omega) (by omega)).mono ?_
  rintro e w5 ⟨q5, rfl, -, hr5, hu5⟩
  have U5 := U4.trans hu5
  clear hr4 hu5 U4
  go_wp2_with fail
  refine (pick_any w0 _ R _ 3 hr5 (by omega) (by omega) (by omega)).mono ?_
  rintro e w6 ⟨q6, rfl, -, hr6, hu6⟩
  have U6 := U5.trans hu6
  clear hr5 hu6 U5
  go_wp2_with fail
  refine (pick_any w0 _ R _ 3 hr6 (by omega) (by omega) (by omega)).mono ?_
  rintro e w7 ⟨q7, rfl, -, hr7, hu7⟩
  have U7 := U6.trans hu7
  clear hr6 hu7 U6
  go_wp2_with fail
  refine (pick_any w0 _ R _ 4 hr7 (by omega) (by omega) (by omega)).mono ?_
  rintro e w8 ⟨q8, rfl, -, hr8, hu8⟩
  have U8 := U7.trans hu8
  clear hr7 hu8 U7
  go_wp2_with fail
  refine (pick_any w0 _ R _ 4 hr8 (by omega) (by omega) (by omega)).mono ?_
  rintro e w9 ⟨q9, rfl, -, hr9, hu9⟩
  have U9 := U8.trans hu9
  clear hr8 hu9 U8
  go_wp2_with fail
  refine (pick_any w0 _ R _ 5 hr9 (by omega) (by omega) (by omega)).mono ?_
  rintro e w10 ⟨q10, rfl, -, hr10, hu10⟩
  have U10 := U9.trans hu10
  clear hr9 hu10 U9
  have G0 := hide (U10.keeps G.out (by omega))
  have z10 := U10.size
  simp only [World.size_alloc] at z10
  have UU := hide ((Upd.ofBelow al0).trans U10)
  clear G U10 al0
  go_wp2_with fail
  generalize (q1 : Int) = y0
  generalize (q2 : Int) = y1
  generalize wrap64 (1 + (q3 : Int)) = y2
  generalize wrap64 (1 + (q4 : Int)) = y3
  generalize wrap64 (1 + (q5 : Int)) = y4
  generalize (q6 : Int) = y5
  generalize (q7 : Int) = y6
  generalize wrap64 (1 + (q8 : Int)) = y7
  generalize (q9 : Int) = y8
  generalize wrap64 ((q10 : Int) - 1) = y9
  have hRl10 := hr10.lt.1
  have alc := bal (Below.refl w10.heap.size w10) (.cells #[.int .i64 y0, .int .i64 y1, .int .i64 y2, .int .i64 y3, .int .i64 y4, .int .i64 y5, .int .i64 y6, .int .i64 y7, .int .i64 y8, .int .i64 y9] 35)
  have K0 := hide (heap_up (.cells #[.int .i64 y0, .int .i64 y1, .int .i64 y2, .int .i64 y3, .int .i64 y4, .int .i64 y5, .int .i64 y6, .int .i64 y7, .int .i64 y8, .int .i64 y9] 35) G0.out)
  have K1 := hide (heap_alloc_new w10 (.cells #[.int .i64 y0, .int .i64 y1, .int .i64 y2, .int .i64 y3, .int .i64 y4, .int .i64 y5, .int .i64 y6, .int .i64 y7, .int .i64 y8, .int .i64 y9] 35))
  have hrc := hr10.keepB alc
  refine (pick_any w0 _ R _ 16 hrc (by omega) (by omega) (by omega)).mono ?_
  rintro e w11 ⟨q11, rfl, hq11, hr11, hu11⟩
  have L0 := hide (hu11.keeps K0.out (by omega))
  have L1 := hide (hu11.keeps K1.out (by omega))
  have U11 := hide ((UU.out.trans (Upd.ofBelow alc)).trans hu11)
  have hz11 := hu11.size
  simp only [World.size_alloc] at hz11
  clear hr10 G0 K0 K1 hrc alc hu11 UU
  rcases (by omega : q11 = 0 ∨ q11 = 1 ∨ q11 = 2 ∨ 3 ≤ q11) with h | h | h | h
  · subst h
    go_wp2_with fail
    refine (l72Num_any w0 _ R _ hr11 (by omega)).mono ?_
    rintro e w12 ⟨z, rfl, hr12, hu12⟩
    have N0 := hide (hu12.keeps L0.out (by omega))
    have N1 := hide (hu12.keeps L1.out (by omega))
    have U12 := U11.out.trans hu12
    have hz12 := hu12.size
    clear L0 L1 U11 hr11 hu12
    have M0 := hide ((Upd.setCell (S := fun j => j = w10.heap.size) w12 w10.heap.size 4 (.int .i64 z) rfl).keeps N0.out (by omega))
    have M1 : Hid ((w12.setCell ⟨w10.heap.size, 4, none⟩ (.int .i64 z)).heap[w10.heap.size]? = some (.cells #[.int .i64 y0, .int .i64 y1, .int .i64 y2, .int .i64 y3, .int .i64 z, .int .i64 y5, .int .i64 y6, .int .i64 y7, .int .i64 y8, .int .i64 y9] 35 (0, 0))) := row_set _ N1.out
    have us := Upd.setCell (S := fun j => j = w10.heap.size) w12 w10.heap.size 4 (.int .i64 z) rfl
    have c0 : w12.cell? ⟨w10.heap.size, 4, none⟩ = some (.int .i64 y4) := boxAt N1.out 4
    have c1 : w12.frozen? ⟨w10.heap.size, 4, none⟩ = false := boxFz N1.out 4
    go_wp2_with (first | (refine wpList_load_row rfl 35 (.tmp 3) rfl w10.heap.size rfl _ #[.int .i64 y0, .int .i64 y1, .int .i64 y2, .int .i64 y3, .int .i64 z, .int .i64 y5, .int .i64 y6, .int .i64 y7, .int .i64 y8, .int .i64 y9] (0, 0) _ M1.out Try.underlying35 rfl infoCm ?_) | (refine wpList_store_row rfl 35 (.tmp 2) (.tmp 53) rfl w.heap.size #[.int .i64 y0, .int .i64 y1, .int .i64 y2, .int .i64 y3, .int .i64 z, .int .i64 y5, .int .i64 y6, .int .i64 y7, .int .i64 y8, .int .i64 y9] rfl rfl _ _ M0.out infoCm rfl (all_of_list rfl) ?_))
    refine bodyPost_ret (v := .agg #[.int .i64 y0, .int .i64 y1, .int .i64 y2, .int .i64 y3, .int .i64 z, .int .i64 y5, .int .i64 y6, .int .i64 y7, .int .i64 y8, .int .i64 y9]) (results_cell_row Try.results68 _ _ w.heap.size _ _ (0, 0) _ rfl (setRow_heap _ _ _ _ _ _ M0.out) Try.underlying35 rfl infoCm) rfl ?_
    have u6 : Upd (fun j => j = w.heap.size) (w12.setCell ⟨w10.heap.size, 4, none⟩ (.int .i64 z)) ((w12.setCell ⟨w10.heap.size, 4, none⟩ (.int .i64 z)).setRow w.heap.size #[.int .i64 y0, .int .i64 y1, .int .i64 y2, .int .i64 y3, .int .i64 z, .int .i64 y5, .int .i64 y6, .int .i64 y7, .int .i64 y8, .int .i64 y9]) := ⟨rfl, rfl, rfl, by simp, fun k _ h => setRow_other _ _ _ _ h⟩
    exact ⟨⟨0, 0, 0, 0, 0, 0, y0, y1, y2, y3, z, y5, y6, y7, y8, y9, 0, 0, 0, 0, 0, 0, 0, 0, [], []⟩, _, rfl, (hr12.keep us (by omega) (fun k h => by omega)).keep u6 (by omega) (fun k h => by omega), by omega, (U12.transN us (fun k h => by omega)).transN u6 (fun k h => by omega)⟩
  · subst h
    have al := bal (Below.refl w11.heap.size w11) (.cells #[.int .i64 (-1), .int .i64 8, .int .i64 99] 3)
    have LA := hide (litAt w11 [(-1), 8, 99] 3)
    have hr11a := hr11.keepB al
    go_wp2_with fail
    refine (pick_any w0 _ R _ 3 hr11a (by omega) (by omega) (by omega)).mono ?_
    rintro e w12 ⟨q12, rfl, hq12, hr12, hu12⟩
    obtain ⟨z, hz⟩ := LA.out q12 hq12
    have f0 : w12.cell? ⟨w11.heap.size, q12, none⟩ = some (.int .i64 z) := updCell hu12 hz (by omega)
    have hi : (q12 : Int) < 3 := by omega
    have N0 := hide (hu12.keeps (bKeeps al L0.out) (by omega))
    have N1 := hide (hu12.keeps (bKeeps al L1.out) (by omega))
    have U12 := (U11.out.trans (Upd.ofBelow al)).trans hu12
    have hz12 := hu12.size
    simp only [World.size_alloc] at hz12
    clear L0 L1 U11 hr11 hr11a hu12 al LA hz
    have M0 := hide ((Upd.setCell (S := fun j => j = w10.heap.size) w12 w10.heap.size 0 (.int .i64 z) rfl).keeps N0.out (by omega))
    have M1 : Hid ((w12.setCell ⟨w10.heap.size, 0, none⟩ (.int .i64 z)).heap[w10.heap.size]? = some (.cells #[.int .i64 z, .int .i64 y1, .int .i64 y2, .int .i64 y3, .int .i64 y4, .int .i64 y5, .int .i64 y6, .int .i64 y7, .int .i64 y8, .int .i64 y9] 35 (0, 0))) := row_set _ N1.out
    have us := Upd.setCell (S := fun j => j = w10.heap.size) w12 w10.heap.size 0 (.int .i64 z) rfl
    have c0 : w12.cell? ⟨w10.heap.size, 0, none⟩ = some (.int .i64 y0) := boxAt N1.out 0
    have c1 : w12.frozen? ⟨w10.heap.size, 0, none⟩ = false := boxFz N1.out 0
    go_wp2_with (first | (refine wpList_load_row rfl 35 (.tmp 3) rfl w10.heap.size rfl _ #[.int .i64 z, .int .i64 y1, .int .i64 y2, .int .i64 y3, .int .i64 y4, .int .i64 y5, .int .i64 y6, .int .i64 y7, .int .i64 y8, .int .i64 y9] (0, 0) _ M1.out Try.underlying35 rfl infoCm ?_) | (refine wpList_store_row rfl 35 (.tmp 2) (.tmp 53) rfl w.heap.size #[.int .i64 z, .int .i64 y1, .int .i64 y2, .int .i64 y3, .int .i64 y4, .int .i64 y5, .int .i64 y6, .int .i64 y7, .int .i64 y8, .int .i64 y9] rfl rfl _ _ M0.out infoCm rfl (all_of_list rfl) ?_))
    refine bodyPost_ret (v := .agg #[.int .i64 z, .int .i64 y1, .int .i64 y2, .int .i64 y3, .int .i64 y4, .int .i64 y5, .int .i64 y6, .int .i64 y7, .int .i64 y8, .int .i64 y9]) (results_cell_row Try.results68 _ _ w.heap.size _ _ (0, 0) _ rfl (setRow_heap _ _ _ _ _ _ M0.out) Try.underlying35 rfl infoCm) rfl ?_
    have u6 : Upd (fun j => j = w.heap.size) (w12.setCell ⟨w10.heap.size, 0, none⟩ (.int .i64 z)) ((w12.setCell ⟨w10.heap.size, 0, none⟩ (.int .i64 z)).setRow w.heap.size #[.int .i64 z, .int .i64 y1, .int .i64 y2, .int .i64 y3, .int .i64 y4, .int .i64 y5, .int .i64 y6, .int .i64 y7, .int .i64 y8, .int .i64 y9]) := ⟨rfl, rfl, rfl, by simp, fun k _ h => setRow_other _ _ _ _ h⟩
    exact ⟨⟨0, 0, 0, 0, 0, 0, z, y1, y2, y3, y4, y5, y6, y7, y8, y9, 0, 0, 0, 0, 0, 0, 0, 0, [], []⟩, _, rfl, (hr12.keep us (by omega) (fun k h => by omega)).keep u6 (by omega) (fun k h => by omega), by omega, (U12.transN us (fun k h => by omega)).transN u6 (fun k h => by omega)⟩
  · subst h
    have al := bal (Below.refl w11.heap.size w11) (.cells #[.int .i64 (-2), .int .i64 100000] 3)
    have LA := hide (litAt w11 [(-2), 100000] 3)
    have hr11a := hr11.keepB al
    go_wp2_with fail
    refine (pick_any w0 _ R _ 2 hr11a (by omega) (by omega) (by omega)).mono ?_
    rintro e w12 ⟨q12, rfl, hq12, hr12, hu12⟩
    obtain ⟨z, hz⟩ := LA.out q12 hq12
    have f0 : w12.cell? ⟨w11.heap.size, q12, none⟩ = some (.int .i64 z) := updCell hu12 hz (by omega)
    have hi : (q12 : Int) < 2 := by omega
    have N0 := hide (hu12.keeps (bKeeps al L0.out) (by omega))
    have N1 := hide (hu12.keeps (bKeeps al L1.out) (by omega))
    have U12 := (U11.out.trans (Upd.ofBelow al)).trans hu12
    have hz12 := hu12.size
    simp only [World.size_alloc] at hz12
    clear L0 L1 U11 hr11 hr11a hu12 al LA hz
    have M0 := hide ((Upd.setCell (S := fun j => j = w10.heap.size) w12 w10.heap.size 7 (.int .i64 z) rfl).keeps N0.out (by omega))
    have M1 : Hid ((w12.setCell ⟨w10.heap.size, 7, none⟩ (.int .i64 z)).heap[w10.heap.size]? = some (.cells #[.int .i64 y0, .int .i64 y1, .int .i64 y2, .int .i64 y3, .int .i64 y4, .int .i64 y5, .int .i64 y6, .int .i64 z, .int .i64 y8, .int .i64 y9] 35 (0, 0))) := row_set _ N1.out
    have us := Upd.setCell (S := fun j => j = w10.heap.size) w12 w10.heap.size 7 (.int .i64 z) rfl
    have c0 : w12.cell? ⟨w10.heap.size, 7, none⟩ = some (.int .i64 y7) := boxAt N1.out 7
    have c1 : w12.frozen? ⟨w10.heap.size, 7, none⟩ = false := boxFz N1.out 7
    go_wp2_with (first | (refine wpList_load_row rfl 35 (.tmp 3) rfl w10.heap.size rfl _ #[.int .i64 y0, .int .i64 y1, .int .i64 y2, .int .i64 y3, .int .i64 y4, .int .i64 y5, .int .i64 y6, .int .i64 z, .int .i64 y8, .int .i64 y9] (0, 0) _ M1.out Try.underlying35 rfl infoCm ?_) | (refine wpList_store_row rfl 35 (.tmp 2) (.tmp 53) rfl w.heap.size #[.int .i64 y0, .int .i64 y1, .int .i64 y2, .int .i64 y3, .int .i64 y4, .int .i64 y5, .int .i64 y6, .int .i64 z, .int .i64 y8, .int .i64 y9] rfl rfl _ _ M0.out infoCm rfl (all_of_list rfl) ?_))
    refine bodyPost_ret (v := .agg #[.int .i64 y0, .int .i64 y1, .int .i64 y2, .int .i64 y3, .int .i64 y4, .int .i64 y5, .int .i64 y6, .int .i64 z, .int .i64 y8, .int .i64 y9]) (results_cell_row Try.results68 _ _ w.heap.size _ _ (0, 0) _ rfl (setRow_heap _ _ _ _ _ _ M0.out) Try.underlying35 rfl infoCm) rfl ?_
    have u6 : Upd (fun j => j = w.heap.size) (w12.setCell ⟨w10.heap.size, 7, none⟩ (.int .i64 z)) ((w12.setCell ⟨w10.heap.size, 7, none⟩ (.int .i64 z)).setRow w.heap.size #[.int .i64 y0, .int .i64 y1, .int .i64 y2, .int .i64 y3, .int .i64 y4, .int .i64 y5, .int .i64 y6, .int .i64 z, .int .i64 y8, .int .i64 y9]) := ⟨rfl, rfl, rfl, by simp, fun k _ h => setRow_other _ _ _ _ h⟩
    exact ⟨⟨0, 0, 0, 0, 0, 0, y0, y1, y2, y3, y4, y5, y6, z, y8, y9, 0, 0, 0, 0, 0, 0, 0, 0, [], []⟩, _, rfl, (hr12.keep us (by omega) (fun k h => by omega)).keep u6 (by omega) (fun k h => by omega), by omega, (U12.transN us (fun k h => by omega)).transN u6 (fun k h => by omega)⟩
  · have h0 : ¬ (q11 : Int) = 0 := by omega
    have h1 : ¬ (q11 : Int) = 1 := by omega
    have h2 : ¬ (q11 : Int) = 2 := by omega
    have g0 : ((q11 : Int) == 0) = false := by simpa using h0
    have g1 : ((q11 : Int) == 1) = false := by simpa using h1
    have g2 : ((q11 : Int) == 2) = false := by simpa using h2
    have M0 := hide L0.out
    have M1 := hide L1.out
    go_wp2_with (first | (refine wpList_load_row rfl 35 (.tmp 3) rfl w10.heap.size rfl _ #[.int .i64 y0, .int .i64 y1, .int .i64 y2, .int .i64 y3, .int .i64 y4, .int .i64 y5, .int .i64 y6, .int .i64 y7, .int .i64 y8, .int .i64 y9] (0, 0) _ M1.out Try.underlying35 rfl infoCm ?_) | (refine wpList_store_row rfl 35 (.tmp 2) (.tmp 53) rfl w.heap.size #[.int .i64 y0, .int .i64 y1, .int .i64 y2, .int .i64 y3, .int .i64 y4, .int .i64 y5, .int .i64 y6, .int .i64 y7, .int .i64 y8, .int .i64 y9] rfl rfl _ _ M0.out infoCm rfl (all_of_list rfl) ?_))
    refine bodyPost_ret (v := .agg #[.int .i64 y0, .int .i64 y1, .int .i64 y2, .int .i64 y3, .int .i64 y4, .int .i64 y5, .int .i64 y6, .int .i64 y7, .int .i64 y8, .int .i64 y9]) (results_cell_row Try.results68 _ _ w.heap.size _ _ (0, 0) _ rfl (setRow_heap _ _ _ _ _ _ M0.out) Try.underlying35 rfl infoCm) rfl ?_
    have u6 : Upd (fun j => j = w.heap.size) w11 (w11.setRow w.heap.size #[.int .i64 y0, .int .i64 y1, .int .i64 y2, .int .i64 y3, .int .i64 y4, .int .i64 y5, .int .i64 y6, .int .i64 y7, .int .i64 y8, .int .i64 y9]) := ⟨rfl, rfl, rfl, by simp, fun k _ h => setRow_other _ _ _ _ h⟩
    exact ⟨⟨0, 0, 0, 0, 0, 0, y0, y1, y2, y3, y4, y5, y6, y7, y8, y9, 0, 0, 0, 0, 0, 0, 0, 0, [], []⟩, _, rfl, hr11.keep u6 (by omega) (fun k h => by omega), by omega, U11.out.transN u6 (fun k h => by omega)⟩

end Go.Proofs.Yteddhdbglciahaa
