/- Contracts and plain facts that this claim leans on (texts SK5, VS2, VL0, Rd, Rd2, SpecA, Draw, BD, XQ, VD, VDV); no statement of the seat is proved here. -/
import Derived.Test.YteddhdbglciahaaHk10
import Derived.Test.YteddhdbglciahaaHk9
import Derived.Test.YteddhdbglciahaaHk8
import Derived.Test.YteddhdbglciahaaHk1
import Derived.Laws.Bits64
import Derived.Test.YteddhdbglciahaaHk6
import Derived.Test.YteddhdbglciahaaHk7
import Derived.Deep.DeepCutAuto

/- SynSeekerOk of the specification: a contract; no statement of the seat is proved here. -/
namespace Go.Proofs.Yteddhdbglciahaa
open Go.RowKit

set_option maxRecDepth 100000 in
set_option maxHeartbeats 16000000 in
theorem specSynSeekerOk_any (v : Value) (k : Sk) (w : World) (h : SkR w v k) :
    Calls Try.prog 22 #[v] w fun e w' => e = .returned (.bool (okS k)) ∧ Below w.heap.size w w' := by
  obtain ⟨yo, yc, rfl, hr⟩ := h
  have HR := hide hr
  clear hr
  obtain ⟨j1, hj1⟩ : ∃ j, isZ k.m = j := ⟨_, rfl⟩
  obtain ⟨j7, hj7⟩ : ∃ j, isZP k.p = j := ⟨_, rfl⟩
  obtain ⟨j8, hj8⟩ : ∃ j, ppI k.p = j := ⟨_, rfl⟩
  obtain ⟨i1, hi1⟩ : ∃ j, inI k.s 1 60 = j := ⟨_, rfl⟩
  obtain ⟨i2, hi2⟩ : ∃ j, inI k.b 1 99999 = j := ⟨_, rfl⟩
  obtain ⟨i3, hi3⟩ : ∃ j, inI k.ph 1 2 = j := ⟨_, rfl⟩
  obtain ⟨i4, hi4⟩ : ∃ j, cmdI k.m = j := ⟨_, rfl⟩
  have cP := fun V => l21PaperOk_any k.p.1 k.p.2.1 k.p.2.2 V
  rw [show ppI (k.p.1, k.p.2.1, k.p.2.2) = j8 from hj8] at cP
  have c1 := fun V => l6In_inI k.s 1 60 V
  have c2 := fun V => l6In_inI k.b 1 99999 V
  have c3 := fun V => l6In_inI k.ph 1 2 V
  have c4 := fun V => l11CmdOk_any k.m V
  rw [hi1] at c1
  rw [hi2] at c2
  rw [hi3] at c3
  rw [hi4] at c4
  have H1 := hide hj1
  have H7 := hide hj7
  have hB : Hid (bestI k = (j7 || (j8 && (decide (k.p.1 = k.s) && decide (k.p.2.1 < k.b))))) := by show _ = _; rw [bestI, hj7, hj8]
  have hM : Hid (mayS k = ((i1 && (i2 && i4)) && (i3 && (yesI k.ys && bestI k)))) := by show _ = _; rw [mayS]; show ((inI k.s 1 60 && (inI k.b 1 99999 && cmdI k.m)) && _) = _; rw [hi1, hi2, hi3, hi4]
  have h0ph : Hid (k.ph = 0 → mayS k = false) := fun h => by rw [mayS, h]; simp [inI]
  clear hi1 hi2 hi3 hi4 hj8
  go_enter Try.func22, Try.ntmps22
  go_upto_region 1 with fail
  generalize hW : World.alloc _ _ = W
  have al : Below w.heap.size w W := by rw [← hW]; exact bal (Below.refl _ _) _
  have A0 : Hid (W.heap[w.heap.size]? = some (.cells (skarr k (.slice yo k.ys.length yc)) 39 (0, 0))) := by show _ = _; rw [← hW]; exact al1_0 w _
  clear hW
  obtain ⟨x0, x1, x2, xm, xp, x13, x14, xy⟩ := sk_cells A0.out
  have XP := hide xp
  have XM := hide xm
  clear xp xm
  by_cases hph : k.ph = 0
  · have hp1 : (k.ph == 0) = true := by simpa using hph
    have hO : Hid (okS k = noS k) := by show _ = _; rw [okS, h0ph.out hph, Bool.or_false]
    clear hph c1 c2 c3 c4 cP
    by_cases hs : k.s ≠ 0
    · have h00 : (k.s == 0) = false := by simpa using hs
      go_wp2
      go_ret
      exact ⟨by rw [hO.out, noS, h00]; rfl, al⟩
    have h00 : (k.s == 0) = true := by simpa using hs
    clear hs
    by_cases hb : k.b ≠ 0
    · have h11 : (k.b == 0) = false := by simpa using hb
      go_wp2
      go_ret
      exact ⟨by rw [hO.out, noS, h00, h11]; rfl, al⟩
    have h11 : (k.b == 0) = true := by simpa using hb
    clear hb
    have hO2 : Hid (okS k = (j1 && (j7 && decide (k.ys.length = 0)))) := by show _ = _; rw [hO.out, noS, h00, h11, hp1, hj1, hj7]; rfl
    clear hj1 hj7
    cases j1
    · go_wp2_with (first
      | (refine wpList_load_at (by rfl) 35 (.tmp 16) rfl w.heap.size 3 rfl #[.int .i64 k.m.c0, .int .i64 k.m.c1, .int .i64 k.m.c2, .int .i64 k.m.c3, .int .i64 k.m.c4, .int .i64 k.m.c5, .int .i64 k.m.c6, .int .i64 k.m.c7, .int .i64 k.m.c8, .int .i64 k.m.c9] _ XM.out Try.underlying35 rfl infoCm10 ?_)
      | (refine wpList_buildG (by rfl) 35 _ rfl [] _ rfl builtCmd0 ?_)
      | (refine wpList_eqlCmd (by rfl) _ _ _ rfl k.m rfl rfl ?_; rw [H1.out])
      | (refine wpList_load_at (by rfl) 37 (.tmp 22) rfl w.heap.size 13 rfl (pparr k.p) _ XP.out Try.underlying37 rfl infoPpS ?_)
      | (refine wpList_buildG (by rfl) 37 _ rfl [] _ rfl builtPaper0 ?_)
      | (refine wpList_eqlPaper (by rfl) _ _ _ rfl k.p rfl rfl ?_; rw [H7.out]))
      go_ret
      exact ⟨by rw [hO2.out]; rfl, al⟩
    cases j7
    · go_wp2_with (first
      | (refine wpList_load_at (by rfl) 35 (.tmp 16) rfl w.heap.size 3 rfl #[.int .i64 k.m.c0, .int .i64 k.m.c1, .int .i64 k.m.c2, .int .i64 k.m.c3, .int .i64 k.m.c4, .int .i64 k.m.c5, .int .i64 k.m.c6, .int .i64 k.m.c7, .int .i64 k.m.c8, .int .i64 k.m.c9] _ XM.out Try.underlying35 rfl infoCm10 ?_)
      | (refine wpList_buildG (by rfl) 35 _ rfl [] _ rfl builtCmd0 ?_)
      | (refine wpList_eqlCmd (by rfl) _ _ _ rfl k.m rfl rfl ?_; rw [H1.out])
      | (refine wpList_load_at (by rfl) 37 (.tmp 22) rfl w.heap.size 13 rfl (pparr k.p) _ XP.out Try.underlying37 rfl infoPpS ?_)
      | (refine wpList_buildG (by rfl) 37 _ rfl [] _ rfl builtPaper0 ?_)
      | (refine wpList_eqlPaper (by rfl) _ _ _ rfl k.p rfl rfl ?_; rw [H7.out]))
      go_ret
      exact ⟨by rw [hO2.out]; rfl, al⟩
    by_cases hl : k.ys.length = 0
    · have hl1 : ((k.ys.length : Int) == 0) = true := by simp [hl]
      have HL : Hid (decide (k.ys.length = 0) = true) := decide_eq_true hl
      clear hl
      go_wp2_with (first
      | (refine wpList_load_at (by rfl) 35 (.tmp 16) rfl w.heap.size 3 rfl #[.int .i64 k.m.c0, .int .i64 k.m.c1, .int .i64 k.m.c2, .int .i64 k.m.c3, .int .i64 k.m.c4, .int .i64 k.m.c5, .int .i64 k.m.c6, .int .i64 k.m.c7, .int .i64 k.m.c8, .int .i64 k.m.c9] _ XM.out Try.underlying35 rfl infoCm10 ?_)
      | (refine wpList_buildG (by rfl) 35 _ rfl [] _ rfl builtCmd0 ?_)
      | (refine wpList_eqlCmd (by rfl) _ _ _ rfl k.m rfl rfl ?_; rw [H1.out])
      | (refine wpList_load_at (by rfl) 37 (.tmp 22) rfl w.heap.size 13 rfl (pparr k.p) _ XP.out Try.underlying37 rfl infoPpS ?_)
      | (refine wpList_buildG (by rfl) 37 _ rfl [] _ rfl builtPaper0 ?_)
      | (refine wpList_eqlPaper (by rfl) _ _ _ rfl k.p rfl rfl ?_; rw [H7.out]))
      go_ret
      exact ⟨by rw [hO2.out, HL.out]; rfl, al⟩
    · have hl1 : ((k.ys.length : Int) == 0) = false := beq_eq_false_iff_ne.2 (by omega)
      have HL : Hid (decide (k.ys.length = 0) = false) := decide_eq_false hl
      clear hl
      go_wp2_with (first
      | (refine wpList_load_at (by rfl) 35 (.tmp 16) rfl w.heap.size 3 rfl #[.int .i64 k.m.c0, .int .i64 k.m.c1, .int .i64 k.m.c2, .int .i64 k.m.c3, .int .i64 k.m.c4, .int .i64 k.m.c5, .int .i64 k.m.c6, .int .i64 k.m.c7, .int .i64 k.m.c8, .int .i64 k.m.c9] _ XM.out Try.underlying35 rfl infoCm10 ?_)
      | (refine wpList_buildG (by rfl) 35 _ rfl [] _ rfl builtCmd0 ?_)
      | (refine wpList_eqlCmd (by rfl) _ _ _ rfl k.m rfl rfl ?_; rw [H1.out])
      | (refine wpList_load_at (by rfl) 37 (.tmp 22) rfl w.heap.size 13 rfl (pparr k.p) _ XP.out Try.underlying37 rfl infoPpS ?_)
      | (refine wpList_buildG (by rfl) 37 _ rfl [] _ rfl builtPaper0 ?_)
      | (refine wpList_eqlPaper (by rfl) _ _ _ rfl k.p rfl rfl ?_; rw [H7.out]))
      go_ret
      exact ⟨by rw [hO2.out, HL.out]; rfl, al⟩
  have hp1 : (k.ph == 0) = false := by simpa using hph
  have hO : Hid (okS k = mayS k) := by show _ = _; rw [okS, show noS k = false from by rw [noS, hp1]; simp, Bool.false_or]
  clear hph hj1 hj7 h0ph
  go_wp2_with fail
  refine (c1 _).mono ?_
  rintro e V1 ⟨rfl, rfl⟩
  cases i1
  · go_wp2
    go_ret
    exact ⟨by rw [hO.out, hM.out]; rfl, al⟩
  go_wp2_with fail
  refine (c2 _).mono ?_
  rintro e V2 ⟨rfl, rfl⟩
  cases i2
  · go_wp2
    go_ret
    exact ⟨by rw [hO.out, hM.out]; rfl, al⟩
  go_wp2_with fail
  refine (c3 _).mono ?_
  rintro e V3 ⟨rfl, rfl⟩
  cases i3
  · go_wp2
    go_ret
    exact ⟨by rw [hO.out, hM.out]; simp, al⟩
  go_wp2_with (refine wpList_load_at (by rfl) 35 (.tmp 50) rfl w.heap.size 3 rfl #[.int .i64 k.m.c0, .int .i64 k.m.c1, .int .i64 k.m.c2, .int .i64 k.m.c3, .int .i64 k.m.c4, .int .i64 k.m.c5, .int .i64 k.m.c6, .int .i64 k.m.c7, .int .i64 k.m.c8, .int .i64 k.m.c9] _ XM.out Try.underlying35 rfl infoCm10 ?_)
  refine (c4 _).mono ?_
  rintro e V4 ⟨rfl, b4⟩
  cases i4
  · go_wp2
    go_ret
    exact ⟨by rw [hO.out, hM.out]; rfl, bAll al b4⟩
  have xy := (sk_cells (bKeeps b4 A0.out)).2.2.2.2.2.2.2
  clear x0 x1 x2 XM XP x13 x14 c1 c2 c3 c4
  rcases hys : k.ys with _ | ⟨a, l⟩
  · have h1 : k.ys.length = 0 := by rw [hys]; rfl
    rw [h1] at xy
    have HB : Hid (okS k = (j7 || (j8 && (decide (k.p.1 = k.s) && decide (k.p.2.1 < k.b))))) := by show _ = _; rw [hO.out, hM.out, hB.out, hys]; rfl
    clear hys hB hM hO HR h1
    go_wp2
    refine wp_loop_rounds 1 ?_
    rw [rounds_succ]
    obtain ⟨x0, x1, -, -, xp, x13, x14, -⟩ := sk_cells (bKeeps b4 A0.out)
    have XP := hide xp
    clear xp
    go_upto_region 10 with fail
    cases j7
    · go_wp2_with (first
          | (refine wpList_load_at (by rfl) 37 (.tmp 75) rfl w.heap.size 13 rfl (pparr k.p) _ XP.out Try.underlying37 rfl infoPpS ?_)
          | (refine wpList_load_at (by rfl) 37 (.tmp 80) rfl w.heap.size 13 rfl (pparr k.p) _ XP.out Try.underlying37 rfl infoPpS ?_)
          | (refine wpList_buildG (by rfl) 37 _ rfl [] _ rfl builtPaper0 ?_)
          | (refine wpList_eqlPaper (by rfl) _ _ _ rfl k.p rfl rfl ?_; rw [H7.out]))
      refine (cP _).mono ?_
      rintro e V9 ⟨rfl, b9⟩
      have b9' := bAll b4 b9
      obtain ⟨x0, x1, -, -, -, x13, x14, -⟩ := sk_cells (bKeeps b9' A0.out)
      cases j8
      · go_wp2
        go_ret
        exact ⟨by rw [HB.out]; rfl, bAll al b9'⟩
      by_cases h1 : k.p.1 = k.s
      · have e1 : (k.p.1 == k.s) = true := by simpa using h1
        have E1 : Hid (decide (k.p.1 = k.s) = true) := decide_eq_true h1
        clear h1
        go_wp2
        go_ret
        exact ⟨by rw [HB.out, E1.out]; rfl, bAll al b9'⟩
      · have e1 : (k.p.1 == k.s) = false := by simpa using h1
        have E1 : Hid (decide (k.p.1 = k.s) = false) := decide_eq_false h1
        clear h1
        go_wp2
        go_ret
        exact ⟨by rw [HB.out, E1.out]; rfl, bAll al b9'⟩
    · skip
      iterate 11 (first
        | (refine wpList_load_at (by rfl) 37 (.tmp 75) rfl w.heap.size 13 rfl (pparr k.p) _ XP.out Try.underlying37 rfl infoPpS ?_; simp only [Act.put, List.setIfInBounds_toArray, List.set_cons_zero, List.set_cons_succ])
        | (refine wpList_buildG (by rfl) 37 _ rfl [] _ rfl builtPaper0 ?_; simp only [Act.put, List.setIfInBounds_toArray, List.set_cons_zero, List.set_cons_succ])
        | (refine wpList_eqlPaper (by rfl) _ _ _ rfl k.p rfl rfl ?_; rw [H7.out]; simp only [Act.put, List.setIfInBounds_toArray, List.set_cons_zero, List.set_cons_succ])
        | go_values | go_skip | go_guarded | go_step | go_upon)
      go_wp2
      go_ret
      exact ⟨by rw [HB.out]; rfl, bAll al b4⟩
  · rcases hl : l with _ | ⟨b, l'⟩
    · have h1 : k.ys.length = 1 := by rw [hys, hl]; rfl
      have hr := HR.out.keep (bAll al b4)
      rw [h1, hys, hl] at hr
      rw [h1] at xy
      obtain ⟨ao, ca, e0, -, -, hc⟩ := hr
      injection e0 with e1 _ e2
      subst e1 e2
      obtain ⟨bb, off, rfl, hc2⟩ := hc (by decide)
      have xa : V4.cell? ⟨bb, off, none⟩ = some (.int .i64 a) := hc2 0 _ rfl
      obtain ⟨i5, hi5⟩ : ∃ j, inI a 0 2 = j := ⟨_, rfl⟩
      have c5 := fun V => l6In_inI a 0 2 V
      rw [hi5] at c5
      have HB0 : Hid (okS k = (i5 && bestI k)) := by show _ = _; rw [hO.out, hM.out, hys, hl]; show (true && (true && ((false || (true && inI a 0 2)) && bestI k))) = _; rw [hi5]; simp
      clear hys hl hM hO HR hc hc2 hi5 h1
      go_wp2
      refine wp_loop_rounds 2 ?_
      rw [rounds_succ]
      go_wp2_with fail
      refine (c5 _).mono ?_
      rintro e V5 ⟨rfl, rfl⟩
      cases i5
      · go_wp2
        go_ret
        exact ⟨by rw [HB0.out]; rfl, bAll al b4⟩
      have HB : Hid (okS k = (j7 || (j8 && (decide (k.p.1 = k.s) && decide (k.p.2.1 < k.b))))) := by show _ = _; rw [HB0.out, hB.out]; rfl
      clear HB0 hB
      go_wp2
      rw [rounds_succ]
      obtain ⟨x0, x1, -, -, xp, x13, x14, -⟩ := sk_cells (bKeeps b4 A0.out)
      have XP := hide xp
      clear xp
      go_upto_region 10 with fail
      cases j7
      · go_wp2_with (first
            | (refine wpList_load_at (by rfl) 37 (.tmp 75) rfl w.heap.size 13 rfl (pparr k.p) _ XP.out Try.underlying37 rfl infoPpS ?_)
            | (refine wpList_load_at (by rfl) 37 (.tmp 80) rfl w.heap.size 13 rfl (pparr k.p) _ XP.out Try.underlying37 rfl infoPpS ?_)
            | (refine wpList_buildG (by rfl) 37 _ rfl [] _ rfl builtPaper0 ?_)
            | (refine wpList_eqlPaper (by rfl) _ _ _ rfl k.p rfl rfl ?_; rw [H7.out]))
        refine (cP _).mono ?_
        rintro e V9 ⟨rfl, b9⟩
        have b9' := bAll b4 b9
        obtain ⟨x0, x1, -, -, -, x13, x14, -⟩ := sk_cells (bKeeps b9' A0.out)
        cases j8
        · go_wp2
          go_ret
          exact ⟨by rw [HB.out]; rfl, bAll al b9'⟩
        by_cases h1 : k.p.1 = k.s
        · have e1 : (k.p.1 == k.s) = true := by simpa using h1
          have E1 : Hid (decide (k.p.1 = k.s) = true) := decide_eq_true h1
          clear h1
          go_wp2
          go_ret
          exact ⟨by rw [HB.out, E1.out]; rfl, bAll al b9'⟩
        · have e1 : (k.p.1 == k.s) = false := by simpa using h1
          have E1 : Hid (decide (k.p.1 = k.s) = false) := decide_eq_false h1
          clear h1
          go_wp2
          go_ret
          exact ⟨by rw [HB.out, E1.out]; rfl, bAll al b9'⟩
      · skip
        iterate 11 (first
          | (refine wpList_load_at (by rfl) 37 (.tmp 75) rfl w.heap.size 13 rfl (pparr k.p) _ XP.out Try.underlying37 rfl infoPpS ?_; simp only [Act.put, List.setIfInBounds_toArray, List.set_cons_zero, List.set_cons_succ])
          | (refine wpList_buildG (by rfl) 37 _ rfl [] _ rfl builtPaper0 ?_; simp only [Act.put, List.setIfInBounds_toArray, List.set_cons_zero, List.set_cons_succ])
          | (refine wpList_eqlPaper (by rfl) _ _ _ rfl k.p rfl rfl ?_; rw [H7.out]; simp only [Act.put, List.setIfInBounds_toArray, List.set_cons_zero, List.set_cons_succ])
          | go_values | go_skip | go_guarded | go_step | go_upon)
        go_wp2
        go_ret
        exact ⟨by rw [HB.out]; rfl, bAll al b4⟩
    · have h1 : k.ys.length = l'.length + 2 := by rw [hys, hl]; rfl
      have h2 : (2 : Int) ≤ (k.ys.length : Int) := by omega
      have hf : Hid (okS k = false) := by show _ = _; rw [hO.out, hM.out, hys, hl]; simp [yesI]
      clear hys hl h1 hM hO hB HR
      go_wp2
      go_ret
      exact ⟨by rw [hf.out]; rfl, bAll al b4⟩

end Go.Proofs.Yteddhdbglciahaa

/- What a voter does with a word, by the specification, with the room of its papers: contracts; no statement of the seat is proved here. -/
namespace Go.Proofs.Yteddhdbglciahaa
open Go.RowKit

theorem rowA_keep_box {w w' : World} {base : Nat} {e f : TypeId} {g size n : Nat} {c : Array Value} {v : Value} {cs : List Value} (hne : e ≠ f) (h : RowA w base e size v n cs) (hg : w.heap[g]? = some (.cells c f (0, 0))) (hu : Upd (fun j => j = g) w w') : RowA w' base e size v n cs := by
  rcases h with ⟨hl, h⟩ | h
  · refine .inl ⟨hl, ?_⟩
    rcases h with h | ⟨q, cap, cur, rfl, hq, hh, h1, h2, h3, h4⟩
    · exact .inl h
    · refine .inr ⟨q, cap, cur, rfl, hq, ?_, h1, h2, h3, h4⟩
      exact hu.keeps hh (fun e => by rw [e, hg] at hh; simp at hh; exact hne hh.2.symm)
  · exact .inr h

end Go.Proofs.Yteddhdbglciahaa

/- What the laws of votes have in common: contracts and plain facts; no statement of the seat is proved here. -/
namespace Go.Proofs.Yteddhdbglciahaa
open Go.RowKit

set_option maxHeartbeats 2000000 in
theorem szWord_left (x : Wd) (cs : Array Value) (left : Int) (w u : World) (h : WdR u (.agg cs) x) (h1 : 0 ≤ left) (h2 : left ≤ 1048576) :
    Calls Try.prog 8 #[.agg cs, .int .i64 left] w fun e w' => ∃ r, e = .returned (.int .i64 r) ∧ (r < 0 ∨ (0 ≤ r ∧ x.ps.length ≤ 1048576 ∧ x.ls.length ≤ 1048576)) ∧ Below w.heap.size w w' := by
  obtain ⟨hp, hl⟩ := h.lens
  obtain ⟨po, pc, lo, lc, e0, -, -⟩ := h
  injection e0 with e0
  subst e0
  have hal : Below w.heap.size w (w.alloc (.cells (#[.int .i64 x.a0, .int .i64 x.a1, .int .i64 x.a2, .int .i64 x.a3, .int .i64 x.a4, .int .i64 x.a5, .int .i64 x.c0, .int .i64 x.c1, .int .i64 x.c2, .int .i64 x.c3, .int .i64 x.c4, .int .i64 x.c5, .int .i64 x.c6, .int .i64 x.c7, .int .i64 x.c8, .int .i64 x.c9, .int .i64 x.b0, .int .i64 x.b1, .int .i64 x.b2, .int .i64 x.b3, .int .i64 x.b4, .int .i64 x.b5, .int .i64 x.b6, .int .i64 x.b7, .slice po x.ps.length pc, .slice lo x.ls.length lc] : Array Value) 32)) := (Below.refl _ _).alloc (Nat.le_refl _) _
  generalize x.ps.length = pn at hp hal ⊢
  generalize x.ls.length = ln at hl hal ⊢
  go_enter Try.func8, Try.ntmps8
  go_wp2_with fail
  refine (szBlkPieceS_any _ _ _ left _ hp h1 h2).mono ?_
  rintro e w1 ⟨r, rfl, hz, b1⟩
  rcases hz with hneg | ⟨hr1, hr2⟩
  · go_wp2
    go_ret
    exact ⟨_, rfl, .inl (by omega), bAll hal b1⟩
  · have hc1 : w1.cell? ⟨w.heap.size, 25, none⟩ = some (.slice lo ln lc) := (b1.cell (p := ⟨w.heap.size, 25, none⟩) (by simp)).trans (by simp)
    have Hr1 := hide hr1
    have hr3 : r ≤ 1048576 := by omega
    clear hr1
    go_wp2_with fail
    refine (szBlkLastS_any _ _ _ _ _ hl hr2 hr3).mono ?_
    rintro e w2 ⟨r2, rfl, hz2, b2⟩
    rcases hz2 with hneg | ⟨hr4, hr5⟩
    · go_wp2
      go_ret
      exact ⟨_, rfl, .inl (by omega), bAll (bAll hal b1) b2⟩
    · have Hr4 := hide hr4
      clear hr4
      go_wp2
      go_ret
      exact ⟨_, rfl, .inr ⟨hr5, by have := Hr4.out; have := Hr1.out; omega, by have := Hr4.out; have := Hr1.out; omega⟩, bAll (bAll hal b1) b2⟩

theorem VtO.keep {w w' : World} {S T : Nat → Prop} {v : Value} {P : Int} {xs : List Pp} (h : VtO w S v P xs) (u : Upd T w w') (hT : ∀ k, S k → ¬ T k) : VtO w' S v P xs := by
  obtain ⟨ao, cap, e, hc, h⟩ := h
  exact ⟨ao, cap, e, hc, h.keep u hT⟩
theorem VtO.keepB {w w' : World} {S : Nat → Prop} {v : Value} {P : Int} {xs : List Pp} (h : VtO w S v P xs) (b : Below w.heap.size w w') : VtO w' S v P xs := by
  obtain ⟨ao, cap, e, hc, h⟩ := h
  exact ⟨ao, cap, e, hc, h.keepB b⟩
theorem VtO.mono {w : World} {S T : Nat → Prop} {v : Value} {P : Int} {xs : List Pp} (h : VtO w S v P xs) (hST : ∀ k, k < w.heap.size → S k → T k) : VtO w T v P xs := by
  obtain ⟨ao, cap, e, hc, h⟩ := h
  exact ⟨ao, cap, e, hc, h.mono hST⟩
theorem rowIn {w : World} {e : TypeId} {size : Nat} {S : Nat → Prop} {v : Value} {n : Nat} {cs : List Value} (h : Row w e size S v n cs) : Row w e size (fun k => S k ∧ k < w.heap.size) v n cs := by
  obtain ⟨ao, cap, rfl, hn, hl, h⟩ := h
  refine ⟨ao, cap, rfl, hn, hl, fun hp => ?_⟩
  obtain ⟨g, cur, e, hS, hg, ht⟩ := h hp
  exact ⟨g, cur, e, ⟨hS, heap_lt hg⟩, hg, ht⟩
theorem wdIn {w : World} {S : Nat → Prop} {v : Value} {x : Wd} (h : WdO w S v x) : WdO w (fun k => S k ∧ k < w.heap.size) v x := by
  obtain ⟨po, pc, lo, lc, e, h1, h2⟩ := h
  exact ⟨po, pc, lo, lc, e, rowIn h1, rowIn h2⟩
/-- What a voter gives, in two boxes; all of it lies between base and top. -/
def VoB (V : World) (base top g h : Nat) (R : Int × List Pp × Wd × Bool) : Prop :=
  ∃ so sc cs lo hi, V.heap[g]? = some (.cells #[.int .i64 R.1, .slice so R.2.1.length sc] 120 (0, 0)) ∧ V.heap[h]? = some (.cells cs 47 (0, 0)) ∧
    VtO V (fun k => lo ≤ k ∧ k < hi) (.agg #[.int .i64 R.1, .slice so R.2.1.length sc]) R.1 R.2.1 ∧ WdO V (fun _ => False) (.agg cs) R.2.2.1 ∧
    base ≤ g ∧ g < top ∧ base ≤ h ∧ h < top ∧ g ≠ h ∧ base ≤ lo ∧ hi ≤ top ∧ ¬ (lo ≤ g ∧ g < hi) ∧ ¬ (lo ≤ h ∧ h < hi)

theorem VoB.keep {V V' : World} {base top g h : Nat} {R : Int × List Pp × Wd × Bool} {T : Nat → Prop} (H : VoB V base top g h R) (u : Upd T V V') (hT : ∀ k, base ≤ k → k < top → ¬ T k) : VoB V' base top g h R := by
  obtain ⟨so, sc, cs, lo, hi, h1, h2, h3, h4, h5, h6, h7, h8, h9, h10, h11, h12, h13⟩ := H
  exact ⟨so, sc, cs, lo, hi, u.keeps h1 (hT g h5 h6), u.keeps h2 (hT h h7 h8), h3.keep u (fun k hk => hT k (by omega) (by omega)), h4.keep u (fun _ h => h.elim), h5, h6, h7, h8, h9, h10, h11, h12, h13⟩
theorem VoB.keepB {V V' : World} {base top g h : Nat} {R : Int × List Pp × Wd × Bool} (H : VoB V base top g h R) (b : Below V.heap.size V V') : VoB V' base top g h R :=
  H.keep (T := fun _ => False) (Upd.ofBelow b) (fun _ _ _ h => h)
theorem VoB.mono {V : World} {base base' top top' g h : Nat} {R : Int × List Pp × Wd × Bool} (H : VoB V base top g h R) (hb : base' ≤ base) (ht : top ≤ top') : VoB V base' top' g h R := by
  obtain ⟨so, sc, cs, lo, hi, h1, h2, h3, h4, h5, h6, h7, h8, h9, h10, h11, h12, h13⟩ := H
  exact ⟨so, sc, cs, lo, hi, h1, h2, h3, h4, by omega, by omega, by omega, by omega, h9, by omega, by omega, h12, h13⟩

end Go.Proofs.Yteddhdbglciahaa

/- The specification's reader of bytes, from which inputs are drawn: contracts; no statement of the seat is proved here. -/
namespace Go.Proofs.Yteddhdbglciahaa
open Go.RowKit

/-- A reader at a place: it reads bytes that lay there when the law began. -/
def Rd (w0 w : World) (R p : Nat) : Prop :=
  ∃ (bo : Option Addr) (n cap : Nat) (bs : List Nat), n ≤ 2000 ∧ RowR w0 1 (.slice bo n cap) n (bs.map fun b : Nat => Value.int .u8 (b : Int)) ∧ (∀ b ∈ bs, b < 256) ∧
    w.heap[R]? = some (.cells #[.slice bo n cap, .int .i64 (p : Nat)] 168 (0, 0)) ∧ w0.heap.size ≤ R ∧ Below w0.heap.size w0 w

theorem Rd.keep {w0 w w' : World} {R p : Nat} {T : Nat → Prop} (h : Rd w0 w R p) (hu : Upd T w w') (hR : ¬ T R) (hT : ∀ k, T k → w0.heap.size ≤ k) : Rd w0 w' R p := by
  obtain ⟨bo, n, cap, bs, h1, h2, h3, h4, h5, h6⟩ := h
  exact ⟨bo, n, cap, bs, h1, h2, h3, hu.keeps h4 hR, h5, h6.trans (hu.below h6.size hT)⟩

theorem Rd.keepB {w0 w w' : World} {R p : Nat} (h : Rd w0 w R p) (hu : Below w.heap.size w w') : Rd w0 w' R p :=
  h.keep (T := fun _ => False) (Upd.ofBelow hu) (fun h => h) (fun _ h => h.elim)

end Go.Proofs.Yteddhdbglciahaa

/- The specification's reader of bytes: how it is opened, texts that are drawn; contracts; no statement of the seat is proved here. -/
namespace Go.Proofs.Yteddhdbglciahaa
open Go.RowKit

/-- Bytes that came in. -/
structure BytesIn (w : World) (bo : Option Addr) (n cap : Nat) (bs : List Nat) : Prop where
  reads : RowR w 1 (.slice bo n cap) n (bs.map fun b : Nat => Value.int .u8 (b : Int))
  small : ∀ b ∈ bs, b < 256
  room : n ≤ cap

theorem BytesIn.keep {w w' : World} {bo : Option Addr} {n cap : Nat} {bs : List Nat} (h : BytesIn w bo n cap bs) (hb : Below w.heap.size w w') : BytesIn w' bo n cap bs := ⟨h.reads.keep hb, h.small, h.room⟩

end Go.Proofs.Yteddhdbglciahaa

/- The specification's functions on disks, told so that what they give may be appended to: contracts; no statement of the seat is proved here. -/
namespace Go.Proofs.Yteddhdbglciahaa
open Go.RowKit

theorem RowA.at {w : World} {base : Nat} {e : TypeId} {v : Value} {n : Nat} {cs : List Value} (h : RowA w base e 1 v n cs) (i : Nat) (hi : i < n) :
    ∃ g cap u cur, v = .slice (some ⟨g, 0, none⟩) n cap ∧ base ≤ g ∧ w.heap[g]? = some (.cells cur e (0, 0)) ∧ w.cell? ⟨g, i, none⟩ = some u ∧ w.frozen? ⟨g, i, none⟩ = false ∧
      ∀ x, RowA (w.setCell ⟨g, i, none⟩ x) base e 1 v n (cs.set i x) := by
  rcases h with ⟨hl, ⟨rfl, rfl⟩ | ⟨g, cap, cur, rfl, hg, hh, h1, h2, h3, h4⟩⟩ | ⟨rfl, _⟩
  · omega
  · obtain ⟨u, hu⟩ : ∃ u, cur[i]? = some u := ⟨cur[i]'(by omega), by simp [show i < cur.size by omega]⟩
    refine ⟨g, cap, u, cur, rfl, hg, hh, (cell_of_row w g i cur e (0, 0) hh).trans hu, frozen_of_row w g i cur e hh, fun x => .inl ⟨by simpa using hl, .inr ⟨g, cap, _, rfl, hg, heap_setCell_same w g i cur e x hh, h1, h2, by simpa using h3, ?_⟩⟩⟩
    rw [Array.toList_setIfInBounds, ← h4, List.take_set]
  · omega

end Go.Proofs.Yteddhdbglciahaa

/- Disks that are drawn: contracts; no statement of the seat is proved here. -/
namespace Go.Proofs.Yteddhdbglciahaa
open Go.RowKit

/-- Short enough for every walk. -/
structure Small (d : Nat) (kept : List ByteArray) (wait : List (Int × ByteArray)) : Prop where
  kl : kept.length ≤ 512 + d
  ks : ∀ s ∈ kept, s.size ≤ 1000
  wl : wait.length ≤ 600 + d
  ws : ∀ x ∈ wait, x.2.size ≤ 1000

theorem Small.put {d : Nat} {kept : List ByteArray} {wait : List (Int × ByteArray)} (h : Small d kept wait) (a : Int) (s : ByteArray) (hs : s.size ≤ 1000) : Small d (putK kept wait) (putW kept wait a s) := by
  unfold putK putW
  by_cases hok : okB kept wait = true
  · rw [if_pos hok, if_pos hok]
    refine ⟨h.kl, h.ks, ?_, ?_⟩
    · split
      · rename_i hp
        simp only [putB, Bool.and_eq_true, decide_eq_true_eq] at hp
        simp
        omega
      · exact h.wl
    · split
      · intro x hx
        rcases List.mem_append.1 hx with hx | hx
        · exact h.ws x hx
        · rw [List.mem_singleton] at hx
          subst hx
          exact hs
      · exact h.ws
  · rw [if_neg hok, if_neg hok]
    exact ⟨by simp, by simp, by simp, by simp⟩

end Go.Proofs.Yteddhdbglciahaa

/- Pieces that are drawn: contracts; no statement of the seat is proved here. -/
namespace Go.Proofs.Yteddhdbglciahaa
open Go.RowKit

theorem RowA.room {w : World} {base : Nat} {e : TypeId} {size : Nat} {v : Value} {n : Nat} {cs : List Value} (h : RowA w base e size v n cs) : ∃ ao ca, v = .slice ao n ca ∧ n ≤ ca := by
  rcases h with h | ⟨rfl, _, ao, rfl⟩
  · exact owns_shape h
  · exact ⟨ao, 0, rfl, Nat.le_refl _⟩

end Go.Proofs.Yteddhdbglciahaa

/- Numbers written as bytes, in the program: contracts; no statement of the seat is proved here. -/
namespace Go.Proofs.Yteddhdbglciahaa
open Go.RowKit

theorem RowA.keepTy8 {w w' : World} {base : Nat} {e : TypeId} {size : Nat} {T : Nat → Prop} {v : Value} {n : Nat} {cs : List Value} (h : RowA w base e size v n cs) (hb : Upd T w w') (hT : ∀ k, typed w (fun k => base ≤ k) e k → ¬ T k) : RowA w' base e size v n cs := by
  rcases h with ⟨hl, h⟩ | h
  · refine .inl ⟨hl, ?_⟩
    rcases h with h | ⟨g, cap, cur, rfl, hg, hh, h1, h2, h3, h4⟩
    · exact .inl h
    · exact .inr ⟨g, cap, cur, rfl, hg, hb.keeps hh (hT g ⟨hg, cur, hh⟩), h1, h2, h3, h4⟩
  · exact .inr h

/-- What writing of bytes leaves as it was: all blocks that hold no bytes, but that of the slice. -/
def Still (w w' : World) (B : Nat) : Prop := ∀ k o, k < w.heap.size → k ≠ B → w.heap[k]? = some o → (∀ c, o ≠ .cells c 5 (0, 0)) → w'.heap[k]? = some o
theorem Still.trans {w w' w'' : World} {B : Nat} (h : Still w w' B) (g : Still w' w'' B) (hs : w.heap.size ≤ w'.heap.size) : Still w w'' B := fun k o hk hB ho hno => g k o (by omega) hB (h k o hk hB ho hno) hno

end Go.Proofs.Yteddhdbglciahaa

/- A voter that is drawn: contracts; no statement of the seat is proved here. -/
namespace Go.Proofs.Yteddhdbglciahaa
open Go.RowKit

/-- A word's kind, put into its cells. -/
theorem WdR.kind {w : World} {cs : Array Value} {x : Wd} (z : Int) (h : WdR w (.agg cs) x) : WdR w (.agg (cs.setIfInBounds 0 (.int .i64 z))) { x with a0 := z } := by
  obtain ⟨po, pc, lo, lc, e, h1, h2⟩ := h
  injection e with e
  subst e
  exact ⟨po, pc, lo, lc, rfl, h1, h2⟩
end Go.Proofs.Yteddhdbglciahaa

/- DrawSynVote: a contract; no statement of the seat is proved here. -/
namespace Go.Proofs.Yteddhdbglciahaa
open Go.RowKit

theorem WdO.kind {w : World} {S : Nat → Prop} {cs : Array Value} {x : Wd} (z : Int) (h : WdO w S (.agg cs) x) : WdO w S (.agg (cs.setIfInBounds 0 (.int .i64 z))) { x with a0 := z } := by
  obtain ⟨po, pc, lo, lc, e, h1, h2⟩ := h
  injection e with e
  subst e
  exact ⟨po, pc, lo, lc, rfl, h1, h2⟩
end Go.Proofs.Yteddhdbglciahaa
