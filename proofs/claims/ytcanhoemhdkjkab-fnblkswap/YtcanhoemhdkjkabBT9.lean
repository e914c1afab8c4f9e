/- BlkMark of the specification: a contract; no statement of the seat is proved here. -/
import Derived.Test.YtcanhoemhdkjkabBT8
namespace Go.Proofs.Ytcanhoemhdkjkab
open Go.RowKit

set_option maxRecDepth 100000 in
set_option maxHeartbeats 1500000 in
theorem specBlkMark_any (ao : Option Addr) (ca : Nat) (xs : List Lc) (d b : Int) (w : World) (hr : RowR w 2 (.slice ao xs.length ca) xs.length (lcells xs)) :
    Calls Try.prog 21 #[.slice ao xs.length ca, .int .i64 d, .int .i64 b] w fun e w' => ∃ v', e = .returned v' ∧ RowA w' w.heap.size 61 2 v' (markR xs d b).length (lcells (markR xs d b)) ∧ Below w.heap.size w w' := by
  obtain ⟨i1, gi, gz0, gz1, gz2⟩ := info_parts infoLc
  have al0 : Below w.heap.size w (w.alloc (.cells #[] 61)) := (Below.refl _ _).alloc (Nat.le_refl _) _
  have Hr := hide hr
  have cK := l3LastOk_any _ xs _ (hr.keep al0)
  cases hok : okC xs
  · have HR : Hid (markR xs d b = []) := by show _ = _; simp [markR, hok]
    rw [hok] at cK
    go_enter Try.func21, Try.ntmps21
    go_wp2_with fail
    refine cK.mono ?_
    rintro e w1 ⟨rfl, b1⟩
    go_wp2
    go_ret
    exact ⟨_, rfl, by rw [HR.out]; exact .inr ⟨rfl, rfl, _, rfl⟩, bAll al0 b1⟩
  · have hl : xs.length ≤ 4 := ok_len hok
    have HOK := hide hok
    rw [hok] at cK
    obtain ⟨g, hg⟩ : ∃ g, callL xs d = g := ⟨_, rfl⟩
    obtain ⟨j1, h1⟩ : ∃ i, inI d 0 3 = i := ⟨_, rfl⟩
    obtain ⟨j2, h2⟩ : ∃ i, inI b 1 99999 = i := ⟨_, rfl⟩
    have HM : Hid (markR xs d b = if (j1 && (j2 && decide (g < b))) = true then insL ordL xs (d, b) else xs) := by show _ = _; rw [markR, if_pos hok, h1, h2, hg]
    have c1 := fun w => l6In_inI d 0 3 w
    have c2 := fun w => l6In_inI b 1 99999 w
    have cC := fun w h => specBlkCall_any ao ca xs d w h
    have hgr : callR xs d = g := by rw [callR, if_pos hok, hg]
    rw [hgr] at cC
    rw [h1] at c1
    rw [h2] at c2
    have H1 := hide h1
    have H2 := hide h2
    clear hgr h1 h2 hg hok
    by_cases hall : (j1 && (j2 && decide (g < b))) = true
    · rw [if_pos hall] at HM
      rw [Bool.and_eq_true, Bool.and_eq_true, decide_eq_true_eq] at hall
      obtain ⟨rfl, rfl, hgb⟩ := hall
      have hin := inI_iff.1 H1.out
      have hin2 := inI_iff.1 H2.out
      have HB := hide (bld_ins HOK.out hin hin2.1)
      have e1 : decide (g ≥ b) = false := by simp; omega
      have e2 : decide (b ≤ g) = false := by simp; omega
      have hn0 := hide (fun c => okC_nonneg HOK.out c)
      clear hin hin2
      go_enter Try.func21, Try.ntmps21
      go_wp2_with fail
      refine cK.mono ?_
      rintro e w1 ⟨rfl, b1⟩
      go_wp2_with fail
      refine (c1 _).mono ?_
      rintro e w' ⟨rfl, rfl⟩
      go_wp2_with fail
      refine (c2 _).mono ?_
      rintro e w' ⟨rfl, rfl⟩
      go_wp2_with fail
      refine (cC _ (Hr.out.keep (bAll al0 b1))).mono ?_
      rintro e w2 ⟨rfl, b2⟩
      clear cK cC c1 c2
      go_wp2
      go_loopw [7, 8] (fun o i wr => ∃ k : Nat, k ≤ 4 ∧ i = .int .i64 k ∧ RowA wr w.heap.size 61 2 o (bldL xs d b k).length (lcells (bldL xs d b k)) ∧ Below w.heap.size w wr) (fun _ i _ => 4 - (intOf i).toNat)
      case atStart => exact ⟨0, Nat.zero_le _, rfl, .inr ⟨rfl, rfl, _, rfl⟩, bAll al0 (bAll b1 b2)⟩
      case round =>
        obtain ⟨k, hk, rfl, hrow, hbel⟩ := hrel
        have HW := hide hrow
        clear hrow
        have hzr := hbel.size
        by_cases hlt : k < 4
        · have hi : (k : Int) < 4 := by omega
          have hol := hide (bld_len xs d b k)
          obtain ⟨u, hu⟩ : ∃ u, callR xs (k : Int) = u := ⟨_, rfl⟩
          have hu' : callL xs (k : Int) = u := by rw [← hu, callR, if_pos HOK.out]
          have cC := specBlkCall_any ao ca xs (k : Int) wr (Hr.out.keep hbel)
          rw [hu] at cC
          have HS : Hid (bldL xs d b (k + 1) = bldL xs d b k ++ (if 0 < (if (k : Int) = d then b else u) then [((k : Int), (if (k : Int) = d then b else u))] else [])) := by show _ = _; rw [bldL]; simp only [nOf, hu']
          clear hu hu'
          by_cases hkd : (k : Int) = d
          · rw [if_pos hkd] at HS
            by_cases hp : 0 < b
            · rw [if_pos hp] at HS
              subst hkd
              go_wp2_with fail
              refine cC.mono ?_
              rintro e w3 ⟨rfl, b3⟩
              have hz3 := b3.size
              go_wp2_with (at_builtin; refine wpList_appendW wr _ rfl _ _ 37 rfl w.heap.size 61 i1 (.agg #[.int .i64 0, .int .i64 0]) 2 16 Try.underlying37 gi gz0 gz1 gz2 rfl (by decide) _ (bldL xs (k : Int) b k).length (lcells (bldL xs (k : Int) b k)) rfl HW.out ?qb ⟨w3.heap.size, 0, none⟩ 1 1 (lcell ((k : Int), b)) rfl rfl ?qn (lcell_one _) (by decide) ?q63 ?qby ?_)
              case qb => first | exact ⟨bAlloc b3 _, hzr⟩ | exact bAlloc b3 _
              case qn => first | exact fun _ _ h => h | exact newC_cells _ _ _
              case q63 => have := hol.out; unfold maxLen; omega
              case qby => have := hol.out; omega
              intro v4 w4 hown u4
              have b4 : Below w.heap.size w w4 := (bAll hbel (bAlloc b3 _)).trans (u4.below (by simp; omega) (fun _ h => h.1))
              go_wp2
              go_roundw
              case rel => exact ⟨k + 1, by omega, by go_num, by rw [HS.out, lcells_snoc, List.length_append]; exact .inl hown, b4⟩
              case measure => simp [intOf]; omega
            · exact absurd (inI_iff.1 H2.out).1 (by omega)
          · rw [if_neg hkd] at HS
            have e3 : ((k : Int) == d) = false := by simpa using hkd
            by_cases hp : 0 < u
            · rw [if_pos hp] at HS
              go_wp2_with fail
              refine cC.mono ?_
              rintro e w3 ⟨rfl, b3⟩
              have hz3 := b3.size
              go_wp2_with (at_builtin; refine wpList_appendW wr _ rfl _ _ 37 rfl w.heap.size 61 i1 (.agg #[.int .i64 0, .int .i64 0]) 2 16 Try.underlying37 gi gz0 gz1 gz2 rfl (by decide) _ (bldL xs d b k).length (lcells (bldL xs d b k)) rfl HW.out ?qb ⟨w3.heap.size, 0, none⟩ 1 1 (lcell ((k : Int), u)) rfl rfl ?qn (lcell_one _) (by decide) ?q63 ?qby ?_)
              case qb => first | exact ⟨bAlloc b3 _, hzr⟩ | exact bAlloc b3 _
              case qn => first | exact fun _ _ h => h | exact newC_cells _ _ _
              case q63 => have := hol.out; unfold maxLen; omega
              case qby => have := hol.out; omega
              intro v4 w4 hown u4
              have b4 : Below w.heap.size w w4 := (bAll hbel (bAlloc b3 _)).trans (u4.below (by simp; omega) (fun _ h => h.1))
              go_wp2
              go_roundw
              case rel => exact ⟨k + 1, by omega, by go_num, by rw [HS.out, lcells_snoc, List.length_append]; exact .inl hown, b4⟩
              case measure => simp [intOf]; omega
            · rw [if_neg hp, List.append_nil] at HS
              have e4 : decide (u > 0) = false := by simp; omega
              have e5 : decide (0 < u) = false := by simp; omega
              go_wp2_with fail
              refine cC.mono ?_
              rintro e w3 ⟨rfl, b3⟩
              go_wp2
              go_roundw
              case rel => exact ⟨k + 1, by omega, by go_num, by rw [HS.out]; exact HW.out.keepB b3, bAll hbel b3⟩
              case measure => simp [intOf]; omega
        · go_wp2
          go_ret
          obtain rfl : k = 4 := by omega
          exact ⟨_, rfl, by rw [HM.out, ← HB.out]; exact HW.out, hbel⟩
    · rw [if_neg hall] at HM
      have hcase : j1 = false ∨ (j1 = true ∧ j2 = false) ∨ (j1 = true ∧ j2 = true ∧ ¬ g < b) := by
        cases j1 <;> cases j2 <;> simp_all
      clear hall
      rcases hcase with rfl | ⟨rfl, rfl⟩ | ⟨rfl, rfl, hge⟩
      · go_enter Try.func21, Try.ntmps21
        go_wp2_with fail
        refine cK.mono ?_
        rintro e w1 ⟨rfl, b1⟩
        go_wp2_with fail
        refine (c1 _).mono ?_
        rintro e w' ⟨rfl, rfl⟩
        have b2' := b1
        go_wp2_with (at_builtin; refine wpList_copyA0 _ rfl _ _ 37 rfl w.heap.size 61 i1 (.agg #[.int .i64 0, .int .i64 0]) 2 16 Try.underlying37 gi gz0 gz1 gz2 rfl (by decide) (some ⟨w.heap.size, 0, none⟩) rfl _ xs.length (lcells xs) rfl ?qrow (lcells_one _) (by omega) (by omega) ?qbase ?_)
        case qrow => exact Hr.out.keep (bAll al0 b2')
        case qbase => have := (bAll al0 b2').size; omega
        intro v6 w6 r6 u6
        have b6 : Below w.heap.size w w6 := bAll3 (bAll al0 b2') u6
        go_wp2
        go_ret
        exact ⟨_, rfl, by rw [HM.out]; exact r6, b6⟩
      · go_enter Try.func21, Try.ntmps21
        go_wp2_with fail
        refine cK.mono ?_
        rintro e w1 ⟨rfl, b1⟩
        go_wp2_with fail
        refine (c1 _).mono ?_
        rintro e w' ⟨rfl, rfl⟩
        go_wp2_with fail
        refine (c2 _).mono ?_
        rintro e w' ⟨rfl, rfl⟩
        have b2' := b1
        go_wp2_with (at_builtin; refine wpList_copyA0 _ rfl _ _ 37 rfl w.heap.size 61 i1 (.agg #[.int .i64 0, .int .i64 0]) 2 16 Try.underlying37 gi gz0 gz1 gz2 rfl (by decide) (some ⟨w.heap.size, 0, none⟩) rfl _ xs.length (lcells xs) rfl ?qrow (lcells_one _) (by omega) (by omega) ?qbase ?_)
        case qrow => exact Hr.out.keep (bAll al0 b2')
        case qbase => have := (bAll al0 b2').size; omega
        intro v6 w6 r6 u6
        have b6 : Below w.heap.size w w6 := bAll3 (bAll al0 b2') u6
        go_wp2
        go_ret
        exact ⟨_, rfl, by rw [HM.out]; exact r6, b6⟩
      · have e1 : decide (g ≥ b) = true := by simp; omega
        have e2 : decide (b ≤ g) = true := by simp; omega
        go_enter Try.func21, Try.ntmps21
        go_wp2_with fail
        refine cK.mono ?_
        rintro e w1 ⟨rfl, b1⟩
        go_wp2_with fail
        refine (c1 _).mono ?_
        rintro e w' ⟨rfl, rfl⟩
        go_wp2_with fail
        refine (c2 _).mono ?_
        rintro e w' ⟨rfl, rfl⟩
        go_wp2_with fail
        refine (cC _ (Hr.out.keep (bAll al0 b1))).mono ?_
        rintro e w2 ⟨rfl, b2⟩
        have b2' := bAll b1 b2
        go_wp2_with (at_builtin; refine wpList_copyA0 _ rfl _ _ 37 rfl w.heap.size 61 i1 (.agg #[.int .i64 0, .int .i64 0]) 2 16 Try.underlying37 gi gz0 gz1 gz2 rfl (by decide) (some ⟨w.heap.size, 0, none⟩) rfl _ xs.length (lcells xs) rfl ?qrow (lcells_one _) (by omega) (by omega) ?qbase ?_)
        case qrow => exact Hr.out.keep (bAll al0 b2')
        case qbase => have := (bAll al0 b2').size; omega
        intro v6 w6 r6 u6
        have b6 : Below w.heap.size w w6 := bAll3 (bAll al0 b2') u6
        go_wp2
        go_ret
        exact ⟨_, rfl, by rw [HM.out]; exact r6, b6⟩

end Go.Proofs.Ytcanhoemhdkjkab
