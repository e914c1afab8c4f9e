/- blkInForm, BlkCall and BlkMark of the program: contracts; no statement of the seat is proved here. -/
import Derived.Test.YtcanhoemhdkjkabBT6
import Derived.Test.YtcanhoemhdkjkabBM3
import Derived.Test.YtcanhoemhdkjkabBS7
namespace Go.Proofs.Ytcanhoemhdkjkab
open Go.RowKit

set_option maxHeartbeats 1000000 in
theorem inForm_any (v : Value) (xs : List Lc) (w : World) (hr : RowR w 2 v xs.length (lcells xs)) :
    Calls Try.prog 40 #[v] w fun e w' => e = .returned (.bool (okC xs)) ∧ Below w.heap.size w w' := by
  have Hr := hide hr
  obtain ⟨ao, ca, rfl, hn, -⟩ := hr
  obtain ⟨R, HR⟩ : ∃ R, Hid (okC xs = R) := ⟨_, rfl⟩
  rw [HR.out]
  obtain ⟨n, hnn⟩ : ∃ n, xs.length = n := ⟨_, rfl⟩
  have Hl := hide hnn
  rw [hnn] at hn Hr ⊢
  clear hnn
  by_cases hlong : (n : Int) ≤ 4
  · obtain ⟨q, hq⟩ : ∃ q, (List.range n).all (goodAt fitL ordL xs) = q := ⟨_, rfl⟩
    have cS := sortedC_any _ n xs w Hr.out
    rw [hq] at cS
    have HQ : Hid (R = q) := by
      show _ = _
      rw [← HR.out, ← hq, okC, okL, Hl.out]
      simp
      omega
    clear hq
    go_enter Try.func40, Try.ntmps40
    go_wp2_with fail
    refine cS.mono ?_
    rintro e w1 ⟨rfl, b1⟩
    go_wp2
    go_ret
    exact ⟨by rw [HQ.out]; rfl, b1⟩
  · have hno : Hid (R = false) := by show _ = _; rw [← HR.out]; exact okL_long (by rw [Hl.out]; omega)
    go_enter Try.func40, Try.ntmps40
    go_wp2
    go_ret
    exact ⟨by rw [hno.out]; rfl, Below.refl _ _⟩

set_option maxHeartbeats 2000000 in
theorem implBlkCall_any (ao : Option Addr) (ca : Nat) (xs : List Lc) (d : Int) (w : World) (hr : RowR w 2 (.slice ao xs.length ca) xs.length (lcells xs)) :
    Calls Try.prog 24 #[.slice ao xs.length ca, .int .i64 d] w fun e w' => e = .returned (.int .i64 (callR xs d)) ∧ Below w.heap.size w w' := by
  have Hr := hide hr
  have cK := inForm_any _ xs w hr
  cases hok : okC xs
  · have HR : Hid (callR xs d = 0) := by show _ = _; simp [callR, hok]
    rw [hok] at cK
    go_enter Try.func24, Try.ntmps24
    go_wp2_with fail
    refine cK.mono ?_
    rintro e w1 ⟨rfl, b1⟩
    go_wp2
    go_ret
    exact ⟨by rw [HR.out]; rfl, b1⟩
  · have HR : Hid (callR xs d = callL xs d) := by show _ = _; simp [callR, hok]
    have hl : xs.length ≤ 4 := ok_len hok
    have ha := ok_asc ordOkL hok
    rw [hok] at cK
    have HA := hide ha
    obtain ⟨_, _, e0, hn, -, hr⟩ := hr
    injection e0 with e1 e2 e3
    subst e1 e3
    obtain ⟨n, hnn⟩ : ∃ n, xs.length = n := ⟨_, rfl⟩
    have Hl := hide hnn
    have cF := fun w h => findC_any (.slice ao xs.length ca) xs (d, 0) w h (by omega) ha
    rw [hnn] at cF hn hl hr Hr cK ⊢
    clear hnn hok ha e2
    go_enter Try.func24, Try.ntmps24
    go_wp2_with fail
    refine cK.mono ?_
    rintro e w1 ⟨rfl, b1⟩
    go_wp2_with fail
    refine (cF _ (Hr.out.keep b1)).mono ?_
    rintro e w2 ⟨q, there, rfl, hat, b2⟩
    clear cF cK
    have b12 := bAll b1 b2
    cases there
    · have HG := hide (call_off HA.out hat)
      clear hr
      go_wp2
      go_ret
      exact ⟨by rw [HR.out, HG.out]; rfl, b12⟩
    · obtain ⟨y, hy, -⟩ := hat.th.1 rfl
      have hqn : q < n := by have := (List.getElem?_eq_some_iff.1 hy).1; have := Hl.out; omega
      obtain ⟨bb, oo, rfl, hc⟩ := hr (by omega)
      have HG := hide (call_here HA.out hat hy)
      obtain ⟨f0, f1, l1⟩ := lc_cells hc hy b12
      obtain ⟨d', b'⟩ := y
      have hmi : (q : Int) < (n : Int) := by omega
      clear hr hc hy
      go_wp2
      go_ret
      exact ⟨by rw [HR.out, HG.out]; rfl, b12⟩

set_option maxHeartbeats 2000000 in
theorem implBlkMark_any (ao : Option Addr) (ca : Nat) (xs : List Lc) (d b : Int) (w : World) (hr : RowR w 2 (.slice ao xs.length ca) xs.length (lcells xs)) (hca : xs.length ≤ ca) :
    Calls Try.prog 22 #[.slice ao xs.length ca, .int .i64 d, .int .i64 b] w fun e w' => ∃ v', e = .returned v' ∧ w'.ownsRow w.heap.size 61 2 v' (markR xs d b).length (lcells (markR xs d b)) ∧ Below w.heap.size w w' := by
  have Hr := hide hr
  have cK := inForm_any _ xs w hr
  obtain ⟨_, _, _, hn, -⟩ := hr
  cases hok : okC xs
  · have HR : Hid (markR xs d b = []) := by show _ = _; simp [markR, hok]
    rw [hok] at cK
    go_enter Try.func22, Try.ntmps22
    go_wp2_with fail
    refine cK.mono ?_
    rintro e w1 ⟨rfl, b1⟩
    go_wp2
    go_ret
    exact ⟨_, rfl, by rw [HR.out]; exact World.ownsRow_nil _ _ _ _, b1⟩
  · have hl : xs.length ≤ 4 := ok_len hok
    have ha := ok_asc ordOkL hok
    have HM := hide (markR_prog xs d b hok)
    rw [hok] at cK
    have cW := fun w h => withC_any ao ca xs (d, b) w h hca (by omega) ha
    have cC := fun w h => implBlkCall_any ao ca xs d w h
    obtain ⟨ys, hys⟩ : ∃ ys, insL ordL xs (d, b) = ys := ⟨_, rfl⟩
    obtain ⟨g, hg⟩ : ∃ g, callL xs d = g := ⟨_, rfl⟩
    have hgr : callR xs d = g := by rw [callR, if_pos hok, hg]
    rw [hgr] at cC
    rw [hys, hg] at HM
    have hyl : ys.length ≤ 5 := by rw [← hys]; have := ins_len (ord := ordL) xs (d, b); omega
    rw [hys] at cW
    clear hys hg hgr
    by_cases hle : b ≤ g
    · rw [if_pos hle] at HM
      go_enter Try.func22, Try.ntmps22
      go_wp2_with fail
      refine cK.mono ?_
      rintro e w1 ⟨rfl, b1⟩
      go_wp2_with fail
      refine (cW _ (Hr.out.keep b1)).mono ?_
      rintro e w2 ⟨v2, rfl, r2, b2⟩
      go_wp2_with fail
      refine (cC _ (Hr.out.keep (bAll b1 b2))).mono ?_
      rintro e w3 ⟨rfl, b3⟩
      go_wp2_with fail
      refine (copyC_any _ xs.length (lcells xs) _ (Hr.out.keep (bAll b1 (bAll b2 b3))) (lcells_one _) (by omega)).mono ?_
      rintro e w4 ⟨v4, rfl, r4, b4⟩
      go_wp2
      go_ret
      exact ⟨_, rfl, by rw [HM.out]; exact owns_mono r4 (bAll b1 (bAll b2 b3)).size, bAll b1 (bAll b2 (bAll b3 b4))⟩
    · rw [if_neg hle] at HM
      have hd1 : decide (b ≤ g) = false := by simpa using hle
      cases hok2 : okC ys
      · rw [hok2, if_neg (by simp)] at HM
        go_enter Try.func22, Try.ntmps22
        go_wp2_with fail
        refine cK.mono ?_
        rintro e w1 ⟨rfl, b1⟩
        go_wp2_with fail
        refine (cW _ (Hr.out.keep b1)).mono ?_
        rintro e w2 ⟨v2, rfl, r2, b2⟩
        go_wp2_with fail
        refine (cC _ (Hr.out.keep (bAll b1 b2))).mono ?_
        rintro e w3 ⟨rfl, b3⟩
        go_wp2_with fail
        refine (inForm_any _ ys _ (owns_reads (owns_keep r2 b3) (by omega))).mono ?_
        rintro e w3x ⟨rfl, b3x⟩
        rw [hok2]
        replace b3 := bAll b3 b3x
        go_wp2_with fail
        refine (copyC_any _ xs.length (lcells xs) _ (Hr.out.keep (bAll b1 (bAll b2 b3))) (lcells_one _) (by omega)).mono ?_
        rintro e w4 ⟨v4, rfl, r4, b4⟩
        go_wp2
        go_ret
        exact ⟨_, rfl, by rw [HM.out]; exact owns_mono r4 (bAll b1 (bAll b2 b3)).size, bAll b1 (bAll b2 (bAll b3 b4))⟩
      · rw [hok2, if_pos rfl] at HM
        go_enter Try.func22, Try.ntmps22
        go_wp2_with fail
        refine cK.mono ?_
        rintro e w1 ⟨rfl, b1⟩
        go_wp2_with fail
        refine (cW _ (Hr.out.keep b1)).mono ?_
        rintro e w2 ⟨v2, rfl, r2, b2⟩
        go_wp2_with fail
        refine (cC _ (Hr.out.keep (bAll b1 b2))).mono ?_
        rintro e w3 ⟨rfl, b3⟩
        go_wp2_with fail
        refine (inForm_any _ ys _ (owns_reads (owns_keep r2 b3) (by omega))).mono ?_
        rintro e w3x ⟨rfl, b3x⟩
        rw [hok2]
        replace b3 := bAll b3 b3x
        go_wp2
        go_ret
        exact ⟨_, rfl, by rw [HM.out]; exact owns_mono (owns_keep r2 b3) b1.size, bAll b1 (bAll b2 b3)⟩

end Go.Proofs.Ytcanhoemhdkjkab
