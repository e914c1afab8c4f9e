/- What the laws FnBlkTwice, FnBlkSwap and FnBlkOld do: their walks; the statements themselves are proved elsewhere. -/
import Derived.Test.YtcanhoemhdkjkabBD3
import Derived.Test.YtcanhoemhdkjkabBM4
namespace Go.Proofs.Ytcanhoemhdkjkab
open Go.RowKit

set_option maxRecDepth 100000 in
set_option maxHeartbeats 2000000 in
theorem lawBlkTwice_walk (bo : Option Addr) (n cap : Nat) (bs : List Nat) (w : World) (h : BytesIn w bo n cap bs) :
    Calls Try.prog 8 #[.slice bo n cap] w fun e w' => e = .returned (.bool true) ∧ Below w.heap.size w w' := by
  by_cases hb1 : (n : Int) > 1048576
  · go_enter Try.func8, Try.ntmps8
    go_wp2
    go_ret
    exact ⟨rfl, Below.refl _ _⟩
  have HB := hide h
  clear h
  go_enter Try.func8, Try.ntmps8
  go_wp2_with fail
  refine (drawBlkPut_any w bo n cap bs HB.out (by omega)).mono ?_
  rintro e w1 ⟨ao, ca, xs, d, b, p, t, rfl, R1, hca, hl, c1⟩
  have cS := fun w h => specBlkPut_any ao ca xs d b p t w h
  have cI := fun w h => implBlkPut_any ao ca xs d b p t w h hca
  have HX : Hid ((putR xs (d, b, p, t)).2 = true → putR (putR xs (d, b, p, t)).1 (d, b, p, t) = ((putR xs (d, b, p, t)).1, true)) := put_twice
  have HL := putR_len xs (d, b, p, t)
  obtain ⟨⟨X, ok⟩, hX⟩ : ∃ q, putR xs (d, b, p, t) = q := ⟨_, rfl⟩
  rw [hX] at cS cI HX HL
  dsimp only at cS cI HL
  clear hX
  replace HX : Hid (ok = true → putR X (d, b, p, t) = (X, true)) := HX
  have HR := hide R1
  clear R1
  go_wp2_with fail
  refine (cS _ HR.out).mono ?_
  rintro e w2 ⟨v2, rfl, W2, b2⟩
  obtain ⟨wo, wc, rfl⟩ := W2.shape
  have RW := hide (W2.row (by omega)).reads
  have c2 := bAll c1 b2
  replace HR := hide (HR.out.keep b2)
  clear W2
  go_wp2_with fail
  refine (cI _ HR.out).mono ?_
  rintro e w3 ⟨v3, rfl, O3, b3⟩
  obtain ⟨xo, xc, rfl, hxc⟩ := owns_shape O3
  have RX := hide (owns_reads O3 (by omega))
  have c3 := bAll c2 b3
  replace RW := hide (RW.out.keep b3)
  clear O3 cS cI
  cases ok
  · go_wp2_with fail
    refine (lpPieces_true _ _ X.length X _ RX.out RW.out).mono ?_
    rintro e w4 ⟨rfl, b4⟩
    go_wp2_with fail
    refine (implBlkPut_any xo xc X d b p t w4 (RX.out.keep b4) hxc).mono ?_
    rintro e w5 ⟨v5, rfl, O5, b5⟩
    go_wp2
    go_ret
    exact ⟨rfl, bAll c3 (bAll b4 b5)⟩
  · have hx := HX.out rfl
    have cI := fun w h => implBlkPut_any xo xc X d b p t w h hxc
    rw [hx] at cI
    dsimp only at cI
    clear hx
    go_wp2_with fail
    refine (lpPieces_true _ _ X.length X _ RX.out RW.out).mono ?_
    rintro e w4 ⟨rfl, b4⟩
    go_wp2_with fail
    refine (cI w4 (RX.out.keep b4)).mono ?_
    rintro e w5 ⟨v5, rfl, O5, b5⟩
    obtain ⟨yo, yc, rfl, hyc⟩ := owns_shape O5
    have RY := hide (owns_reads O5 (by omega))
    clear O5
    go_wp2_with fail
    refine (lpPieces_true _ _ X.length X _ RY.out (RX.out.keep (bAll b4 b5))).mono ?_
    rintro e w6 ⟨rfl, b6⟩
    go_wp2
    go_ret
    exact ⟨rfl, bAll c3 (bAll b4 (bAll b5 b6))⟩

set_option maxRecDepth 100000 in
set_option maxHeartbeats 2000000 in
theorem lawBlkOld_walk (bo : Option Addr) (n cap : Nat) (bs : List Nat) (w : World) (h : BytesIn w bo n cap bs) :
    Calls Try.prog 4 #[.slice bo n cap] w fun e w' => e = .returned (.bool true) ∧ Below w.heap.size w w' := by
  by_cases hb1 : (n : Int) > 1048576
  · go_enter Try.func4, Try.ntmps4
    go_wp2
    go_ret
    exact ⟨rfl, Below.refl _ _⟩
  have HB := hide h
  clear h
  go_enter Try.func4, Try.ntmps4
  go_wp2_with fail
  refine (drawBlkPut_any w bo n cap bs HB.out (by omega)).mono ?_
  rintro e w1 ⟨ao, ca, xs, d, b, p, t, rfl, R1, hca, hl, c1⟩
  have cS := fun w h => specBlkPut_any ao ca xs d b p t w h
  have cI := fun w h => implBlkPut_any ao ca xs d b p t w h hca
  have HX : Hid ((putR xs (d, b, p, t)).2 = true → ∀ k : Int, k < p → getR (putR xs (d, b, p, t)).1 d b k = getR xs d b k) := fun h k hk => by
    obtain ⟨h1, h2, h3⟩ := put_yes h
    rw [h2]
    exact put_other h1 h3 (.inr (.inr hk))
  have HL := putR_len xs (d, b, p, t)
  obtain ⟨⟨X, ok⟩, hX⟩ : ∃ q, putR xs (d, b, p, t) = q := ⟨_, rfl⟩
  rw [hX] at cS cI HX HL
  dsimp only at cS cI HL
  clear hX
  replace HX : Hid (ok = true → ∀ k : Int, k < p → getR X d b k = getR xs d b k) := HX
  have HR := hide R1
  clear R1
  go_wp2_with fail
  refine (cS _ HR.out).mono ?_
  rintro e w2 ⟨v2, rfl, W2, b2⟩
  obtain ⟨wo, wc, rfl⟩ := W2.shape
  have c2 := bAll c1 b2
  replace HR := hide (HR.out.keep b2)
  clear W2
  go_wp2_with fail
  refine (cI _ HR.out).mono ?_
  rintro e w3 ⟨v3, rfl, O3, b3⟩
  obtain ⟨xo, xc, rfl, hxc⟩ := owns_shape O3
  have RX := hide (owns_reads O3 (by omega))
  have c3 := bAll c2 b3
  replace HR := hide (HR.out.keep b3)
  clear O3 cS cI
  have hok : (ok == ok) = true := by simp
  cases ok
  · go_wp2
    refine wp_loop_rounds 1 ?_
    rw [rounds_succ]
    by_cases hp : (0 : Int) < p
    · go_wp2
      go_ret
      exact ⟨rfl, c3⟩
    · go_wp2
      go_ret
      exact ⟨rfl, c3⟩
  · go_wp2
    go_loopw [12] (fun i wr => ∃ k : Nat, k ≤ 9 ∧ i = .int .i64 k ∧ Below w3.heap.size w3 wr) (fun i _ => 9 - (intOf i).toNat)
    case atStart => exact ⟨0, Nat.zero_le _, rfl, Below.refl _ _⟩
    case round =>
      obtain ⟨k, hk, rfl, hbel⟩ := hrel
      by_cases hp : (k : Int) < p
      · by_cases h9 : k < 9
        · have hi : (k : Int) < 9 := by omega
          have e1 := HX.out (by trivial) (k : Int) hp
          have g1 := implBlkGet_any xo xc X d b (k : Int) wr (RX.out.keep hbel)
          rw [e1] at g1
          clear e1
          go_wp2_with fail
          refine g1.mono ?_
          rintro e w4 ⟨rfl, b4⟩
          go_wp2_with fail
          refine (specBlkGet_any ao ca xs d b (k : Int) w4 (HR.out.keep (bAll hbel b4))).mono ?_
          rintro e w5 ⟨rfl, b5⟩
          go_wp2
          go_roundw
          case rel => exact ⟨k + 1, by omega, by go_num, bAll hbel (bAll b4 b5)⟩
          case measure => simp [intOf]; omega
        · have hi : ¬ (k : Int) < 9 := by omega
          go_wp2
          go_ret
          exact ⟨rfl, bAll c3 hbel⟩
      · go_wp2
        go_ret
        exact ⟨rfl, bAll c3 hbel⟩

set_option maxRecDepth 100000 in
set_option maxHeartbeats 4000000 in
theorem lawBlkSwap_walk (bo : Option Addr) (n cap : Nat) (bs : List Nat) (bo' : Option Addr) (n' cap' : Nat) (bs' : List Nat) (w : World) (h : BytesIn w bo n cap bs) (h' : BytesIn w bo' n' cap' bs') :
    Calls Try.prog 7 #[.slice bo n cap, .slice bo' n' cap'] w fun e w' => e = .returned (.bool true) ∧ Below w.heap.size w w' := by
  by_cases hb1 : (n : Int) > 1048576
  · go_enter Try.func7, Try.ntmps7
    go_wp2
    go_ret
    exact ⟨rfl, Below.refl _ _⟩
  by_cases hb2 : (n' : Int) > 1048576
  · go_enter Try.func7, Try.ntmps7
    go_wp2
    go_ret
    exact ⟨rfl, Below.refl _ _⟩
  have HB := hide h
  have HB' := hide h'
  clear h h'
  go_enter Try.func7, Try.ntmps7
  go_wp2_with fail
  refine (drawBlkPut_any w bo n cap bs HB.out (by omega)).mono ?_
  rintro e w0 ⟨ao, ca, xs, d, b, p, t, rfl, R0, hca, hl, c0⟩
  have HR := hide R0
  clear R0
  go_wp2_with fail
  refine (drawBlkPut_any w0 bo' n' cap' bs' (HB'.out.keep c0) (by omega)).mono ?_
  rintro e w1 ⟨ao', ca', xs', d', b', p', t', rfl, R1', hca', hl', b1⟩
  replace HR := hide (HR.out.keep b1)
  have c1 := bAll c0 b1
  clear R1'
  have cS := fun w h => specBlkPut_any ao ca xs d b p t w h
  have cI := fun w h => implBlkPut_any ao ca xs d b p t w h hca
  have cJ := fun w h => implBlkPut_any ao ca xs d' b' p' t' w h hca
  have HX : Hid (ordP (d, b, p, t) (d', b', p', t') ≠ 0 → (putR xs (d, b, p, t)).2 = true → (putR (putR xs (d, b, p, t)).1 (d', b', p', t')).2 = true → (putR xs (d', b', p', t')).2 = true → (putR (putR xs (d', b', p', t')).1 (d, b, p, t)).2 = true → (putR (putR xs (d, b, p, t)).1 (d', b', p', t')).1 = (putR (putR xs (d', b', p', t')).1 (d, b, p, t)).1) := put_swap
  have HL := putR_len xs (d, b, p, t)
  have HL' := putR_len xs (d', b', p', t')
  obtain ⟨⟨X, ok⟩, hX⟩ : ∃ q, putR xs (d, b, p, t) = q := ⟨_, rfl⟩
  obtain ⟨⟨Y, ok'⟩, hY⟩ : ∃ q, putR xs (d', b', p', t') = q := ⟨_, rfl⟩
  rw [hX] at cS cI HX HL
  rw [hY] at cJ HX HL'
  dsimp only at cS cI cJ HL HL'
  clear hX hY
  have cX := fun xo xc hxc w h => implBlkPut_any xo xc X d' b' p' t' w h hxc
  have cY := fun xo xc hxc w h => implBlkPut_any xo xc Y d b p t w h hxc
  have HM := putR_len X (d', b', p', t')
  have HM' := putR_len Y (d, b, p, t)
  replace HX : Hid (ordP (d, b, p, t) (d', b', p', t') ≠ 0 → ok = true → (putR X (d', b', p', t')).2 = true → ok' = true → (putR Y (d, b, p, t)).2 = true → (putR X (d', b', p', t')).1 = (putR Y (d, b, p, t)).1) := HX
  obtain ⟨⟨U, ku⟩, hU⟩ : ∃ q, putR X (d', b', p', t') = q := ⟨_, rfl⟩
  obtain ⟨⟨V, kv⟩, hV⟩ : ∃ q, putR Y (d, b, p, t) = q := ⟨_, rfl⟩
  rw [hU] at cX HX HM
  rw [hV] at cY HX HM'
  dsimp only at cX cY HM HM'
  replace HX : Hid (ordP (d, b, p, t) (d', b', p', t') ≠ 0 → ok = true → ku = true → ok' = true → kv = true → U = V) := HX
  clear hU hV
  have HO : Hid (ordP (d, b, p, t) (d', b', p', t') = 0 ↔ d = d' ∧ b = b' ∧ p = p') := ordP_zero
  go_wp2_with fail
  refine (cS _ HR.out).mono ?_
  rintro e w2 ⟨v2, rfl, W2, b2⟩
  obtain ⟨wo, wc, rfl⟩ := W2.shape
  have RW := hide (W2.row (by omega)).reads
  have c2 := bAll c1 b2
  replace HR := hide (HR.out.keep b2)
  clear W2
  go_wp2_with fail
  refine (cI _ HR.out).mono ?_
  rintro e w3 ⟨v3, rfl, O3, b3⟩
  obtain ⟨xo, xc, rfl, hxc⟩ := owns_shape O3
  have RX := hide (owns_reads O3 (by omega))
  have c3 := bAll c2 b3
  replace RW := hide (RW.out.keep b3)
  replace HR := hide (HR.out.keep b3)
  clear O3 cS cI
  rcases (by omega : (d = d' ∧ b = b' ∧ p = p') ∨ (d ≠ d' ∨ (d = d' ∧ b ≠ b') ∨ (d = d' ∧ b = b' ∧ p ≠ p'))) with ⟨h1, h2, h3⟩ | hne
  · subst h1 h2 h3
    cases ok <;> (
      go_wp2_with fail
      refine (lpPieces_true _ _ X.length X _ RX.out RW.out).mono ?_
      rintro e w4 ⟨rfl, b4⟩
      go_wp2_with fail
      refine (lpPieces_true _ _ X.length X _ (RX.out.keep b4) (RW.out.keep b4)).mono ?_
      rintro e w5 ⟨rfl, b5⟩
      go_wp2
      go_ret
      exact ⟨rfl, bAll c3 (bAll b4 b5)⟩)
  · have HN : Hid (ok = true → ku = true → ok' = true → kv = true → U = V) := HX.out (fun e => by have := HO.out.1 e; omega)
    clear HX HO
    rcases hne with h1 | ⟨h1, h2⟩ | ⟨h1, h2, h3⟩
    all_goals
      try (have e1 : (d == d') = false := by simpa using h1)
      try (have e2 : (b == b') = false := by simpa using h2)
      try (have e3 : (p == p') = false := by simpa using h3)
      try subst h1
      try subst h2
      cases ok
      · go_wp2_with fail
        refine (lpPieces_true _ _ X.length X _ RX.out RW.out).mono ?_
        rintro e w4 ⟨rfl, b4⟩
        go_wp2_with fail
        refine (cX xo xc hxc w4 (RX.out.keep b4)).mono ?_
        rintro e w5 ⟨v5, rfl, O5, b5⟩
        obtain ⟨uo, uc, rfl, huc⟩ := owns_shape O5
        go_wp2_with fail
        refine (cJ w5 (HR.out.keep (bAll b4 b5))).mono ?_
        rintro e w6 ⟨v6, rfl, O6, b6⟩
        obtain ⟨yo, yc, rfl, hyc⟩ := owns_shape O6
        go_wp2_with fail
        refine (cY yo yc hyc w6 (owns_reads O6 (by omega))).mono ?_
        rintro e w7 ⟨v7, rfl, O7, b7⟩
        go_wp2
        go_ret
        exact ⟨rfl, bAll c3 (bAll b4 (bAll b5 (bAll b6 b7)))⟩
      · go_wp2_with fail
        refine (lpPieces_true _ _ X.length X _ RX.out RW.out).mono ?_
        rintro e w4 ⟨rfl, b4⟩
        go_wp2_with fail
        refine (cX xo xc hxc w4 (RX.out.keep b4)).mono ?_
        rintro e w5 ⟨v5, rfl, O5, b5⟩
        obtain ⟨uo, uc, rfl, huc⟩ := owns_shape O5
        have RU := hide (owns_reads O5 (by omega))
        clear O5
        go_wp2_with fail
        refine (cJ w5 (HR.out.keep (bAll b4 b5))).mono ?_
        rintro e w6 ⟨v6, rfl, O6, b6⟩
        obtain ⟨yo, yc, rfl, hyc⟩ := owns_shape O6
        go_wp2_with fail
        refine (cY yo yc hyc w6 (owns_reads O6 (by omega))).mono ?_
        rintro e w7 ⟨v7, rfl, O7, b7⟩
        obtain ⟨vo, vc, rfl, hvc⟩ := owns_shape O7
        have RV := hide (owns_reads O7 (by omega))
        clear O6 O7 cX cY cJ
        have cA := bAll c3 (bAll b4 (bAll b5 (bAll b6 b7)))
        replace RU := hide (RU.out.keep (bAll b6 b7))
        cases ku
        · go_wp2
          go_ret
          exact ⟨rfl, cA⟩
        cases ok'
        · go_wp2
          go_ret
          exact ⟨rfl, cA⟩
        cases kv
        · go_wp2
          go_ret
          exact ⟨rfl, cA⟩
        have hUV : U = V := by simpa using HN.out
        subst hUV
        go_wp2_with fail
        refine (lpPieces_true _ _ U.length U _ RU.out RV.out).mono ?_
        rintro e w8 ⟨rfl, b8⟩
        go_wp2
        go_ret
        exact ⟨rfl, bAll cA b8⟩

end Go.Proofs.Ytcanhoemhdkjkab
