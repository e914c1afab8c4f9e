/- What the laws FnBlkDrop and FnBlkMark do: their walks; the statements themselves are proved elsewhere. -/
import Derived.Test.YtcanhoemhdkjkabBD3
import Derived.Test.YtcanhoemhdkjkabBM4
namespace Go.Proofs.Ytcanhoemhdkjkab
open Go.RowKit

theorem offP_len (d : Int) (xs : List Pc) : (offP d xs).length ≤ xs.length := List.length_filter_le _ _

set_option maxRecDepth 100000 in
set_option maxHeartbeats 2000000 in
theorem lawBlkDrop_walk (bo : Option Addr) (n cap : Nat) (bs : List Nat) (w : World) (h : BytesIn w bo n cap bs) :
    Calls Try.prog 5 #[.slice bo n cap] w fun e w' => e = .returned (.bool true) ∧ Below w.heap.size w w' := by
  by_cases hb1 : (n : Int) > 1048576
  · go_enter Try.func5, Try.ntmps5
    go_wp2
    go_ret
    exact ⟨rfl, Below.refl _ _⟩
  have HB := hide h
  clear h
  go_enter Try.func5, Try.ntmps5
  go_wp2_with fail
  refine (drawBlkDrop_any w bo n cap bs HB.out (by omega)).mono ?_
  rintro e w1 ⟨ao, ca, xs, d, rfl, R1, hca, hl, c1⟩
  have cS := fun w h => specBlkDrop_any ao ca xs d w h
  have cI := fun w h => implBlkDrop_any ao ca xs d w h
  have cK := fun v w h => specBlkOk_any v xs w h
  have HX : Hid (okP xs = true → dropR xs d = offP d xs) := fun h => by rw [dropR, if_pos h]
  have HL : (dropR xs d).length ≤ 61 := by
    unfold dropR
    split
    · have := offP_len d xs; omega
    · simp
  obtain ⟨X, hX⟩ : ∃ q, dropR xs d = q := ⟨_, rfl⟩
  obtain ⟨ok, hok⟩ : ∃ q, okP xs = q := ⟨_, rfl⟩
  rw [hX] at cS cI HX HL
  rw [hok] at cK
  have HK := hide hok
  clear hX hok
  have HR := hide R1
  clear R1
  go_wp2_with fail
  refine (cS _ HR.out).mono ?_
  rintro e w2 ⟨v2, rfl, W2, b2⟩
  obtain ⟨wo, wc, rfl⟩ := W2.shape
  have RW := hide (W2.row (by omega)).reads
  have c2 := bAll c1 b2
  replace HR := hide (HR.out.keep b2)
  clear W2
  go_wp2_with fail
  refine (cK _ _ HR.out).mono ?_
  rintro e w2' ⟨rfl, b2'⟩
  replace RW := hide (RW.out.keep b2')
  replace HR := hide (HR.out.keep b2')
  replace c2 := bAll c2 b2'
  go_wp2_with fail
  refine (cI _ HR.out).mono ?_
  rintro e w3 ⟨v3, rfl, O3, b3⟩
  obtain ⟨xo, xc, rfl, hxc⟩ := owns_shape O3
  have RX := hide (owns_reads O3 (by omega))
  have c3 := bAll c2 b3
  replace RW := hide (RW.out.keep b3)
  replace HR := hide (HR.out.keep b3)
  clear O3 cS cI cK
  cases ok
  · go_wp2_with fail
    refine (lpPieces_true _ _ X.length X _ RX.out RW.out).mono ?_
    rintro e w4 ⟨rfl, b4⟩
    go_wp2_with fail
    refine (lpPieces_true _ _ X.length X _ (RX.out.keep b4) (RW.out.keep b4)).mono ?_
    rintro e w5 ⟨rfl, b5⟩
    go_wp2
    go_ret
    exact ⟨rfl, bAll c3 (bAll b4 b5)⟩
  · have hx := HX.out HK.out
    subst hx
    have HG : Hid (∀ y ∈ xs, getR (offP d xs) y.1 y.2.1 y.2.2.1 = if y.1 = d then 0 else y.2.2.2) := fun y hy => off_get HK.out hy
    have HN : Hid (∀ y ∈ offP d xs, y.1 ≠ d) := off_ne
    have HO := off_ok (d := d) HK.out
    obtain ⟨X, hX⟩ : ∃ q, offP d xs = q := ⟨_, rfl⟩
    rw [hX] at HG HN HO RX RW HL hxc
    rw [hX]
    clear HX hX
    have HO' := hide HO
    clear HO
    go_wp2_with fail
    refine (lpPieces_true _ _ X.length X _ RX.out RW.out).mono ?_
    rintro e w4 ⟨rfl, b4⟩
    clear RW
    replace RX := hide (RX.out.keep b4)
    replace HR := hide (HR.out.keep b4)
    have c4 := bAll c3 b4
    obtain ⟨m, hm⟩ : ∃ m, xs.length = m := ⟨_, rfl⟩
    have Hm := hide hm
    obtain ⟨m', hm'⟩ : ∃ m, X.length = m := ⟨_, rfl⟩
    have Hm' := hide hm'
    rw [hm] at HR hl hca ⊢
    rw [hm'] at RX HL hxc ⊢
    clear hm hm'
    obtain ⟨_, _, e0, hn, -, hr⟩ := HR.out
    injection e0 with e1 e2 e3
    subst e1 e3
    clear e2
    obtain ⟨_, _, e0, hn', -, hr'⟩ := RX.out
    injection e0 with e1 e2 e3
    subst e1 e3
    clear e2
    have HC := hide hr
    have HC' := hide hr'
    clear hr hr'
    go_wp2
    go_loopw [8] (fun i wr => ∃ k : Nat, k ≤ m ∧ i = .int .i64 k ∧ Below w4.heap.size w4 wr) (fun i _ => m - (intOf i).toNat)
    case atStart => exact ⟨0, Nat.zero_le _, rfl, Below.refl _ _⟩
    case round =>
      obtain ⟨k, hk, rfl, hbel⟩ := hrel
      by_cases hlt : k < m
      · obtain ⟨bb, oo, rfl, hc⟩ := HC.out (by omega)
        obtain ⟨y, hy⟩ := getAt xs k (by have := Hm.out; omega)
        obtain ⟨f0, f1, f2, f3, l1⟩ := pc_cells hc hy hbel
        have hg := HG.out y (List.mem_of_getElem? hy)
        obtain ⟨d', b', p', t'⟩ := y
        have hmi : (k : Int) < (m : Int) := by omega
        clear hc hy
        dsimp only at hg f0 f1 f2 f3
        have aly : Below wr.heap.size wr (wr.alloc (.cells #[.int .i64 d', .int .i64 b', .int .i64 p', .int .i64 t'] 31)) := (Below.refl _ _).alloc (Nat.le_refl _) _
        have BY := hide (al1_0 wr (.cells #[.int .i64 d', .int .i64 b', .int .i64 p', .int .i64 t'] 31))
        have cG := fun w h => implBlkGet_any xo xc X d' b' p' w h
        rw [hg] at cG
        rw [Hm'.out] at cG
        clear hg
        by_cases hd : d' = d
        · subst hd
          rw [if_pos rfl] at cG
          go_wp2_with fail
          refine (cG _ (RX.out.keep (bAll hbel aly))).mono ?_
          rintro e w5 ⟨rfl, b5⟩
          obtain ⟨y0, y1, y2, y3⟩ := box4 (bKeeps b5 BY.out)
          go_wp2
          go_roundw
          case rel => exact ⟨k + 1, by omega, by go_num, bAll hbel (bAll aly b5)⟩
          case measure => simp [intOf]; omega
        · rw [if_neg hd] at cG
          have e1 : (d' == d) = false := by simpa using hd
          go_wp2_with fail
          refine (cG _ (RX.out.keep (bAll hbel aly))).mono ?_
          rintro e w5 ⟨rfl, b5⟩
          obtain ⟨y0, y1, y2, y3⟩ := box4 (bKeeps b5 BY.out)
          go_wp2
          go_roundw
          case rel => exact ⟨k + 1, by omega, by go_num, bAll hbel (bAll aly b5)⟩
          case measure => simp [intOf]; omega
      · go_wp2
        have c5 := bAll c4 hbel
        obtain ⟨V, hV⟩ : ∃ V, V = wr := ⟨_, rfl⟩
        go_loopw [11] (fun i wr' => ∃ k : Nat, k ≤ m' ∧ i = .int .i64 k ∧ Below w4.heap.size w4 wr') (fun i _ => m' - (intOf i).toNat)
        case atStart => exact ⟨0, Nat.zero_le _, rfl, hbel⟩
        case round =>
          obtain ⟨k2, hk2, rfl, hbel2⟩ := hrel
          by_cases hlt2 : k2 < m'
          · obtain ⟨bb, oo, rfl, hc⟩ := HC'.out (by omega)
            obtain ⟨y, hy⟩ := getAt X k2 (by have := Hm'.out; omega)
            obtain ⟨f0, f1, f2, f3, l1⟩ := pc_cells hc hy hbel2
            have hg := HN.out y (List.mem_of_getElem? hy)
            obtain ⟨d', b', p', t'⟩ := y
            have hmi : (k2 : Int) < (m' : Int) := by omega
            clear hc hy
            dsimp only at hg f0 f1 f2 f3
            have e1 : (d' == d) = false := by simpa using hg
            go_wp2
            go_roundw
            case rel => exact ⟨k2 + 1, by omega, by go_num, hbel2⟩
            case measure => simp [intOf]; omega
          · have cK := fun v w h => implBlkOk_any v X w h
            rw [HO'.out, Hm'.out] at cK
            go_wp2_with fail
            refine (cK _ _ (RX.out.keep hbel2)).mono ?_
            rintro e w6 ⟨rfl, b6⟩
            go_wp2
            go_ret
            exact ⟨rfl, bAll c4 (bAll hbel2 b6)⟩

set_option maxRecDepth 100000 in
set_option maxHeartbeats 2000000 in
theorem lawBlkMark_walk (bo : Option Addr) (n cap : Nat) (bs : List Nat) (w : World) (h : BytesIn w bo n cap bs) :
    Calls Try.prog 6 #[.slice bo n cap] w fun e w' => e = .returned (.bool true) ∧ Below w.heap.size w w' := by
  by_cases hb1 : (n : Int) > 1048576
  · go_enter Try.func6, Try.ntmps6
    go_wp2
    go_ret
    exact ⟨rfl, Below.refl _ _⟩
  have HB := hide h
  clear h
  go_enter Try.func6, Try.ntmps6
  go_wp2_with fail
  refine (drawBlkMark_any w bo n cap bs HB.out (by omega)).mono ?_
  rintro e w1 ⟨ao, ca, xs, c, l, rfl, hl11, R1, hca, hl, c1⟩
  have cS := fun w h => specBlkMark_any ao ca xs c (l : Int) w h
  have cI := fun w h => implBlkMark_any ao ca xs c (l : Int) w h hca
  have HX : Hid (∀ k : Int, 0 ≤ k ∧ k ≤ 3 → (callR xs k ≤ callR (markR xs c (l : Int)) k) ∧ (k ≠ c → callR (markR xs c (l : Int)) k = callR xs k) ∧ (k = c → 0 < (markR xs c (l : Int)).length → 0 < (l : Int) → (l : Int) ≤ callR (markR xs c (l : Int)) k)) := fun k hk => mark_law (by omega) hk
  have HL := markR_len xs c (l : Int)
  obtain ⟨X, hX⟩ : ∃ q, markR xs c (l : Int) = q := ⟨_, rfl⟩
  rw [hX] at cS cI HX HL
  clear hX
  have HR := hide R1
  clear R1
  go_wp2_with fail
  refine (cS _ HR.out).mono ?_
  rintro e w2 ⟨v2, rfl, W2, b2⟩
  obtain ⟨wo, wc, rfl⟩ := W2.shape
  have RW := hide (W2.row (by omega)).reads
  have c2 := bAll c1 b2
  replace HR := hide (HR.out.keep b2)
  clear W2
  go_wp2_with fail
  refine (cI _ HR.out).mono ?_
  rintro e w3 ⟨v3, rfl, O3, b3⟩
  obtain ⟨xo, xc, rfl, hxc⟩ := owns_shape O3
  have RX := hide (owns_reads O3 (by omega))
  have c3 := bAll c2 b3
  replace RW := hide (RW.out.keep b3)
  replace HR := hide (HR.out.keep b3)
  clear O3 cS cI
  go_wp2_with fail
  refine (lpLast_true _ _ X.length X _ RX.out RW.out).mono ?_
  rintro e w4 ⟨rfl, b4⟩
  clear RW
  replace RX := hide (RX.out.keep b4)
  replace HR := hide (HR.out.keep b4)
  have c4 := bAll c3 b4
  go_wp2
  go_loopw [8] (fun i wr => ∃ (k : Nat) (kk : Int), kk = k ∧ k ≤ 4 ∧ i = .int .i64 kk ∧ Below w4.heap.size w4 wr) (fun i _ => 4 - (intOf i).toNat)
  case atStart => exact ⟨0, 0, rfl, Nat.zero_le _, rfl, Below.refl _ _⟩
  case round =>
    obtain ⟨k, kk, hkk, hk, rfl, hbel⟩ := hrel
    have HK := hide hkk
    by_cases hlt : k < 4
    · have hi : kk < 4 := by omega
      have hi0 : 0 ≤ kk := by omega
      clear hkk
      obtain ⟨h1, h2, h3⟩ := HX.out kk (by omega)
      have g1 := fun w h => implBlkCall_any ao ca xs kk w h
      have g2 := fun w h => implBlkCall_any xo xc X kk w h
      obtain ⟨u, hu⟩ : ∃ u, callR xs kk = u := ⟨_, rfl⟩
      obtain ⟨v, hv⟩ : ∃ u, callR X kk = u := ⟨_, rfl⟩
      rw [hu] at h1 h2 g1
      rw [hv] at h1 h2 h3 g2
      clear hu hv
      have n1 : ¬ v < u := by omega
      by_cases hkc : c = kk
      · subst hkc
        have H3 := hide (h3 rfl)
        clear h1 h2 h3
        go_wp2_with fail
        refine (g1 _ (HR.out.keep hbel)).mono ?_
        rintro e w5 ⟨rfl, b5⟩
        go_wp2_with fail
        refine (g2 _ (RX.out.keep (bAll hbel b5))).mono ?_
        rintro e w6 ⟨rfl, b6⟩
        clear g1 g2
        by_cases hx0 : (X.length : Int) > 0
        · by_cases hl0 : (l : Int) > 0
          · have n2 : ¬ v < (l : Int) := by have := H3.out (by omega) (by omega); omega
            go_wp2
            go_roundw
            case rel => exact ⟨k + 1, _, by have := HK.out; omega, by omega, rfl, bAll hbel (bAll b5 b6)⟩
            case measure => simp [intOf]; omega
          · go_wp2
            go_roundw
            case rel => exact ⟨k + 1, _, by have := HK.out; omega, by omega, rfl, bAll hbel (bAll b5 b6)⟩
            case measure => simp [intOf]; omega
        · go_wp2
          go_roundw
          case rel => exact ⟨k + 1, _, by have := HK.out; omega, by omega, rfl, bAll hbel (bAll b5 b6)⟩
          case measure => simp [intOf]; omega
      · have e1 : (kk == c) = false := by simp; omega
        have e2 : v = u := h2 (fun e => hkc e.symm)
        subst e2
        clear h1 h2 h3
        go_wp2_with fail
        refine (g1 _ (HR.out.keep hbel)).mono ?_
        rintro e w5 ⟨rfl, b5⟩
        go_wp2_with fail
        refine (g2 _ (RX.out.keep (bAll hbel b5))).mono ?_
        rintro e w6 ⟨rfl, b6⟩
        clear g1 g2
        go_wp2
        go_roundw
        case rel => exact ⟨k + 1, _, by have := HK.out; omega, by omega, rfl, bAll hbel (bAll b5 b6)⟩
        case measure => simp [intOf]; omega
    · have hi : ¬ kk < 4 := by omega
      clear hkk
      go_wp2
      go_ret
      exact ⟨rfl, bAll c4 hbel⟩

end Go.Proofs.Ytcanhoemhdkjkab
