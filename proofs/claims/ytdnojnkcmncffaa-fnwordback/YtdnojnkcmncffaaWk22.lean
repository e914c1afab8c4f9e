/- Contracts and plain facts that this claim leans on (texts XS); no statement of the seat is proved here. -/
import Derived.Test.YtdnojnkcmncffaaWk5
import Derived.Test.YtdnojnkcmncffaaWk9
import Derived.Test.YtdnojnkcmncffaaWk21

/- WordOk of the specification: contracts; no statement of the seat is proved here. -/
namespace Go.Proofs.Ytdnojnkcmncffaa
open Go.RowKit

set_option maxHeartbeats 400000 in
theorem l11Num_any (n : Int) (w : World) :
    Calls Try.prog 30 #[.int .i64 n] w fun e w' => e = .returned (.bool (numI n)) ∧ w' = w := by
  go_enter Try.func30, Try.ntmps30
  go_wp2_with fail
  refine (l6In_inI n (-1) 99999 _).mono ?_
  rintro e w1 ⟨rfl, rfl⟩
  go_wp2
  go_ret
  exact ⟨rfl, rfl⟩

set_option maxHeartbeats 400000 in
theorem l11Place_any (n : Int) (w : World) :
    Calls Try.prog 32 #[.int .i64 n] w fun e w' => e = .returned (.bool (placeI n)) ∧ w' = w := by
  go_enter Try.func32, Try.ntmps32
  go_wp2_with fail
  refine (l6In_inI n 0 4 _).mono ?_
  rintro e w1 ⟨rfl, rfl⟩
  rcases h1 : inI n 0 4 with _ | _
  · have H : placeI n = inI n 100 103 := by simp [placeI, h1]
    go_wp2_with fail
    refine (l6In_inI n 100 103 _).mono ?_
    rintro e w1 ⟨rfl, rfl⟩
    have HH := hide H
    clear H
    go_wp2
    go_ret
    exact ⟨by rw [HH.out]; rfl, rfl⟩
  · have H : placeI n = true := by simp [placeI, h1]
    go_wp2
    go_ret
    exact ⟨by rw [H]; rfl, rfl⟩

set_option maxRecDepth 100000 in
set_option maxHeartbeats 4000000 in
theorem l11CmdOk_any (x : Wd) (w : World) :
    Calls Try.prog 33 #[ .agg #[.int .i64 x.c0, .int .i64 x.c1, .int .i64 x.c2, .int .i64 x.c3, .int .i64 x.c4, .int .i64 x.c5, .int .i64 x.c6, .int .i64 x.c7, .int .i64 x.c8, .int .i64 x.c9] ] w fun e w' => e = .returned (.bool (cmdI x)) ∧ Below w.heap.size w w' := by
  obtain ⟨R, HR⟩ : ∃ R, Hid (cmdI x = R) := ⟨_, rfl⟩
  rw [HR.out]
  go_enter Try.func33, Try.ntmps33
  go_wp2_with fail
  refine (l6In_inI x.c0 0 7 _).mono ?_
  rintro e w' ⟨rfl, rfl⟩
  rcases hb0 : inI x.c0 0 7 with _ | _
  · have hno : Hid (R = false) := by show _ = _; rw [← HR.out]; simp only [cmdI, hb0, Bool.false_and]
    go_wp2
    go_ret
    exact ⟨by rw [hno.out]; rfl, bal (Below.refl _ _) _⟩
  go_wp2_with fail
  refine (l11Num_any x.c1 _).mono ?_
  rintro e w' ⟨rfl, rfl⟩
  rcases hb1 : numI x.c1 with _ | _
  · have hno : Hid (R = false) := by show _ = _; rw [← HR.out]; simp only [cmdI, hb0, hb1, Bool.true_and, Bool.false_and]
    go_wp2
    go_ret
    exact ⟨by rw [hno.out]; rfl, bal (Below.refl _ _) _⟩
  go_wp2_with fail
  refine (l11Num_any x.c2 _).mono ?_
  rintro e w' ⟨rfl, rfl⟩
  rcases hb2 : numI x.c2 with _ | _
  · have hno : Hid (R = false) := by show _ = _; rw [← HR.out]; simp only [cmdI, hb0, hb1, hb2, Bool.true_and, Bool.false_and]
    go_wp2
    go_ret
    exact ⟨by rw [hno.out]; rfl, bal (Below.refl _ _) _⟩
  go_wp2_with fail
  refine (l11Num_any x.c3 _).mono ?_
  rintro e w' ⟨rfl, rfl⟩
  rcases hb3 : numI x.c3 with _ | _
  · have hno : Hid (R = false) := by show _ = _; rw [← HR.out]; simp only [cmdI, hb0, hb1, hb2, hb3, Bool.true_and, Bool.false_and]
    go_wp2
    go_ret
    exact ⟨by rw [hno.out]; rfl, bal (Below.refl _ _) _⟩
  go_wp2_with fail
  refine (l11Num_any x.c4 _).mono ?_
  rintro e w' ⟨rfl, rfl⟩
  rcases hb4 : numI x.c4 with _ | _
  · have hno : Hid (R = false) := by show _ = _; rw [← HR.out]; simp only [cmdI, hb0, hb1, hb2, hb3, hb4, Bool.true_and, Bool.false_and]
    go_wp2
    go_ret
    exact ⟨by rw [hno.out]; rfl, bal (Below.refl _ _) _⟩
  go_wp2_with fail
  refine (l11Num_any x.c5 _).mono ?_
  rintro e w' ⟨rfl, rfl⟩
  rcases hb5 : numI x.c5 with _ | _
  · have hno : Hid (R = false) := by show _ = _; rw [← HR.out]; simp only [cmdI, hb0, hb1, hb2, hb3, hb4, hb5, Bool.true_and, Bool.false_and]
    go_wp2
    go_ret
    exact ⟨by rw [hno.out]; rfl, bal (Below.refl _ _) _⟩
  go_wp2_with fail
  refine (l11Num_any x.c6 _).mono ?_
  rintro e w' ⟨rfl, rfl⟩
  rcases hb6 : numI x.c6 with _ | _
  · have hno : Hid (R = false) := by show _ = _; rw [← HR.out]; simp only [cmdI, hb0, hb1, hb2, hb3, hb4, hb5, hb6, Bool.true_and, Bool.false_and]
    go_wp2
    go_ret
    exact ⟨by rw [hno.out]; rfl, bal (Below.refl _ _) _⟩
  go_wp2_with fail
  refine (l11Num_any x.c7 _).mono ?_
  rintro e w' ⟨rfl, rfl⟩
  rcases hb7 : numI x.c7 with _ | _
  · have hno : Hid (R = false) := by show _ = _; rw [← HR.out]; simp only [cmdI, hb0, hb1, hb2, hb3, hb4, hb5, hb6, hb7, Bool.true_and, Bool.false_and]
    go_wp2
    go_ret
    exact ⟨by rw [hno.out]; rfl, bal (Below.refl _ _) _⟩
  go_wp2_with fail
  refine (l11Num_any x.c8 _).mono ?_
  rintro e w' ⟨rfl, rfl⟩
  rcases hb8 : numI x.c8 with _ | _
  · have hno : Hid (R = false) := by show _ = _; rw [← HR.out]; simp only [cmdI, hb0, hb1, hb2, hb3, hb4, hb5, hb6, hb7, hb8, Bool.true_and, Bool.false_and]
    go_wp2
    go_ret
    exact ⟨by rw [hno.out]; rfl, bal (Below.refl _ _) _⟩
  go_wp2_with fail
  refine (l11Num_any x.c9 _).mono ?_
  rintro e w' ⟨rfl, rfl⟩
  have hR : Hid (R = numI x.c9) := by show _ = _; rw [← HR.out]; simp only [cmdI, hb0, hb1, hb2, hb3, hb4, hb5, hb6, hb7, hb8, Bool.true_and]
  go_wp2
  go_ret
  exact ⟨by rw [hR.out]; rfl, bal (Below.refl _ _) _⟩

theorem twentyfour (x : Wd) (k : Nat) (h : k < 24) : ∃ a, x.nums[k]? = some a := getAt x.nums k (by simpa [Wd.nums] using h)

set_option maxHeartbeats 4000000 in
theorem l11Nums_any (x : Wd) (po lo : Option Addr) (pn pc ln lc : Nat) (w : World) :
    Calls Try.prog 29 #[ .agg #[.int .i64 x.a0, .int .i64 x.a1, .int .i64 x.a2, .int .i64 x.a3, .int .i64 x.a4, .int .i64 x.a5, .int .i64 x.c0, .int .i64 x.c1, .int .i64 x.c2, .int .i64 x.c3, .int .i64 x.c4, .int .i64 x.c5, .int .i64 x.c6, .int .i64 x.c7, .int .i64 x.c8, .int .i64 x.c9, .int .i64 x.b0, .int .i64 x.b1, .int .i64 x.b2, .int .i64 x.b3, .int .i64 x.b4, .int .i64 x.b5, .int .i64 x.b6, .int .i64 x.b7, .slice po pn pc, .slice lo ln lc] ] w fun e w' => e = .returned (.slice (some ⟨w.heap.size + 1 + 1, 0, none⟩) 24 24) ∧
      w' = ((w.alloc (.cells (#[.int .i64 x.a0, .int .i64 x.a1, .int .i64 x.a2, .int .i64 x.a3, .int .i64 x.a4, .int .i64 x.a5, .int .i64 x.c0, .int .i64 x.c1, .int .i64 x.c2, .int .i64 x.c3, .int .i64 x.c4, .int .i64 x.c5, .int .i64 x.c6, .int .i64 x.c7, .int .i64 x.c8, .int .i64 x.c9, .int .i64 x.b0, .int .i64 x.b1, .int .i64 x.b2, .int .i64 x.b3, .int .i64 x.b4, .int .i64 x.b5, .int .i64 x.b6, .int .i64 x.b7, .slice po pn pc, .slice lo ln lc] : Array Value) 34)).alloc (.cells #[.int .i64 x.c0, .int .i64 x.c1, .int .i64 x.c2, .int .i64 x.c3, .int .i64 x.c4, .int .i64 x.c5, .int .i64 x.c6, .int .i64 x.c7, .int .i64 x.c8, .int .i64 x.c9] 30)).alloc (.cells (x.nums.map (Value.int .i64)).toArray 3) := by
  go_enter Try.func29, Try.ntmps29
  go_wp2
  go_ret
  exact ⟨rfl, rfl⟩

theorem numsRow {w : World} (x : Wd) (t : TypeId) {k : Nat} {a : Int} (h : x.nums[k]? = some a) : (w.alloc (.cells (x.nums.map (Value.int .i64)).toArray t)).cell? ⟨w.heap.size, k, none⟩ = some (.int .i64 a) := by
  rw [cell_of_row _ _ k _ t (0, 0) (heap_alloc_new w _)]
  simp [h]

set_option maxRecDepth 100000 in
set_option maxHeartbeats 8000000 in
theorem specWordOk_any (v : Value) (x : Wd) (w : World) (h : WdR w v x) :
    Calls Try.prog 10 #[v] w fun e w' => e = .returned (.bool (okW x)) ∧ Below w.heap.size w w' := by
  obtain ⟨po, pc, lo, lc, rfl, a1, a2⟩ := h
  obtain ⟨R, HR⟩ : ∃ R, Hid (okW x = R) := ⟨_, rfl⟩
  rw [HR.out]
  go_enter Try.func10, Try.ntmps10
  go_wp2_with (refine wpList_load_row rfl 34 (.tmp 1) rfl w.heap.size rfl _ _ (0, 0) _ (heap_alloc_new w _) Try.underlying34 rfl infoWd ?_)
  refine (l11Nums_any x _ _ _ _ _ _ _).mono ?_
  rintro e W ⟨rfl, hW⟩
  simp only [World.size_alloc]
  generalize hv : Value.agg _ = v0
  clear hv
  have hal : Below w.heap.size w W := by rw [hW]; exact bal (bal (bal (bal (Below.refl _ _) _) _) _) _
  have B0 : W.heap[w.heap.size]? = some (.cells (#[.int .i64 x.a0, .int .i64 x.a1, .int .i64 x.a2, .int .i64 x.a3, .int .i64 x.a4, .int .i64 x.a5, .int .i64 x.c0, .int .i64 x.c1, .int .i64 x.c2, .int .i64 x.c3, .int .i64 x.c4, .int .i64 x.c5, .int .i64 x.c6, .int .i64 x.c7, .int .i64 x.c8, .int .i64 x.c9, .int .i64 x.b0, .int .i64 x.b1, .int .i64 x.b2, .int .i64 x.b3, .int .i64 x.b4, .int .i64 x.b5, .int .i64 x.b6, .int .i64 x.b7, .slice po x.ps.length pc, .slice lo x.ls.length lc] : Array Value) 34 (0, 0)) := by rw [hW]; exact heap_up _ (heap_up _ (heap_up _ (heap_alloc_new w _)))
  have hcell : ∀ k a, x.nums[k]? = some a → W.cell? ⟨w.heap.size + 1 + 1 + 1, k, none⟩ = some (.int .i64 a) := by
    intro k a h
    rw [hW]
    have := numsRow (w := ((w.alloc (.cells (#[.int .i64 x.a0, .int .i64 x.a1, .int .i64 x.a2, .int .i64 x.a3, .int .i64 x.a4, .int .i64 x.a5, .int .i64 x.c0, .int .i64 x.c1, .int .i64 x.c2, .int .i64 x.c3, .int .i64 x.c4, .int .i64 x.c5, .int .i64 x.c6, .int .i64 x.c7, .int .i64 x.c8, .int .i64 x.c9, .int .i64 x.b0, .int .i64 x.b1, .int .i64 x.b2, .int .i64 x.b3, .int .i64 x.b4, .int .i64 x.b5, .int .i64 x.b6, .int .i64 x.b7, .slice po x.ps.length pc, .slice lo x.ls.length lc] : Array Value) 34)).alloc (.cells (#[.int .i64 x.a0, .int .i64 x.a1, .int .i64 x.a2, .int .i64 x.a3, .int .i64 x.a4, .int .i64 x.a5, .int .i64 x.c0, .int .i64 x.c1, .int .i64 x.c2, .int .i64 x.c3, .int .i64 x.c4, .int .i64 x.c5, .int .i64 x.c6, .int .i64 x.c7, .int .i64 x.c8, .int .i64 x.c9, .int .i64 x.b0, .int .i64 x.b1, .int .i64 x.b2, .int .i64 x.b3, .int .i64 x.b4, .int .i64 x.b5, .int .i64 x.b6, .int .i64 x.b7, .slice po x.ps.length pc, .slice lo x.ls.length lc] : Array Value) 34)).alloc (.cells #[.int .i64 x.c0, .int .i64 x.c1, .int .i64 x.c2, .int .i64 x.c3, .int .i64 x.c4, .int .i64 x.c5, .int .i64 x.c6, .int .i64 x.c7, .int .i64 x.c8, .int .i64 x.c9] 30)) x 3 h
    simpa only [World.size_alloc] using this
  clear hW
  have HC := hide hcell
  have H0 := hide B0
  clear hcell B0
  go_wp2_with fail
  go_loopw [4] (fun i wr => ∃ k : Nat, k ≤ 24 ∧ i = .int .i64 k ∧ (∀ j a, j < k → x.nums[j]? = some a → numI a = true) ∧ wr = W) (fun i _ => 24 - (intOf i).toNat)
  case atStart => exact ⟨0, Nat.zero_le _, rfl, fun j a hj => by omega, rfl⟩
  case round =>
    obtain ⟨k, hk, rfl, hgood, rfl⟩ := hrel
    have HG := hide hgood
    clear hgood
    by_cases hlt : k < 24
    · obtain ⟨a, ha⟩ := twentyfour x k hlt
      have hc := HC.out k a ha
      have Ha := hide ha
      have hi : (k : Int) < 24 := by omega
      clear ha
      go_wp2_with fail
      refine (l11Num_any a _).mono ?_
      rintro e w' ⟨rfl, rfl⟩
      rcases hb : numI a with _ | _
      · have hno : Hid (R = false) := by
          show _ = _
          rw [← HR.out, okW, List.all_eq_false.2 ⟨a, List.mem_of_getElem? Ha.out, by simp [hb]⟩, Bool.false_and]
        go_wp2
        go_ret
        exact ⟨by rw [hno.out]; rfl, hal⟩
      · go_wp2
        go_roundw
        case rel =>
          refine ⟨k + 1, by omega, by go_num, fun j b hj hbj => ?_, by trivial⟩
          by_cases hjk : j = k
          · subst hjk
            rw [Ha.out] at hbj
            rw [← Option.some.inj hbj]
            exact hb
          · exact HG.out j b (by omega) hbj
        case measure => simp [intOf]; omega
    · have hall : x.nums.all numI = true := by
        refine List.all_eq_true.2 (fun a ha => ?_)
        obtain ⟨j, hj, e⟩ := List.getElem_of_mem ha
        have hj24 : j < 24 := by simpa [Wd.nums] using hj
        exact HG.out j a (by omega) (by rw [List.getElem?_eq_getElem hj, e])
      have hR : Hid (R = (inI x.a0 1 15 && (placeI x.a1 && (placeI x.a2 && (cmdI x && (okP x.ps && okC x.ls)))))) := by
        show _ = _
        rw [← HR.out, okW, hall, Bool.true_and]
      clear hall HR HG HC
      have hge : ¬ (k : Int) < 24 := by omega
      have d0 : World.cell? _ ⟨w.heap.size, 0, none⟩ = some (Value.int .i64 x.a0) := boxAt (H0.out) 0
      have d1 : World.cell? _ ⟨w.heap.size, 1, none⟩ = some (Value.int .i64 x.a1) := boxAt (H0.out) 1
      have d2 : World.cell? _ ⟨w.heap.size, 2, none⟩ = some (Value.int .i64 x.a2) := boxAt (H0.out) 2
      have d6 : World.cell? _ ⟨w.heap.size, 6, none⟩ = some (Value.int .i64 x.c0) := boxAt (H0.out) 6
      have d7 : World.cell? _ ⟨w.heap.size, 7, none⟩ = some (Value.int .i64 x.c1) := boxAt (H0.out) 7
      have d8 : World.cell? _ ⟨w.heap.size, 8, none⟩ = some (Value.int .i64 x.c2) := boxAt (H0.out) 8
      have d9 : World.cell? _ ⟨w.heap.size, 9, none⟩ = some (Value.int .i64 x.c3) := boxAt (H0.out) 9
      have d10 : World.cell? _ ⟨w.heap.size, 10, none⟩ = some (Value.int .i64 x.c4) := boxAt (H0.out) 10
      have d11 : World.cell? _ ⟨w.heap.size, 11, none⟩ = some (Value.int .i64 x.c5) := boxAt (H0.out) 11
      have d12 : World.cell? _ ⟨w.heap.size, 12, none⟩ = some (Value.int .i64 x.c6) := boxAt (H0.out) 12
      have d13 : World.cell? _ ⟨w.heap.size, 13, none⟩ = some (Value.int .i64 x.c7) := boxAt (H0.out) 13
      have d14 : World.cell? _ ⟨w.heap.size, 14, none⟩ = some (Value.int .i64 x.c8) := boxAt (H0.out) 14
      have d15 : World.cell? _ ⟨w.heap.size, 15, none⟩ = some (Value.int .i64 x.c9) := boxAt (H0.out) 15
      go_wp2_with fail
      refine (l6In_inI x.a0 1 15 _).mono ?_
      rintro e w' ⟨rfl, rfl⟩
      rcases hb0 : inI x.a0 1 15 with _ | _
      · have hno : Hid (R = false) := by show _ = _; rw [hR.out]; simp only [hb0, Bool.false_and]
        go_wp2
        go_ret
        exact ⟨by rw [hno.out]; rfl, hal⟩
      go_wp2_with fail
      refine (l11Place_any x.a1 _).mono ?_
      rintro e w' ⟨rfl, rfl⟩
      rcases hb1 : placeI x.a1 with _ | _
      · have hno : Hid (R = false) := by show _ = _; rw [hR.out]; simp only [hb0, hb1, Bool.true_and, Bool.false_and]
        go_wp2
        go_ret
        exact ⟨by rw [hno.out]; rfl, hal⟩
      go_wp2_with fail
      refine (l11Place_any x.a2 _).mono ?_
      rintro e w' ⟨rfl, rfl⟩
      rcases hb2 : placeI x.a2 with _ | _
      · have hno : Hid (R = false) := by show _ = _; rw [hR.out]; simp only [hb0, hb1, hb2, Bool.true_and, Bool.false_and]
        go_wp2
        go_ret
        exact ⟨by rw [hno.out]; rfl, hal⟩
      go_wp2_with fail
      refine (l11CmdOk_any x _).mono ?_
      rintro e w1 ⟨rfl, b1⟩
      have c1 := bAll hal b1
      rcases hb3 : cmdI x with _ | _
      · have hno : Hid (R = false) := by show _ = _; rw [hR.out]; simp only [hb0, hb1, hb2, hb3, Bool.true_and, Bool.false_and]
        go_wp2
        go_ret
        exact ⟨by rw [hno.out]; rfl, c1⟩
      clear d0 d1 d2 d6 d7 d8 d9 d10 d11 d12 d13 d14 d15
      have d24 : World.cell? w1 ⟨w.heap.size, 24, none⟩ = some (Value.slice po x.ps.length pc) := boxAt (bKeeps b1 H0.out) 24
      go_wp2_with fail
      refine (specBlkOk_any _ x.ps _ (a1.keep c1)).mono ?_
      rintro e w2 ⟨rfl, b2⟩
      have c2 := bAll c1 b2
      rcases hb4 : okP x.ps with _ | _
      · have hno : Hid (R = false) := by show _ = _; rw [hR.out]; simp only [hb0, hb1, hb2, hb3, hb4, Bool.true_and, Bool.false_and]
        go_wp2
        go_ret
        exact ⟨by rw [hno.out]; rfl, c2⟩
      clear d24
      have d25 : World.cell? w2 ⟨w.heap.size, 25, none⟩ = some (Value.slice lo x.ls.length lc) := boxAt (bKeeps (bAll b1 b2) H0.out) 25
      go_wp2_with fail
      refine (l3LastOk_any _ x.ls _ (a2.keep c2)).mono ?_
      rintro e w3 ⟨rfl, b3⟩
      have hRR : Hid (R = okC x.ls) := by show _ = _; rw [hR.out]; simp only [hb0, hb1, hb2, hb3, hb4, Bool.true_and]
      go_wp2
      go_ret
      exact ⟨by rw [hRR.out]; rfl, bAll c2 b3⟩

end Go.Proofs.Ytdnojnkcmncffaa
