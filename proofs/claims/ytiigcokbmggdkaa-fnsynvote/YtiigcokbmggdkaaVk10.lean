/- Contracts and plain facts that this claim leans on (texts XS, XL, RA, VP, VP2, VP3); no statement of the seat is proved here. -/
import Derived.Test.YtiigcokbmggdkaaVk1
import Derived.Test.YtiigcokbmggdkaaVk4
import Derived.Test.YtiigcokbmggdkaaVk9
import Derived.Test.YtiigcokbmggdkaaVk7
import Derived.Laws.CopyRow
import Derived.Test.YtiigcokbmggdkaaVk5
import Derived.Test.YtiigcokbmggdkaaVk2

/- WordOk of the specification: contracts; no statement of the seat is proved here. -/
namespace Go.Proofs.Ytiigcokbmggdkaa
open Go.RowKit

set_option maxHeartbeats 400000 in
theorem l11Num_any (n : Int) (w : World) :
    Calls Try.prog 103 #[.int .i64 n] w fun e w' => e = .returned (.bool (numI n)) ∧ w' = w := by
  go_enter Try.func103, Try.ntmps103
  go_wp2_with fail
  refine (l6In_inI n (-1) 99999 _).mono ?_
  rintro e w1 ⟨rfl, rfl⟩
  go_wp2
  go_ret
  exact ⟨rfl, rfl⟩

set_option maxHeartbeats 400000 in
theorem l11Place_any (n : Int) (w : World) :
    Calls Try.prog 104 #[.int .i64 n] w fun e w' => e = .returned (.bool (placeI n)) ∧ w' = w := by
  go_enter Try.func104, Try.ntmps104
  go_wp2_with fail
  refine (l6In_inI n 0 4 _).mono ?_
  rintro e w1 ⟨rfl, rfl⟩
  rcases h1 : inI n 0 4 with _ | _
  · have H : placeI n = inI n 100 103 := by simp [placeI, h1]
    go_wp2_with fail
    refine (l6In_inI n 100 103 _).mono ?_
    rintro e w1 ⟨rfl, rfl⟩
    have HH := hide H
    clear H
    go_wp2
    go_ret
    exact ⟨by rw [HH.out]; rfl, rfl⟩
  · have H : placeI n = true := by simp [placeI, h1]
    go_wp2
    go_ret
    exact ⟨by rw [H]; rfl, rfl⟩

set_option maxRecDepth 100000 in
set_option maxHeartbeats 4000000 in
theorem l11CmdOk_any (x : Wd) (w : World) :
    Calls Try.prog 82 #[ .agg #[.int .i64 x.c0, .int .i64 x.c1, .int .i64 x.c2, .int .i64 x.c3, .int .i64 x.c4, .int .i64 x.c5, .int .i64 x.c6, .int .i64 x.c7, .int .i64 x.c8, .int .i64 x.c9] ] w fun e w' => e = .returned (.bool (cmdI x)) ∧ Below w.heap.size w w' := by
  obtain ⟨R, HR⟩ : ∃ R, Hid (cmdI x = R) := ⟨_, rfl⟩
  rw [HR.out]
  go_enter Try.func82, Try.ntmps82
  go_wp2_with fail
  refine (l6In_inI x.c0 0 7 _).mono ?_
  rintro e w' ⟨rfl, rfl⟩
  rcases hb0 : inI x.c0 0 7 with _ | _
  · have hno : Hid (R = false) := by show _ = _; rw [← HR.out]; simp only [cmdI, hb0, Bool.false_and]
    go_wp2
    go_ret
    exact ⟨by rw [hno.out]; rfl, bal (Below.refl _ _) _⟩
  go_wp2_with fail
  refine (l11Num_any x.c1 _).mono ?_
  rintro e w' ⟨rfl, rfl⟩
  rcases hb1 : numI x.c1 with _ | _
  · have hno : Hid (R = false) := by show _ = _; rw [← HR.out]; simp only [cmdI, hb0, hb1, Bool.true_and, Bool.false_and]
    go_wp2
    go_ret
    exact ⟨by rw [hno.out]; rfl, bal (Below.refl _ _) _⟩
  go_wp2_with fail
  refine (l11Num_any x.c2 _).mono ?_
  rintro e w' ⟨rfl, rfl⟩
  rcases hb2 : numI x.c2 with _ | _
  · have hno : Hid (R = false) := by show _ = _; rw [← HR.out]; simp only [cmdI, hb0, hb1, hb2, Bool.true_and, Bool.false_and]
    go_wp2
    go_ret
    exact ⟨by rw [hno.out]; rfl, bal (Below.refl _ _) _⟩
  go_wp2_with fail
  refine (l11Num_any x.c3 _).mono ?_
  rintro e w' ⟨rfl, rfl⟩
  rcases hb3 : numI x.c3 with _ | _
  · have hno : Hid (R = false) := by show _ = _; rw [← HR.out]; simp only [cmdI, hb0, hb1, hb2, hb3, Bool.true_and, Bool.false_and]
    go_wp2
    go_ret
    exact ⟨by rw [hno.out]; rfl, bal (Below.refl _ _) _⟩
  go_wp2_with fail
  refine (l11Num_any x.c4 _).mono ?_
  rintro e w' ⟨rfl, rfl⟩
  rcases hb4 : numI x.c4 with _ | _
  · have hno : Hid (R = false) := by show _ = _; rw [← HR.out]; simp only [cmdI, hb0, hb1, hb2, hb3, hb4, Bool.true_and, Bool.false_and]
    go_wp2
    go_ret
    exact ⟨by rw [hno.out]; rfl, bal (Below.refl _ _) _⟩
  go_wp2_with fail
  refine (l11Num_any x.c5 _).mono ?_
  rintro e w' ⟨rfl, rfl⟩
  rcases hb5 : numI x.c5 with _ | _
  · have hno : Hid (R = false) := by show _ = _; rw [← HR.out]; simp only [cmdI, hb0, hb1, hb2, hb3, hb4, hb5, Bool.true_and, Bool.false_and]
    go_wp2
    go_ret
    exact ⟨by rw [hno.out]; rfl, bal (Below.refl _ _) _⟩
  go_wp2_with fail
  refine (l11Num_any x.c6 _).mono ?_
  rintro e w' ⟨rfl, rfl⟩
  rcases hb6 : numI x.c6 with _ | _
  · have hno : Hid (R = false) := by show _ = _; rw [← HR.out]; simp only [cmdI, hb0, hb1, hb2, hb3, hb4, hb5, hb6, Bool.true_and, Bool.false_and]
    go_wp2
    go_ret
    exact ⟨by rw [hno.out]; rfl, bal (Below.refl _ _) _⟩
  go_wp2_with fail
  refine (l11Num_any x.c7 _).mono ?_
  rintro e w' ⟨rfl, rfl⟩
  rcases hb7 : numI x.c7 with _ | _
  · have hno : Hid (R = false) := by show _ = _; rw [← HR.out]; simp only [cmdI, hb0, hb1, hb2, hb3, hb4, hb5, hb6, hb7, Bool.true_and, Bool.false_and]
    go_wp2
    go_ret
    exact ⟨by rw [hno.out]; rfl, bal (Below.refl _ _) _⟩
  go_wp2_with fail
  refine (l11Num_any x.c8 _).mono ?_
  rintro e w' ⟨rfl, rfl⟩
  rcases hb8 : numI x.c8 with _ | _
  · have hno : Hid (R = false) := by show _ = _; rw [← HR.out]; simp only [cmdI, hb0, hb1, hb2, hb3, hb4, hb5, hb6, hb7, hb8, Bool.true_and, Bool.false_and]
    go_wp2
    go_ret
    exact ⟨by rw [hno.out]; rfl, bal (Below.refl _ _) _⟩
  go_wp2_with fail
  refine (l11Num_any x.c9 _).mono ?_
  rintro e w' ⟨rfl, rfl⟩
  have hR : Hid (R = numI x.c9) := by show _ = _; rw [← HR.out]; simp only [cmdI, hb0, hb1, hb2, hb3, hb4, hb5, hb6, hb7, hb8, Bool.true_and]
  go_wp2
  go_ret
  exact ⟨by rw [hR.out]; rfl, bal (Below.refl _ _) _⟩

theorem twentyfour (x : Wd) (k : Nat) (h : k < 24) : ∃ a, x.nums[k]? = some a := getAt x.nums k (by simpa [Wd.nums] using h)

set_option maxHeartbeats 4000000 in
theorem l11Nums_any (x : Wd) (po lo : Option Addr) (pn pc ln lc : Nat) (w : World) :
    Calls Try.prog 102 #[ .agg #[.int .i64 x.a0, .int .i64 x.a1, .int .i64 x.a2, .int .i64 x.a3, .int .i64 x.a4, .int .i64 x.a5, .int .i64 x.c0, .int .i64 x.c1, .int .i64 x.c2, .int .i64 x.c3, .int .i64 x.c4, .int .i64 x.c5, .int .i64 x.c6, .int .i64 x.c7, .int .i64 x.c8, .int .i64 x.c9, .int .i64 x.b0, .int .i64 x.b1, .int .i64 x.b2, .int .i64 x.b3, .int .i64 x.b4, .int .i64 x.b5, .int .i64 x.b6, .int .i64 x.b7, .slice po pn pc, .slice lo ln lc] ] w fun e w' => e = .returned (.slice (some ⟨w.heap.size + 1 + 1, 0, none⟩) 24 24) ∧
      w' = ((w.alloc (.cells (#[.int .i64 x.a0, .int .i64 x.a1, .int .i64 x.a2, .int .i64 x.a3, .int .i64 x.a4, .int .i64 x.a5, .int .i64 x.c0, .int .i64 x.c1, .int .i64 x.c2, .int .i64 x.c3, .int .i64 x.c4, .int .i64 x.c5, .int .i64 x.c6, .int .i64 x.c7, .int .i64 x.c8, .int .i64 x.c9, .int .i64 x.b0, .int .i64 x.b1, .int .i64 x.b2, .int .i64 x.b3, .int .i64 x.b4, .int .i64 x.b5, .int .i64 x.b6, .int .i64 x.b7, .slice po pn pc, .slice lo ln lc] : Array Value) 40)).alloc (.cells #[.int .i64 x.c0, .int .i64 x.c1, .int .i64 x.c2, .int .i64 x.c3, .int .i64 x.c4, .int .i64 x.c5, .int .i64 x.c6, .int .i64 x.c7, .int .i64 x.c8, .int .i64 x.c9] 36)).alloc (.cells (x.nums.map (Value.int .i64)).toArray 3) := by
  go_enter Try.func102, Try.ntmps102
  go_wp2
  go_ret
  exact ⟨rfl, rfl⟩

theorem numsRow {w : World} (x : Wd) (t : TypeId) {k : Nat} {a : Int} (h : x.nums[k]? = some a) : (w.alloc (.cells (x.nums.map (Value.int .i64)).toArray t)).cell? ⟨w.heap.size, k, none⟩ = some (.int .i64 a) := by
  rw [cell_of_row _ _ k _ t (0, 0) (heap_alloc_new w _)]
  simp [h]

set_option maxRecDepth 100000 in
set_option maxHeartbeats 8000000 in
theorem specWordOk_any (v : Value) (x : Wd) (w : World) (h : WdR w v x) :
    Calls Try.prog 47 #[v] w fun e w' => e = .returned (.bool (okW x)) ∧ Below w.heap.size w w' := by
  obtain ⟨po, pc, lo, lc, rfl, a1, a2⟩ := h
  obtain ⟨R, HR⟩ : ∃ R, Hid (okW x = R) := ⟨_, rfl⟩
  rw [HR.out]
  go_enter Try.func47, Try.ntmps47
  go_wp2_with (refine wpList_load_row rfl 40 (.tmp 1) rfl w.heap.size rfl _ _ (0, 0) _ (heap_alloc_new w _) Try.underlying40 rfl infoWd ?_)
  refine (l11Nums_any x _ _ _ _ _ _ _).mono ?_
  rintro e W ⟨rfl, hW⟩
  simp only [World.size_alloc]
  generalize hv : Value.agg _ = v0
  clear hv
  have hal : Below w.heap.size w W := by rw [hW]; exact bal (bal (bal (bal (Below.refl _ _) _) _) _) _
  have B0 : W.heap[w.heap.size]? = some (.cells (#[.int .i64 x.a0, .int .i64 x.a1, .int .i64 x.a2, .int .i64 x.a3, .int .i64 x.a4, .int .i64 x.a5, .int .i64 x.c0, .int .i64 x.c1, .int .i64 x.c2, .int .i64 x.c3, .int .i64 x.c4, .int .i64 x.c5, .int .i64 x.c6, .int .i64 x.c7, .int .i64 x.c8, .int .i64 x.c9, .int .i64 x.b0, .int .i64 x.b1, .int .i64 x.b2, .int .i64 x.b3, .int .i64 x.b4, .int .i64 x.b5, .int .i64 x.b6, .int .i64 x.b7, .slice po x.ps.length pc, .slice lo x.ls.length lc] : Array Value) 40 (0, 0)) := by rw [hW]; exact heap_up _ (heap_up _ (heap_up _ (heap_alloc_new w _)))
  have hcell : ∀ k a, x.nums[k]? = some a → W.cell? ⟨w.heap.size + 1 + 1 + 1, k, none⟩ = some (.int .i64 a) := by
    intro k a h
    rw [hW]
    have := numsRow (w := ((w.alloc (.cells (#[.int .i64 x.a0, .int .i64 x.a1, .int .i64 x.a2, .int .i64 x.a3, .int .i64 x.a4, .int .i64 x.a5, .int .i64 x.c0, .int .i64 x.c1, .int .i64 x.c2, .int .i64 x.c3, .int .i64 x.c4, .int .i64 x.c5, .int .i64 x.c6, .int .i64 x.c7, .int .i64 x.c8, .int .i64 x.c9, .int .i64 x.b0, .int .i64 x.b1, .int .i64 x.b2, .int .i64 x.b3, .int .i64 x.b4, .int .i64 x.b5, .int .i64 x.b6, .int .i64 x.b7, .slice po x.ps.length pc, .slice lo x.ls.length lc] : Array Value) 40)).alloc (.cells (#[.int .i64 x.a0, .int .i64 x.a1, .int .i64 x.a2, .int .i64 x.a3, .int .i64 x.a4, .int .i64 x.a5, .int .i64 x.c0, .int .i64 x.c1, .int .i64 x.c2, .int .i64 x.c3, .int .i64 x.c4, .int .i64 x.c5, .int .i64 x.c6, .int .i64 x.c7, .int .i64 x.c8, .int .i64 x.c9, .int .i64 x.b0, .int .i64 x.b1, .int .i64 x.b2, .int .i64 x.b3, .int .i64 x.b4, .int .i64 x.b5, .int .i64 x.b6, .int .i64 x.b7, .slice po x.ps.length pc, .slice lo x.ls.length lc] : Array Value) 40)).alloc (.cells #[.int .i64 x.c0, .int .i64 x.c1, .int .i64 x.c2, .int .i64 x.c3, .int .i64 x.c4, .int .i64 x.c5, .int .i64 x.c6, .int .i64 x.c7, .int .i64 x.c8, .int .i64 x.c9] 36)) x 3 h
    simpa only [World.size_alloc] using this
  clear hW
  have HC := hide hcell
  have H0 := hide B0
  clear hcell B0
  go_wp2_with fail
  go_loopw [4] (fun i wr => ∃ k : Nat, k ≤ 24 ∧ i = .int .i64 k ∧ (∀ j a, j < k → x.nums[j]? = some a → numI a = true) ∧ wr = W) (fun i _ => 24 - (intOf i).toNat)
  case atStart => exact ⟨0, Nat.zero_le _, rfl, fun j a hj => by omega, rfl⟩
  case round =>
    obtain ⟨k, hk, rfl, hgood, rfl⟩ := hrel
    have HG := hide hgood
    clear hgood
    by_cases hlt : k < 24
    · obtain ⟨a, ha⟩ := twentyfour x k hlt
      have hc := HC.out k a ha
      have Ha := hide ha
      have hi : (k : Int) < 24 := by omega
      clear ha
      go_wp2_with fail
      refine (l11Num_any a _).mono ?_
      rintro e w' ⟨rfl, rfl⟩
      rcases hb : numI a with _ | _
      · have hno : Hid (R = false) := by
          show _ = _
          rw [← HR.out, okW, List.all_eq_false.2 ⟨a, List.mem_of_getElem? Ha.out, by simp [hb]⟩, Bool.false_and]
        go_wp2
        go_ret
        exact ⟨by rw [hno.out]; rfl, hal⟩
      · go_wp2
        go_roundw
        case rel =>
          refine ⟨k + 1, by omega, by go_num, fun j b hj hbj => ?_, by trivial⟩
          by_cases hjk : j = k
          · subst hjk
            rw [Ha.out] at hbj
            rw [← Option.some.inj hbj]
            exact hb
          · exact HG.out j b (by omega) hbj
        case measure => simp [intOf]; omega
    · have hall : x.nums.all numI = true := by
        refine List.all_eq_true.2 (fun a ha => ?_)
        obtain ⟨j, hj, e⟩ := List.getElem_of_mem ha
        have hj24 : j < 24 := by simpa [Wd.nums] using hj
        exact HG.out j a (by omega) (by rw [List.getElem?_eq_getElem hj, e])
      have hR : Hid (R = (inI x.a0 1 15 && (placeI x.a1 && (placeI x.a2 && (cmdI x && (okP x.ps && okC x.ls)))))) := by
        show _ = _
        rw [← HR.out, okW, hall, Bool.true_and]
      clear hall HR HG HC
      have hge : ¬ (k : Int) < 24 := by omega
      have d0 : World.cell? _ ⟨w.heap.size, 0, none⟩ = some (Value.int .i64 x.a0) := boxAt (H0.out) 0
      have d1 : World.cell? _ ⟨w.heap.size, 1, none⟩ = some (Value.int .i64 x.a1) := boxAt (H0.out) 1
      have d2 : World.cell? _ ⟨w.heap.size, 2, none⟩ = some (Value.int .i64 x.a2) := boxAt (H0.out) 2
      have d6 : World.cell? _ ⟨w.heap.size, 6, none⟩ = some (Value.int .i64 x.c0) := boxAt (H0.out) 6
      have d7 : World.cell? _ ⟨w.heap.size, 7, none⟩ = some (Value.int .i64 x.c1) := boxAt (H0.out) 7
      have d8 : World.cell? _ ⟨w.heap.size, 8, none⟩ = some (Value.int .i64 x.c2) := boxAt (H0.out) 8
      have d9 : World.cell? _ ⟨w.heap.size, 9, none⟩ = some (Value.int .i64 x.c3) := boxAt (H0.out) 9
      have d10 : World.cell? _ ⟨w.heap.size, 10, none⟩ = some (Value.int .i64 x.c4) := boxAt (H0.out) 10
      have d11 : World.cell? _ ⟨w.heap.size, 11, none⟩ = some (Value.int .i64 x.c5) := boxAt (H0.out) 11
      have d12 : World.cell? _ ⟨w.heap.size, 12, none⟩ = some (Value.int .i64 x.c6) := boxAt (H0.out) 12
      have d13 : World.cell? _ ⟨w.heap.size, 13, none⟩ = some (Value.int .i64 x.c7) := boxAt (H0.out) 13
      have d14 : World.cell? _ ⟨w.heap.size, 14, none⟩ = some (Value.int .i64 x.c8) := boxAt (H0.out) 14
      have d15 : World.cell? _ ⟨w.heap.size, 15, none⟩ = some (Value.int .i64 x.c9) := boxAt (H0.out) 15
      go_wp2_with fail
      refine (l6In_inI x.a0 1 15 _).mono ?_
      rintro e w' ⟨rfl, rfl⟩
      rcases hb0 : inI x.a0 1 15 with _ | _
      · have hno : Hid (R = false) := by show _ = _; rw [hR.out]; simp only [hb0, Bool.false_and]
        go_wp2
        go_ret
        exact ⟨by rw [hno.out]; rfl, hal⟩
      go_wp2_with fail
      refine (l11Place_any x.a1 _).mono ?_
      rintro e w' ⟨rfl, rfl⟩
      rcases hb1 : placeI x.a1 with _ | _
      · have hno : Hid (R = false) := by show _ = _; rw [hR.out]; simp only [hb0, hb1, Bool.true_and, Bool.false_and]
        go_wp2
        go_ret
        exact ⟨by rw [hno.out]; rfl, hal⟩
      go_wp2_with fail
      refine (l11Place_any x.a2 _).mono ?_
      rintro e w' ⟨rfl, rfl⟩
      rcases hb2 : placeI x.a2 with _ | _
      · have hno : Hid (R = false) := by show _ = _; rw [hR.out]; simp only [hb0, hb1, hb2, Bool.true_and, Bool.false_and]
        go_wp2
        go_ret
        exact ⟨by rw [hno.out]; rfl, hal⟩
      go_wp2_with fail
      refine (l11CmdOk_any x _).mono ?_
      rintro e w1 ⟨rfl, b1⟩
      have c1 := bAll hal b1
      rcases hb3 : cmdI x with _ | _
      · have hno : Hid (R = false) := by show _ = _; rw [hR.out]; simp only [hb0, hb1, hb2, hb3, Bool.true_and, Bool.false_and]
        go_wp2
        go_ret
        exact ⟨by rw [hno.out]; rfl, c1⟩
      clear d0 d1 d2 d6 d7 d8 d9 d10 d11 d12 d13 d14 d15
      have d24 : World.cell? w1 ⟨w.heap.size, 24, none⟩ = some (Value.slice po x.ps.length pc) := boxAt (bKeeps b1 H0.out) 24
      go_wp2_with fail
      refine (specBlkOk_any _ x.ps _ (a1.keep c1)).mono ?_
      rintro e w2 ⟨rfl, b2⟩
      have c2 := bAll c1 b2
      rcases hb4 : okP x.ps with _ | _
      · have hno : Hid (R = false) := by show _ = _; rw [hR.out]; simp only [hb0, hb1, hb2, hb3, hb4, Bool.true_and, Bool.false_and]
        go_wp2
        go_ret
        exact ⟨by rw [hno.out]; rfl, c2⟩
      clear d24
      have d25 : World.cell? w2 ⟨w.heap.size, 25, none⟩ = some (Value.slice lo x.ls.length lc) := boxAt (bKeeps (bAll b1 b2) H0.out) 25
      go_wp2_with fail
      refine (l3LastOk_any _ x.ls _ (a2.keep c2)).mono ?_
      rintro e w3 ⟨rfl, b3⟩
      have hRR : Hid (R = okC x.ls) := by show _ = _; rw [hR.out]; simp only [hb0, hb1, hb2, hb3, hb4, Bool.true_and]
      go_wp2
      go_ret
      exact ⟨by rw [hRR.out]; rfl, bAll c2 b3⟩

end Go.Proofs.Ytiigcokbmggdkaa

/- What the laws of words have in common: contracts; no statement of the seat is proved here. -/
namespace Go.Proofs.Ytiigcokbmggdkaa
open Go.RowKit

theorem WdR.agg {w : World} {v : Value} {x : Wd} (h : WdR w v x) : ∃ cs : Array Value, v = .agg cs ∧ cs.size = 26 ∧ cs.all (·.oneCell') = true := by
  obtain ⟨po, pc, lo, lc, rfl, -, -⟩ := h
  exact ⟨_, rfl, rfl, all_of_list (List.all_eq_true.2 (wd_one x po lo _ pc _ lc))⟩
/-- A whole block is loaded, in a region that draws its order. -/
theorem yields_row {P : Program} {ops : Array Oper} {S : World → Prop} {op : Oper} {a : Act} (hw : Region.wanted op (yielded ops a.tmps) = true) (ty : TypeId) (x : Operand) (ho : op.op = .load ty x)
    (g : Nat) (hx : a.eval x = .pointer (some ⟨g, 0, none⟩)) (t : TypeId) (cs : Array Value) (d : TypeDesc) (hS : ∀ w, S w → w.heap[g]? = some (.cells cs t (0, 0)))
    (hu : P.underlying ty = some d) (hd : (match d with | .struct _ | .array _ _ => true | _ => false) = true) (hi : (P.info? ty).map (·.size) = some cs.size) : YieldsIf P ops S op (.agg cs) a :=
  .inl ⟨hw, fun w hw' => by
    unfold execOp
    simp only [ho, hx, Instr.loadAt, Instr.sureAddr, Sem.run_bind, Sem.run_pure, Result.andThen_ok, run_loadVar_row w g t ty cs (0, 0) d (hS w hw') hu hd hi]⟩

theorem infoAt {t : TypeId} {n m : Nat} (h : (Try.prog.info? t).map (·.size) = some n) (hm : m = n) : (Try.prog.info? t).map (·.size) = some m := by rw [hm]; exact h
theorem zero26 : (#[Value.int .i64 0, .int .i64 0, .int .i64 0, .int .i64 0, .int .i64 0, .int .i64 0, .int .i64 0, .int .i64 0, .int .i64 0, .int .i64 0, .int .i64 0, .int .i64 0, .int .i64 0, .int .i64 0, .int .i64 0, .int .i64 0, .int .i64 0, .int .i64 0, .int .i64 0, .int .i64 0, .int .i64 0, .int .i64 0, .int .i64 0, .int .i64 0, .slice none 0 0, .slice none 0 0] : Array Value).size = 26 := rfl

end Go.Proofs.Ytiigcokbmggdkaa

/- A struct in a row of others, loaded and stored whole: laws; no statement of the seat is proved here. -/
namespace Go.Proofs.Ytiigcokbmggdkaa
open Go.RowKit

theorem run_loadVar_at {P : Program} (w : World) (g off : Nat) (ty : TypeId) (cs : Array Value) (d : TypeDesc) (hc : ∀ j u, cs[j]? = some u → w.cell? ⟨g, off + j, none⟩ = some u)
    (hu : P.underlying ty = some d) (hd : (match d with | .struct _ | .array _ _ => true | _ => false) = true) (hi : (P.info? ty).map (·.size) = some cs.size) :
    (loadVar ty ⟨g, off, none⟩).run P w = .ok (.agg cs) w := by
  have hl : (loadCells ⟨g, off, none⟩ cs.toList.length).run P w = .ok cs.toList.toArray w :=
    run_loadCells_list (P := P) w ⟨g, off, none⟩ cs.toList (fun j v hv => by
      rw [Addr.add_lit]
      exact hc j v (by simpa using hv))
  cases hq : P.info? ty with
  | none => simp [hq] at hi
  | some i =>
    have hs : i.size = cs.size := by simpa [hq] using hi
    have hagg : (isAgg ty).run P w = .ok true w := by
      unfold isAgg
      rw [Sem.run_bind, run_underlying hu w]
      cases d <;> simp_all
    simp only [Array.length_toList, Array.toArray_toList] at hl
    simp [loadVar, Sem.run_bind, hagg, sizeOf, typeInfo, hq, hs, hl]

theorem wp_load_at {P : Program} {o : Oper} {a : Act} {w : World} {K : Act → World → Prop} {Q : Exit → Act → World → Prop} (ty : TypeId) (x : Operand) (ho : o.op = .load ty x)
    (g off : Nat) (hx : a.eval x = .pointer (some ⟨g, off, none⟩)) (cs : Array Value) (d : TypeDesc) (hc : ∀ j u, cs[j]? = some u → w.cell? ⟨g, off + j, none⟩ = some u)
    (hu : P.underlying ty = some d) (hd : (match d with | .struct _ | .array _ _ => true | _ => false) = true) (hi : (P.info? ty).map (·.size) = some cs.size)
    (h : K (a.put o.dst (.agg cs)) w) : o.wp P a w K Q := by
  unfold Oper.wp execOp
  simp only [ho, hx, Instr.loadAt, Instr.sureAddr, Sem.run_bind, Sem.run_pure, Result.andThen_ok, run_loadVar_at w g off ty cs d hc hu hd hi]
  exact h

theorem wpList_load_at {P : Program} {ops : Array Oper} {rest : List Oper} {o : Oper} {a : Act} {w : World} {Q : Exit → Act → World → Prop} (hgd : Region.wanted o (yielded ops a.tmps) = true) (ty : TypeId) (x : Operand) (ho : o.op = .load ty x)
    (g off : Nat) (hx : a.eval x = .pointer (some ⟨g, off, none⟩)) (cs : Array Value) (d : TypeDesc) (hc : ∀ j u, cs[j]? = some u → w.cell? ⟨g, off + j, none⟩ = some u)
    (hu : P.underlying ty = some d) (hd : (match d with | .struct _ | .array _ _ => true | _ => false) = true) (hi : (P.info? ty).map (·.size) = some cs.size)
    (h : wpList P ops Q rest (a.put o.dst (.agg cs)) w) : wpList P ops Q (o :: rest) a w :=
  wpList_step fun _ hK => by rw [if_pos hgd]; exact wp_load_at ty x ho g off hx cs d hc hu hd hi (hK _ _ h)

theorem yields_at {P : Program} {ops : Array Oper} {S : World → Prop} {op : Oper} {a : Act} (hw : Region.wanted op (yielded ops a.tmps) = true) (ty : TypeId) (x : Operand) (ho : op.op = .load ty x)
    (g off : Nat) (hx : a.eval x = .pointer (some ⟨g, off, none⟩)) (cs : Array Value) (d : TypeDesc) (hS : ∀ w, S w → ∀ j u, cs[j]? = some u → w.cell? ⟨g, off + j, none⟩ = some u)
    (hu : P.underlying ty = some d) (hd : (match d with | .struct _ | .array _ _ => true | _ => false) = true) (hi : (P.info? ty).map (·.size) = some cs.size) : YieldsIf P ops S op (.agg cs) a :=
  .inl ⟨hw, fun w hw' => by
    unfold execOp
    simp only [ho, hx, Instr.loadAt, Instr.sureAddr, Sem.run_bind, Sem.run_pure, Result.andThen_ok, run_loadVar_at w g off ty cs d (hS w hw') hu hd hi]⟩

/-- Cells written into a row, from a place on. -/
def putAt (cur : Array Value) (off : Nat) (cs : Array Value) : Array Value := (cur.toList.take off ++ cs.toList ++ cur.toList.drop (off + cs.size)).toArray

theorem run_storeVar_at {P : Program} (w : World) (g off : Nat) (t ty : TypeId) (old cells : Array Value) (hg : w.heap[g]? = some (.cells old t (0, 0))) (hi : (P.info? ty).map (·.size) = some cells.size)
    (ho : off + cells.size ≤ old.size) (h1 : cells.all (·.oneCell') = true) :
    (storeVar ty ⟨g, off, none⟩ (.agg cells)).run P w = .ok () (w.setRow g (putAt old off cells)) := by
  have := run_storeCells_at (P := P) g off t cells.toList 0 old w hg (by simp; omega) (fun v hv => (Array.all_eq_true_iff_forall_mem.1 h1) v (by simpa using hv))
  cases hq : P.info? ty with
  | none => simp [hq] at hi
  | some i =>
    have hs : cells.size = i.size := by simp [hq] at hi; omega
    simp [storeVar, sizeOf, typeInfo, hq, Value.cells, hs, this, putAt]

theorem wpList_store_at {P : Program} {ops : Array Oper} {rest : List Oper} {o : Oper} {a : Act} {w : World} {Q : Exit → Act → World → Prop} (hgd : o.guard = none) (ty : TypeId) (x y : Operand) (ho : o.op = .store ty x y)
    (g off : Nat) (cells : Array Value) (hx : a.eval x = .pointer (some ⟨g, off, none⟩)) (hy : a.eval y = .agg cells)
    (t : TypeId) (old : Array Value) (hg : w.heap[g]? = some (.cells old t (0, 0))) (hi : (P.info? ty).map (·.size) = some cells.size)
    (hold : off + cells.size ≤ old.size) (h1 : cells.all (·.oneCell') = true)
    (h : wpList P ops Q rest (a.put o.dst undef) (w.setRow g (putAt old off cells))) : wpList P ops Q (o :: rest) a w :=
  wpList_plain hgd fun _ hK => by
    unfold Oper.wp execOp
    simp only [ho, hx, hy, Instr.storeAt, Instr.sureAddr, Sem.run_bind, Sem.run_pure, Result.andThen_ok, run_storeVar_at w g off t ty old cells hg hi hold h1]
    exact hK _ _ h

end Go.Proofs.Ytiigcokbmggdkaa

/- What the laws' own helpers do with papers and voters: contracts; no statement of the seat is proved here. -/
namespace Go.Proofs.Ytiigcokbmggdkaa
open Go.RowKit

/-- A paper: its slot, its ballot, and its command (that of a word). -/
abbrev Pp := Int × Int × Wd
def pparr (p : Pp) : Array Value := (#[.int .i64 p.1, .int .i64 p.2.1, .int .i64 p.2.2.c0, .int .i64 p.2.2.c1, .int .i64 p.2.2.c2, .int .i64 p.2.2.c3, .int .i64 p.2.2.c4, .int .i64 p.2.2.c5, .int .i64 p.2.2.c6, .int .i64 p.2.2.c7, .int .i64 p.2.2.c8, .int .i64 p.2.2.c9] : Array Value)
def ppcell (p : Pp) : List Value := (pparr p).toList
def ppcells (xs : List Pp) : List Value := xs.flatMap ppcell
theorem ppcell_len (p : Pp) : (ppcell p).length = 12 := rfl
theorem ppcells_len (xs : List Pp) : (ppcells xs).length = xs.length * 12 := fm_len ppcell_len xs
theorem pparr_one (p : Pp) : (pparr p).all (·.oneCell') = true := all_of_list rfl
theorem pp_at {w wr : World} {b o k : Nat} {xs : List Pp} {p : Pp} (hc : ∀ j u, (ppcells xs)[j]? = some u → w.cell? ⟨b, o + j, none⟩ = some u) (h : xs[k]? = some p) (hb : Below w.heap.size w wr) :
    ∀ j u, (pparr p)[j]? = some u → wr.cell? ⟨b, o + k * 12 + j, none⟩ = some u :=
  fun j u hj => (el_cell ppcell_len hc h hb j u (by simpa [ppcell] using hj)).1
theorem infoPp : (Try.prog.info? 56).map (fun i => (i.zero, i.size, i.bytes)) = some (some (.agg #[.int .i64 0, .int .i64 0, .int .i64 0, .int .i64 0, .int .i64 0, .int .i64 0, .int .i64 0, .int .i64 0, .int .i64 0, .int .i64 0, .int .i64 0, .int .i64 0]), 12, 96) := by kernel_rfl
theorem infoPpS : (Try.prog.info? 56).map (·.size) = some 12 := by kernel_rfl
theorem infoCm10 : (Try.prog.info? 36).map (·.size) = some 10 := by kernel_rfl

end Go.Proofs.Ytiigcokbmggdkaa

/- What the laws' own helpers do with papers and voters: contracts; no statement of the seat is proved here. -/
namespace Go.Proofs.Ytiigcokbmggdkaa
open Go.RowKit

/-- What a voter reads: what it promised, its papers. -/
def VtR (w : World) (v : Value) (P : Int) (xs : List Pp) : Prop := ∃ ao cap, v = .agg #[.int .i64 P, .slice ao xs.length cap] ∧ RowR w 12 (.slice ao xs.length cap) xs.length (ppcells xs)
theorem VtR.keep {w w' : World} {v : Value} {P : Int} {xs : List Pp} (h : VtR w v P xs) (hb : Below w.heap.size w w') : VtR w' v P xs := by
  obtain ⟨ao, cap, e, h⟩ := h
  exact ⟨ao, cap, e, h.keep hb⟩
/-- A voter in a row of its own. -/
def VtO (w : World) (S : Nat → Prop) (v : Value) (P : Int) (xs : List Pp) : Prop := ∃ ao cap, v = .agg #[.int .i64 P, .slice ao xs.length cap] ∧ xs.length ≤ cap ∧ Row w 56 12 S (.slice ao xs.length cap) xs.length (ppcells xs)
theorem VtO.reads {w : World} {S : Nat → Prop} {v : Value} {P : Int} {xs : List Pp} (h : VtO w S v P xs) : VtR w v P xs := by
  obtain ⟨ao, cap, e, -, h⟩ := h
  exact ⟨ao, cap, e, h.reads⟩

end Go.Proofs.Ytiigcokbmggdkaa

/- Papers, by the specification and by the program: contracts; no statement of the seat is proved here. -/
namespace Go.Proofs.Ytiigcokbmggdkaa
open Go.RowKit

def ppI (p : Pp) : Bool := inI p.1 1 60 && (inI p.2.1 1 99999 && cmdI p.2.2)
def fitV (P : Int) (p : Pp) : Bool := ppI p && decide (p.2.1 ≤ P)
def ordV (p q : Pp) : Int := cmpI p.1 q.1

set_option maxRecDepth 100000 in
set_option maxHeartbeats 4000000 in
theorem l21PaperOk_any (s b : Int) (x : Wd) (w : World) :
    Calls Try.prog 73 #[.agg (#[.int .i64 s, .int .i64 b, .int .i64 x.c0, .int .i64 x.c1, .int .i64 x.c2, .int .i64 x.c3, .int .i64 x.c4, .int .i64 x.c5, .int .i64 x.c6, .int .i64 x.c7, .int .i64 x.c8, .int .i64 x.c9] : Array Value) ] w fun e w' => e = .returned (.bool (ppI (s, b, x))) ∧ Below w.heap.size w w' := by
  have al := bal (Below.refl w.heap.size w) (.cells (#[.int .i64 s, .int .i64 b, .int .i64 x.c0, .int .i64 x.c1, .int .i64 x.c2, .int .i64 x.c3, .int .i64 x.c4, .int .i64 x.c5, .int .i64 x.c6, .int .i64 x.c7, .int .i64 x.c8, .int .i64 x.c9] : Array Value) 56)
  obtain ⟨i1, h1⟩ : ∃ i, inI s 1 60 = i := ⟨_, rfl⟩
  obtain ⟨i2, h2⟩ : ∃ i, inI b 1 99999 = i := ⟨_, rfl⟩
  obtain ⟨i3, h3⟩ : ∃ i, cmdI x = i := ⟨_, rfl⟩
  have hf : ppI (s, b, x) = (i1 && (i2 && i3)) := by simp only [ppI, h1, h2, h3]
  rw [hf]
  have c1 := fun w => l6In_inI s 1 60 w
  have c2 := fun w => l6In_inI b 1 99999 w
  have c3 := fun w => l11CmdOk_any x w
  rw [h1] at c1
  rw [h2] at c2
  rw [h3] at c3
  clear h1 h2 h3 hf
  go_enter Try.func73, Try.ntmps73
  go_wp2_with fail
  refine (c1 _).mono ?_
  rintro e w' ⟨rfl, rfl⟩
  cases i1
  · go_wp2
    go_ret
    exact ⟨rfl, al⟩
  go_wp2_with fail
  refine (c2 _).mono ?_
  rintro e w' ⟨rfl, rfl⟩
  cases i2
  · go_wp2
    go_ret
    exact ⟨rfl, al⟩
  go_wp2_with fail
  refine (c3 _).mono ?_
  rintro e w' ⟨rfl, b3⟩
  go_wp2
  go_ret
  exact ⟨rfl, bAll al b3⟩

set_option maxRecDepth 100000 in
set_option maxHeartbeats 4000000 in
theorem synInForm_any (s b : Int) (x : Wd) (w : World) :
    Calls Try.prog 119 #[.agg (#[.int .i64 s, .int .i64 b, .int .i64 x.c0, .int .i64 x.c1, .int .i64 x.c2, .int .i64 x.c3, .int .i64 x.c4, .int .i64 x.c5, .int .i64 x.c6, .int .i64 x.c7, .int .i64 x.c8, .int .i64 x.c9] : Array Value) ] w fun e w' => e = .returned (.bool (ppI (s, b, x))) ∧ Below w.heap.size w w' := by
  have al := bal (Below.refl w.heap.size w) (.cells (#[.int .i64 s, .int .i64 b, .int .i64 x.c0, .int .i64 x.c1, .int .i64 x.c2, .int .i64 x.c3, .int .i64 x.c4, .int .i64 x.c5, .int .i64 x.c6, .int .i64 x.c7, .int .i64 x.c8, .int .i64 x.c9] : Array Value) 56)
  obtain ⟨i1, h1⟩ : ∃ i, inI s 1 60 = i := ⟨_, rfl⟩
  obtain ⟨i2, h2⟩ : ∃ i, inI b 1 99999 = i := ⟨_, rfl⟩
  obtain ⟨i3, h3⟩ : ∃ i, cmdI x = i := ⟨_, rfl⟩
  have hf : ppI (s, b, x) = (i1 && (i2 && i3)) := by simp only [ppI, h1, h2, h3]
  rw [hf]
  have c1 := fun w => blkWithin_any s 1 60 w
  have c2 := fun w => blkWithin_any b 1 99999 w
  have c3 := fun w => cmdInForm_any x w
  rw [h1] at c1
  rw [h2] at c2
  rw [h3] at c3
  clear h1 h2 h3 hf
  go_enter Try.func119, Try.ntmps119
  go_wp2_with fail
  refine (c1 _).mono ?_
  rintro e w' ⟨rfl, rfl⟩
  cases i1
  · go_wp2
    go_ret
    exact ⟨rfl, al⟩
  go_wp2_with fail
  refine (c2 _).mono ?_
  rintro e w' ⟨rfl, rfl⟩
  cases i2
  · go_wp2
    go_ret
    exact ⟨rfl, al⟩
  go_wp2_with fail
  refine (c3 _).mono ?_
  rintro e w' ⟨rfl, b3⟩
  go_wp2
  go_ret
  exact ⟨rfl, bAll al b3⟩

set_option maxRecDepth 100000 in
set_option maxHeartbeats 4000000 in
theorem synBySlot_any (s b : Int) (x : Wd) (s' b' : Int) (x' : Wd) (w : World) :
    Calls Try.prog 80 #[.agg (#[.int .i64 s, .int .i64 b, .int .i64 x.c0, .int .i64 x.c1, .int .i64 x.c2, .int .i64 x.c3, .int .i64 x.c4, .int .i64 x.c5, .int .i64 x.c6, .int .i64 x.c7, .int .i64 x.c8, .int .i64 x.c9] : Array Value), .agg (#[.int .i64 s', .int .i64 b', .int .i64 x'.c0, .int .i64 x'.c1, .int .i64 x'.c2, .int .i64 x'.c3, .int .i64 x'.c4, .int .i64 x'.c5, .int .i64 x'.c6, .int .i64 x'.c7, .int .i64 x'.c8, .int .i64 x'.c9] : Array Value) ] w fun e w' => e = .returned (.int .i64 (cmpI s s')) ∧ Below w.heap.size w w' := by
  have al := bal (bal (Below.refl w.heap.size w) (.cells (#[.int .i64 s, .int .i64 b, .int .i64 x.c0, .int .i64 x.c1, .int .i64 x.c2, .int .i64 x.c3, .int .i64 x.c4, .int .i64 x.c5, .int .i64 x.c6, .int .i64 x.c7, .int .i64 x.c8, .int .i64 x.c9] : Array Value) 56)) (.cells (#[.int .i64 s', .int .i64 b', .int .i64 x'.c0, .int .i64 x'.c1, .int .i64 x'.c2, .int .i64 x'.c3, .int .i64 x'.c4, .int .i64 x'.c5, .int .i64 x'.c6, .int .i64 x'.c7, .int .i64 x'.c8, .int .i64 x'.c9] : Array Value) 56)
  go_enter Try.func80, Try.ntmps80
  go_wp2_with fail
  refine (compare_any s s' _).mono ?_
  rintro e w1 ⟨rfl, rfl⟩
  go_wp2
  go_ret
  exact ⟨rfl, al⟩

set_option maxRecDepth 100000 in
set_option maxHeartbeats 4000000 in
theorem mayHave_any (B : Nat) (P : Int) (t : Value) (s b : Int) (x : Wd) (w : World) (hB : w.heap[B]? = some (.cells #[.int .i64 P, t] 35 (0, 0))) :
    Calls Try.prog 79 #[.pointer (some ⟨B, 0, none⟩), .agg (#[.int .i64 s, .int .i64 b, .int .i64 x.c0, .int .i64 x.c1, .int .i64 x.c2, .int .i64 x.c3, .int .i64 x.c4, .int .i64 x.c5, .int .i64 x.c6, .int .i64 x.c7, .int .i64 x.c8, .int .i64 x.c9] : Array Value) ] w fun e w' => e = .returned (.bool (fitV P (s, b, x))) ∧ Below w.heap.size w w' := by
  have al := bal (Below.refl w.heap.size w) (.cells (#[.int .i64 s, .int .i64 b, .int .i64 x.c0, .int .i64 x.c1, .int .i64 x.c2, .int .i64 x.c3, .int .i64 x.c4, .int .i64 x.c5, .int .i64 x.c6, .int .i64 x.c7, .int .i64 x.c8, .int .i64 x.c9] : Array Value) 56)
  have B0 := hide (heap_alloc_new w (.cells (#[.int .i64 s, .int .i64 b, .int .i64 x.c0, .int .i64 x.c1, .int .i64 x.c2, .int .i64 x.c3, .int .i64 x.c4, .int .i64 x.c5, .int .i64 x.c6, .int .i64 x.c7, .int .i64 x.c8, .int .i64 x.c9] : Array Value) 56))
  have B1 := hide (bKeeps al hB)
  obtain ⟨i1, h1⟩ : ∃ i, ppI (s, b, x) = i := ⟨_, rfl⟩
  have hf : fitV P (s, b, x) = (i1 && decide (b ≤ P)) := by simp only [fitV, h1]
  rw [hf]
  have c1 := fun w => synInForm_any s b x w
  rw [h1] at c1
  clear h1 hf hB
  go_enter Try.func79, Try.ntmps79
  go_wp2
  generalize World.alloc _ _ = W at al B0 B1 ⊢
  have dW := bDrewB (Below.refl W.heap.size W)
  cases i1
  · skip
    refine wp_region_noPanic ?_
    refine wp_region_held_drew (S := (fun w' => w'.heap[w.heap.size]? = some (.cells (#[.int .i64 s, .int .i64 b, .int .i64 x.c0, .int .i64 x.c1, .int .i64 x.c2, .int .i64 x.c3, .int .i64 x.c4, .int .i64 x.c5, .int .i64 x.c6, .int .i64 x.c7, .int .i64 x.c8, .int .i64 x.c9] : Array Value) 56 (0, 0)))) (by kernel_rfl) ?_ (fun hHeld => ?_)
    · exact B0.out
    refine wpAnyH_take (i := 0) (v := .agg (#[.int .i64 s, .int .i64 b, .int .i64 x.c0, .int .i64 x.c1, .int .i64 x.c2, .int .i64 x.c3, .int .i64 x.c4, .int .i64 x.c5, .int .i64 x.c6, .int .i64 x.c7, .int .i64 x.c8, .int .i64 x.c9] : Array Value)) rfl (by kernel_rfl) (by kernel_rfl) (by kernel_rfl) (fun _ _ _ h => h) (yields_row rfl 56 (.tmp 3) rfl (w.heap.size) rfl _ (#[.int .i64 s, .int .i64 b, .int .i64 x.c0, .int .i64 x.c1, .int .i64 x.c2, .int .i64 x.c3, .int .i64 x.c4, .int .i64 x.c5, .int .i64 x.c6, .int .i64 x.c7, .int .i64 x.c8, .int .i64 x.c9] : Array Value) _ (fun _ h => h) Try.underlying56 rfl infoPpS) (by assumption) ?_
    simp only [Act.put, List.getElem_toArray, List.getElem_cons_zero, List.setIfInBounds_toArray, List.set_cons_zero, List.set_cons_succ]
    refine wpAnyH_ready (rs := [1]) (by kernel_rfl) (by simp) ?_
    refine AllReadyH.cons rfl (fun K hK => ?_) AllReadyH.nil
    go_simp
    (go_at_call 119; refine (c1 _).mono ?_; rintro e w1 ⟨rfl, b1⟩; have b1' := bAll dW b1; have C0 := hide (bKeeps b1' B0.out))
    refine hK.out _ _ ?_ (fun hHeld => ?_)
    · exact C0.out
    clear hK K
    refine wpAnyH_take (i := 2) (v := ?v1) rfl (by kernel_rfl) (by kernel_rfl) (by kernel_rfl) (fun _ _ _ h => h) (Or.inl ⟨by rfl, ?hy1⟩) (by assumption) ?rest1
    case hy1 => ((intro w hSw; (try dsimp only at hSw); (try simp only [List.getElem_toArray, List.getElem_cons_zero, List.getElem_cons_succ]); go_simp; first | done | (with_reducible rfl)))
    simp only [Act.put, List.getElem_toArray, List.getElem_cons_zero, List.getElem_cons_succ, List.setIfInBounds_toArray, List.set_cons_zero, List.set_cons_succ]
    refine wpAnyH_take (i := 3) (v := undef) rfl (by kernel_rfl) (by kernel_rfl) (by kernel_rfl) (fun _ _ _ h => h) (Or.inr ⟨by rfl, rfl⟩) (by assumption) ?_
    simp only [Act.put, List.getElem_toArray, List.getElem_cons_zero, List.getElem_cons_succ, List.setIfInBounds_toArray, List.set_cons_zero, List.set_cons_succ]
    refine wpAnyH_take (i := 4) (v := undef) rfl (by kernel_rfl) (by kernel_rfl) (by kernel_rfl) (fun _ _ _ h => h) (Or.inr ⟨by rfl, rfl⟩) (by assumption) ?_
    simp only [Act.put, List.getElem_toArray, List.getElem_cons_zero, List.getElem_cons_succ, List.setIfInBounds_toArray, List.set_cons_zero, List.set_cons_succ]
    refine wpAnyH_take (i := 5) (v := undef) rfl (by kernel_rfl) (by kernel_rfl) (by kernel_rfl) (fun _ _ _ h => h) (Or.inr ⟨by rfl, rfl⟩) (by assumption) ?_
    simp only [Act.put, List.getElem_toArray, List.getElem_cons_zero, List.getElem_cons_succ, List.setIfInBounds_toArray, List.set_cons_zero, List.set_cons_succ]
    refine wpAnyH_take (i := 6) (v := undef) rfl (by kernel_rfl) (by kernel_rfl) (by kernel_rfl) (fun _ _ _ h => h) (Or.inr ⟨by rfl, rfl⟩) (by assumption) ?_
    simp only [Act.put, List.getElem_toArray, List.getElem_cons_zero, List.getElem_cons_succ, List.setIfInBounds_toArray, List.set_cons_zero, List.set_cons_succ]
    refine wpAnyH_take (i := 7) (v := undef) rfl (by kernel_rfl) (by kernel_rfl) (by kernel_rfl) (fun _ _ _ h => h) (Or.inr ⟨by rfl, rfl⟩) (by assumption) ?_
    simp only [Act.put, List.getElem_toArray, List.getElem_cons_zero, List.getElem_cons_succ, List.setIfInBounds_toArray, List.set_cons_zero, List.set_cons_succ]
    refine wpAnyH_take (i := 8) (v := undef) rfl (by kernel_rfl) (by kernel_rfl) (by kernel_rfl) (fun _ _ _ h => h) (Or.inr ⟨by rfl, rfl⟩) (by assumption) ?_
    simp only [Act.put, List.getElem_toArray, List.getElem_cons_zero, List.getElem_cons_succ, List.setIfInBounds_toArray, List.set_cons_zero, List.set_cons_succ]
    refine wpAnyH_take (i := 9) (v := undef) rfl (by kernel_rfl) (by kernel_rfl) (by kernel_rfl) (fun _ _ _ h => h) (Or.inr ⟨by rfl, rfl⟩) (by assumption) ?_
    simp only [Act.put, List.getElem_toArray, List.getElem_cons_zero, List.getElem_cons_succ, List.setIfInBounds_toArray, List.set_cons_zero, List.set_cons_succ]
    refine wpAnyH_take (i := 10) (v := ?v2) rfl (by kernel_rfl) (by kernel_rfl) (by kernel_rfl) (fun _ _ _ h => h) (Or.inl ⟨by rfl, ?hy2⟩) (by assumption) ?rest2
    case hy2 => ((intro w hSw; (try dsimp only at hSw); (try simp only [List.getElem_toArray, List.getElem_cons_zero, List.getElem_cons_succ]); go_simp; first | done | (with_reducible rfl)))
    simp only [Act.put, List.getElem_toArray, List.getElem_cons_zero, List.getElem_cons_succ, List.setIfInBounds_toArray, List.set_cons_zero, List.set_cons_succ]
    refine wpAnyH_take (i := 11) (v := ?v3) rfl (by kernel_rfl) (by kernel_rfl) (by kernel_rfl) (fun _ _ _ h => h) (Or.inl ⟨by rfl, ?hy3⟩) (by assumption) ?rest3
    case hy3 => ((intro w hSw; (try dsimp only at hSw); (try simp only [List.getElem_toArray, List.getElem_cons_zero, List.getElem_cons_succ]); go_simp; first | done | (with_reducible rfl)))
    simp only [Act.put, List.getElem_toArray, List.getElem_cons_zero, List.getElem_cons_succ, List.setIfInBounds_toArray, List.set_cons_zero, List.set_cons_succ]
    refine wpAnyH_done (by kernel_rfl) ?_ _
    refine NoPanic.normal ?_
    go_wp2
    go_ret
    exact ⟨rfl, bAll al b1'⟩
  · skip
    refine wp_region_noPanic ?_
    refine wp_region_held_drew (S := (fun w' => w'.heap[w.heap.size]? = some (.cells (#[.int .i64 s, .int .i64 b, .int .i64 x.c0, .int .i64 x.c1, .int .i64 x.c2, .int .i64 x.c3, .int .i64 x.c4, .int .i64 x.c5, .int .i64 x.c6, .int .i64 x.c7, .int .i64 x.c8, .int .i64 x.c9] : Array Value) 56 (0, 0)) ∧ w'.cell? ⟨w.heap.size, 1, none⟩ = some (.int .i64 b) ∧ w'.cell? ⟨B, 0, none⟩ = some (.int .i64 P))) (by kernel_rfl) ?_ (fun hHeld => ?_)
    · exact ⟨B0.out, boxAt B0.out 1, boxAt B1.out 0⟩
    refine wpAnyH_take (i := 0) (v := .agg (#[.int .i64 s, .int .i64 b, .int .i64 x.c0, .int .i64 x.c1, .int .i64 x.c2, .int .i64 x.c3, .int .i64 x.c4, .int .i64 x.c5, .int .i64 x.c6, .int .i64 x.c7, .int .i64 x.c8, .int .i64 x.c9] : Array Value)) rfl (by kernel_rfl) (by kernel_rfl) (by kernel_rfl) (fun _ _ _ h => h) (yields_row rfl 56 (.tmp 3) rfl (w.heap.size) rfl _ (#[.int .i64 s, .int .i64 b, .int .i64 x.c0, .int .i64 x.c1, .int .i64 x.c2, .int .i64 x.c3, .int .i64 x.c4, .int .i64 x.c5, .int .i64 x.c6, .int .i64 x.c7, .int .i64 x.c8, .int .i64 x.c9] : Array Value) _ (fun _ h => h.1) Try.underlying56 rfl infoPpS) (by assumption) ?_
    simp only [Act.put, List.getElem_toArray, List.getElem_cons_zero, List.setIfInBounds_toArray, List.set_cons_zero, List.set_cons_succ]
    refine wpAnyH_ready (rs := [1]) (by kernel_rfl) (by simp) ?_
    refine AllReadyH.cons rfl (fun K hK => ?_) AllReadyH.nil
    go_simp
    (go_at_call 119; refine (c1 _).mono ?_; rintro e w1 ⟨rfl, b1⟩; have b1' := bAll dW b1; have C0 := hide (bKeeps b1' B0.out); have C1 := hide (bKeeps b1' B1.out))
    refine hK.out _ _ ?_ (fun hHeld => ?_)
    · exact ⟨C0.out, boxAt C0.out 1, boxAt C1.out 0⟩
    clear hK K
    refine wpAnyH_take (i := 2) (v := ?v4) rfl (by kernel_rfl) (by kernel_rfl) (by kernel_rfl) (fun _ _ _ h => h) (Or.inl ⟨by rfl, ?hy4⟩) (by assumption) ?rest4
    case hy4 => ((intro w hSw; (try dsimp only at hSw); (try simp only [List.getElem_toArray, List.getElem_cons_zero, List.getElem_cons_succ]); go_simp; first | done | (with_reducible rfl)))
    simp only [Act.put, List.getElem_toArray, List.getElem_cons_zero, List.getElem_cons_succ, List.setIfInBounds_toArray, List.set_cons_zero, List.set_cons_succ]
    refine wpAnyH_take (i := 3) (v := ?v5) rfl (by kernel_rfl) (by kernel_rfl) (by kernel_rfl) (fun _ _ _ h => h) (Or.inl ⟨by rfl, ?hy5⟩) (by assumption) ?rest5
    case hy5 => ((intro w hSw; (try dsimp only at hSw); (try simp only [List.getElem_toArray, List.getElem_cons_zero, List.getElem_cons_succ]); go_simp; first | done | (with_reducible rfl)))
    simp only [Act.put, List.getElem_toArray, List.getElem_cons_zero, List.getElem_cons_succ, List.setIfInBounds_toArray, List.set_cons_zero, List.set_cons_succ]
    refine wpAnyH_take (i := 4) (v := ?v6) rfl (by kernel_rfl) (by kernel_rfl) (by kernel_rfl) (fun _ _ _ h => h) (Or.inl ⟨by rfl, ?hy6⟩) (by assumption) ?rest6
    case hy6 => ((intro w hSw; (try dsimp only at hSw); (try simp only [List.getElem_toArray, List.getElem_cons_zero, List.getElem_cons_succ]); go_simp; first | done | (with_reducible rfl)))
    simp only [Act.put, List.getElem_toArray, List.getElem_cons_zero, List.getElem_cons_succ, List.setIfInBounds_toArray, List.set_cons_zero, List.set_cons_succ]
    refine wpAnyH_take (i := 5) (v := ?v7) rfl (by kernel_rfl) (by kernel_rfl) (by kernel_rfl) (fun _ _ _ h => h) (Or.inl ⟨by rfl, ?hy7⟩) (by assumption) ?rest7
    case hy7 => ((intro w hSw; (try dsimp only at hSw); (try simp only [List.getElem_toArray, List.getElem_cons_zero, List.getElem_cons_succ]); go_simp; first | done | (with_reducible rfl)))
    simp only [Act.put, List.getElem_toArray, List.getElem_cons_zero, List.getElem_cons_succ, List.setIfInBounds_toArray, List.set_cons_zero, List.set_cons_succ]
    refine wpAnyH_take (i := 6) (v := ?v8) rfl (by kernel_rfl) (by kernel_rfl) (by kernel_rfl) (fun _ _ _ h => h) (Or.inl ⟨by rfl, ?hy8⟩) (by assumption) ?rest8
    case hy8 => ((intro w hSw; (try dsimp only at hSw); (try simp only [List.getElem_toArray, List.getElem_cons_zero, List.getElem_cons_succ]); go_simp; first | done | (with_reducible rfl)))
    simp only [Act.put, List.getElem_toArray, List.getElem_cons_zero, List.getElem_cons_succ, List.setIfInBounds_toArray, List.set_cons_zero, List.set_cons_succ]
    refine wpAnyH_take (i := 7) (v := ?v9) rfl (by kernel_rfl) (by kernel_rfl) (by kernel_rfl) (fun _ _ _ h => h) (Or.inl ⟨by rfl, ?hy9⟩) (by assumption) ?rest9
    case hy9 => ((intro w hSw; (try dsimp only at hSw); (try simp only [List.getElem_toArray, List.getElem_cons_zero, List.getElem_cons_succ]); go_simp; first | done | (with_reducible rfl)))
    simp only [Act.put, List.getElem_toArray, List.getElem_cons_zero, List.getElem_cons_succ, List.setIfInBounds_toArray, List.set_cons_zero, List.set_cons_succ]
    refine wpAnyH_take (i := 8) (v := ?v10) rfl (by kernel_rfl) (by kernel_rfl) (by kernel_rfl) (fun _ _ _ h => h) (Or.inl ⟨by rfl, ?hy10⟩) (by assumption) ?rest10
    case hy10 => ((intro w hSw; (try dsimp only at hSw); (try simp only [List.getElem_toArray, List.getElem_cons_zero, List.getElem_cons_succ]); go_simp; first | done | (with_reducible rfl)))
    simp only [Act.put, List.getElem_toArray, List.getElem_cons_zero, List.getElem_cons_succ, List.setIfInBounds_toArray, List.set_cons_zero, List.set_cons_succ]
    refine wpAnyH_take (i := 9) (v := ?v11) rfl (by kernel_rfl) (by kernel_rfl) (by kernel_rfl) (fun _ _ _ h => h) (Or.inl ⟨by rfl, ?hy11⟩) (by assumption) ?rest11
    case hy11 => ((intro w hSw; (try dsimp only at hSw); (try simp only [List.getElem_toArray, List.getElem_cons_zero, List.getElem_cons_succ]); go_simp; first | done | (with_reducible rfl)))
    simp only [Act.put, List.getElem_toArray, List.getElem_cons_zero, List.getElem_cons_succ, List.setIfInBounds_toArray, List.set_cons_zero, List.set_cons_succ]
    refine wpAnyH_take (i := 10) (v := ?v12) rfl (by kernel_rfl) (by kernel_rfl) (by kernel_rfl) (fun _ _ _ h => h) (Or.inl ⟨by rfl, ?hy12⟩) (by assumption) ?rest12
    case hy12 => ((intro w hSw; (try dsimp only at hSw); (try simp only [List.getElem_toArray, List.getElem_cons_zero, List.getElem_cons_succ]); go_simp; first | done | (with_reducible rfl)))
    simp only [Act.put, List.getElem_toArray, List.getElem_cons_zero, List.getElem_cons_succ, List.setIfInBounds_toArray, List.set_cons_zero, List.set_cons_succ]
    refine wpAnyH_take (i := 11) (v := ?v13) rfl (by kernel_rfl) (by kernel_rfl) (by kernel_rfl) (fun _ _ _ h => h) (Or.inl ⟨by rfl, ?hy13⟩) (by assumption) ?rest13
    case hy13 => ((intro w hSw; (try dsimp only at hSw); (try simp only [List.getElem_toArray, List.getElem_cons_zero, List.getElem_cons_succ]); go_simp; first | done | (with_reducible rfl)))
    simp only [Act.put, List.getElem_toArray, List.getElem_cons_zero, List.getElem_cons_succ, List.setIfInBounds_toArray, List.set_cons_zero, List.set_cons_succ]
    refine wpAnyH_done (by kernel_rfl) ?_ _
    refine NoPanic.normal ?_
    go_wp2
    go_ret
    exact ⟨by simp, bAll al b1'⟩

end Go.Proofs.Ytiigcokbmggdkaa
