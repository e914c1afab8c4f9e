/- Contracts and plain facts that this claim leans on (texts XS, XL, RA, VP, VP2, VP3, SPut, XA, SE, Ints, SK1, VU, VR, VPa, VI); no statement of the seat is proved here. -/
import Derived.Test.YteddhdbglciahaaLk1
import Derived.Test.YteddhdbglciahaaLk2
import Derived.Test.YteddhdbglciahaaLk7
import Derived.Test.YteddhdbglciahaaLk5
import Derived.Laws.CopyRow
import Derived.Test.YteddhdbglciahaaLk3
import Derived.Laws.StructEq
import Derived.Deep.DeepCutAuto
import Derived.Laws.ResultCell

/- WordOk of the specification: contracts; no statement of the seat is proved here. -/
namespace Go.Proofs.Yteddhdbglciahaa
open Go.RowKit

set_option maxHeartbeats 400000 in
theorem l11Num_any (n : Int) (w : World) :
    Calls Try.prog 105 #[.int .i64 n] w fun e w' => e = .returned (.bool (numI n)) ∧ w' = w := by
  go_enter Try.func105, Try.ntmps105
  go_wp2_with fail
  refine (l6In_inI n (-1) 99999 _).mono ?_
  rintro e w1 ⟨rfl, rfl⟩
  go_wp2
  go_ret
  exact ⟨rfl, rfl⟩

set_option maxHeartbeats 400000 in
theorem l11Place_any (n : Int) (w : World) :
    Calls Try.prog 106 #[.int .i64 n] w fun e w' => e = .returned (.bool (placeI n)) ∧ w' = w := by
  go_enter Try.func106, Try.ntmps106
  go_wp2_with fail
  refine (l6In_inI n 0 4 _).mono ?_
  rintro e w1 ⟨rfl, rfl⟩
  rcases h1 : inI n 0 4 with _ | _
  · have H : placeI n = inI n 100 103 := by simp [placeI, h1]
    go_wp2_with fail
    refine (l6In_inI n 100 103 _).mono ?_
    rintro e w1 ⟨rfl, rfl⟩
    have HH := hide H
    clear H
    go_wp2
    go_ret
    exact ⟨by rw [HH.out]; rfl, rfl⟩
  · have H : placeI n = true := by simp [placeI, h1]
    go_wp2
    go_ret
    exact ⟨by rw [H]; rfl, rfl⟩

set_option maxRecDepth 100000 in
set_option maxHeartbeats 4000000 in
theorem l11CmdOk_any (x : Wd) (w : World) :
    Calls Try.prog 70 #[ .agg #[.int .i64 x.c0, .int .i64 x.c1, .int .i64 x.c2, .int .i64 x.c3, .int .i64 x.c4, .int .i64 x.c5, .int .i64 x.c6, .int .i64 x.c7, .int .i64 x.c8, .int .i64 x.c9] ] w fun e w' => e = .returned (.bool (cmdI x)) ∧ Below w.heap.size w w' := by
  obtain ⟨R, HR⟩ : ∃ R, Hid (cmdI x = R) := ⟨_, rfl⟩
  rw [HR.out]
  go_enter Try.func70, Try.ntmps70
  go_wp2_with fail
  refine (l6In_inI x.c0 0 7 _).mono ?_
  rintro e w' ⟨rfl, rfl⟩
  rcases hb0 : inI x.c0 0 7 with _ | _
  · have hno : Hid (R = false) := by show _ = _; rw [← HR.out]; simp only [cmdI, hb0, Bool.false_and]
    go_wp2
    go_ret
    exact ⟨by rw [hno.out]; rfl, bal (Below.refl _ _) _⟩
  go_wp2_with fail
  refine (l11Num_any x.c1 _).mono ?_
  rintro e w' ⟨rfl, rfl⟩
  rcases hb1 : numI x.c1 with _ | _
  · have hno : Hid (R = false) := by show _ = _; rw [← HR.out]; simp only [cmdI, hb0, hb1, Bool.true_and, Bool.false_and]
    go_wp2
    go_ret
    exact ⟨by rw [hno.out]; rfl, bal (Below.refl _ _) _⟩
  go_wp2_with fail
  refine (l11Num_any x.c2 _).mono ?_
  rintro e w' ⟨rfl, rfl⟩
  rcases hb2 : numI x.c2 with _ | _
  · have hno : Hid (R = false) := by show _ = _; rw [← HR.out]; simp only [cmdI, hb0, hb1, hb2, Bool.true_and, Bool.false_and]
    go_wp2
    go_ret
    exact ⟨by rw [hno.out]; rfl, bal (Below.refl _ _) _⟩
  go_wp2_with fail
  refine (l11Num_any x.c3 _).mono ?_
  rintro e w' ⟨rfl, rfl⟩
  rcases hb3 : numI x.c3 with _ | _
  · have hno : Hid (R = false) := by show _ = _; rw [← HR.out]; simp only [cmdI, hb0, hb1, hb2, hb3, Bool.true_and, Bool.false_and]
    go_wp2
    go_ret
    exact ⟨by rw [hno.out]; rfl, bal (Below.refl _ _) _⟩
  go_wp2_with fail
  refine (l11Num_any x.c4 _).mono ?_
  rintro e w' ⟨rfl, rfl⟩
  rcases hb4 : numI x.c4 with _ | _
  · have hno : Hid (R = false) := by show _ = _; rw [← HR.out]; simp only [cmdI, hb0, hb1, hb2, hb3, hb4, Bool.true_and, Bool.false_and]
    go_wp2
    go_ret
    exact ⟨by rw [hno.out]; rfl, bal (Below.refl _ _) _⟩
  go_wp2_with fail
  refine (l11Num_any x.c5 _).mono ?_
  rintro e w' ⟨rfl, rfl⟩
  rcases hb5 : numI x.c5 with _ | _
  · have hno : Hid (R = false) := by show _ = _; rw [← HR.out]; simp only [cmdI, hb0, hb1, hb2, hb3, hb4, hb5, Bool.true_and, Bool.false_and]
    go_wp2
    go_ret
    exact ⟨by rw [hno.out]; rfl, bal (Below.refl _ _) _⟩
  go_wp2_with fail
  refine (l11Num_any x.c6 _).mono ?_
  rintro e w' ⟨rfl, rfl⟩
  rcases hb6 : numI x.c6 with _ | _
  · have hno : Hid (R = false) := by show _ = _; rw [← HR.out]; simp only [cmdI, hb0, hb1, hb2, hb3, hb4, hb5, hb6, Bool.true_and, Bool.false_and]
    go_wp2
    go_ret
    exact ⟨by rw [hno.out]; rfl, bal (Below.refl _ _) _⟩
  go_wp2_with fail
  refine (l11Num_any x.c7 _).mono ?_
  rintro e w' ⟨rfl, rfl⟩
  rcases hb7 : numI x.c7 with _ | _
  · have hno : Hid (R = false) := by show _ = _; rw [← HR.out]; simp only [cmdI, hb0, hb1, hb2, hb3, hb4, hb5, hb6, hb7, Bool.true_and, Bool.false_and]
    go_wp2
    go_ret
    exact ⟨by rw [hno.out]; rfl, bal (Below.refl _ _) _⟩
  go_wp2_with fail
  refine (l11Num_any x.c8 _).mono ?_
  rintro e w' ⟨rfl, rfl⟩
  rcases hb8 : numI x.c8 with _ | _
  · have hno : Hid (R = false) := by show _ = _; rw [← HR.out]; simp only [cmdI, hb0, hb1, hb2, hb3, hb4, hb5, hb6, hb7, hb8, Bool.true_and, Bool.false_and]
    go_wp2
    go_ret
    exact ⟨by rw [hno.out]; rfl, bal (Below.refl _ _) _⟩
  go_wp2_with fail
  refine (l11Num_any x.c9 _).mono ?_
  rintro e w' ⟨rfl, rfl⟩
  have hR : Hid (R = numI x.c9) := by show _ = _; rw [← HR.out]; simp only [cmdI, hb0, hb1, hb2, hb3, hb4, hb5, hb6, hb7, hb8, Bool.true_and]
  go_wp2
  go_ret
  exact ⟨by rw [hR.out]; rfl, bal (Below.refl _ _) _⟩

theorem twentyfour (x : Wd) (k : Nat) (h : k < 24) : ∃ a, x.nums[k]? = some a := getAt x.nums k (by simpa [Wd.nums] using h)

set_option maxHeartbeats 4000000 in
theorem l11Nums_any (x : Wd) (po lo : Option Addr) (pn pc ln lc : Nat) (w : World) :
    Calls Try.prog 104 #[ .agg #[.int .i64 x.a0, .int .i64 x.a1, .int .i64 x.a2, .int .i64 x.a3, .int .i64 x.a4, .int .i64 x.a5, .int .i64 x.c0, .int .i64 x.c1, .int .i64 x.c2, .int .i64 x.c3, .int .i64 x.c4, .int .i64 x.c5, .int .i64 x.c6, .int .i64 x.c7, .int .i64 x.c8, .int .i64 x.c9, .int .i64 x.b0, .int .i64 x.b1, .int .i64 x.b2, .int .i64 x.b3, .int .i64 x.b4, .int .i64 x.b5, .int .i64 x.b6, .int .i64 x.b7, .slice po pn pc, .slice lo ln lc] ] w fun e w' => e = .returned (.slice (some ⟨w.heap.size + 1 + 1, 0, none⟩) 24 24) ∧
      w' = ((w.alloc (.cells (#[.int .i64 x.a0, .int .i64 x.a1, .int .i64 x.a2, .int .i64 x.a3, .int .i64 x.a4, .int .i64 x.a5, .int .i64 x.c0, .int .i64 x.c1, .int .i64 x.c2, .int .i64 x.c3, .int .i64 x.c4, .int .i64 x.c5, .int .i64 x.c6, .int .i64 x.c7, .int .i64 x.c8, .int .i64 x.c9, .int .i64 x.b0, .int .i64 x.b1, .int .i64 x.b2, .int .i64 x.b3, .int .i64 x.b4, .int .i64 x.b5, .int .i64 x.b6, .int .i64 x.b7, .slice po pn pc, .slice lo ln lc] : Array Value) 47)).alloc (.cells #[.int .i64 x.c0, .int .i64 x.c1, .int .i64 x.c2, .int .i64 x.c3, .int .i64 x.c4, .int .i64 x.c5, .int .i64 x.c6, .int .i64 x.c7, .int .i64 x.c8, .int .i64 x.c9] 35)).alloc (.cells (x.nums.map (Value.int .i64)).toArray 3) := by
  go_enter Try.func104, Try.ntmps104
  go_wp2
  go_ret
  exact ⟨rfl, rfl⟩

theorem numsRow {w : World} (x : Wd) (t : TypeId) {k : Nat} {a : Int} (h : x.nums[k]? = some a) : (w.alloc (.cells (x.nums.map (Value.int .i64)).toArray t)).cell? ⟨w.heap.size, k, none⟩ = some (.int .i64 a) := by
  rw [cell_of_row _ _ k _ t (0, 0) (heap_alloc_new w _)]
  simp [h]

set_option maxRecDepth 100000 in
set_option maxHeartbeats 8000000 in
theorem specWordOk_any (v : Value) (x : Wd) (w : World) (h : WdR w v x) :
    Calls Try.prog 39 #[v] w fun e w' => e = .returned (.bool (okW x)) ∧ Below w.heap.size w w' := by
  obtain ⟨po, pc, lo, lc, rfl, a1, a2⟩ := h
  obtain ⟨R, HR⟩ : ∃ R, Hid (okW x = R) := ⟨_, rfl⟩
  rw [HR.out]
  go_enter Try.func39, Try.ntmps39
  go_wp2_with (refine wpList_load_row rfl 47 (.tmp 1) rfl w.heap.size rfl _ _ (0, 0) _ (heap_alloc_new w _) Try.underlying47 rfl infoWd ?_)
  refine (l11Nums_any x _ _ _ _ _ _ _).mono ?_
  rintro e W ⟨rfl, hW⟩
  simp only [World.size_alloc]
  generalize hv : Value.agg _ = v0
  clear hv
  have hal : Below w.heap.size w W := by rw [hW]; exact bal (bal (bal (bal (Below.refl _ _) _) _) _) _
  have B0 : W.heap[w.heap.size]? = some (.cells (#[.int .i64 x.a0, .int .i64 x.a1, .int .i64 x.a2, .int .i64 x.a3, .int .i64 x.a4, .int .i64 x.a5, .int .i64 x.c0, .int .i64 x.c1, .int .i64 x.c2, .int .i64 x.c3, .int .i64 x.c4, .int .i64 x.c5, .int .i64 x.c6, .int .i64 x.c7, .int .i64 x.c8, .int .i64 x.c9, .int .i64 x.b0, .int .i64 x.b1, .int .i64 x.b2, .int .i64 x.b3, .int .i64 x.b4, .int .i64 x.b5, .int .i64 x.b6, .int .i64 x.b7, .slice po x.ps.length pc, .slice lo x.ls.length lc] : Array Value) 47 (0, 0)) := by rw [hW]; exact heap_up _ (heap_up _ (heap_up _ (heap_alloc_new w _)))
  have hcell : ∀ k a, x.nums[k]? = some a → W.cell? ⟨w.heap.size + 1 + 1 + 1, k, none⟩ = some (.int .i64 a) := by
    intro k a h
    rw [hW]
    have := numsRow (w := ((w.alloc (.cells (#[.int .i64 x.a0, .int .i64 x.a1, .int .i64 x.a2, .int .i64 x.a3, .int .i64 x.a4, .int .i64 x.a5, .int .i64 x.c0, .int .i64 x.c1, .int .i64 x.c2, .int .i64 x.c3, .int .i64 x.c4, .int .i64 x.c5, .int .i64 x.c6, .int .i64 x.c7, .int .i64 x.c8, .int .i64 x.c9, .int .i64 x.b0, .int .i64 x.b1, .int .i64 x.b2, .int .i64 x.b3, .int .i64 x.b4, .int .i64 x.b5, .int .i64 x.b6, .int .i64 x.b7, .slice po x.ps.length pc, .slice lo x.ls.length lc] : Array Value) 47)).alloc (.cells (#[.int .i64 x.a0, .int .i64 x.a1, .int .i64 x.a2, .int .i64 x.a3, .int .i64 x.a4, .int .i64 x.a5, .int .i64 x.c0, .int .i64 x.c1, .int .i64 x.c2, .int .i64 x.c3, .int .i64 x.c4, .int .i64 x.c5, .int .i64 x.c6, .int .i64 x.c7, .int .i64 x.c8, .int .i64 x.c9, .int .i64 x.b0, .int .i64 x.b1, .int .i64 x.b2, .int .i64 x.b3, .int .i64 x.b4, .int .i64 x.b5, .int .i64 x.b6, .int .i64 x.b7, .slice po x.ps.length pc, .slice lo x.ls.length lc] : Array Value) 47)).alloc (.cells #[.int .i64 x.c0, .int .i64 x.c1, .int .i64 x.c2, .int .i64 x.c3, .int .i64 x.c4, .int .i64 x.c5, .int .i64 x.c6, .int .i64 x.c7, .int .i64 x.c8, .int .i64 x.c9] 35)) x 3 h
    simpa only [World.size_alloc] using this
  clear hW
  have HC := hide hcell
  have H0 := hide B0
  clear hcell B0
  go_wp2_with fail
  go_loopw [4] (fun i wr => ∃ k : Nat, k ≤ 24 ∧ i = .int .i64 k ∧ (∀ j a, j < k → x.nums[j]? = some a → numI a = true) ∧ wr = W) (fun i _ => 24 - (intOf i).toNat)
  case atStart => exact ⟨0, Nat.zero_le _, rfl, fun j a hj => by omega, rfl⟩
  case round =>
    obtain ⟨k, hk, rfl, hgood, rfl⟩ := hrel
    have HG := hide hgood
    clear hgood
    by_cases hlt : k < 24
    · obtain ⟨a, ha⟩ := twentyfour x k hlt
      have hc := HC.out k a ha
      have Ha := hide ha
      have hi : (k : Int) < 24 := by omega
      clear ha
      go_wp2_with fail
      refine (l11Num_any a _).mono ?_
      rintro e w' ⟨rfl, rfl⟩
      rcases hb : numI a with _ | _
      · have hno : Hid (R = false) := by
          show _ = _
          rw [← HR.out, okW, List.all_eq_false.2 ⟨a, List.mem_of_getElem? Ha.out, by simp [hb]⟩, Bool.false_and]
        go_wp2
        go_ret
        exact ⟨by rw [hno.out]; rfl, hal⟩
      · go_wp2
        go_roundw
        case rel =>
          refine ⟨k + 1, by omega, by go_num, fun j b hj hbj => ?_, by trivial⟩
          by_cases hjk : j = k
          · subst hjk
            rw [Ha.out] at hbj
            rw [← Option.some.inj hbj]
            exact hb
          · exact HG.out j b (by omega) hbj
        case measure => simp [intOf]; omega
    · have hall : x.nums.all numI = true := by
        refine List.all_eq_true.2 (fun a ha => ?_)
        obtain ⟨j, hj, e⟩ := List.getElem_of_mem ha
        have hj24 : j < 24 := by simpa [Wd.nums] using hj
        exact HG.out j a (by omega) (by rw [List.getElem?_eq_getElem hj, e])
      have hR : Hid (R = (inI x.a0 1 15 && (placeI x.a1 && (placeI x.a2 && (cmdI x && (okP x.ps && okC x.ls)))))) := by
        show _ = _
        rw [← HR.out, okW, hall, Bool.true_and]
      clear hall HR HG HC
      have hge : ¬ (k : Int) < 24 := by omega
      have d0 : World.cell? _ ⟨w.heap.size, 0, none⟩ = some (Value.int .i64 x.a0) := boxAt (H0.out) 0
      have d1 : World.cell? _ ⟨w.heap.size, 1, none⟩ = some (Value.int .i64 x.a1) := boxAt (H0.out) 1
      have d2 : World.cell? _ ⟨w.heap.size, 2, none⟩ = some (Value.int .i64 x.a2) := boxAt (H0.out) 2
      have d6 : World.cell? _ ⟨w.heap.size, 6, none⟩ = some (Value.int .i64 x.c0) := boxAt (H0.out) 6
      have d7 : World.cell? _ ⟨w.heap.size, 7, none⟩ = some (Value.int .i64 x.c1) := boxAt (H0.out) 7
      have d8 : World.cell? _ ⟨w.heap.size, 8, none⟩ = some (Value.int .i64 x.c2) := boxAt (H0.out) 8
      have d9 : World.cell? _ ⟨w.heap.size, 9, none⟩ = some (Value.int .i64 x.c3) := boxAt (H0.out) 9
      have d10 : World.cell? _ ⟨w.heap.size, 10, none⟩ = some (Value.int .i64 x.c4) := boxAt (H0.out) 10
      have d11 : World.cell? _ ⟨w.heap.size, 11, none⟩ = some (Value.int .i64 x.c5) := boxAt (H0.out) 11
      have d12 : World.cell? _ ⟨w.heap.size, 12, none⟩ = some (Value.int .i64 x.c6) := boxAt (H0.out) 12
      have d13 : World.cell? _ ⟨w.heap.size, 13, none⟩ = some (Value.int .i64 x.c7) := boxAt (H0.out) 13
      have d14 : World.cell? _ ⟨w.heap.size, 14, none⟩ = some (Value.int .i64 x.c8) := boxAt (H0.out) 14
      have d15 : World.cell? _ ⟨w.heap.size, 15, none⟩ = some (Value.int .i64 x.c9) := boxAt (H0.out) 15
      go_wp2_with fail
      refine (l6In_inI x.a0 1 15 _).mono ?_
      rintro e w' ⟨rfl, rfl⟩
      rcases hb0 : inI x.a0 1 15 with _ | _
      · have hno : Hid (R = false) := by show _ = _; rw [hR.out]; simp only [hb0, Bool.false_and]
        go_wp2
        go_ret
        exact ⟨by rw [hno.out]; rfl, hal⟩
      go_wp2_with fail
      refine (l11Place_any x.a1 _).mono ?_
      rintro e w' ⟨rfl, rfl⟩
      rcases hb1 : placeI x.a1 with _ | _
      · have hno : Hid (R = false) := by show _ = _; rw [hR.out]; simp only [hb0, hb1, Bool.true_and, Bool.false_and]
        go_wp2
        go_ret
        exact ⟨by rw [hno.out]; rfl, hal⟩
      go_wp2_with fail
      refine (l11Place_any x.a2 _).mono ?_
      rintro e w' ⟨rfl, rfl⟩
      rcases hb2 : placeI x.a2 with _ | _
      · have hno : Hid (R = false) := by show _ = _; rw [hR.out]; simp only [hb0, hb1, hb2, Bool.true_and, Bool.false_and]
        go_wp2
        go_ret
        exact ⟨by rw [hno.out]; rfl, hal⟩
      go_wp2_with fail
      refine (l11CmdOk_any x _).mono ?_
      rintro e w1 ⟨rfl, b1⟩
      have c1 := bAll hal b1
      rcases hb3 : cmdI x with _ | _
      · have hno : Hid (R = false) := by show _ = _; rw [hR.out]; simp only [hb0, hb1, hb2, hb3, Bool.true_and, Bool.false_and]
        go_wp2
        go_ret
        exact ⟨by rw [hno.out]; rfl, c1⟩
      clear d0 d1 d2 d6 d7 d8 d9 d10 d11 d12 d13 d14 d15
      have d24 : World.cell? w1 ⟨w.heap.size, 24, none⟩ = some (Value.slice po x.ps.length pc) := boxAt (bKeeps b1 H0.out) 24
      go_wp2_with fail
      refine (specBlkOk_any _ x.ps _ (a1.keep c1)).mono ?_
      rintro e w2 ⟨rfl, b2⟩
      have c2 := bAll c1 b2
      rcases hb4 : okP x.ps with _ | _
      · have hno : Hid (R = false) := by show _ = _; rw [hR.out]; simp only [hb0, hb1, hb2, hb3, hb4, Bool.true_and, Bool.false_and]
        go_wp2
        go_ret
        exact ⟨by rw [hno.out]; rfl, c2⟩
      clear d24
      have d25 : World.cell? w2 ⟨w.heap.size, 25, none⟩ = some (Value.slice lo x.ls.length lc) := boxAt (bKeeps (bAll b1 b2) H0.out) 25
      go_wp2_with fail
      refine (l3LastOk_any _ x.ls _ (a2.keep c2)).mono ?_
      rintro e w3 ⟨rfl, b3⟩
      have hRR : Hid (R = okC x.ls) := by show _ = _; rw [hR.out]; simp only [hb0, hb1, hb2, hb3, hb4, Bool.true_and]
      go_wp2
      go_ret
      exact ⟨by rw [hRR.out]; rfl, bAll c2 b3⟩

end Go.Proofs.Yteddhdbglciahaa

/- What the laws of words have in common: contracts; no statement of the seat is proved here. -/
namespace Go.Proofs.Yteddhdbglciahaa
open Go.RowKit

theorem WdR.agg {w : World} {v : Value} {x : Wd} (h : WdR w v x) : ∃ cs : Array Value, v = .agg cs ∧ cs.size = 26 ∧ cs.all (·.oneCell') = true := by
  obtain ⟨po, pc, lo, lc, rfl, -, -⟩ := h
  exact ⟨_, rfl, rfl, all_of_list (List.all_eq_true.2 (wd_one x po lo _ pc _ lc))⟩
/-- A whole block is loaded, in a region that draws its order. -/
theorem yields_row {P : Program} {ops : Array Oper} {S : World → Prop} {op : Oper} {a : Act} (hw : Region.wanted op (yielded ops a.tmps) = true) (ty : TypeId) (x : Operand) (ho : op.op = .load ty x)
    (g : Nat) (hx : a.eval x = .pointer (some ⟨g, 0, none⟩)) (t : TypeId) (cs : Array Value) (d : TypeDesc) (hS : ∀ w, S w → w.heap[g]? = some (.cells cs t (0, 0)))
    (hu : P.underlying ty = some d) (hd : (match d with | .struct _ | .array _ _ => true | _ => false) = true) (hi : (P.info? ty).map (·.size) = some cs.size) : YieldsIf P ops S op (.agg cs) a :=
  .inl ⟨hw, fun w hw' => by
    unfold execOp
    simp only [ho, hx, Instr.loadAt, Instr.sureAddr, Sem.run_bind, Sem.run_pure, Result.andThen_ok, run_loadVar_row w g t ty cs (0, 0) d (hS w hw') hu hd hi]⟩

theorem infoAt {t : TypeId} {n m : Nat} (h : (Try.prog.info? t).map (·.size) = some n) (hm : m = n) : (Try.prog.info? t).map (·.size) = some m := by rw [hm]; exact h
theorem zero26 : (#[Value.int .i64 0, .int .i64 0, .int .i64 0, .int .i64 0, .int .i64 0, .int .i64 0, .int .i64 0, .int .i64 0, .int .i64 0, .int .i64 0, .int .i64 0, .int .i64 0, .int .i64 0, .int .i64 0, .int .i64 0, .int .i64 0, .int .i64 0, .int .i64 0, .int .i64 0, .int .i64 0, .int .i64 0, .int .i64 0, .int .i64 0, .int .i64 0, .slice none 0 0, .slice none 0 0] : Array Value).size = 26 := rfl

end Go.Proofs.Yteddhdbglciahaa

/- A struct in a row of others, loaded and stored whole: laws; no statement of the seat is proved here. -/
namespace Go.Proofs.Yteddhdbglciahaa
open Go.RowKit

theorem run_loadVar_at {P : Program} (w : World) (g off : Nat) (ty : TypeId) (cs : Array Value) (d : TypeDesc) (hc : ∀ j u, cs[j]? = some u → w.cell? ⟨g, off + j, none⟩ = some u)
    (hu : P.underlying ty = some d) (hd : (match d with | .struct _ | .array _ _ => true | _ => false) = true) (hi : (P.info? ty).map (·.size) = some cs.size) :
    (loadVar ty ⟨g, off, none⟩).run P w = .ok (.agg cs) w := by
  have hl : (loadCells ⟨g, off, none⟩ cs.toList.length).run P w = .ok cs.toList.toArray w :=
    run_loadCells_list (P := P) w ⟨g, off, none⟩ cs.toList (fun j v hv => by
      rw [Addr.add_lit]
      exact hc j v (by simpa using hv))
  cases hq : P.info? ty with
  | none => simp [hq] at hi
  | some i =>
    have hs : i.size = cs.size := by simpa [hq] using hi
    have hagg : (isAgg ty).run P w = .ok true w := by
      unfold isAgg
      rw [Sem.run_bind, run_underlying hu w]
      cases d <;> simp_all
    simp only [Array.length_toList, Array.toArray_toList] at hl
    simp [loadVar, Sem.run_bind, hagg, sizeOf, typeInfo, hq, hs, hl]

theorem wp_load_at {P : Program} {o : Oper} {a : Act} {w : World} {K : Act → World → Prop} {Q : Exit → Act → World → Prop} (ty : TypeId) (x : Operand) (ho : o.op = .load ty x)
    (g off : Nat) (hx : a.eval x = .pointer (some ⟨g, off, none⟩)) (cs : Array Value) (d : TypeDesc) (hc : ∀ j u, cs[j]? = some u → w.cell? ⟨g, off + j, none⟩ = some u)
    (hu : P.underlying ty = some d) (hd : (match d with | .struct _ | .array _ _ => true | _ => false) = true) (hi : (P.info? ty).map (·.size) = some cs.size)
    (h : K (a.put o.dst (.agg cs)) w) : o.wp P a w K Q := by
  unfold Oper.wp execOp
  simp only [ho, hx, Instr.loadAt, Instr.sureAddr, Sem.run_bind, Sem.run_pure, Result.andThen_ok, run_loadVar_at w g off ty cs d hc hu hd hi]
  exact h

theorem wpList_load_at {P : Program} {ops : Array Oper} {rest : List Oper} {o : Oper} {a : Act} {w : World} {Q : Exit → Act → World → Prop} (hgd : Region.wanted o (yielded ops a.tmps) = true) (ty : TypeId) (x : Operand) (ho : o.op = .load ty x)
    (g off : Nat) (hx : a.eval x = .pointer (some ⟨g, off, none⟩)) (cs : Array Value) (d : TypeDesc) (hc : ∀ j u, cs[j]? = some u → w.cell? ⟨g, off + j, none⟩ = some u)
    (hu : P.underlying ty = some d) (hd : (match d with | .struct _ | .array _ _ => true | _ => false) = true) (hi : (P.info? ty).map (·.size) = some cs.size)
    (h : wpList P ops Q rest (a.put o.dst (.agg cs)) w) : wpList P ops Q (o :: rest) a w :=
  wpList_step fun _ hK => by rw [if_pos hgd]; exact wp_load_at ty x ho g off hx cs d hc hu hd hi (hK _ _ h)

theorem yields_at {P : Program} {ops : Array Oper} {S : World → Prop} {op : Oper} {a : Act} (hw : Region.wanted op (yielded ops a.tmps) = true) (ty : TypeId) (x : Operand) (ho : op.op = .load ty x)
    (g off : Nat) (hx : a.eval x = .pointer (some ⟨g, off, none⟩)) (cs : Array Value) (d : TypeDesc) (hS : ∀ w, S w → ∀ j u, cs[j]? = some u → w.cell? ⟨g, off + j, none⟩ = some u)
    (hu : P.underlying ty = some d) (hd : (match d with | .struct _ | .array _ _ => true | _ => false) = true) (hi : (P.info? ty).map (·.size) = some cs.size) : YieldsIf P ops S op (.agg cs) a :=
  .inl ⟨hw, fun w hw' => by
    unfold execOp
    simp only [ho, hx, Instr.loadAt, Instr.sureAddr, Sem.run_bind, Sem.run_pure, Result.andThen_ok, run_loadVar_at w g off ty cs d (hS w hw') hu hd hi]⟩

/-- Cells written into a row, from a place on. -/
def putAt (cur : Array Value) (off : Nat) (cs : Array Value) : Array Value := (cur.toList.take off ++ cs.toList ++ cur.toList.drop (off + cs.size)).toArray

theorem run_storeVar_at {P : Program} (w : World) (g off : Nat) (t ty : TypeId) (old cells : Array Value) (hg : w.heap[g]? = some (.cells old t (0, 0))) (hi : (P.info? ty).map (·.size) = some cells.size)
    (ho : off + cells.size ≤ old.size) (h1 : cells.all (·.oneCell') = true) :
    (storeVar ty ⟨g, off, none⟩ (.agg cells)).run P w = .ok () (w.setRow g (putAt old off cells)) := by
  have := run_storeCells_at (P := P) g off t cells.toList 0 old w hg (by simp; omega) (fun v hv => (Array.all_eq_true_iff_forall_mem.1 h1) v (by simpa using hv))
  cases hq : P.info? ty with
  | none => simp [hq] at hi
  | some i =>
    have hs : cells.size = i.size := by simp [hq] at hi; omega
    simp [storeVar, sizeOf, typeInfo, hq, Value.cells, hs, this, putAt]

theorem wpList_store_at {P : Program} {ops : Array Oper} {rest : List Oper} {o : Oper} {a : Act} {w : World} {Q : Exit → Act → World → Prop} (hgd : o.guard = none) (ty : TypeId) (x y : Operand) (ho : o.op = .store ty x y)
    (g off : Nat) (cells : Array Value) (hx : a.eval x = .pointer (some ⟨g, off, none⟩)) (hy : a.eval y = .agg cells)
    (t : TypeId) (old : Array Value) (hg : w.heap[g]? = some (.cells old t (0, 0))) (hi : (P.info? ty).map (·.size) = some cells.size)
    (hold : off + cells.size ≤ old.size) (h1 : cells.all (·.oneCell') = true)
    (h : wpList P ops Q rest (a.put o.dst undef) (w.setRow g (putAt old off cells))) : wpList P ops Q (o :: rest) a w :=
  wpList_plain hgd fun _ hK => by
    unfold Oper.wp execOp
    simp only [ho, hx, hy, Instr.storeAt, Instr.sureAddr, Sem.run_bind, Sem.run_pure, Result.andThen_ok, run_storeVar_at w g off t ty old cells hg hi hold h1]
    exact hK _ _ h

end Go.Proofs.Yteddhdbglciahaa

/- What the laws' own helpers do with papers and voters: contracts; no statement of the seat is proved here. -/
namespace Go.Proofs.Yteddhdbglciahaa
open Go.RowKit

/-- A paper: its slot, its ballot, and its command (that of a word). -/
abbrev Pp := Int × Int × Wd
def pparr (p : Pp) : Array Value := (#[.int .i64 p.1, .int .i64 p.2.1, .int .i64 p.2.2.c0, .int .i64 p.2.2.c1, .int .i64 p.2.2.c2, .int .i64 p.2.2.c3, .int .i64 p.2.2.c4, .int .i64 p.2.2.c5, .int .i64 p.2.2.c6, .int .i64 p.2.2.c7, .int .i64 p.2.2.c8, .int .i64 p.2.2.c9] : Array Value)
def ppcell (p : Pp) : List Value := (pparr p).toList
def ppcells (xs : List Pp) : List Value := xs.flatMap ppcell
theorem pparr_one (p : Pp) : (pparr p).all (·.oneCell') = true := all_of_list rfl
theorem infoPpS : (Try.prog.info? 37).map (·.size) = some 12 := by kernel_rfl
theorem infoCm10 : (Try.prog.info? 35).map (·.size) = some 10 := by kernel_rfl

end Go.Proofs.Yteddhdbglciahaa

/- What the laws' own helpers do with papers and voters: contracts; no statement of the seat is proved here. -/
namespace Go.Proofs.Yteddhdbglciahaa
open Go.RowKit

/-- What a voter reads: what it promised, its papers. -/
def VtR (w : World) (v : Value) (P : Int) (xs : List Pp) : Prop := ∃ ao cap, v = .agg #[.int .i64 P, .slice ao xs.length cap] ∧ RowR w 12 (.slice ao xs.length cap) xs.length (ppcells xs)
theorem VtR.keep {w w' : World} {v : Value} {P : Int} {xs : List Pp} (h : VtR w v P xs) (hb : Below w.heap.size w w') : VtR w' v P xs := by
  obtain ⟨ao, cap, e, h⟩ := h
  exact ⟨ao, cap, e, h.keep hb⟩
/-- A voter in a row of its own. -/
def VtO (w : World) (S : Nat → Prop) (v : Value) (P : Int) (xs : List Pp) : Prop := ∃ ao cap, v = .agg #[.int .i64 P, .slice ao xs.length cap] ∧ xs.length ≤ cap ∧ Row w 37 12 S (.slice ao xs.length cap) xs.length (ppcells xs)
theorem VtO.reads {w : World} {S : Nat → Prop} {v : Value} {P : Int} {xs : List Pp} (h : VtO w S v P xs) : VtR w v P xs := by
  obtain ⟨ao, cap, e, -, h⟩ := h
  exact ⟨ao, cap, e, h.reads⟩

end Go.Proofs.Yteddhdbglciahaa

/- Papers, by the specification and by the program: contracts; no statement of the seat is proved here. -/
namespace Go.Proofs.Yteddhdbglciahaa
open Go.RowKit

def ppI (p : Pp) : Bool := inI p.1 1 60 && (inI p.2.1 1 99999 && cmdI p.2.2)
set_option maxRecDepth 100000 in
set_option maxHeartbeats 4000000 in
theorem l21PaperOk_any (s b : Int) (x : Wd) (w : World) :
    Calls Try.prog 71 #[.agg (#[.int .i64 s, .int .i64 b, .int .i64 x.c0, .int .i64 x.c1, .int .i64 x.c2, .int .i64 x.c3, .int .i64 x.c4, .int .i64 x.c5, .int .i64 x.c6, .int .i64 x.c7, .int .i64 x.c8, .int .i64 x.c9] : Array Value) ] w fun e w' => e = .returned (.bool (ppI (s, b, x))) ∧ Below w.heap.size w w' := by
  have al := bal (Below.refl w.heap.size w) (.cells (#[.int .i64 s, .int .i64 b, .int .i64 x.c0, .int .i64 x.c1, .int .i64 x.c2, .int .i64 x.c3, .int .i64 x.c4, .int .i64 x.c5, .int .i64 x.c6, .int .i64 x.c7, .int .i64 x.c8, .int .i64 x.c9] : Array Value) 37)
  obtain ⟨i1, h1⟩ : ∃ i, inI s 1 60 = i := ⟨_, rfl⟩
  obtain ⟨i2, h2⟩ : ∃ i, inI b 1 99999 = i := ⟨_, rfl⟩
  obtain ⟨i3, h3⟩ : ∃ i, cmdI x = i := ⟨_, rfl⟩
  have hf : ppI (s, b, x) = (i1 && (i2 && i3)) := by simp only [ppI, h1, h2, h3]
  rw [hf]
  have c1 := fun w => l6In_inI s 1 60 w
  have c2 := fun w => l6In_inI b 1 99999 w
  have c3 := fun w => l11CmdOk_any x w
  rw [h1] at c1
  rw [h2] at c2
  rw [h3] at c3
  clear h1 h2 h3 hf
  go_enter Try.func71, Try.ntmps71
  go_wp2_with fail
  refine (c1 _).mono ?_
  rintro e w' ⟨rfl, rfl⟩
  cases i1
  · go_wp2
    go_ret
    exact ⟨rfl, al⟩
  go_wp2_with fail
  refine (c2 _).mono ?_
  rintro e w' ⟨rfl, rfl⟩
  cases i2
  · go_wp2
    go_ret
    exact ⟨rfl, al⟩
  go_wp2_with fail
  refine (c3 _).mono ?_
  rintro e w' ⟨rfl, b3⟩
  go_wp2
  go_ret
  exact ⟨rfl, bAll al b3⟩

set_option maxRecDepth 100000 in
set_option maxHeartbeats 4000000 in
theorem synInForm_any (s b : Int) (x : Wd) (w : World) :
    Calls Try.prog 103 #[.agg (#[.int .i64 s, .int .i64 b, .int .i64 x.c0, .int .i64 x.c1, .int .i64 x.c2, .int .i64 x.c3, .int .i64 x.c4, .int .i64 x.c5, .int .i64 x.c6, .int .i64 x.c7, .int .i64 x.c8, .int .i64 x.c9] : Array Value) ] w fun e w' => e = .returned (.bool (ppI (s, b, x))) ∧ Below w.heap.size w w' := by
  have al := bal (Below.refl w.heap.size w) (.cells (#[.int .i64 s, .int .i64 b, .int .i64 x.c0, .int .i64 x.c1, .int .i64 x.c2, .int .i64 x.c3, .int .i64 x.c4, .int .i64 x.c5, .int .i64 x.c6, .int .i64 x.c7, .int .i64 x.c8, .int .i64 x.c9] : Array Value) 37)
  obtain ⟨i1, h1⟩ : ∃ i, inI s 1 60 = i := ⟨_, rfl⟩
  obtain ⟨i2, h2⟩ : ∃ i, inI b 1 99999 = i := ⟨_, rfl⟩
  obtain ⟨i3, h3⟩ : ∃ i, cmdI x = i := ⟨_, rfl⟩
  have hf : ppI (s, b, x) = (i1 && (i2 && i3)) := by simp only [ppI, h1, h2, h3]
  rw [hf]
  have c1 := fun w => blkWithin_any s 1 60 w
  have c2 := fun w => blkWithin_any b 1 99999 w
  have c3 := fun w => cmdInForm_any x w
  rw [h1] at c1
  rw [h2] at c2
  rw [h3] at c3
  clear h1 h2 h3 hf
  go_enter Try.func103, Try.ntmps103
  go_wp2_with fail
  refine (c1 _).mono ?_
  rintro e w' ⟨rfl, rfl⟩
  cases i1
  · go_wp2
    go_ret
    exact ⟨rfl, al⟩
  go_wp2_with fail
  refine (c2 _).mono ?_
  rintro e w' ⟨rfl, rfl⟩
  cases i2
  · go_wp2
    go_ret
    exact ⟨rfl, al⟩
  go_wp2_with fail
  refine (c3 _).mono ?_
  rintro e w' ⟨rfl, b3⟩
  go_wp2
  go_ret
  exact ⟨rfl, bAll al b3⟩

end Go.Proofs.Yteddhdbglciahaa

/- What SecPut of the specification does: a contract; no statement of the seat is proved here. -/
namespace Go.Proofs.Yteddhdbglciahaa
open Go.RowKit

/-- Whether a write may wait. -/
def putB (kept : List ByteArray) (wait : List (Int × ByteArray)) (a : Int) (s : ByteArray) : Bool := okB kept wait && (writeOkB kept.length (a, s) && decide (wait.length < 600))
/-- What is kept, and what waits, behind a write. -/
def putK (kept : List ByteArray) (wait : List (Int × ByteArray)) : List ByteArray := if okB kept wait = true then kept else []
def putW (kept : List ByteArray) (wait : List (Int × ByteArray)) (a : Int) (s : ByteArray) : List (Int × ByteArray) :=
  if okB kept wait = true then (if putB kept wait a s = true then wait ++ [(a, s)] else wait) else []

theorem typed_box {w W : World} {S : Nat → Prop} {e t : TypeId} {B : Nat} {xs : Array Value} (h : w.heap[B]? = some (.cells xs t (0, 0))) (he : t ≠ e) (hW : W.heap[B]? = w.heap[B]?) : ¬ typed W S e B := by
  rintro ⟨_, c, hc⟩
  rw [hW, h] at hc
  simp at hc
  exact he hc.2

end Go.Proofs.Yteddhdbglciahaa

/- All numbers of a word, as the specification lists them: a contract; no statement of the seat is proved here. -/
namespace Go.Proofs.Yteddhdbglciahaa
open Go.RowKit

def intsV (xs : List Int) : List Value := xs.map (Value.int .i64)
theorem RowA.base {w : World} {b b' : Nat} {e : TypeId} {size : Nat} {v : Value} {n : Nat} {cs : List Value} (h : RowA w b e size v n cs) (hb : b' ≤ b) : RowA w b' e size v n cs := by
  rcases h with h | h
  · exact .inl ⟨h.1, h.2.imp id (fun ⟨g, cap, cur, e, hg, rest⟩ => ⟨g, cap, cur, e, Nat.le_trans hb hg, rest⟩)⟩
  · exact .inr h
theorem updCell {S : Nat → Prop} {w w' : World} {b o : Nat} {v : Value} (u : Upd S w w') (h : w.cell? ⟨b, o, none⟩ = some v) (hS : ¬ S b) : w'.cell? ⟨b, o, none⟩ = some v :=
  (World.cell?_of_block (a := ⟨b, o, none⟩) (u.block b (World.block_lt_of_cell? w _ h) hS)).trans h

end Go.Proofs.Yteddhdbglciahaa

/- Commands and papers held against nothing: laws of one program; no statement of the seat is proved here. -/
namespace Go.Proofs.Yteddhdbglciahaa
open Go.RowKit

/-- A command that is nothing. -/
def isZ (x : Wd) : Bool := x.c0 == 0 && (x.c1 == 0 && (x.c2 == 0 && (x.c3 == 0 && (x.c4 == 0 && (x.c5 == 0 && (x.c6 == 0 && (x.c7 == 0 && (x.c8 == 0 && x.c9 == 0))))))))
/-- A paper that is nothing. -/
def isZP (p : Pp) : Bool := p.1 == 0 && (p.2.1 == 0 && isZ p.2.2)

set_option maxRecDepth 10000 in
theorem eqlCmd (d : Nat) (x : Wd) (w : World) : (Op.equalIn (d + 1 + 1) 35 (.agg #[.int .i64 x.c0, .int .i64 x.c1, .int .i64 x.c2, .int .i64 x.c3, .int .i64 x.c4, .int .i64 x.c5, .int .i64 x.c6, .int .i64 x.c7, .int .i64 x.c8, .int .i64 x.c9]) (.agg #[.int .i64 0, .int .i64 0, .int .i64 0, .int .i64 0, .int .i64 0, .int .i64 0, .int .i64 0, .int .i64 0, .int .i64 0, .int .i64 0])).run Try.prog w = .ok (isZ x) w := by
  have u3 := Try.underlying3
  have a3 := Try.isAgg3
  have z3 := Try.sizeOf3
  have hS : Try.prog.underlying 35 = some (.struct (Try.prog.fieldsOf 35)) := by kernel_rfl
  rw [run_equalIn_agg w (d + 1) 35 _ _ hS (by kernel_rfl)]
  simp only [Program.fieldsOf, Try.underlying35 ]
  go_simp
  unfold isZ
  clear u3 a3 z3 hS
  repeat' split
  all_goals simp [*]

theorem eqlCmd0 (x : Wd) (w : World) : (binOp .eql 35 (.agg #[.int .i64 x.c0, .int .i64 x.c1, .int .i64 x.c2, .int .i64 x.c3, .int .i64 x.c4, .int .i64 x.c5, .int .i64 x.c6, .int .i64 x.c7, .int .i64 x.c8, .int .i64 x.c9]) (.agg #[.int .i64 0, .int .i64 0, .int .i64 0, .int .i64 0, .int .i64 0, .int .i64 0, .int .i64 0, .int .i64 0, .int .i64 0, .int .i64 0])).run Try.prog w = .ok (.bool (isZ x)) w := by
  rw [run_eql_struct, show (10000 : Nat) = 9998 + 1 + 1 from rfl, eqlCmd]
  rfl

theorem ifB {a : Int} {c : Bool} (w : World) (R : Result Value) (h : R = .ok (.bool c) w) : (if a = 0 then R else .ok (.bool false) w) = .ok (.bool (a == 0 && c)) w := by
  by_cases ha : a = 0
  · rw [if_pos ha, h, ha]
    rfl
  · rw [if_neg ha, show (a == 0) = false by simpa using ha]
    rfl

set_option maxRecDepth 10000 in
theorem eqlPaper0 (s b : Int) (x : Wd) (w : World) : (binOp .eql 37 (.agg (#[.int .i64 s, .int .i64 b, .int .i64 x.c0, .int .i64 x.c1, .int .i64 x.c2, .int .i64 x.c3, .int .i64 x.c4, .int .i64 x.c5, .int .i64 x.c6, .int .i64 x.c7, .int .i64 x.c8, .int .i64 x.c9] : Array Value)) (.agg #[.int .i64 0, .int .i64 0, .int .i64 0, .int .i64 0, .int .i64 0, .int .i64 0, .int .i64 0, .int .i64 0, .int .i64 0, .int .i64 0, .int .i64 0, .int .i64 0])).run Try.prog w = .ok (.bool (isZP (s, b, x))) w := by
  have u3 := Try.underlying3
  have a3 := Try.isAgg3
  have z3 := Try.sizeOf3
  have hS : Try.prog.underlying 37 = some (.struct (Try.prog.fieldsOf 37)) := by kernel_rfl
  rw [run_eql_struct, show (10000 : Nat) = 9999 + 1 from rfl, run_equalIn_agg w 9999 37 _ _ hS (by kernel_rfl)]
  simp only [Program.fieldsOf, Try.underlying37 ]
  go_simp
  unfold isZP isZ
  clear u3 a3 z3 hS
  iterate 11 refine ifB w _ ?_
  by_cases h : x.c9 = 0 <;> simp [h]

theorem guardCmd (w : World) (x y : Operand) (xs ys : Array Value) : (eqGuard .eql 35 x y (.agg xs) (.agg ys)).run Try.prog w = .ok () w := run_eqGuard_agg w _ _ _ _ _ _ (by kernel_rfl)
theorem guardPaper (w : World) (x y : Operand) (xs ys : Array Value) : (eqGuard .eql 37 x y (.agg xs) (.agg ys)).run Try.prog w = .ok () w := run_eqGuard_agg w _ _ _ _ _ _ (by kernel_rfl)

end Go.Proofs.Yteddhdbglciahaa

/- What the laws' own helpers do with numbers: contracts; no statement of the seat is proved here. -/
namespace Go.Proofs.Yteddhdbglciahaa
open Go.RowKit

theorem infoInt : (Try.prog.info? 3).map (fun i => (i.zero, i.size, i.bytes)) = some (some (.int .i64 0), 1, 8) := by kernel_rfl

end Go.Proofs.Yteddhdbglciahaa

/- Seekers: what they read, and what the laws' own helpers do with them: contracts; no statement of the seat is proved here. -/
namespace Go.Proofs.Yteddhdbglciahaa
open Go.RowKit

/-- A seeker: slot, ballot, phase, its own command (that of a word), the best paper, who said yes. -/
structure Sk where
  s : Int
  b : Int
  ph : Int
  m : Wd
  p : Pp
  ys : List Int
def skarr (k : Sk) (y : Value) : Array Value := (#[.int .i64 k.s, .int .i64 k.b, .int .i64 k.ph, .int .i64 k.m.c0, .int .i64 k.m.c1, .int .i64 k.m.c2, .int .i64 k.m.c3, .int .i64 k.m.c4, .int .i64 k.m.c5, .int .i64 k.m.c6, .int .i64 k.m.c7, .int .i64 k.m.c8, .int .i64 k.m.c9, .int .i64 k.p.1, .int .i64 k.p.2.1, .int .i64 k.p.2.2.c0, .int .i64 k.p.2.2.c1, .int .i64 k.p.2.2.c2, .int .i64 k.p.2.2.c3, .int .i64 k.p.2.2.c4, .int .i64 k.p.2.2.c5, .int .i64 k.p.2.2.c6, .int .i64 k.p.2.2.c7, .int .i64 k.p.2.2.c8, .int .i64 k.p.2.2.c9, y] : Array Value)
def ints (xs : List Int) : List Value := xs.map (Value.int .i64)
/-- What a seeker reads. -/
def SkR (w : World) (v : Value) (k : Sk) : Prop := ∃ yo yc, v = .agg (skarr k (.slice yo k.ys.length yc)) ∧ RowR w 1 (.slice yo k.ys.length yc) k.ys.length (ints k.ys)
def SkO (w : World) (S : Nat → Prop) (v : Value) (k : Sk) : Prop := ∃ yo yc, v = .agg (skarr k (.slice yo k.ys.length yc)) ∧ Row w 3 1 S (.slice yo k.ys.length yc) k.ys.length (ints k.ys)
theorem SkR.keep {w w' : World} {v : Value} {k : Sk} (h : SkR w v k) (hb : Below w.heap.size w w') : SkR w' v k := by
  obtain ⟨yo, yc, e, h⟩ := h
  exact ⟨yo, yc, e, h.keep hb⟩
theorem SkO.reads {w : World} {S : Nat → Prop} {v : Value} {k : Sk} (h : SkO w S v k) : SkR w v k := by
  obtain ⟨yo, yc, e, h⟩ := h
  exact ⟨yo, yc, e, h.reads⟩
theorem SkO.keep {w w' : World} {S T : Nat → Prop} {v : Value} {k : Sk} (h : SkO w S v k) (u : Upd T w w') (hT : ∀ j, S j → ¬ T j) : SkO w' S v k := by
  obtain ⟨yo, yc, e, h⟩ := h
  exact ⟨yo, yc, e, h.keep u hT⟩
theorem SkO.keepB {w w' : World} {S : Nat → Prop} {v : Value} {k : Sk} (h : SkO w S v k) (b : Below w.heap.size w w') : SkO w' S v k := by
  obtain ⟨yo, yc, e, h⟩ := h
  exact ⟨yo, yc, e, h.keepB b⟩
theorem SkO.mono {w : World} {S T : Nat → Prop} {v : Value} {k : Sk} (h : SkO w S v k) (hST : ∀ j, j < w.heap.size → S j → T j) : SkO w T v k := by
  obtain ⟨yo, yc, e, h⟩ := h
  exact ⟨yo, yc, e, h.mono hST⟩
theorem skarr_one (k : Sk) (yo : Option Addr) (n yc : Nat) : (skarr k (.slice yo n yc)).all (·.oneCell') = true := all_of_list rfl
theorem infoSk : (Try.prog.info? 39).map (·.size) = some 26 := by kernel_rfl
/-- The cells of a seeker in a block. -/
theorem sk_cells {V : World} {g : Nat} {k : Sk} {y : Value} {t : TypeId} (h : V.heap[g]? = some (.cells (skarr k y) t (0, 0))) :
    V.cell? ⟨g, 0, none⟩ = some (.int .i64 k.s) ∧ V.cell? ⟨g, 1, none⟩ = some (.int .i64 k.b) ∧ V.cell? ⟨g, 2, none⟩ = some (.int .i64 k.ph) ∧ (∀ j z, (#[.int .i64 k.m.c0, .int .i64 k.m.c1, .int .i64 k.m.c2, .int .i64 k.m.c3, .int .i64 k.m.c4, .int .i64 k.m.c5, .int .i64 k.m.c6, .int .i64 k.m.c7, .int .i64 k.m.c8, .int .i64 k.m.c9] : Array Value)[j]? = some z → V.cell? ⟨g, 3 + j, none⟩ = some z) ∧
    (∀ j z, (pparr k.p)[j]? = some z → V.cell? ⟨g, 13 + j, none⟩ = some z) ∧ V.cell? ⟨g, 13, none⟩ = some (.int .i64 k.p.1) ∧ V.cell? ⟨g, 14, none⟩ = some (.int .i64 k.p.2.1) ∧ V.cell? ⟨g, 25, none⟩ = some y := by
  refine ⟨boxAt h 0, boxAt h 1, boxAt h 2, fun j z hj => ?_, fun j z hj => ?_, boxAt h 13, boxAt h 14, boxAt h 25⟩
  · have hj' : j < 10 := (Array.getElem?_eq_some_iff.1 hj).1
    refine (boxAt h (3 + j)).trans ?_
    rcases (by omega : j = 0 ∨ j = 1 ∨ j = 2 ∨ j = 3 ∨ j = 4 ∨ j = 5 ∨ j = 6 ∨ j = 7 ∨ j = 8 ∨ j = 9) with rfl | rfl | rfl | rfl | rfl | rfl | rfl | rfl | rfl | rfl <;> exact hj
  · have hj' : j < 12 := (Array.getElem?_eq_some_iff.1 hj).1
    refine (boxAt h (13 + j)).trans ?_
    rcases (by omega : j = 0 ∨ j = 1 ∨ j = 2 ∨ j = 3 ∨ j = 4 ∨ j = 5 ∨ j = 6 ∨ j = 7 ∨ j = 8 ∨ j = 9 ∨ j = 10 ∨ j = 11) with rfl | rfl | rfl | rfl | rfl | rfl | rfl | rfl | rfl | rfl | rfl | rfl <;> exact hj

end Go.Proofs.Yteddhdbglciahaa

/- Words that are nothing, copies, results: laws; no statement of the seat is proved here. -/
namespace Go.Proofs.Yteddhdbglciahaa
open Go.RowKit

theorem results_row_tmp {P : Program} {fn : Func} {p u : Tmp} {ty : TypeId} (h : fn.results = #[.cell p ty, .tmp u]) (tmps : Array Value) (w : World) (g : Nat) (t : TypeId) (cs : Array Value) (fr : Nat × Nat) (d : TypeDesc) (b : Value)
    (hp : tmps.getD p undef = .pointer (some ⟨g, 0, none⟩)) (hb : tmps.getD u undef = b) (hg : w.heap[g]? = some (.cells cs t fr))
    (hu : P.underlying ty = some d) (hd : (match d with | .struct _ | .array _ _ => true | _ => false) = true) (hi : (P.info? ty).map (·.size) = some cs.size) :
    (results fn tmps).run P w = .ok (.tuple #[.agg cs, b]) w := by
  rw [results_cell_tmp h, hp, hb]
  simp [asAddr, Result.andThen, run_loadVar_row w g t ty cs fr d hg hu hd hi]
theorem wpList_load_rowG {P : Program} {ops : Array Oper} {rest : List Oper} {o : Oper} {a : Act} {w : World} {Q : Exit → Act → World → Prop} (hgd : Region.wanted o (yielded ops a.tmps) = true) (ty : TypeId) (x : Operand) (ho : o.op = .load ty x)
    (g : Nat) (hx : a.eval x = .pointer (some ⟨g, 0, none⟩)) (t : TypeId) (cs : Array Value) (fr : Nat × Nat) (d : TypeDesc) (hg : w.heap[g]? = some (.cells cs t fr))
    (hu : P.underlying ty = some d) (hd : (match d with | .struct _ | .array _ _ => true | _ => false) = true) (hi : (P.info? ty).map (·.size) = some cs.size)
    (h : wpList P ops Q rest (a.put o.dst (.agg cs)) w) : wpList P ops Q (o :: rest) a w :=
  wpList_step fun _ hK => by rw [if_pos hgd]; exact wp_load_row ty x ho g hx t cs fr d hg hu hd hi (hK _ _ h)
theorem roomA {w : World} {base : Nat} {e : TypeId} {size : Nat} {v : Value} {n : Nat} {cs : List Value} (h : RowA w base e size v n cs) : ∃ ao ca, v = .slice ao n ca ∧ n ≤ ca := by
  rcases h with h | ⟨rfl, _, ao, rfl⟩
  · exact owns_shape h
  · exact ⟨ao, 0, rfl, Nat.le_refl _⟩

end Go.Proofs.Yteddhdbglciahaa

/- Laws for functions that give two structs and a truth; what a voter's answer is; no statement of the seat is proved here. -/
namespace Go.Proofs.Yteddhdbglciahaa
open Go.RowKit

theorem yields_build {P : Program} {ops : Array Oper} {S : World → Prop} {op : Oper} {a : Act} (hw : Region.wanted op (yielded ops a.tmps) = true) (ty : TypeId) (parts : Array (Nat × Operand)) (ho : op.op = .build ty parts)
    (ps : List (Nat × Value)) (cells : Array Value) (hp : (parts.map fun (i, x) => (i, a.eval x)).toList = ps) (hb : P.built ty ps = some cells) : YieldsIf P ops S op (.agg cells) a :=
  .inl ⟨hw, fun w _ => by
    unfold execOp
    simp only [ho, Sem.run_bind, run_build w ty _ cells (by rw [hp]; exact hb), Result.andThen_ok]
    rfl⟩

theorem updRow (w : World) (g : Nat) (cs : Array Value) : Upd (fun j => j = g) w (w.setRow g cs) := ⟨rfl, rfl, rfl, by simp, fun _ _ h => setRow_other _ _ _ _ h⟩

/-- What is read of a word, of its numbers and its command. -/
theorem WdR.cells {w : World} {cs : Array Value} {x : Wd} (h : WdR w (.agg cs) x) : cs[0]? = some (.int .i64 x.a0) ∧ cs[1]? = some (.int .i64 x.a1) ∧ cs[3]? = some (.int .i64 x.a3) ∧ cs[4]? = some (.int .i64 x.a4) ∧ cs[5]? = some (.int .i64 x.a5) ∧ ∀ j z, (#[.int .i64 x.c0, .int .i64 x.c1, .int .i64 x.c2, .int .i64 x.c3, .int .i64 x.c4, .int .i64 x.c5, .int .i64 x.c6, .int .i64 x.c7, .int .i64 x.c8, .int .i64 x.c9] : Array Value)[j]? = some z → cs[6 + j]? = some z := by
  obtain ⟨po, pc, lo, lc, e, -, -⟩ := h
  injection e with e
  subst e
  refine ⟨rfl, rfl, rfl, rfl, rfl, fun j z hj => ?_⟩
  have hj' : j < 10 := (Array.getElem?_eq_some_iff.1 hj).1
  rcases (by omega : j = 0 ∨ j = 1 ∨ j = 2 ∨ j = 3 ∨ j = 4 ∨ j = 5 ∨ j = 6 ∨ j = 7 ∨ j = 8 ∨ j = 9) with rfl | rfl | rfl | rfl | rfl | rfl | rfl | rfl | rfl | rfl <;> exact hj

theorem typed_keeps {V V' : World} {S : Nat → Prop} {e f : TypeId} {g : Nat} {c : Array Value} (hne : e ≠ f) (hu : Upd (typed V S e) V V') (h : V.heap[g]? = some (.cells c f (0, 0))) : V'.heap[g]? = some (.cells c f (0, 0)) :=
  hu.keeps h (fun ⟨_, c', hc⟩ => by rw [h] at hc; simp at hc; exact hne hc.2.symm)
theorem builtPaper (s b : Int) (x : Wd) : Try.prog.built 37 [(0, .int .i64 s), (1, .int .i64 b), (2, .agg #[.int .i64 x.c0, .int .i64 x.c1, .int .i64 x.c2, .int .i64 x.c3, .int .i64 x.c4, .int .i64 x.c5, .int .i64 x.c6, .int .i64 x.c7, .int .i64 x.c8, .int .i64 x.c9])] = some (#[.int .i64 s, .int .i64 b, .int .i64 x.c0, .int .i64 x.c1, .int .i64 x.c2, .int .i64 x.c3, .int .i64 x.c4, .int .i64 x.c5, .int .i64 x.c6, .int .i64 x.c7, .int .i64 x.c8, .int .i64 x.c9] : Array Value) := by kernel_rfl
theorem pparr_cmd {s b : Int} {x : Wd} {j : Nat} {z : Value} (hj : (#[.int .i64 x.c0, .int .i64 x.c1, .int .i64 x.c2, .int .i64 x.c3, .int .i64 x.c4, .int .i64 x.c5, .int .i64 x.c6, .int .i64 x.c7, .int .i64 x.c8, .int .i64 x.c9] : Array Value)[j]? = some z) : (pparr (s, b, x))[2 + j]? = some z := by
  have hj' : j < 10 := (Array.getElem?_eq_some_iff.1 hj).1
  rcases (by omega : j = 0 ∨ j = 1 ∨ j = 2 ∨ j = 3 ∨ j = 4 ∨ j = 5 ∨ j = 6 ∨ j = 7 ∨ j = 8 ∨ j = 9) with rfl | rfl | rfl | rfl | rfl | rfl | rfl | rfl | rfl | rfl <;> exact hj

end Go.Proofs.Yteddhdbglciahaa

/- The paper of a slot, by the program: a contract; no statement of the seat is proved here. -/
namespace Go.Proofs.Yteddhdbglciahaa
open Go.RowKit

/-- What turned later, in blocks that are new, is no change of the old ones. -/
theorem upd_late {S T : Nat → Prop} {a b c : World} (h : Upd S a b) (k : Upd T b c) (hT : ∀ j, T j → a.heap.size ≤ j) : Upd S a c :=
  ⟨k.os.trans h.os, k.tape.trans h.tape, k.output.trans h.output, Nat.le_trans h.size k.size,
    fun i hi hS => (k.block i (Nat.lt_of_lt_of_le hi h.size) (fun ht => by have := hT i ht; omega)).trans (h.block i hi hS)⟩

theorem wp_store_at {P : Program} {o : Oper} {a : Act} {w : World} {K : Act → World → Prop} {Q : Exit → Act → World → Prop} (ty : TypeId) (x y : Operand) (ho : o.op = .store ty x y)
    (g off : Nat) (cells : Array Value) (hx : a.eval x = .pointer (some ⟨g, off, none⟩)) (hy : a.eval y = .agg cells)
    (t : TypeId) (old : Array Value) (hg : w.heap[g]? = some (.cells old t (0, 0))) (hi : (P.info? ty).map (·.size) = some cells.size)
    (hold : off + cells.size ≤ old.size) (h1 : cells.all (·.oneCell') = true)
    (h : K (a.put o.dst undef) (w.setRow g (putAt old off cells))) : o.wp P a w K Q := by
  unfold Oper.wp execOp
  simp only [ho, hx, hy, Instr.storeAt, Instr.sureAddr, Sem.run_bind, Sem.run_pure, Result.andThen_ok, run_storeVar_at w g off t ty old cells hg hi hold h1]
  exact h

end Go.Proofs.Yteddhdbglciahaa

/- What a voter does with a word, by the program: contracts; no statement of the seat is proved here. -/
namespace Go.Proofs.Yteddhdbglciahaa
open Go.RowKit

set_option maxHeartbeats 400000 in
theorem synIsVoter_any (n : Int) (w : World) :
    Calls Try.prog 112 #[.int .i64 n] w fun e w' => e = .returned (.bool (inI n 0 2)) ∧ w' = w := by
  go_enter Try.func112, Try.ntmps112
  go_wp2_with fail
  refine (blkWithin_any n 0 2 _).mono ?_
  rintro e w1 ⟨rfl, rfl⟩
  go_wp2
  go_ret
  exact ⟨rfl, rfl⟩

end Go.Proofs.Yteddhdbglciahaa
