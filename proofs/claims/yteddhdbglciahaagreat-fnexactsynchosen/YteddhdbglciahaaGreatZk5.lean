/- Contracts and plain facts that this claim leans on (texts XOa, XOb, XOc); no statement of the seat is proved here. -/
import Derived.Test.YteddhdbglciahaaGreatZk4

/- A plain word as a struct of its kind, in the program, kind by kind: contracts; no statement of the seat is proved here. -/
namespace Go.Proofs.YteddhdbglciahaaGreat
open Go.RowKit

set_option maxRecDepth 100000 in
set_option maxHeartbeats 8000000 in
theorem wordOf_1 (x : Wd) (po lo : Option Addr) (pn pc ln lc : Nat) (w : World) (hk : x.a0 = 1) :
    Calls Tryz.prog 117 #[ .agg #[.int .i64 x.a0, .int .i64 x.a1, .int .i64 x.a2, .int .i64 x.a3, .int .i64 x.a4, .int .i64 x.a5, .int .i64 x.c0, .int .i64 x.c1, .int .i64 x.c2, .int .i64 x.c3, .int .i64 x.c4, .int .i64 x.c5, .int .i64 x.c6, .int .i64 x.c7, .int .i64 x.c8, .int .i64 x.c9, .int .i64 x.b0, .int .i64 x.b1, .int .i64 x.b2, .int .i64 x.b3, .int .i64 x.b4, .int .i64 x.b5, .int .i64 x.b6, .int .i64 x.b7, .slice po pn pc, .slice lo ln lc] ] w fun e w' => e = .returned (.tuple #[.iface 193 (.agg #[.int .i64 x.a0, .int .i64 x.a1, .int .i64 x.a2, .int .i64 x.a3, .int .i64 x.a4, .int .i64 x.a5, .int .i64 x.c0, .int .i64 x.c1, .int .i64 x.c2, .int .i64 x.c3, .int .i64 x.c4, .int .i64 x.c5, .int .i64 x.c6, .int .i64 x.c7, .int .i64 x.c8, .int .i64 x.c9, .int .i64 x.b0, .int .i64 x.b1, .int .i64 x.b2, .int .i64 x.b3, .int .i64 x.b4, .int .i64 x.b5, .int .i64 x.b6, .int .i64 x.b7, .slice po pn pc, .slice lo ln lc]), .bool true]) ∧ Below w.heap.size w w' := by
  have HK := hide hk
  clear hk
  have H1s := hide (all_of_list (List.all_eq_true.2 (wd_one x po lo pn pc ln lc)))
  go_enter Tryz.func117, Tryz.ntmps117
  go_wp2_with (first
    | (refine wpList_load_row rfl 87 (.tmp 1) rfl w.heap.size rfl _ _ (0, 0) _ (heap_alloc_new w _) Tryz.underlying87 rfl infoWd ?_)
    | (refine wpList_store_row rfl 190 (.tmp 4) (.tmp 6) rfl (w.heap.size + 1) _ rfl rfl _ _ (al2_1 w _ _) infoWb rfl H1s.out ?_; rw [setRow_new1]))
  generalize hW : World.alloc _ _ = W
  have hal : Below w.heap.size w W := by rw [← hW]; exact bal (bal (Below.refl _ _) _) _
  have B1 : W.heap[w.heap.size + 1]? = some (.cells (#[.int .i64 x.a0, .int .i64 x.a1, .int .i64 x.a2, .int .i64 x.a3, .int .i64 x.a4, .int .i64 x.a5, .int .i64 x.c0, .int .i64 x.c1, .int .i64 x.c2, .int .i64 x.c3, .int .i64 x.c4, .int .i64 x.c5, .int .i64 x.c6, .int .i64 x.c7, .int .i64 x.c8, .int .i64 x.c9, .int .i64 x.b0, .int .i64 x.b1, .int .i64 x.b2, .int .i64 x.b3, .int .i64 x.b4, .int .i64 x.b5, .int .i64 x.b6, .int .i64 x.b7, .slice po pn pc, .slice lo ln lc] : Array Value) 190 (0, 0)) := by rw [← hW]; exact al2_1 w _ _
  clear hW
  refine (wordBlank_any x.a0 _).mono ?_
  rintro e w1 ⟨v, rfl, -, hj, b1⟩
  obtain ⟨Z, rfl⟩ := hj 1 (by omega) (by omega) HK.out
  have HB := hide (bKeeps b1 B1)
  have c1 := bAll hal b1
  clear B1 b1 hal hj
  generalize Value.agg _ = A0
  simp only [kindT]
  have qy := as_yes (P := Tryz.prog) (xt := 169) Tryz.underlying193
  go_wp2_with (refine wpList_load_row rfl 190 (.tmp 4) rfl (w.heap.size + 1) rfl _ _ (0, 0) _ HB.out Tryz.underlying190 rfl infoWb ?_)
  exact bodyPost_ret (v := .tuple #[.iface 193 (.agg #[.int .i64 x.a0, .int .i64 x.a1, .int .i64 x.a2, .int .i64 x.a3, .int .i64 x.a4, .int .i64 x.a5, .int .i64 x.c0, .int .i64 x.c1, .int .i64 x.c2, .int .i64 x.c3, .int .i64 x.c4, .int .i64 x.c5, .int .i64 x.c6, .int .i64 x.c7, .int .i64 x.c8, .int .i64 x.c9, .int .i64 x.b0, .int .i64 x.b1, .int .i64 x.b2, .int .i64 x.b3, .int .i64 x.b4, .int .i64 x.b5, .int .i64 x.b6, .int .i64 x.b7, .slice po pn pc, .slice lo ln lc]), .bool true]) (by simp [results, Tryz.results117, go_sem]) rfl ⟨rfl, c1⟩

set_option maxRecDepth 100000 in
set_option maxHeartbeats 8000000 in
theorem wordOf_2 (x : Wd) (po lo : Option Addr) (pn pc ln lc : Nat) (w : World) (hk : x.a0 = 2) :
    Calls Tryz.prog 117 #[ .agg #[.int .i64 x.a0, .int .i64 x.a1, .int .i64 x.a2, .int .i64 x.a3, .int .i64 x.a4, .int .i64 x.a5, .int .i64 x.c0, .int .i64 x.c1, .int .i64 x.c2, .int .i64 x.c3, .int .i64 x.c4, .int .i64 x.c5, .int .i64 x.c6, .int .i64 x.c7, .int .i64 x.c8, .int .i64 x.c9, .int .i64 x.b0, .int .i64 x.b1, .int .i64 x.b2, .int .i64 x.b3, .int .i64 x.b4, .int .i64 x.b5, .int .i64 x.b6, .int .i64 x.b7, .slice po pn pc, .slice lo ln lc] ] w fun e w' => e = .returned (.tuple #[.iface 194 (.agg #[.int .i64 x.a0, .int .i64 x.a1, .int .i64 x.a2, .int .i64 x.a3, .int .i64 x.a4, .int .i64 x.a5, .int .i64 x.c0, .int .i64 x.c1, .int .i64 x.c2, .int .i64 x.c3, .int .i64 x.c4, .int .i64 x.c5, .int .i64 x.c6, .int .i64 x.c7, .int .i64 x.c8, .int .i64 x.c9, .int .i64 x.b0, .int .i64 x.b1, .int .i64 x.b2, .int .i64 x.b3, .int .i64 x.b4, .int .i64 x.b5, .int .i64 x.b6, .int .i64 x.b7, .slice po pn pc, .slice lo ln lc]), .bool true]) ∧ Below w.heap.size w w' := by
  have HK := hide hk
  clear hk
  have H1s := hide (all_of_list (List.all_eq_true.2 (wd_one x po lo pn pc ln lc)))
  go_enter Tryz.func117, Tryz.ntmps117
  go_wp2_with (first
    | (refine wpList_load_row rfl 87 (.tmp 1) rfl w.heap.size rfl _ _ (0, 0) _ (heap_alloc_new w _) Tryz.underlying87 rfl infoWd ?_)
    | (refine wpList_store_row rfl 190 (.tmp 4) (.tmp 6) rfl (w.heap.size + 1) _ rfl rfl _ _ (al2_1 w _ _) infoWb rfl H1s.out ?_; rw [setRow_new1]))
  generalize hW : World.alloc _ _ = W
  have hal : Below w.heap.size w W := by rw [← hW]; exact bal (bal (Below.refl _ _) _) _
  have B1 : W.heap[w.heap.size + 1]? = some (.cells (#[.int .i64 x.a0, .int .i64 x.a1, .int .i64 x.a2, .int .i64 x.a3, .int .i64 x.a4, .int .i64 x.a5, .int .i64 x.c0, .int .i64 x.c1, .int .i64 x.c2, .int .i64 x.c3, .int .i64 x.c4, .int .i64 x.c5, .int .i64 x.c6, .int .i64 x.c7, .int .i64 x.c8, .int .i64 x.c9, .int .i64 x.b0, .int .i64 x.b1, .int .i64 x.b2, .int .i64 x.b3, .int .i64 x.b4, .int .i64 x.b5, .int .i64 x.b6, .int .i64 x.b7, .slice po pn pc, .slice lo ln lc] : Array Value) 190 (0, 0)) := by rw [← hW]; exact al2_1 w _ _
  clear hW
  refine (wordBlank_any x.a0 _).mono ?_
  rintro e w1 ⟨v, rfl, -, hj, b1⟩
  obtain ⟨Z, rfl⟩ := hj 2 (by omega) (by omega) HK.out
  have HB := hide (bKeeps b1 B1)
  have c1 := bAll hal b1
  clear B1 b1 hal hj
  generalize Value.agg _ = A0
  simp only [kindT]
  obtain ⟨z1, q1⟩ := as_no (P := Tryz.prog) (T := 194) (xt := 169) Tryz.underlying193 (by kernel_rfl) (by decide)
  have qy := as_yes (P := Tryz.prog) (xt := 169) Tryz.underlying194
  go_wp2_with (refine wpList_load_row rfl 190 (.tmp 4) rfl (w.heap.size + 1) rfl _ _ (0, 0) _ HB.out Tryz.underlying190 rfl infoWb ?_)
  exact bodyPost_ret (v := .tuple #[.iface 194 (.agg #[.int .i64 x.a0, .int .i64 x.a1, .int .i64 x.a2, .int .i64 x.a3, .int .i64 x.a4, .int .i64 x.a5, .int .i64 x.c0, .int .i64 x.c1, .int .i64 x.c2, .int .i64 x.c3, .int .i64 x.c4, .int .i64 x.c5, .int .i64 x.c6, .int .i64 x.c7, .int .i64 x.c8, .int .i64 x.c9, .int .i64 x.b0, .int .i64 x.b1, .int .i64 x.b2, .int .i64 x.b3, .int .i64 x.b4, .int .i64 x.b5, .int .i64 x.b6, .int .i64 x.b7, .slice po pn pc, .slice lo ln lc]), .bool true]) (by simp [results, Tryz.results117, go_sem]) rfl ⟨rfl, c1⟩

set_option maxRecDepth 100000 in
set_option maxHeartbeats 8000000 in
theorem wordOf_3 (x : Wd) (po lo : Option Addr) (pn pc ln lc : Nat) (w : World) (hk : x.a0 = 3) :
    Calls Tryz.prog 117 #[ .agg #[.int .i64 x.a0, .int .i64 x.a1, .int .i64 x.a2, .int .i64 x.a3, .int .i64 x.a4, .int .i64 x.a5, .int .i64 x.c0, .int .i64 x.c1, .int .i64 x.c2, .int .i64 x.c3, .int .i64 x.c4, .int .i64 x.c5, .int .i64 x.c6, .int .i64 x.c7, .int .i64 x.c8, .int .i64 x.c9, .int .i64 x.b0, .int .i64 x.b1, .int .i64 x.b2, .int .i64 x.b3, .int .i64 x.b4, .int .i64 x.b5, .int .i64 x.b6, .int .i64 x.b7, .slice po pn pc, .slice lo ln lc] ] w fun e w' => e = .returned (.tuple #[.iface 195 (.agg #[.int .i64 x.a0, .int .i64 x.a1, .int .i64 x.a2, .int .i64 x.a3, .int .i64 x.a4, .int .i64 x.a5, .int .i64 x.c0, .int .i64 x.c1, .int .i64 x.c2, .int .i64 x.c3, .int .i64 x.c4, .int .i64 x.c5, .int .i64 x.c6, .int .i64 x.c7, .int .i64 x.c8, .int .i64 x.c9, .int .i64 x.b0, .int .i64 x.b1, .int .i64 x.b2, .int .i64 x.b3, .int .i64 x.b4, .int .i64 x.b5, .int .i64 x.b6, .int .i64 x.b7, .slice po pn pc, .slice lo ln lc]), .bool true]) ∧ Below w.heap.size w w' := by
  have HK := hide hk
  clear hk
  have H1s := hide (all_of_list (List.all_eq_true.2 (wd_one x po lo pn pc ln lc)))
  go_enter Tryz.func117, Tryz.ntmps117
  go_wp2_with (first
    | (refine wpList_load_row rfl 87 (.tmp 1) rfl w.heap.size rfl _ _ (0, 0) _ (heap_alloc_new w _) Tryz.underlying87 rfl infoWd ?_)
    | (refine wpList_store_row rfl 190 (.tmp 4) (.tmp 6) rfl (w.heap.size + 1) _ rfl rfl _ _ (al2_1 w _ _) infoWb rfl H1s.out ?_; rw [setRow_new1]))
  generalize hW : World.alloc _ _ = W
  have hal : Below w.heap.size w W := by rw [← hW]; exact bal (bal (Below.refl _ _) _) _
  have B1 : W.heap[w.heap.size + 1]? = some (.cells (#[.int .i64 x.a0, .int .i64 x.a1, .int .i64 x.a2, .int .i64 x.a3, .int .i64 x.a4, .int .i64 x.a5, .int .i64 x.c0, .int .i64 x.c1, .int .i64 x.c2, .int .i64 x.c3, .int .i64 x.c4, .int .i64 x.c5, .int .i64 x.c6, .int .i64 x.c7, .int .i64 x.c8, .int .i64 x.c9, .int .i64 x.b0, .int .i64 x.b1, .int .i64 x.b2, .int .i64 x.b3, .int .i64 x.b4, .int .i64 x.b5, .int .i64 x.b6, .int .i64 x.b7, .slice po pn pc, .slice lo ln lc] : Array Value) 190 (0, 0)) := by rw [← hW]; exact al2_1 w _ _
  clear hW
  refine (wordBlank_any x.a0 _).mono ?_
  rintro e w1 ⟨v, rfl, -, hj, b1⟩
  obtain ⟨Z, rfl⟩ := hj 3 (by omega) (by omega) HK.out
  have HB := hide (bKeeps b1 B1)
  have c1 := bAll hal b1
  clear B1 b1 hal hj
  generalize Value.agg _ = A0
  simp only [kindT]
  obtain ⟨z1, q1⟩ := as_no (P := Tryz.prog) (T := 195) (xt := 169) Tryz.underlying193 (by kernel_rfl) (by decide)
  obtain ⟨z2, q2⟩ := as_no (P := Tryz.prog) (T := 195) (xt := 169) Tryz.underlying194 (by kernel_rfl) (by decide)
  have qy := as_yes (P := Tryz.prog) (xt := 169) Tryz.underlying195
  go_wp2_with (refine wpList_load_row rfl 190 (.tmp 4) rfl (w.heap.size + 1) rfl _ _ (0, 0) _ HB.out Tryz.underlying190 rfl infoWb ?_)
  exact bodyPost_ret (v := .tuple #[.iface 195 (.agg #[.int .i64 x.a0, .int .i64 x.a1, .int .i64 x.a2, .int .i64 x.a3, .int .i64 x.a4, .int .i64 x.a5, .int .i64 x.c0, .int .i64 x.c1, .int .i64 x.c2, .int .i64 x.c3, .int .i64 x.c4, .int .i64 x.c5, .int .i64 x.c6, .int .i64 x.c7, .int .i64 x.c8, .int .i64 x.c9, .int .i64 x.b0, .int .i64 x.b1, .int .i64 x.b2, .int .i64 x.b3, .int .i64 x.b4, .int .i64 x.b5, .int .i64 x.b6, .int .i64 x.b7, .slice po pn pc, .slice lo ln lc]), .bool true]) (by simp [results, Tryz.results117, go_sem]) rfl ⟨rfl, c1⟩

set_option maxRecDepth 100000 in
set_option maxHeartbeats 8000000 in
theorem wordOf_4 (x : Wd) (po lo : Option Addr) (pn pc ln lc : Nat) (w : World) (hk : x.a0 = 4) :
    Calls Tryz.prog 117 #[ .agg #[.int .i64 x.a0, .int .i64 x.a1, .int .i64 x.a2, .int .i64 x.a3, .int .i64 x.a4, .int .i64 x.a5, .int .i64 x.c0, .int .i64 x.c1, .int .i64 x.c2, .int .i64 x.c3, .int .i64 x.c4, .int .i64 x.c5, .int .i64 x.c6, .int .i64 x.c7, .int .i64 x.c8, .int .i64 x.c9, .int .i64 x.b0, .int .i64 x.b1, .int .i64 x.b2, .int .i64 x.b3, .int .i64 x.b4, .int .i64 x.b5, .int .i64 x.b6, .int .i64 x.b7, .slice po pn pc, .slice lo ln lc] ] w fun e w' => e = .returned (.tuple #[.iface 196 (.agg #[.int .i64 x.a0, .int .i64 x.a1, .int .i64 x.a2, .int .i64 x.a3, .int .i64 x.a4, .int .i64 x.a5, .int .i64 x.c0, .int .i64 x.c1, .int .i64 x.c2, .int .i64 x.c3, .int .i64 x.c4, .int .i64 x.c5, .int .i64 x.c6, .int .i64 x.c7, .int .i64 x.c8, .int .i64 x.c9, .int .i64 x.b0, .int .i64 x.b1, .int .i64 x.b2, .int .i64 x.b3, .int .i64 x.b4, .int .i64 x.b5, .int .i64 x.b6, .int .i64 x.b7, .slice po pn pc, .slice lo ln lc]), .bool true]) ∧ Below w.heap.size w w' := by
  have HK := hide hk
  clear hk
  have H1s := hide (all_of_list (List.all_eq_true.2 (wd_one x po lo pn pc ln lc)))
  go_enter Tryz.func117, Tryz.ntmps117
  go_wp2_with (first
    | (refine wpList_load_row rfl 87 (.tmp 1) rfl w.heap.size rfl _ _ (0, 0) _ (heap_alloc_new w _) Tryz.underlying87 rfl infoWd ?_)
    | (refine wpList_store_row rfl 190 (.tmp 4) (.tmp 6) rfl (w.heap.size + 1) _ rfl rfl _ _ (al2_1 w _ _) infoWb rfl H1s.out ?_; rw [setRow_new1]))
  generalize hW : World.alloc _ _ = W
  have hal : Below w.heap.size w W := by rw [← hW]; exact bal (bal (Below.refl _ _) _) _
  have B1 : W.heap[w.heap.size + 1]? = some (.cells (#[.int .i64 x.a0, .int .i64 x.a1, .int .i64 x.a2, .int .i64 x.a3, .int .i64 x.a4, .int .i64 x.a5, .int .i64 x.c0, .int .i64 x.c1, .int .i64 x.c2, .int .i64 x.c3, .int .i64 x.c4, .int .i64 x.c5, .int .i64 x.c6, .int .i64 x.c7, .int .i64 x.c8, .int .i64 x.c9, .int .i64 x.b0, .int .i64 x.b1, .int .i64 x.b2, .int .i64 x.b3, .int .i64 x.b4, .int .i64 x.b5, .int .i64 x.b6, .int .i64 x.b7, .slice po pn pc, .slice lo ln lc] : Array Value) 190 (0, 0)) := by rw [← hW]; exact al2_1 w _ _
  clear hW
  refine (wordBlank_any x.a0 _).mono ?_
  rintro e w1 ⟨v, rfl, -, hj, b1⟩
  obtain ⟨Z, rfl⟩ := hj 4 (by omega) (by omega) HK.out
  have HB := hide (bKeeps b1 B1)
  have c1 := bAll hal b1
  clear B1 b1 hal hj
  generalize Value.agg _ = A0
  simp only [kindT]
  obtain ⟨z1, q1⟩ := as_no (P := Tryz.prog) (T := 196) (xt := 169) Tryz.underlying193 (by kernel_rfl) (by decide)
  obtain ⟨z2, q2⟩ := as_no (P := Tryz.prog) (T := 196) (xt := 169) Tryz.underlying194 (by kernel_rfl) (by decide)
  obtain ⟨z3, q3⟩ := as_no (P := Tryz.prog) (T := 196) (xt := 169) Tryz.underlying195 (by kernel_rfl) (by decide)
  have qy := as_yes (P := Tryz.prog) (xt := 169) Tryz.underlying196
  go_wp2_with (refine wpList_load_row rfl 190 (.tmp 4) rfl (w.heap.size + 1) rfl _ _ (0, 0) _ HB.out Tryz.underlying190 rfl infoWb ?_)
  exact bodyPost_ret (v := .tuple #[.iface 196 (.agg #[.int .i64 x.a0, .int .i64 x.a1, .int .i64 x.a2, .int .i64 x.a3, .int .i64 x.a4, .int .i64 x.a5, .int .i64 x.c0, .int .i64 x.c1, .int .i64 x.c2, .int .i64 x.c3, .int .i64 x.c4, .int .i64 x.c5, .int .i64 x.c6, .int .i64 x.c7, .int .i64 x.c8, .int .i64 x.c9, .int .i64 x.b0, .int .i64 x.b1, .int .i64 x.b2, .int .i64 x.b3, .int .i64 x.b4, .int .i64 x.b5, .int .i64 x.b6, .int .i64 x.b7, .slice po pn pc, .slice lo ln lc]), .bool true]) (by simp [results, Tryz.results117, go_sem]) rfl ⟨rfl, c1⟩

set_option maxRecDepth 100000 in
set_option maxHeartbeats 8000000 in
theorem wordOf_5 (x : Wd) (po lo : Option Addr) (pn pc ln lc : Nat) (w : World) (hk : x.a0 = 5) :
    Calls Tryz.prog 117 #[ .agg #[.int .i64 x.a0, .int .i64 x.a1, .int .i64 x.a2, .int .i64 x.a3, .int .i64 x.a4, .int .i64 x.a5, .int .i64 x.c0, .int .i64 x.c1, .int .i64 x.c2, .int .i64 x.c3, .int .i64 x.c4, .int .i64 x.c5, .int .i64 x.c6, .int .i64 x.c7, .int .i64 x.c8, .int .i64 x.c9, .int .i64 x.b0, .int .i64 x.b1, .int .i64 x.b2, .int .i64 x.b3, .int .i64 x.b4, .int .i64 x.b5, .int .i64 x.b6, .int .i64 x.b7, .slice po pn pc, .slice lo ln lc] ] w fun e w' => e = .returned (.tuple #[.iface 197 (.agg #[.int .i64 x.a0, .int .i64 x.a1, .int .i64 x.a2, .int .i64 x.a3, .int .i64 x.a4, .int .i64 x.a5, .int .i64 x.c0, .int .i64 x.c1, .int .i64 x.c2, .int .i64 x.c3, .int .i64 x.c4, .int .i64 x.c5, .int .i64 x.c6, .int .i64 x.c7, .int .i64 x.c8, .int .i64 x.c9, .int .i64 x.b0, .int .i64 x.b1, .int .i64 x.b2, .int .i64 x.b3, .int .i64 x.b4, .int .i64 x.b5, .int .i64 x.b6, .int .i64 x.b7, .slice po pn pc, .slice lo ln lc]), .bool true]) ∧ Below w.heap.size w w' := by
  have HK := hide hk
  clear hk
  have H1s := hide (all_of_list (List.all_eq_true.2 (wd_one x po lo pn pc ln lc)))
  go_enter Tryz.func117, Tryz.ntmps117
  go_wp2_with (first
    | (refine wpList_load_row rfl 87 (.tmp 1) rfl w.heap.size rfl _ _ (0, 0) _ (heap_alloc_new w _) Tryz.underlying87 rfl infoWd ?_)
    | (refine wpList_store_row rfl 190 (.tmp 4) (.tmp 6) rfl (w.heap.size + 1) _ rfl rfl _ _ (al2_1 w _ _) infoWb rfl H1s.out ?_; rw [setRow_new1]))
  generalize hW : World.alloc _ _ = W
  have hal : Below w.heap.size w W := by rw [← hW]; exact bal (bal (Below.refl _ _) _) _
  have B1 : W.heap[w.heap.size + 1]? = some (.cells (#[.int .i64 x.a0, .int .i64 x.a1, .int .i64 x.a2, .int .i64 x.a3, .int .i64 x.a4, .int .i64 x.a5, .int .i64 x.c0, .int .i64 x.c1, .int .i64 x.c2, .int .i64 x.c3, .int .i64 x.c4, .int .i64 x.c5, .int .i64 x.c6, .int .i64 x.c7, .int .i64 x.c8, .int .i64 x.c9, .int .i64 x.b0, .int .i64 x.b1, .int .i64 x.b2, .int .i64 x.b3, .int .i64 x.b4, .int .i64 x.b5, .int .i64 x.b6, .int .i64 x.b7, .slice po pn pc, .slice lo ln lc] : Array Value) 190 (0, 0)) := by rw [← hW]; exact al2_1 w _ _
  clear hW
  refine (wordBlank_any x.a0 _).mono ?_
  rintro e w1 ⟨v, rfl, -, hj, b1⟩
  obtain ⟨Z, rfl⟩ := hj 5 (by omega) (by omega) HK.out
  have HB := hide (bKeeps b1 B1)
  have c1 := bAll hal b1
  clear B1 b1 hal hj
  generalize Value.agg _ = A0
  simp only [kindT]
  obtain ⟨z1, q1⟩ := as_no (P := Tryz.prog) (T := 197) (xt := 169) Tryz.underlying193 (by kernel_rfl) (by decide)
  obtain ⟨z2, q2⟩ := as_no (P := Tryz.prog) (T := 197) (xt := 169) Tryz.underlying194 (by kernel_rfl) (by decide)
  obtain ⟨z3, q3⟩ := as_no (P := Tryz.prog) (T := 197) (xt := 169) Tryz.underlying195 (by kernel_rfl) (by decide)
  obtain ⟨z4, q4⟩ := as_no (P := Tryz.prog) (T := 197) (xt := 169) Tryz.underlying196 (by kernel_rfl) (by decide)
  have qy := as_yes (P := Tryz.prog) (xt := 169) Tryz.underlying197
  go_wp2_with (refine wpList_load_row rfl 190 (.tmp 4) rfl (w.heap.size + 1) rfl _ _ (0, 0) _ HB.out Tryz.underlying190 rfl infoWb ?_)
  exact bodyPost_ret (v := .tuple #[.iface 197 (.agg #[.int .i64 x.a0, .int .i64 x.a1, .int .i64 x.a2, .int .i64 x.a3, .int .i64 x.a4, .int .i64 x.a5, .int .i64 x.c0, .int .i64 x.c1, .int .i64 x.c2, .int .i64 x.c3, .int .i64 x.c4, .int .i64 x.c5, .int .i64 x.c6, .int .i64 x.c7, .int .i64 x.c8, .int .i64 x.c9, .int .i64 x.b0, .int .i64 x.b1, .int .i64 x.b2, .int .i64 x.b3, .int .i64 x.b4, .int .i64 x.b5, .int .i64 x.b6, .int .i64 x.b7, .slice po pn pc, .slice lo ln lc]), .bool true]) (by simp [results, Tryz.results117, go_sem]) rfl ⟨rfl, c1⟩

set_option maxRecDepth 100000 in
set_option maxHeartbeats 8000000 in
theorem wordOf_6 (x : Wd) (po lo : Option Addr) (pn pc ln lc : Nat) (w : World) (hk : x.a0 = 6) :
    Calls Tryz.prog 117 #[ .agg #[.int .i64 x.a0, .int .i64 x.a1, .int .i64 x.a2, .int .i64 x.a3, .int .i64 x.a4, .int .i64 x.a5, .int .i64 x.c0, .int .i64 x.c1, .int .i64 x.c2, .int .i64 x.c3, .int .i64 x.c4, .int .i64 x.c5, .int .i64 x.c6, .int .i64 x.c7, .int .i64 x.c8, .int .i64 x.c9, .int .i64 x.b0, .int .i64 x.b1, .int .i64 x.b2, .int .i64 x.b3, .int .i64 x.b4, .int .i64 x.b5, .int .i64 x.b6, .int .i64 x.b7, .slice po pn pc, .slice lo ln lc] ] w fun e w' => e = .returned (.tuple #[.iface 198 (.agg #[.int .i64 x.a0, .int .i64 x.a1, .int .i64 x.a2, .int .i64 x.a3, .int .i64 x.a4, .int .i64 x.a5, .int .i64 x.c0, .int .i64 x.c1, .int .i64 x.c2, .int .i64 x.c3, .int .i64 x.c4, .int .i64 x.c5, .int .i64 x.c6, .int .i64 x.c7, .int .i64 x.c8, .int .i64 x.c9, .int .i64 x.b0, .int .i64 x.b1, .int .i64 x.b2, .int .i64 x.b3, .int .i64 x.b4, .int .i64 x.b5, .int .i64 x.b6, .int .i64 x.b7, .slice po pn pc, .slice lo ln lc]), .bool true]) ∧ Below w.heap.size w w' := by
  have HK := hide hk
  clear hk
  have H1s := hide (all_of_list (List.all_eq_true.2 (wd_one x po lo pn pc ln lc)))
  go_enter Tryz.func117, Tryz.ntmps117
  go_wp2_with (first
    | (refine wpList_load_row rfl 87 (.tmp 1) rfl w.heap.size rfl _ _ (0, 0) _ (heap_alloc_new w _) Tryz.underlying87 rfl infoWd ?_)
    | (refine wpList_store_row rfl 190 (.tmp 4) (.tmp 6) rfl (w.heap.size + 1) _ rfl rfl _ _ (al2_1 w _ _) infoWb rfl H1s.out ?_; rw [setRow_new1]))
  generalize hW : World.alloc _ _ = W
  have hal : Below w.heap.size w W := by rw [← hW]; exact bal (bal (Below.refl _ _) _) _
  have B1 : W.heap[w.heap.size + 1]? = some (.cells (#[.int .i64 x.a0, .int .i64 x.a1, .int .i64 x.a2, .int .i64 x.a3, .int .i64 x.a4, .int .i64 x.a5, .int .i64 x.c0, .int .i64 x.c1, .int .i64 x.c2, .int .i64 x.c3, .int .i64 x.c4, .int .i64 x.c5, .int .i64 x.c6, .int .i64 x.c7, .int .i64 x.c8, .int .i64 x.c9, .int .i64 x.b0, .int .i64 x.b1, .int .i64 x.b2, .int .i64 x.b3, .int .i64 x.b4, .int .i64 x.b5, .int .i64 x.b6, .int .i64 x.b7, .slice po pn pc, .slice lo ln lc] : Array Value) 190 (0, 0)) := by rw [← hW]; exact al2_1 w _ _
  clear hW
  refine (wordBlank_any x.a0 _).mono ?_
  rintro e w1 ⟨v, rfl, -, hj, b1⟩
  obtain ⟨Z, rfl⟩ := hj 6 (by omega) (by omega) HK.out
  have HB := hide (bKeeps b1 B1)
  have c1 := bAll hal b1
  clear B1 b1 hal hj
  generalize Value.agg _ = A0
  simp only [kindT]
  obtain ⟨z1, q1⟩ := as_no (P := Tryz.prog) (T := 198) (xt := 169) Tryz.underlying193 (by kernel_rfl) (by decide)
  obtain ⟨z2, q2⟩ := as_no (P := Tryz.prog) (T := 198) (xt := 169) Tryz.underlying194 (by kernel_rfl) (by decide)
  obtain ⟨z3, q3⟩ := as_no (P := Tryz.prog) (T := 198) (xt := 169) Tryz.underlying195 (by kernel_rfl) (by decide)
  obtain ⟨z4, q4⟩ := as_no (P := Tryz.prog) (T := 198) (xt := 169) Tryz.underlying196 (by kernel_rfl) (by decide)
  obtain ⟨z5, q5⟩ := as_no (P := Tryz.prog) (T := 198) (xt := 169) Tryz.underlying197 (by kernel_rfl) (by decide)
  have qy := as_yes (P := Tryz.prog) (xt := 169) Tryz.underlying198
  go_wp2_with (refine wpList_load_row rfl 190 (.tmp 4) rfl (w.heap.size + 1) rfl _ _ (0, 0) _ HB.out Tryz.underlying190 rfl infoWb ?_)
  exact bodyPost_ret (v := .tuple #[.iface 198 (.agg #[.int .i64 x.a0, .int .i64 x.a1, .int .i64 x.a2, .int .i64 x.a3, .int .i64 x.a4, .int .i64 x.a5, .int .i64 x.c0, .int .i64 x.c1, .int .i64 x.c2, .int .i64 x.c3, .int .i64 x.c4, .int .i64 x.c5, .int .i64 x.c6, .int .i64 x.c7, .int .i64 x.c8, .int .i64 x.c9, .int .i64 x.b0, .int .i64 x.b1, .int .i64 x.b2, .int .i64 x.b3, .int .i64 x.b4, .int .i64 x.b5, .int .i64 x.b6, .int .i64 x.b7, .slice po pn pc, .slice lo ln lc]), .bool true]) (by simp [results, Tryz.results117, go_sem]) rfl ⟨rfl, c1⟩

end Go.Proofs.YteddhdbglciahaaGreat

/- A plain word as a struct of its kind, in the program, kind by kind: contracts; no statement of the seat is proved here. -/
namespace Go.Proofs.YteddhdbglciahaaGreat
open Go.RowKit

set_option maxRecDepth 100000 in
set_option maxHeartbeats 8000000 in
theorem wordOf_7 (x : Wd) (po lo : Option Addr) (pn pc ln lc : Nat) (w : World) (hk : x.a0 = 7) :
    Calls Tryz.prog 117 #[ .agg #[.int .i64 x.a0, .int .i64 x.a1, .int .i64 x.a2, .int .i64 x.a3, .int .i64 x.a4, .int .i64 x.a5, .int .i64 x.c0, .int .i64 x.c1, .int .i64 x.c2, .int .i64 x.c3, .int .i64 x.c4, .int .i64 x.c5, .int .i64 x.c6, .int .i64 x.c7, .int .i64 x.c8, .int .i64 x.c9, .int .i64 x.b0, .int .i64 x.b1, .int .i64 x.b2, .int .i64 x.b3, .int .i64 x.b4, .int .i64 x.b5, .int .i64 x.b6, .int .i64 x.b7, .slice po pn pc, .slice lo ln lc] ] w fun e w' => e = .returned (.tuple #[.iface 199 (.agg #[.int .i64 x.a0, .int .i64 x.a1, .int .i64 x.a2, .int .i64 x.a3, .int .i64 x.a4, .int .i64 x.a5, .int .i64 x.c0, .int .i64 x.c1, .int .i64 x.c2, .int .i64 x.c3, .int .i64 x.c4, .int .i64 x.c5, .int .i64 x.c6, .int .i64 x.c7, .int .i64 x.c8, .int .i64 x.c9, .int .i64 x.b0, .int .i64 x.b1, .int .i64 x.b2, .int .i64 x.b3, .int .i64 x.b4, .int .i64 x.b5, .int .i64 x.b6, .int .i64 x.b7, .slice po pn pc, .slice lo ln lc]), .bool true]) ∧ Below w.heap.size w w' := by
  have HK := hide hk
  clear hk
  have H1s := hide (all_of_list (List.all_eq_true.2 (wd_one x po lo pn pc ln lc)))
  go_enter Tryz.func117, Tryz.ntmps117
  go_wp2_with (first
    | (refine wpList_load_row rfl 87 (.tmp 1) rfl w.heap.size rfl _ _ (0, 0) _ (heap_alloc_new w _) Tryz.underlying87 rfl infoWd ?_)
    | (refine wpList_store_row rfl 190 (.tmp 4) (.tmp 6) rfl (w.heap.size + 1) _ rfl rfl _ _ (al2_1 w _ _) infoWb rfl H1s.out ?_; rw [setRow_new1]))
  generalize hW : World.alloc _ _ = W
  have hal : Below w.heap.size w W := by rw [← hW]; exact bal (bal (Below.refl _ _) _) _
  have B1 : W.heap[w.heap.size + 1]? = some (.cells (#[.int .i64 x.a0, .int .i64 x.a1, .int .i64 x.a2, .int .i64 x.a3, .int .i64 x.a4, .int .i64 x.a5, .int .i64 x.c0, .int .i64 x.c1, .int .i64 x.c2, .int .i64 x.c3, .int .i64 x.c4, .int .i64 x.c5, .int .i64 x.c6, .int .i64 x.c7, .int .i64 x.c8, .int .i64 x.c9, .int .i64 x.b0, .int .i64 x.b1, .int .i64 x.b2, .int .i64 x.b3, .int .i64 x.b4, .int .i64 x.b5, .int .i64 x.b6, .int .i64 x.b7, .slice po pn pc, .slice lo ln lc] : Array Value) 190 (0, 0)) := by rw [← hW]; exact al2_1 w _ _
  clear hW
  refine (wordBlank_any x.a0 _).mono ?_
  rintro e w1 ⟨v, rfl, -, hj, b1⟩
  obtain ⟨Z, rfl⟩ := hj 7 (by omega) (by omega) HK.out
  have HB := hide (bKeeps b1 B1)
  have c1 := bAll hal b1
  clear B1 b1 hal hj
  generalize Value.agg _ = A0
  simp only [kindT]
  obtain ⟨z1, q1⟩ := as_no (P := Tryz.prog) (T := 199) (xt := 169) Tryz.underlying193 (by kernel_rfl) (by decide)
  obtain ⟨z2, q2⟩ := as_no (P := Tryz.prog) (T := 199) (xt := 169) Tryz.underlying194 (by kernel_rfl) (by decide)
  obtain ⟨z3, q3⟩ := as_no (P := Tryz.prog) (T := 199) (xt := 169) Tryz.underlying195 (by kernel_rfl) (by decide)
  obtain ⟨z4, q4⟩ := as_no (P := Tryz.prog) (T := 199) (xt := 169) Tryz.underlying196 (by kernel_rfl) (by decide)
  obtain ⟨z5, q5⟩ := as_no (P := Tryz.prog) (T := 199) (xt := 169) Tryz.underlying197 (by kernel_rfl) (by decide)
  obtain ⟨z6, q6⟩ := as_no (P := Tryz.prog) (T := 199) (xt := 169) Tryz.underlying198 (by kernel_rfl) (by decide)
  have qy := as_yes (P := Tryz.prog) (xt := 169) Tryz.underlying199
  go_wp2_with (refine wpList_load_row rfl 190 (.tmp 4) rfl (w.heap.size + 1) rfl _ _ (0, 0) _ HB.out Tryz.underlying190 rfl infoWb ?_)
  exact bodyPost_ret (v := .tuple #[.iface 199 (.agg #[.int .i64 x.a0, .int .i64 x.a1, .int .i64 x.a2, .int .i64 x.a3, .int .i64 x.a4, .int .i64 x.a5, .int .i64 x.c0, .int .i64 x.c1, .int .i64 x.c2, .int .i64 x.c3, .int .i64 x.c4, .int .i64 x.c5, .int .i64 x.c6, .int .i64 x.c7, .int .i64 x.c8, .int .i64 x.c9, .int .i64 x.b0, .int .i64 x.b1, .int .i64 x.b2, .int .i64 x.b3, .int .i64 x.b4, .int .i64 x.b5, .int .i64 x.b6, .int .i64 x.b7, .slice po pn pc, .slice lo ln lc]), .bool true]) (by simp [results, Tryz.results117, go_sem]) rfl ⟨rfl, c1⟩

set_option maxRecDepth 100000 in
set_option maxHeartbeats 8000000 in
theorem wordOf_8 (x : Wd) (po lo : Option Addr) (pn pc ln lc : Nat) (w : World) (hk : x.a0 = 8) :
    Calls Tryz.prog 117 #[ .agg #[.int .i64 x.a0, .int .i64 x.a1, .int .i64 x.a2, .int .i64 x.a3, .int .i64 x.a4, .int .i64 x.a5, .int .i64 x.c0, .int .i64 x.c1, .int .i64 x.c2, .int .i64 x.c3, .int .i64 x.c4, .int .i64 x.c5, .int .i64 x.c6, .int .i64 x.c7, .int .i64 x.c8, .int .i64 x.c9, .int .i64 x.b0, .int .i64 x.b1, .int .i64 x.b2, .int .i64 x.b3, .int .i64 x.b4, .int .i64 x.b5, .int .i64 x.b6, .int .i64 x.b7, .slice po pn pc, .slice lo ln lc] ] w fun e w' => e = .returned (.tuple #[.iface 200 (.agg #[.int .i64 x.a0, .int .i64 x.a1, .int .i64 x.a2, .int .i64 x.a3, .int .i64 x.a4, .int .i64 x.a5, .int .i64 x.c0, .int .i64 x.c1, .int .i64 x.c2, .int .i64 x.c3, .int .i64 x.c4, .int .i64 x.c5, .int .i64 x.c6, .int .i64 x.c7, .int .i64 x.c8, .int .i64 x.c9, .int .i64 x.b0, .int .i64 x.b1, .int .i64 x.b2, .int .i64 x.b3, .int .i64 x.b4, .int .i64 x.b5, .int .i64 x.b6, .int .i64 x.b7, .slice po pn pc, .slice lo ln lc]), .bool true]) ∧ Below w.heap.size w w' := by
  have HK := hide hk
  clear hk
  have H1s := hide (all_of_list (List.all_eq_true.2 (wd_one x po lo pn pc ln lc)))
  go_enter Tryz.func117, Tryz.ntmps117
  go_wp2_with (first
    | (refine wpList_load_row rfl 87 (.tmp 1) rfl w.heap.size rfl _ _ (0, 0) _ (heap_alloc_new w _) Tryz.underlying87 rfl infoWd ?_)
    | (refine wpList_store_row rfl 190 (.tmp 4) (.tmp 6) rfl (w.heap.size + 1) _ rfl rfl _ _ (al2_1 w _ _) infoWb rfl H1s.out ?_; rw [setRow_new1]))
  generalize hW : World.alloc _ _ = W
  have hal : Below w.heap.size w W := by rw [← hW]; exact bal (bal (Below.refl _ _) _) _
  have B1 : W.heap[w.heap.size + 1]? = some (.cells (#[.int .i64 x.a0, .int .i64 x.a1, .int .i64 x.a2, .int .i64 x.a3, .int .i64 x.a4, .int .i64 x.a5, .int .i64 x.c0, .int .i64 x.c1, .int .i64 x.c2, .int .i64 x.c3, .int .i64 x.c4, .int .i64 x.c5, .int .i64 x.c6, .int .i64 x.c7, .int .i64 x.c8, .int .i64 x.c9, .int .i64 x.b0, .int .i64 x.b1, .int .i64 x.b2, .int .i64 x.b3, .int .i64 x.b4, .int .i64 x.b5, .int .i64 x.b6, .int .i64 x.b7, .slice po pn pc, .slice lo ln lc] : Array Value) 190 (0, 0)) := by rw [← hW]; exact al2_1 w _ _
  clear hW
  refine (wordBlank_any x.a0 _).mono ?_
  rintro e w1 ⟨v, rfl, -, hj, b1⟩
  obtain ⟨Z, rfl⟩ := hj 8 (by omega) (by omega) HK.out
  have HB := hide (bKeeps b1 B1)
  have c1 := bAll hal b1
  clear B1 b1 hal hj
  generalize Value.agg _ = A0
  simp only [kindT]
  obtain ⟨z1, q1⟩ := as_no (P := Tryz.prog) (T := 200) (xt := 169) Tryz.underlying193 (by kernel_rfl) (by decide)
  obtain ⟨z2, q2⟩ := as_no (P := Tryz.prog) (T := 200) (xt := 169) Tryz.underlying194 (by kernel_rfl) (by decide)
  obtain ⟨z3, q3⟩ := as_no (P := Tryz.prog) (T := 200) (xt := 169) Tryz.underlying195 (by kernel_rfl) (by decide)
  obtain ⟨z4, q4⟩ := as_no (P := Tryz.prog) (T := 200) (xt := 169) Tryz.underlying196 (by kernel_rfl) (by decide)
  obtain ⟨z5, q5⟩ := as_no (P := Tryz.prog) (T := 200) (xt := 169) Tryz.underlying197 (by kernel_rfl) (by decide)
  obtain ⟨z6, q6⟩ := as_no (P := Tryz.prog) (T := 200) (xt := 169) Tryz.underlying198 (by kernel_rfl) (by decide)
  obtain ⟨z7, q7⟩ := as_no (P := Tryz.prog) (T := 200) (xt := 169) Tryz.underlying199 (by kernel_rfl) (by decide)
  have qy := as_yes (P := Tryz.prog) (xt := 169) Tryz.underlying200
  go_wp2_with (refine wpList_load_row rfl 190 (.tmp 4) rfl (w.heap.size + 1) rfl _ _ (0, 0) _ HB.out Tryz.underlying190 rfl infoWb ?_)
  exact bodyPost_ret (v := .tuple #[.iface 200 (.agg #[.int .i64 x.a0, .int .i64 x.a1, .int .i64 x.a2, .int .i64 x.a3, .int .i64 x.a4, .int .i64 x.a5, .int .i64 x.c0, .int .i64 x.c1, .int .i64 x.c2, .int .i64 x.c3, .int .i64 x.c4, .int .i64 x.c5, .int .i64 x.c6, .int .i64 x.c7, .int .i64 x.c8, .int .i64 x.c9, .int .i64 x.b0, .int .i64 x.b1, .int .i64 x.b2, .int .i64 x.b3, .int .i64 x.b4, .int .i64 x.b5, .int .i64 x.b6, .int .i64 x.b7, .slice po pn pc, .slice lo ln lc]), .bool true]) (by simp [results, Tryz.results117, go_sem]) rfl ⟨rfl, c1⟩

set_option maxRecDepth 100000 in
set_option maxHeartbeats 8000000 in
theorem wordOf_9 (x : Wd) (po lo : Option Addr) (pn pc ln lc : Nat) (w : World) (hk : x.a0 = 9) :
    Calls Tryz.prog 117 #[ .agg #[.int .i64 x.a0, .int .i64 x.a1, .int .i64 x.a2, .int .i64 x.a3, .int .i64 x.a4, .int .i64 x.a5, .int .i64 x.c0, .int .i64 x.c1, .int .i64 x.c2, .int .i64 x.c3, .int .i64 x.c4, .int .i64 x.c5, .int .i64 x.c6, .int .i64 x.c7, .int .i64 x.c8, .int .i64 x.c9, .int .i64 x.b0, .int .i64 x.b1, .int .i64 x.b2, .int .i64 x.b3, .int .i64 x.b4, .int .i64 x.b5, .int .i64 x.b6, .int .i64 x.b7, .slice po pn pc, .slice lo ln lc] ] w fun e w' => e = .returned (.tuple #[.iface 201 (.agg #[.int .i64 x.a0, .int .i64 x.a1, .int .i64 x.a2, .int .i64 x.a3, .int .i64 x.a4, .int .i64 x.a5, .int .i64 x.c0, .int .i64 x.c1, .int .i64 x.c2, .int .i64 x.c3, .int .i64 x.c4, .int .i64 x.c5, .int .i64 x.c6, .int .i64 x.c7, .int .i64 x.c8, .int .i64 x.c9, .int .i64 x.b0, .int .i64 x.b1, .int .i64 x.b2, .int .i64 x.b3, .int .i64 x.b4, .int .i64 x.b5, .int .i64 x.b6, .int .i64 x.b7, .slice po pn pc, .slice lo ln lc]), .bool true]) ∧ Below w.heap.size w w' := by
  have HK := hide hk
  clear hk
  have H1s := hide (all_of_list (List.all_eq_true.2 (wd_one x po lo pn pc ln lc)))
  go_enter Tryz.func117, Tryz.ntmps117
  go_wp2_with (first
    | (refine wpList_load_row rfl 87 (.tmp 1) rfl w.heap.size rfl _ _ (0, 0) _ (heap_alloc_new w _) Tryz.underlying87 rfl infoWd ?_)
    | (refine wpList_store_row rfl 190 (.tmp 4) (.tmp 6) rfl (w.heap.size + 1) _ rfl rfl _ _ (al2_1 w _ _) infoWb rfl H1s.out ?_; rw [setRow_new1]))
  generalize hW : World.alloc _ _ = W
  have hal : Below w.heap.size w W := by rw [← hW]; exact bal (bal (Below.refl _ _) _) _
  have B1 : W.heap[w.heap.size + 1]? = some (.cells (#[.int .i64 x.a0, .int .i64 x.a1, .int .i64 x.a2, .int .i64 x.a3, .int .i64 x.a4, .int .i64 x.a5, .int .i64 x.c0, .int .i64 x.c1, .int .i64 x.c2, .int .i64 x.c3, .int .i64 x.c4, .int .i64 x.c5, .int .i64 x.c6, .int .i64 x.c7, .int .i64 x.c8, .int .i64 x.c9, .int .i64 x.b0, .int .i64 x.b1, .int .i64 x.b2, .int .i64 x.b3, .int .i64 x.b4, .int .i64 x.b5, .int .i64 x.b6, .int .i64 x.b7, .slice po pn pc, .slice lo ln lc] : Array Value) 190 (0, 0)) := by rw [← hW]; exact al2_1 w _ _
  clear hW
  refine (wordBlank_any x.a0 _).mono ?_
  rintro e w1 ⟨v, rfl, -, hj, b1⟩
  obtain ⟨Z, rfl⟩ := hj 9 (by omega) (by omega) HK.out
  have HB := hide (bKeeps b1 B1)
  have c1 := bAll hal b1
  clear B1 b1 hal hj
  generalize Value.agg _ = A0
  simp only [kindT]
  obtain ⟨z1, q1⟩ := as_no (P := Tryz.prog) (T := 201) (xt := 169) Tryz.underlying193 (by kernel_rfl) (by decide)
  obtain ⟨z2, q2⟩ := as_no (P := Tryz.prog) (T := 201) (xt := 169) Tryz.underlying194 (by kernel_rfl) (by decide)
  obtain ⟨z3, q3⟩ := as_no (P := Tryz.prog) (T := 201) (xt := 169) Tryz.underlying195 (by kernel_rfl) (by decide)
  obtain ⟨z4, q4⟩ := as_no (P := Tryz.prog) (T := 201) (xt := 169) Tryz.underlying196 (by kernel_rfl) (by decide)
  obtain ⟨z5, q5⟩ := as_no (P := Tryz.prog) (T := 201) (xt := 169) Tryz.underlying197 (by kernel_rfl) (by decide)
  obtain ⟨z6, q6⟩ := as_no (P := Tryz.prog) (T := 201) (xt := 169) Tryz.underlying198 (by kernel_rfl) (by decide)
  obtain ⟨z7, q7⟩ := as_no (P := Tryz.prog) (T := 201) (xt := 169) Tryz.underlying199 (by kernel_rfl) (by decide)
  obtain ⟨z8, q8⟩ := as_no (P := Tryz.prog) (T := 201) (xt := 169) Tryz.underlying200 (by kernel_rfl) (by decide)
  have qy := as_yes (P := Tryz.prog) (xt := 169) Tryz.underlying201
  go_wp2_with (refine wpList_load_row rfl 190 (.tmp 4) rfl (w.heap.size + 1) rfl _ _ (0, 0) _ HB.out Tryz.underlying190 rfl infoWb ?_)
  exact bodyPost_ret (v := .tuple #[.iface 201 (.agg #[.int .i64 x.a0, .int .i64 x.a1, .int .i64 x.a2, .int .i64 x.a3, .int .i64 x.a4, .int .i64 x.a5, .int .i64 x.c0, .int .i64 x.c1, .int .i64 x.c2, .int .i64 x.c3, .int .i64 x.c4, .int .i64 x.c5, .int .i64 x.c6, .int .i64 x.c7, .int .i64 x.c8, .int .i64 x.c9, .int .i64 x.b0, .int .i64 x.b1, .int .i64 x.b2, .int .i64 x.b3, .int .i64 x.b4, .int .i64 x.b5, .int .i64 x.b6, .int .i64 x.b7, .slice po pn pc, .slice lo ln lc]), .bool true]) (by simp [results, Tryz.results117, go_sem]) rfl ⟨rfl, c1⟩

set_option maxRecDepth 100000 in
set_option maxHeartbeats 8000000 in
theorem wordOf_10 (x : Wd) (po lo : Option Addr) (pn pc ln lc : Nat) (w : World) (hk : x.a0 = 10) :
    Calls Tryz.prog 117 #[ .agg #[.int .i64 x.a0, .int .i64 x.a1, .int .i64 x.a2, .int .i64 x.a3, .int .i64 x.a4, .int .i64 x.a5, .int .i64 x.c0, .int .i64 x.c1, .int .i64 x.c2, .int .i64 x.c3, .int .i64 x.c4, .int .i64 x.c5, .int .i64 x.c6, .int .i64 x.c7, .int .i64 x.c8, .int .i64 x.c9, .int .i64 x.b0, .int .i64 x.b1, .int .i64 x.b2, .int .i64 x.b3, .int .i64 x.b4, .int .i64 x.b5, .int .i64 x.b6, .int .i64 x.b7, .slice po pn pc, .slice lo ln lc] ] w fun e w' => e = .returned (.tuple #[.iface 202 (.agg #[.int .i64 x.a0, .int .i64 x.a1, .int .i64 x.a2, .int .i64 x.a3, .int .i64 x.a4, .int .i64 x.a5, .int .i64 x.c0, .int .i64 x.c1, .int .i64 x.c2, .int .i64 x.c3, .int .i64 x.c4, .int .i64 x.c5, .int .i64 x.c6, .int .i64 x.c7, .int .i64 x.c8, .int .i64 x.c9, .int .i64 x.b0, .int .i64 x.b1, .int .i64 x.b2, .int .i64 x.b3, .int .i64 x.b4, .int .i64 x.b5, .int .i64 x.b6, .int .i64 x.b7, .slice po pn pc, .slice lo ln lc]), .bool true]) ∧ Below w.heap.size w w' := by
  have HK := hide hk
  clear hk
  have H1s := hide (all_of_list (List.all_eq_true.2 (wd_one x po lo pn pc ln lc)))
  go_enter Tryz.func117, Tryz.ntmps117
  go_wp2_with (first
    | (refine wpList_load_row rfl 87 (.tmp 1) rfl w.heap.size rfl _ _ (0, 0) _ (heap_alloc_new w _) Tryz.underlying87 rfl infoWd ?_)
    | (refine wpList_store_row rfl 190 (.tmp 4) (.tmp 6) rfl (w.heap.size + 1) _ rfl rfl _ _ (al2_1 w _ _) infoWb rfl H1s.out ?_; rw [setRow_new1]))
  generalize hW : World.alloc _ _ = W
  have hal : Below w.heap.size w W := by rw [← hW]; exact bal (bal (Below.refl _ _) _) _
  have B1 : W.heap[w.heap.size + 1]? = some (.cells (#[.int .i64 x.a0, .int .i64 x.a1, .int .i64 x.a2, .int .i64 x.a3, .int .i64 x.a4, .int .i64 x.a5, .int .i64 x.c0, .int .i64 x.c1, .int .i64 x.c2, .int .i64 x.c3, .int .i64 x.c4, .int .i64 x.c5, .int .i64 x.c6, .int .i64 x.c7, .int .i64 x.c8, .int .i64 x.c9, .int .i64 x.b0, .int .i64 x.b1, .int .i64 x.b2, .int .i64 x.b3, .int .i64 x.b4, .int .i64 x.b5, .int .i64 x.b6, .int .i64 x.b7, .slice po pn pc, .slice lo ln lc] : Array Value) 190 (0, 0)) := by rw [← hW]; exact al2_1 w _ _
  clear hW
  refine (wordBlank_any x.a0 _).mono ?_
  rintro e w1 ⟨v, rfl, -, hj, b1⟩
  obtain ⟨Z, rfl⟩ := hj 10 (by omega) (by omega) HK.out
  have HB := hide (bKeeps b1 B1)
  have c1 := bAll hal b1
  clear B1 b1 hal hj
  generalize Value.agg _ = A0
  simp only [kindT]
  obtain ⟨z1, q1⟩ := as_no (P := Tryz.prog) (T := 202) (xt := 169) Tryz.underlying193 (by kernel_rfl) (by decide)
  obtain ⟨z2, q2⟩ := as_no (P := Tryz.prog) (T := 202) (xt := 169) Tryz.underlying194 (by kernel_rfl) (by decide)
  obtain ⟨z3, q3⟩ := as_no (P := Tryz.prog) (T := 202) (xt := 169) Tryz.underlying195 (by kernel_rfl) (by decide)
  obtain ⟨z4, q4⟩ := as_no (P := Tryz.prog) (T := 202) (xt := 169) Tryz.underlying196 (by kernel_rfl) (by decide)
  obtain ⟨z5, q5⟩ := as_no (P := Tryz.prog) (T := 202) (xt := 169) Tryz.underlying197 (by kernel_rfl) (by decide)
  obtain ⟨z6, q6⟩ := as_no (P := Tryz.prog) (T := 202) (xt := 169) Tryz.underlying198 (by kernel_rfl) (by decide)
  obtain ⟨z7, q7⟩ := as_no (P := Tryz.prog) (T := 202) (xt := 169) Tryz.underlying199 (by kernel_rfl) (by decide)
  obtain ⟨z8, q8⟩ := as_no (P := Tryz.prog) (T := 202) (xt := 169) Tryz.underlying200 (by kernel_rfl) (by decide)
  obtain ⟨z9, q9⟩ := as_no (P := Tryz.prog) (T := 202) (xt := 169) Tryz.underlying201 (by kernel_rfl) (by decide)
  have qy := as_yes (P := Tryz.prog) (xt := 169) Tryz.underlying202
  go_wp2_with (refine wpList_load_row rfl 190 (.tmp 4) rfl (w.heap.size + 1) rfl _ _ (0, 0) _ HB.out Tryz.underlying190 rfl infoWb ?_)
  exact bodyPost_ret (v := .tuple #[.iface 202 (.agg #[.int .i64 x.a0, .int .i64 x.a1, .int .i64 x.a2, .int .i64 x.a3, .int .i64 x.a4, .int .i64 x.a5, .int .i64 x.c0, .int .i64 x.c1, .int .i64 x.c2, .int .i64 x.c3, .int .i64 x.c4, .int .i64 x.c5, .int .i64 x.c6, .int .i64 x.c7, .int .i64 x.c8, .int .i64 x.c9, .int .i64 x.b0, .int .i64 x.b1, .int .i64 x.b2, .int .i64 x.b3, .int .i64 x.b4, .int .i64 x.b5, .int .i64 x.b6, .int .i64 x.b7, .slice po pn pc, .slice lo ln lc]), .bool true]) (by simp [results, Tryz.results117, go_sem]) rfl ⟨rfl, c1⟩

end Go.Proofs.YteddhdbglciahaaGreat

/- A plain word as a struct of its kind, in the program, kind by kind: contracts; no statement of the seat is proved here. -/
namespace Go.Proofs.YteddhdbglciahaaGreat
open Go.RowKit

set_option maxRecDepth 100000 in
set_option maxHeartbeats 8000000 in
theorem wordOf_11 (x : Wd) (po lo : Option Addr) (pn pc ln lc : Nat) (w : World) (hk : x.a0 = 11) :
    Calls Tryz.prog 117 #[ .agg #[.int .i64 x.a0, .int .i64 x.a1, .int .i64 x.a2, .int .i64 x.a3, .int .i64 x.a4, .int .i64 x.a5, .int .i64 x.c0, .int .i64 x.c1, .int .i64 x.c2, .int .i64 x.c3, .int .i64 x.c4, .int .i64 x.c5, .int .i64 x.c6, .int .i64 x.c7, .int .i64 x.c8, .int .i64 x.c9, .int .i64 x.b0, .int .i64 x.b1, .int .i64 x.b2, .int .i64 x.b3, .int .i64 x.b4, .int .i64 x.b5, .int .i64 x.b6, .int .i64 x.b7, .slice po pn pc, .slice lo ln lc] ] w fun e w' => e = .returned (.tuple #[.iface 203 (.agg #[.int .i64 x.a0, .int .i64 x.a1, .int .i64 x.a2, .int .i64 x.a3, .int .i64 x.a4, .int .i64 x.a5, .int .i64 x.c0, .int .i64 x.c1, .int .i64 x.c2, .int .i64 x.c3, .int .i64 x.c4, .int .i64 x.c5, .int .i64 x.c6, .int .i64 x.c7, .int .i64 x.c8, .int .i64 x.c9, .int .i64 x.b0, .int .i64 x.b1, .int .i64 x.b2, .int .i64 x.b3, .int .i64 x.b4, .int .i64 x.b5, .int .i64 x.b6, .int .i64 x.b7, .slice po pn pc, .slice lo ln lc]), .bool true]) ∧ Below w.heap.size w w' := by
  have HK := hide hk
  clear hk
  have H1s := hide (all_of_list (List.all_eq_true.2 (wd_one x po lo pn pc ln lc)))
  go_enter Tryz.func117, Tryz.ntmps117
  go_wp2_with (first
    | (refine wpList_load_row rfl 87 (.tmp 1) rfl w.heap.size rfl _ _ (0, 0) _ (heap_alloc_new w _) Tryz.underlying87 rfl infoWd ?_)
    | (refine wpList_store_row rfl 190 (.tmp 4) (.tmp 6) rfl (w.heap.size + 1) _ rfl rfl _ _ (al2_1 w _ _) infoWb rfl H1s.out ?_; rw [setRow_new1]))
  generalize hW : World.alloc _ _ = W
  have hal : Below w.heap.size w W := by rw [← hW]; exact bal (bal (Below.refl _ _) _) _
  have B1 : W.heap[w.heap.size + 1]? = some (.cells (#[.int .i64 x.a0, .int .i64 x.a1, .int .i64 x.a2, .int .i64 x.a3, .int .i64 x.a4, .int .i64 x.a5, .int .i64 x.c0, .int .i64 x.c1, .int .i64 x.c2, .int .i64 x.c3, .int .i64 x.c4, .int .i64 x.c5, .int .i64 x.c6, .int .i64 x.c7, .int .i64 x.c8, .int .i64 x.c9, .int .i64 x.b0, .int .i64 x.b1, .int .i64 x.b2, .int .i64 x.b3, .int .i64 x.b4, .int .i64 x.b5, .int .i64 x.b6, .int .i64 x.b7, .slice po pn pc, .slice lo ln lc] : Array Value) 190 (0, 0)) := by rw [← hW]; exact al2_1 w _ _
  clear hW
  refine (wordBlank_any x.a0 _).mono ?_
  rintro e w1 ⟨v, rfl, -, hj, b1⟩
  obtain ⟨Z, rfl⟩ := hj 11 (by omega) (by omega) HK.out
  have HB := hide (bKeeps b1 B1)
  have c1 := bAll hal b1
  clear B1 b1 hal hj
  generalize Value.agg _ = A0
  simp only [kindT]
  obtain ⟨z1, q1⟩ := as_no (P := Tryz.prog) (T := 203) (xt := 169) Tryz.underlying193 (by kernel_rfl) (by decide)
  obtain ⟨z2, q2⟩ := as_no (P := Tryz.prog) (T := 203) (xt := 169) Tryz.underlying194 (by kernel_rfl) (by decide)
  obtain ⟨z3, q3⟩ := as_no (P := Tryz.prog) (T := 203) (xt := 169) Tryz.underlying195 (by kernel_rfl) (by decide)
  obtain ⟨z4, q4⟩ := as_no (P := Tryz.prog) (T := 203) (xt := 169) Tryz.underlying196 (by kernel_rfl) (by decide)
  obtain ⟨z5, q5⟩ := as_no (P := Tryz.prog) (T := 203) (xt := 169) Tryz.underlying197 (by kernel_rfl) (by decide)
  obtain ⟨z6, q6⟩ := as_no (P := Tryz.prog) (T := 203) (xt := 169) Tryz.underlying198 (by kernel_rfl) (by decide)
  obtain ⟨z7, q7⟩ := as_no (P := Tryz.prog) (T := 203) (xt := 169) Tryz.underlying199 (by kernel_rfl) (by decide)
  obtain ⟨z8, q8⟩ := as_no (P := Tryz.prog) (T := 203) (xt := 169) Tryz.underlying200 (by kernel_rfl) (by decide)
  obtain ⟨z9, q9⟩ := as_no (P := Tryz.prog) (T := 203) (xt := 169) Tryz.underlying201 (by kernel_rfl) (by decide)
  obtain ⟨z10, q10⟩ := as_no (P := Tryz.prog) (T := 203) (xt := 169) Tryz.underlying202 (by kernel_rfl) (by decide)
  have qy := as_yes (P := Tryz.prog) (xt := 169) Tryz.underlying203
  go_wp2_with (refine wpList_load_row rfl 190 (.tmp 4) rfl (w.heap.size + 1) rfl _ _ (0, 0) _ HB.out Tryz.underlying190 rfl infoWb ?_)
  exact bodyPost_ret (v := .tuple #[.iface 203 (.agg #[.int .i64 x.a0, .int .i64 x.a1, .int .i64 x.a2, .int .i64 x.a3, .int .i64 x.a4, .int .i64 x.a5, .int .i64 x.c0, .int .i64 x.c1, .int .i64 x.c2, .int .i64 x.c3, .int .i64 x.c4, .int .i64 x.c5, .int .i64 x.c6, .int .i64 x.c7, .int .i64 x.c8, .int .i64 x.c9, .int .i64 x.b0, .int .i64 x.b1, .int .i64 x.b2, .int .i64 x.b3, .int .i64 x.b4, .int .i64 x.b5, .int .i64 x.b6, .int .i64 x.b7, .slice po pn pc, .slice lo ln lc]), .bool true]) (by simp [results, Tryz.results117, go_sem]) rfl ⟨rfl, c1⟩

set_option maxRecDepth 100000 in
set_option maxHeartbeats 8000000 in
theorem wordOf_12 (x : Wd) (po lo : Option Addr) (pn pc ln lc : Nat) (w : World) (hk : x.a0 = 12) :
    Calls Tryz.prog 117 #[ .agg #[.int .i64 x.a0, .int .i64 x.a1, .int .i64 x.a2, .int .i64 x.a3, .int .i64 x.a4, .int .i64 x.a5, .int .i64 x.c0, .int .i64 x.c1, .int .i64 x.c2, .int .i64 x.c3, .int .i64 x.c4, .int .i64 x.c5, .int .i64 x.c6, .int .i64 x.c7, .int .i64 x.c8, .int .i64 x.c9, .int .i64 x.b0, .int .i64 x.b1, .int .i64 x.b2, .int .i64 x.b3, .int .i64 x.b4, .int .i64 x.b5, .int .i64 x.b6, .int .i64 x.b7, .slice po pn pc, .slice lo ln lc] ] w fun e w' => e = .returned (.tuple #[.iface 204 (.agg #[.int .i64 x.a0, .int .i64 x.a1, .int .i64 x.a2, .int .i64 x.a3, .int .i64 x.a4, .int .i64 x.a5, .int .i64 x.c0, .int .i64 x.c1, .int .i64 x.c2, .int .i64 x.c3, .int .i64 x.c4, .int .i64 x.c5, .int .i64 x.c6, .int .i64 x.c7, .int .i64 x.c8, .int .i64 x.c9, .int .i64 x.b0, .int .i64 x.b1, .int .i64 x.b2, .int .i64 x.b3, .int .i64 x.b4, .int .i64 x.b5, .int .i64 x.b6, .int .i64 x.b7, .slice po pn pc, .slice lo ln lc]), .bool true]) ∧ Below w.heap.size w w' := by
  have HK := hide hk
  clear hk
  have H1s := hide (all_of_list (List.all_eq_true.2 (wd_one x po lo pn pc ln lc)))
  go_enter Tryz.func117, Tryz.ntmps117
  go_wp2_with (first
    | (refine wpList_load_row rfl 87 (.tmp 1) rfl w.heap.size rfl _ _ (0, 0) _ (heap_alloc_new w _) Tryz.underlying87 rfl infoWd ?_)
    | (refine wpList_store_row rfl 190 (.tmp 4) (.tmp 6) rfl (w.heap.size + 1) _ rfl rfl _ _ (al2_1 w _ _) infoWb rfl H1s.out ?_; rw [setRow_new1]))
  generalize hW : World.alloc _ _ = W
  have hal : Below w.heap.size w W := by rw [← hW]; exact bal (bal (Below.refl _ _) _) _
  have B1 : W.heap[w.heap.size + 1]? = some (.cells (#[.int .i64 x.a0, .int .i64 x.a1, .int .i64 x.a2, .int .i64 x.a3, .int .i64 x.a4, .int .i64 x.a5, .int .i64 x.c0, .int .i64 x.c1, .int .i64 x.c2, .int .i64 x.c3, .int .i64 x.c4, .int .i64 x.c5, .int .i64 x.c6, .int .i64 x.c7, .int .i64 x.c8, .int .i64 x.c9, .int .i64 x.b0, .int .i64 x.b1, .int .i64 x.b2, .int .i64 x.b3, .int .i64 x.b4, .int .i64 x.b5, .int .i64 x.b6, .int .i64 x.b7, .slice po pn pc, .slice lo ln lc] : Array Value) 190 (0, 0)) := by rw [← hW]; exact al2_1 w _ _
  clear hW
  refine (wordBlank_any x.a0 _).mono ?_
  rintro e w1 ⟨v, rfl, -, hj, b1⟩
  obtain ⟨Z, rfl⟩ := hj 12 (by omega) (by omega) HK.out
  have HB := hide (bKeeps b1 B1)
  have c1 := bAll hal b1
  clear B1 b1 hal hj
  generalize Value.agg _ = A0
  simp only [kindT]
  obtain ⟨z1, q1⟩ := as_no (P := Tryz.prog) (T := 204) (xt := 169) Tryz.underlying193 (by kernel_rfl) (by decide)
  obtain ⟨z2, q2⟩ := as_no (P := Tryz.prog) (T := 204) (xt := 169) Tryz.underlying194 (by kernel_rfl) (by decide)
  obtain ⟨z3, q3⟩ := as_no (P := Tryz.prog) (T := 204) (xt := 169) Tryz.underlying195 (by kernel_rfl) (by decide)
  obtain ⟨z4, q4⟩ := as_no (P := Tryz.prog) (T := 204) (xt := 169) Tryz.underlying196 (by kernel_rfl) (by decide)
  obtain ⟨z5, q5⟩ := as_no (P := Tryz.prog) (T := 204) (xt := 169) Tryz.underlying197 (by kernel_rfl) (by decide)
  obtain ⟨z6, q6⟩ := as_no (P := Tryz.prog) (T := 204) (xt := 169) Tryz.underlying198 (by kernel_rfl) (by decide)
  obtain ⟨z7, q7⟩ := as_no (P := Tryz.prog) (T := 204) (xt := 169) Tryz.underlying199 (by kernel_rfl) (by decide)
  obtain ⟨z8, q8⟩ := as_no (P := Tryz.prog) (T := 204) (xt := 169) Tryz.underlying200 (by kernel_rfl) (by decide)
  obtain ⟨z9, q9⟩ := as_no (P := Tryz.prog) (T := 204) (xt := 169) Tryz.underlying201 (by kernel_rfl) (by decide)
  obtain ⟨z10, q10⟩ := as_no (P := Tryz.prog) (T := 204) (xt := 169) Tryz.underlying202 (by kernel_rfl) (by decide)
  obtain ⟨z11, q11⟩ := as_no (P := Tryz.prog) (T := 204) (xt := 169) Tryz.underlying203 (by kernel_rfl) (by decide)
  have qy := as_yes (P := Tryz.prog) (xt := 169) Tryz.underlying204
  go_wp2_with (refine wpList_load_row rfl 190 (.tmp 4) rfl (w.heap.size + 1) rfl _ _ (0, 0) _ HB.out Tryz.underlying190 rfl infoWb ?_)
  exact bodyPost_ret (v := .tuple #[.iface 204 (.agg #[.int .i64 x.a0, .int .i64 x.a1, .int .i64 x.a2, .int .i64 x.a3, .int .i64 x.a4, .int .i64 x.a5, .int .i64 x.c0, .int .i64 x.c1, .int .i64 x.c2, .int .i64 x.c3, .int .i64 x.c4, .int .i64 x.c5, .int .i64 x.c6, .int .i64 x.c7, .int .i64 x.c8, .int .i64 x.c9, .int .i64 x.b0, .int .i64 x.b1, .int .i64 x.b2, .int .i64 x.b3, .int .i64 x.b4, .int .i64 x.b5, .int .i64 x.b6, .int .i64 x.b7, .slice po pn pc, .slice lo ln lc]), .bool true]) (by simp [results, Tryz.results117, go_sem]) rfl ⟨rfl, c1⟩

set_option maxRecDepth 100000 in
set_option maxHeartbeats 8000000 in
theorem wordOf_13 (x : Wd) (po lo : Option Addr) (pn pc ln lc : Nat) (w : World) (hk : x.a0 = 13) :
    Calls Tryz.prog 117 #[ .agg #[.int .i64 x.a0, .int .i64 x.a1, .int .i64 x.a2, .int .i64 x.a3, .int .i64 x.a4, .int .i64 x.a5, .int .i64 x.c0, .int .i64 x.c1, .int .i64 x.c2, .int .i64 x.c3, .int .i64 x.c4, .int .i64 x.c5, .int .i64 x.c6, .int .i64 x.c7, .int .i64 x.c8, .int .i64 x.c9, .int .i64 x.b0, .int .i64 x.b1, .int .i64 x.b2, .int .i64 x.b3, .int .i64 x.b4, .int .i64 x.b5, .int .i64 x.b6, .int .i64 x.b7, .slice po pn pc, .slice lo ln lc] ] w fun e w' => e = .returned (.tuple #[.iface 205 (.agg #[.int .i64 x.a0, .int .i64 x.a1, .int .i64 x.a2, .int .i64 x.a3, .int .i64 x.a4, .int .i64 x.a5, .int .i64 x.c0, .int .i64 x.c1, .int .i64 x.c2, .int .i64 x.c3, .int .i64 x.c4, .int .i64 x.c5, .int .i64 x.c6, .int .i64 x.c7, .int .i64 x.c8, .int .i64 x.c9, .int .i64 x.b0, .int .i64 x.b1, .int .i64 x.b2, .int .i64 x.b3, .int .i64 x.b4, .int .i64 x.b5, .int .i64 x.b6, .int .i64 x.b7, .slice po pn pc, .slice lo ln lc]), .bool true]) ∧ Below w.heap.size w w' := by
  have HK := hide hk
  clear hk
  have H1s := hide (all_of_list (List.all_eq_true.2 (wd_one x po lo pn pc ln lc)))
  go_enter Tryz.func117, Tryz.ntmps117
  go_wp2_with (first
    | (refine wpList_load_row rfl 87 (.tmp 1) rfl w.heap.size rfl _ _ (0, 0) _ (heap_alloc_new w _) Tryz.underlying87 rfl infoWd ?_)
    | (refine wpList_store_row rfl 190 (.tmp 4) (.tmp 6) rfl (w.heap.size + 1) _ rfl rfl _ _ (al2_1 w _ _) infoWb rfl H1s.out ?_; rw [setRow_new1]))
  generalize hW : World.alloc _ _ = W
  have hal : Below w.heap.size w W := by rw [← hW]; exact bal (bal (Below.refl _ _) _) _
  have B1 : W.heap[w.heap.size + 1]? = some (.cells (#[.int .i64 x.a0, .int .i64 x.a1, .int .i64 x.a2, .int .i64 x.a3, .int .i64 x.a4, .int .i64 x.a5, .int .i64 x.c0, .int .i64 x.c1, .int .i64 x.c2, .int .i64 x.c3, .int .i64 x.c4, .int .i64 x.c5, .int .i64 x.c6, .int .i64 x.c7, .int .i64 x.c8, .int .i64 x.c9, .int .i64 x.b0, .int .i64 x.b1, .int .i64 x.b2, .int .i64 x.b3, .int .i64 x.b4, .int .i64 x.b5, .int .i64 x.b6, .int .i64 x.b7, .slice po pn pc, .slice lo ln lc] : Array Value) 190 (0, 0)) := by rw [← hW]; exact al2_1 w _ _
  clear hW
  refine (wordBlank_any x.a0 _).mono ?_
  rintro e w1 ⟨v, rfl, -, hj, b1⟩
  obtain ⟨Z, rfl⟩ := hj 13 (by omega) (by omega) HK.out
  have HB := hide (bKeeps b1 B1)
  have c1 := bAll hal b1
  clear B1 b1 hal hj
  generalize Value.agg _ = A0
  simp only [kindT]
  obtain ⟨z1, q1⟩ := as_no (P := Tryz.prog) (T := 205) (xt := 169) Tryz.underlying193 (by kernel_rfl) (by decide)
  obtain ⟨z2, q2⟩ := as_no (P := Tryz.prog) (T := 205) (xt := 169) Tryz.underlying194 (by kernel_rfl) (by decide)
  obtain ⟨z3, q3⟩ := as_no (P := Tryz.prog) (T := 205) (xt := 169) Tryz.underlying195 (by kernel_rfl) (by decide)
  obtain ⟨z4, q4⟩ := as_no (P := Tryz.prog) (T := 205) (xt := 169) Tryz.underlying196 (by kernel_rfl) (by decide)
  obtain ⟨z5, q5⟩ := as_no (P := Tryz.prog) (T := 205) (xt := 169) Tryz.underlying197 (by kernel_rfl) (by decide)
  obtain ⟨z6, q6⟩ := as_no (P := Tryz.prog) (T := 205) (xt := 169) Tryz.underlying198 (by kernel_rfl) (by decide)
  obtain ⟨z7, q7⟩ := as_no (P := Tryz.prog) (T := 205) (xt := 169) Tryz.underlying199 (by kernel_rfl) (by decide)
  obtain ⟨z8, q8⟩ := as_no (P := Tryz.prog) (T := 205) (xt := 169) Tryz.underlying200 (by kernel_rfl) (by decide)
  obtain ⟨z9, q9⟩ := as_no (P := Tryz.prog) (T := 205) (xt := 169) Tryz.underlying201 (by kernel_rfl) (by decide)
  obtain ⟨z10, q10⟩ := as_no (P := Tryz.prog) (T := 205) (xt := 169) Tryz.underlying202 (by kernel_rfl) (by decide)
  obtain ⟨z11, q11⟩ := as_no (P := Tryz.prog) (T := 205) (xt := 169) Tryz.underlying203 (by kernel_rfl) (by decide)
  obtain ⟨z12, q12⟩ := as_no (P := Tryz.prog) (T := 205) (xt := 169) Tryz.underlying204 (by kernel_rfl) (by decide)
  have qy := as_yes (P := Tryz.prog) (xt := 169) Tryz.underlying205
  go_wp2_with (refine wpList_load_row rfl 190 (.tmp 4) rfl (w.heap.size + 1) rfl _ _ (0, 0) _ HB.out Tryz.underlying190 rfl infoWb ?_)
  exact bodyPost_ret (v := .tuple #[.iface 205 (.agg #[.int .i64 x.a0, .int .i64 x.a1, .int .i64 x.a2, .int .i64 x.a3, .int .i64 x.a4, .int .i64 x.a5, .int .i64 x.c0, .int .i64 x.c1, .int .i64 x.c2, .int .i64 x.c3, .int .i64 x.c4, .int .i64 x.c5, .int .i64 x.c6, .int .i64 x.c7, .int .i64 x.c8, .int .i64 x.c9, .int .i64 x.b0, .int .i64 x.b1, .int .i64 x.b2, .int .i64 x.b3, .int .i64 x.b4, .int .i64 x.b5, .int .i64 x.b6, .int .i64 x.b7, .slice po pn pc, .slice lo ln lc]), .bool true]) (by simp [results, Tryz.results117, go_sem]) rfl ⟨rfl, c1⟩

end Go.Proofs.YteddhdbglciahaaGreat
