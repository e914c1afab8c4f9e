/- Contracts and plain facts that this claim leans on (texts XOd); no statement of the seat is proved here. -/
import Derived.Test.YtdnojnkcmncffaaWk13

/- A plain word as a struct of its kind, in the program, kind by kind: contracts; no statement of the seat is proved here. -/
namespace Go.Proofs.Ytdnojnkcmncffaa
open Go.RowKit

set_option maxRecDepth 100000 in
set_option maxHeartbeats 8000000 in
theorem wordOf_14 (x : Wd) (po lo : Option Addr) (pn pc ln lc : Nat) (w : World) (hk : x.a0 = 14) :
    Calls Try.prog 39 #[ .agg #[.int .i64 x.a0, .int .i64 x.a1, .int .i64 x.a2, .int .i64 x.a3, .int .i64 x.a4, .int .i64 x.a5, .int .i64 x.c0, .int .i64 x.c1, .int .i64 x.c2, .int .i64 x.c3, .int .i64 x.c4, .int .i64 x.c5, .int .i64 x.c6, .int .i64 x.c7, .int .i64 x.c8, .int .i64 x.c9, .int .i64 x.b0, .int .i64 x.b1, .int .i64 x.b2, .int .i64 x.b3, .int .i64 x.b4, .int .i64 x.b5, .int .i64 x.b6, .int .i64 x.b7, .slice po pn pc, .slice lo ln lc] ] w fun e w' => e = .returned (.tuple #[.iface 108 (.agg #[.int .i64 x.a0, .int .i64 x.a1, .int .i64 x.a2, .int .i64 x.a3, .int .i64 x.a4, .int .i64 x.a5, .int .i64 x.c0, .int .i64 x.c1, .int .i64 x.c2, .int .i64 x.c3, .int .i64 x.c4, .int .i64 x.c5, .int .i64 x.c6, .int .i64 x.c7, .int .i64 x.c8, .int .i64 x.c9, .int .i64 x.b0, .int .i64 x.b1, .int .i64 x.b2, .int .i64 x.b3, .int .i64 x.b4, .int .i64 x.b5, .int .i64 x.b6, .int .i64 x.b7, .slice po pn pc, .slice lo ln lc]), .bool true]) ∧ Below w.heap.size w w' := by
  have HK := hide hk
  clear hk
  have H1s := hide (all_of_list (List.all_eq_true.2 (wd_one x po lo pn pc ln lc)))
  go_enter Try.func39, Try.ntmps39
  go_wp2_with (first
    | (refine wpList_load_row rfl 34 (.tmp 1) rfl w.heap.size rfl _ _ (0, 0) _ (heap_alloc_new w _) Try.underlying34 rfl infoWd ?_)
    | (refine wpList_store_row rfl 92 (.tmp 4) (.tmp 6) rfl (w.heap.size + 1) _ rfl rfl _ _ (al2_1 w _ _) infoWb rfl H1s.out ?_; rw [setRow_new1]))
  generalize hW : World.alloc _ _ = W
  have hal : Below w.heap.size w W := by rw [← hW]; exact bal (bal (Below.refl _ _) _) _
  have B1 : W.heap[w.heap.size + 1]? = some (.cells (#[.int .i64 x.a0, .int .i64 x.a1, .int .i64 x.a2, .int .i64 x.a3, .int .i64 x.a4, .int .i64 x.a5, .int .i64 x.c0, .int .i64 x.c1, .int .i64 x.c2, .int .i64 x.c3, .int .i64 x.c4, .int .i64 x.c5, .int .i64 x.c6, .int .i64 x.c7, .int .i64 x.c8, .int .i64 x.c9, .int .i64 x.b0, .int .i64 x.b1, .int .i64 x.b2, .int .i64 x.b3, .int .i64 x.b4, .int .i64 x.b5, .int .i64 x.b6, .int .i64 x.b7, .slice po pn pc, .slice lo ln lc] : Array Value) 92 (0, 0)) := by rw [← hW]; exact al2_1 w _ _
  clear hW
  refine (wordBlank_any x.a0 _).mono ?_
  rintro e w1 ⟨v, rfl, -, hj, b1⟩
  obtain ⟨Z, rfl⟩ := hj 14 (by omega) (by omega) HK.out
  have HB := hide (bKeeps b1 B1)
  have c1 := bAll hal b1
  clear B1 b1 hal hj
  generalize Value.agg _ = A0
  simp only [kindT]
  obtain ⟨z1, q1⟩ := as_no (P := Try.prog) (T := 108) (xt := 61) Try.underlying95 (by kernel_rfl) (by decide)
  obtain ⟨z2, q2⟩ := as_no (P := Try.prog) (T := 108) (xt := 61) Try.underlying96 (by kernel_rfl) (by decide)
  obtain ⟨z3, q3⟩ := as_no (P := Try.prog) (T := 108) (xt := 61) Try.underlying97 (by kernel_rfl) (by decide)
  obtain ⟨z4, q4⟩ := as_no (P := Try.prog) (T := 108) (xt := 61) Try.underlying98 (by kernel_rfl) (by decide)
  obtain ⟨z5, q5⟩ := as_no (P := Try.prog) (T := 108) (xt := 61) Try.underlying99 (by kernel_rfl) (by decide)
  obtain ⟨z6, q6⟩ := as_no (P := Try.prog) (T := 108) (xt := 61) Try.underlying100 (by kernel_rfl) (by decide)
  obtain ⟨z7, q7⟩ := as_no (P := Try.prog) (T := 108) (xt := 61) Try.underlying101 (by kernel_rfl) (by decide)
  obtain ⟨z8, q8⟩ := as_no (P := Try.prog) (T := 108) (xt := 61) Try.underlying102 (by kernel_rfl) (by decide)
  obtain ⟨z9, q9⟩ := as_no (P := Try.prog) (T := 108) (xt := 61) Try.underlying103 (by kernel_rfl) (by decide)
  obtain ⟨z10, q10⟩ := as_no (P := Try.prog) (T := 108) (xt := 61) Try.underlying104 (by kernel_rfl) (by decide)
  obtain ⟨z11, q11⟩ := as_no (P := Try.prog) (T := 108) (xt := 61) Try.underlying105 (by kernel_rfl) (by decide)
  obtain ⟨z12, q12⟩ := as_no (P := Try.prog) (T := 108) (xt := 61) Try.underlying106 (by kernel_rfl) (by decide)
  obtain ⟨z13, q13⟩ := as_no (P := Try.prog) (T := 108) (xt := 61) Try.underlying107 (by kernel_rfl) (by decide)
  have qy := as_yes (P := Try.prog) (xt := 61) Try.underlying108
  go_wp2_with (refine wpList_load_row rfl 92 (.tmp 4) rfl (w.heap.size + 1) rfl _ _ (0, 0) _ HB.out Try.underlying92 rfl infoWb ?_)
  exact bodyPost_ret (v := .tuple #[.iface 108 (.agg #[.int .i64 x.a0, .int .i64 x.a1, .int .i64 x.a2, .int .i64 x.a3, .int .i64 x.a4, .int .i64 x.a5, .int .i64 x.c0, .int .i64 x.c1, .int .i64 x.c2, .int .i64 x.c3, .int .i64 x.c4, .int .i64 x.c5, .int .i64 x.c6, .int .i64 x.c7, .int .i64 x.c8, .int .i64 x.c9, .int .i64 x.b0, .int .i64 x.b1, .int .i64 x.b2, .int .i64 x.b3, .int .i64 x.b4, .int .i64 x.b5, .int .i64 x.b6, .int .i64 x.b7, .slice po pn pc, .slice lo ln lc]), .bool true]) (by simp [results, Try.results39, go_sem]) rfl ⟨rfl, c1⟩

set_option maxRecDepth 100000 in
set_option maxHeartbeats 8000000 in
theorem wordOf_15 (x : Wd) (po lo : Option Addr) (pn pc ln lc : Nat) (w : World) (hk : x.a0 = 15) :
    Calls Try.prog 39 #[ .agg #[.int .i64 x.a0, .int .i64 x.a1, .int .i64 x.a2, .int .i64 x.a3, .int .i64 x.a4, .int .i64 x.a5, .int .i64 x.c0, .int .i64 x.c1, .int .i64 x.c2, .int .i64 x.c3, .int .i64 x.c4, .int .i64 x.c5, .int .i64 x.c6, .int .i64 x.c7, .int .i64 x.c8, .int .i64 x.c9, .int .i64 x.b0, .int .i64 x.b1, .int .i64 x.b2, .int .i64 x.b3, .int .i64 x.b4, .int .i64 x.b5, .int .i64 x.b6, .int .i64 x.b7, .slice po pn pc, .slice lo ln lc] ] w fun e w' => e = .returned (.tuple #[.iface 109 (.agg #[.int .i64 x.a0, .int .i64 x.a1, .int .i64 x.a2, .int .i64 x.a3, .int .i64 x.a4, .int .i64 x.a5, .int .i64 x.c0, .int .i64 x.c1, .int .i64 x.c2, .int .i64 x.c3, .int .i64 x.c4, .int .i64 x.c5, .int .i64 x.c6, .int .i64 x.c7, .int .i64 x.c8, .int .i64 x.c9, .int .i64 x.b0, .int .i64 x.b1, .int .i64 x.b2, .int .i64 x.b3, .int .i64 x.b4, .int .i64 x.b5, .int .i64 x.b6, .int .i64 x.b7, .slice po pn pc, .slice lo ln lc]), .bool true]) ∧ Below w.heap.size w w' := by
  have HK := hide hk
  clear hk
  have H1s := hide (all_of_list (List.all_eq_true.2 (wd_one x po lo pn pc ln lc)))
  go_enter Try.func39, Try.ntmps39
  go_wp2_with (first
    | (refine wpList_load_row rfl 34 (.tmp 1) rfl w.heap.size rfl _ _ (0, 0) _ (heap_alloc_new w _) Try.underlying34 rfl infoWd ?_)
    | (refine wpList_store_row rfl 92 (.tmp 4) (.tmp 6) rfl (w.heap.size + 1) _ rfl rfl _ _ (al2_1 w _ _) infoWb rfl H1s.out ?_; rw [setRow_new1]))
  generalize hW : World.alloc _ _ = W
  have hal : Below w.heap.size w W := by rw [← hW]; exact bal (bal (Below.refl _ _) _) _
  have B1 : W.heap[w.heap.size + 1]? = some (.cells (#[.int .i64 x.a0, .int .i64 x.a1, .int .i64 x.a2, .int .i64 x.a3, .int .i64 x.a4, .int .i64 x.a5, .int .i64 x.c0, .int .i64 x.c1, .int .i64 x.c2, .int .i64 x.c3, .int .i64 x.c4, .int .i64 x.c5, .int .i64 x.c6, .int .i64 x.c7, .int .i64 x.c8, .int .i64 x.c9, .int .i64 x.b0, .int .i64 x.b1, .int .i64 x.b2, .int .i64 x.b3, .int .i64 x.b4, .int .i64 x.b5, .int .i64 x.b6, .int .i64 x.b7, .slice po pn pc, .slice lo ln lc] : Array Value) 92 (0, 0)) := by rw [← hW]; exact al2_1 w _ _
  clear hW
  refine (wordBlank_any x.a0 _).mono ?_
  rintro e w1 ⟨v, rfl, -, hj, b1⟩
  obtain ⟨Z, rfl⟩ := hj 15 (by omega) (by omega) HK.out
  have HB := hide (bKeeps b1 B1)
  have c1 := bAll hal b1
  clear B1 b1 hal hj
  generalize Value.agg _ = A0
  simp only [kindT]
  obtain ⟨z1, q1⟩ := as_no (P := Try.prog) (T := 109) (xt := 61) Try.underlying95 (by kernel_rfl) (by decide)
  obtain ⟨z2, q2⟩ := as_no (P := Try.prog) (T := 109) (xt := 61) Try.underlying96 (by kernel_rfl) (by decide)
  obtain ⟨z3, q3⟩ := as_no (P := Try.prog) (T := 109) (xt := 61) Try.underlying97 (by kernel_rfl) (by decide)
  obtain ⟨z4, q4⟩ := as_no (P := Try.prog) (T := 109) (xt := 61) Try.underlying98 (by kernel_rfl) (by decide)
  obtain ⟨z5, q5⟩ := as_no (P := Try.prog) (T := 109) (xt := 61) Try.underlying99 (by kernel_rfl) (by decide)
  obtain ⟨z6, q6⟩ := as_no (P := Try.prog) (T := 109) (xt := 61) Try.underlying100 (by kernel_rfl) (by decide)
  obtain ⟨z7, q7⟩ := as_no (P := Try.prog) (T := 109) (xt := 61) Try.underlying101 (by kernel_rfl) (by decide)
  obtain ⟨z8, q8⟩ := as_no (P := Try.prog) (T := 109) (xt := 61) Try.underlying102 (by kernel_rfl) (by decide)
  obtain ⟨z9, q9⟩ := as_no (P := Try.prog) (T := 109) (xt := 61) Try.underlying103 (by kernel_rfl) (by decide)
  obtain ⟨z10, q10⟩ := as_no (P := Try.prog) (T := 109) (xt := 61) Try.underlying104 (by kernel_rfl) (by decide)
  obtain ⟨z11, q11⟩ := as_no (P := Try.prog) (T := 109) (xt := 61) Try.underlying105 (by kernel_rfl) (by decide)
  obtain ⟨z12, q12⟩ := as_no (P := Try.prog) (T := 109) (xt := 61) Try.underlying106 (by kernel_rfl) (by decide)
  obtain ⟨z13, q13⟩ := as_no (P := Try.prog) (T := 109) (xt := 61) Try.underlying107 (by kernel_rfl) (by decide)
  obtain ⟨z14, q14⟩ := as_no (P := Try.prog) (T := 109) (xt := 61) Try.underlying108 (by kernel_rfl) (by decide)
  have qy := as_yes (P := Try.prog) (xt := 61) Try.underlying109
  go_wp2_with (refine wpList_load_row rfl 92 (.tmp 4) rfl (w.heap.size + 1) rfl _ _ (0, 0) _ HB.out Try.underlying92 rfl infoWb ?_)
  exact bodyPost_ret (v := .tuple #[.iface 109 (.agg #[.int .i64 x.a0, .int .i64 x.a1, .int .i64 x.a2, .int .i64 x.a3, .int .i64 x.a4, .int .i64 x.a5, .int .i64 x.c0, .int .i64 x.c1, .int .i64 x.c2, .int .i64 x.c3, .int .i64 x.c4, .int .i64 x.c5, .int .i64 x.c6, .int .i64 x.c7, .int .i64 x.c8, .int .i64 x.c9, .int .i64 x.b0, .int .i64 x.b1, .int .i64 x.b2, .int .i64 x.b3, .int .i64 x.b4, .int .i64 x.b5, .int .i64 x.b6, .int .i64 x.b7, .slice po pn pc, .slice lo ln lc]), .bool true]) (by simp [results, Try.results39, go_sem]) rfl ⟨rfl, c1⟩

set_option maxRecDepth 100000 in
set_option maxHeartbeats 8000000 in
theorem wordOf_no (x : Wd) (po lo : Option Addr) (pn pc ln lc : Nat) (w : World) (hk : inI x.a0 1 15 = false) :
    Calls Try.prog 39 #[ .agg #[.int .i64 x.a0, .int .i64 x.a1, .int .i64 x.a2, .int .i64 x.a3, .int .i64 x.a4, .int .i64 x.a5, .int .i64 x.c0, .int .i64 x.c1, .int .i64 x.c2, .int .i64 x.c3, .int .i64 x.c4, .int .i64 x.c5, .int .i64 x.c6, .int .i64 x.c7, .int .i64 x.c8, .int .i64 x.c9, .int .i64 x.b0, .int .i64 x.b1, .int .i64 x.b2, .int .i64 x.b3, .int .i64 x.b4, .int .i64 x.b5, .int .i64 x.b6, .int .i64 x.b7, .slice po pn pc, .slice lo ln lc] ] w fun e w' => e = .returned (.tuple #[.nilIface, .bool false]) ∧ Below w.heap.size w w' := by
  have HK := hide hk
  clear hk
  have H1s := hide (all_of_list (List.all_eq_true.2 (wd_one x po lo pn pc ln lc)))
  go_enter Try.func39, Try.ntmps39
  go_wp2_with (first
    | (refine wpList_load_row rfl 34 (.tmp 1) rfl w.heap.size rfl _ _ (0, 0) _ (heap_alloc_new w _) Try.underlying34 rfl infoWd ?_)
    | (refine wpList_store_row rfl 92 (.tmp 4) (.tmp 6) rfl (w.heap.size + 1) _ rfl rfl _ _ (al2_1 w _ _) infoWb rfl H1s.out ?_; rw [setRow_new1]))
  generalize hW : World.alloc _ _ = W
  have hal : Below w.heap.size w W := by rw [← hW]; exact bal (bal (Below.refl _ _) _) _
  have B1 : W.heap[w.heap.size + 1]? = some (.cells (#[.int .i64 x.a0, .int .i64 x.a1, .int .i64 x.a2, .int .i64 x.a3, .int .i64 x.a4, .int .i64 x.a5, .int .i64 x.c0, .int .i64 x.c1, .int .i64 x.c2, .int .i64 x.c3, .int .i64 x.c4, .int .i64 x.c5, .int .i64 x.c6, .int .i64 x.c7, .int .i64 x.c8, .int .i64 x.c9, .int .i64 x.b0, .int .i64 x.b1, .int .i64 x.b2, .int .i64 x.b3, .int .i64 x.b4, .int .i64 x.b5, .int .i64 x.b6, .int .i64 x.b7, .slice po pn pc, .slice lo ln lc] : Array Value) 92 (0, 0)) := by rw [← hW]; exact al2_1 w _ _
  clear hW
  refine (wordBlank_any x.a0 _).mono ?_
  rintro e w1 ⟨v, rfl, hno, -, b1⟩
  obtain rfl := hno HK.out
  have c1 := bAll hal b1
  clear B1 b1 hal hno
  generalize Value.agg _ = A0
  obtain ⟨z1, q1⟩ := as_nilNo (P := Try.prog) (xt := 61) Try.underlying95 (by kernel_rfl)
  obtain ⟨z2, q2⟩ := as_nilNo (P := Try.prog) (xt := 61) Try.underlying96 (by kernel_rfl)
  obtain ⟨z3, q3⟩ := as_nilNo (P := Try.prog) (xt := 61) Try.underlying97 (by kernel_rfl)
  obtain ⟨z4, q4⟩ := as_nilNo (P := Try.prog) (xt := 61) Try.underlying98 (by kernel_rfl)
  obtain ⟨z5, q5⟩ := as_nilNo (P := Try.prog) (xt := 61) Try.underlying99 (by kernel_rfl)
  obtain ⟨z6, q6⟩ := as_nilNo (P := Try.prog) (xt := 61) Try.underlying100 (by kernel_rfl)
  obtain ⟨z7, q7⟩ := as_nilNo (P := Try.prog) (xt := 61) Try.underlying101 (by kernel_rfl)
  obtain ⟨z8, q8⟩ := as_nilNo (P := Try.prog) (xt := 61) Try.underlying102 (by kernel_rfl)
  obtain ⟨z9, q9⟩ := as_nilNo (P := Try.prog) (xt := 61) Try.underlying103 (by kernel_rfl)
  obtain ⟨z10, q10⟩ := as_nilNo (P := Try.prog) (xt := 61) Try.underlying104 (by kernel_rfl)
  obtain ⟨z11, q11⟩ := as_nilNo (P := Try.prog) (xt := 61) Try.underlying105 (by kernel_rfl)
  obtain ⟨z12, q12⟩ := as_nilNo (P := Try.prog) (xt := 61) Try.underlying106 (by kernel_rfl)
  obtain ⟨z13, q13⟩ := as_nilNo (P := Try.prog) (xt := 61) Try.underlying107 (by kernel_rfl)
  obtain ⟨z14, q14⟩ := as_nilNo (P := Try.prog) (xt := 61) Try.underlying108 (by kernel_rfl)
  obtain ⟨z15, q15⟩ := as_nilNo (P := Try.prog) (xt := 61) Try.underlying109 (by kernel_rfl)
  go_wp2
  exact bodyPost_ret (v := .tuple #[.nilIface, .bool false]) (by simp [results, Try.results39, go_sem]) rfl ⟨rfl, c1⟩

end Go.Proofs.Ytdnojnkcmncffaa
