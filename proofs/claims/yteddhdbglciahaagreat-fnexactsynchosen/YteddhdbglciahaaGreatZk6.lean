/- Contracts and plain facts that this claim leans on (texts XOd, XF, XW); no statement of the seat is proved here. -/
import Derived.Test.YteddhdbglciahaaGreatZk4
import Derived.Test.YteddhdbglciahaaGreatZk5

/- A plain word as a struct of its kind, in the program, kind by kind: contracts; no statement of the seat is proved here. -/
namespace Go.Proofs.YteddhdbglciahaaGreat
open Go.RowKit

set_option maxRecDepth 100000 in
set_option maxHeartbeats 8000000 in
theorem wordOf_14 (x : Wd) (po lo : Option Addr) (pn pc ln lc : Nat) (w : World) (hk : x.a0 = 14) :
    Calls Tryz.prog 117 #[ .agg #[.int .i64 x.a0, .int .i64 x.a1, .int .i64 x.a2, .int .i64 x.a3, .int .i64 x.a4, .int .i64 x.a5, .int .i64 x.c0, .int .i64 x.c1, .int .i64 x.c2, .int .i64 x.c3, .int .i64 x.c4, .int .i64 x.c5, .int .i64 x.c6, .int .i64 x.c7, .int .i64 x.c8, .int .i64 x.c9, .int .i64 x.b0, .int .i64 x.b1, .int .i64 x.b2, .int .i64 x.b3, .int .i64 x.b4, .int .i64 x.b5, .int .i64 x.b6, .int .i64 x.b7, .slice po pn pc, .slice lo ln lc] ] w fun e w' => e = .returned (.tuple #[.iface 206 (.agg #[.int .i64 x.a0, .int .i64 x.a1, .int .i64 x.a2, .int .i64 x.a3, .int .i64 x.a4, .int .i64 x.a5, .int .i64 x.c0, .int .i64 x.c1, .int .i64 x.c2, .int .i64 x.c3, .int .i64 x.c4, .int .i64 x.c5, .int .i64 x.c6, .int .i64 x.c7, .int .i64 x.c8, .int .i64 x.c9, .int .i64 x.b0, .int .i64 x.b1, .int .i64 x.b2, .int .i64 x.b3, .int .i64 x.b4, .int .i64 x.b5, .int .i64 x.b6, .int .i64 x.b7, .slice po pn pc, .slice lo ln lc]), .bool true]) ∧ Below w.heap.size w w' := by
  have HK := hide hk
  clear hk
  have H1s := hide (all_of_list (List.all_eq_true.2 (wd_one x po lo pn pc ln lc)))
  go_enter Tryz.func117, Tryz.ntmps117
  go_wp2_with (first
    | (refine wpList_load_row rfl 87 (.tmp 1) rfl w.heap.size rfl _ _ (0, 0) _ (heap_alloc_new w _) Tryz.underlying87 rfl infoWd ?_)
    | (refine wpList_store_row rfl 190 (.tmp 4) (.tmp 6) rfl (w.heap.size + 1) _ rfl rfl _ _ (al2_1 w _ _) infoWb rfl H1s.out ?_; rw [setRow_new1]))
  generalize hW : World.alloc _ _ = W
  have hal : Below w.heap.size w W := by rw [← hW]; exact bal (bal (Below.refl _ _) _) _
  have B1 : W.heap[w.heap.size + 1]? = some (.cells (#[.int .i64 x.a0, .int .i64 x.a1, .int .i64 x.a2, .int .i64 x.a3, .int .i64 x.a4, .int .i64 x.a5, .int .i64 x.c0, .int .i64 x.c1, .int .i64 x.c2, .int .i64 x.c3, .int .i64 x.c4, .int .i64 x.c5, .int .i64 x.c6, .int .i64 x.c7, .int .i64 x.c8, .int .i64 x.c9, .int .i64 x.b0, .int .i64 x.b1, .int .i64 x.b2, .int .i64 x.b3, .int .i64 x.b4, .int .i64 x.b5, .int .i64 x.b6, .int .i64 x.b7, .slice po pn pc, .slice lo ln lc] : Array Value) 190 (0, 0)) := by rw [← hW]; exact al2_1 w _ _
  clear hW
  refine (wordBlank_any x.a0 _).mono ?_
  rintro e w1 ⟨v, rfl, -, hj, b1⟩
  obtain ⟨Z, rfl⟩ := hj 14 (by omega) (by omega) HK.out
  have HB := hide (bKeeps b1 B1)
  have c1 := bAll hal b1
  clear B1 b1 hal hj
  generalize Value.agg _ = A0
  simp only [kindT]
  obtain ⟨z1, q1⟩ := as_no (P := Tryz.prog) (T := 206) (xt := 169) Tryz.underlying193 (by kernel_rfl) (by decide)
  obtain ⟨z2, q2⟩ := as_no (P := Tryz.prog) (T := 206) (xt := 169) Tryz.underlying194 (by kernel_rfl) (by decide)
  obtain ⟨z3, q3⟩ := as_no (P := Tryz.prog) (T := 206) (xt := 169) Tryz.underlying195 (by kernel_rfl) (by decide)
  obtain ⟨z4, q4⟩ := as_no (P := Tryz.prog) (T := 206) (xt := 169) Tryz.underlying196 (by kernel_rfl) (by decide)
  obtain ⟨z5, q5⟩ := as_no (P := Tryz.prog) (T := 206) (xt := 169) Tryz.underlying197 (by kernel_rfl) (by decide)
  obtain ⟨z6, q6⟩ := as_no (P := Tryz.prog) (T := 206) (xt := 169) Tryz.underlying198 (by kernel_rfl) (by decide)
  obtain ⟨z7, q7⟩ := as_no (P := Tryz.prog) (T := 206) (xt := 169) Tryz.underlying199 (by kernel_rfl) (by decide)
  obtain ⟨z8, q8⟩ := as_no (P := Tryz.prog) (T := 206) (xt := 169) Tryz.underlying200 (by kernel_rfl) (by decide)
  obtain ⟨z9, q9⟩ := as_no (P := Tryz.prog) (T := 206) (xt := 169) Tryz.underlying201 (by kernel_rfl) (by decide)
  obtain ⟨z10, q10⟩ := as_no (P := Tryz.prog) (T := 206) (xt := 169) Tryz.underlying202 (by kernel_rfl) (by decide)
  obtain ⟨z11, q11⟩ := as_no (P := Tryz.prog) (T := 206) (xt := 169) Tryz.underlying203 (by kernel_rfl) (by decide)
  obtain ⟨z12, q12⟩ := as_no (P := Tryz.prog) (T := 206) (xt := 169) Tryz.underlying204 (by kernel_rfl) (by decide)
  obtain ⟨z13, q13⟩ := as_no (P := Tryz.prog) (T := 206) (xt := 169) Tryz.underlying205 (by kernel_rfl) (by decide)
  have qy := as_yes (P := Tryz.prog) (xt := 169) Tryz.underlying206
  go_wp2_with (refine wpList_load_row rfl 190 (.tmp 4) rfl (w.heap.size + 1) rfl _ _ (0, 0) _ HB.out Tryz.underlying190 rfl infoWb ?_)
  exact bodyPost_ret (v := .tuple #[.iface 206 (.agg #[.int .i64 x.a0, .int .i64 x.a1, .int .i64 x.a2, .int .i64 x.a3, .int .i64 x.a4, .int .i64 x.a5, .int .i64 x.c0, .int .i64 x.c1, .int .i64 x.c2, .int .i64 x.c3, .int .i64 x.c4, .int .i64 x.c5, .int .i64 x.c6, .int .i64 x.c7, .int .i64 x.c8, .int .i64 x.c9, .int .i64 x.b0, .int .i64 x.b1, .int .i64 x.b2, .int .i64 x.b3, .int .i64 x.b4, .int .i64 x.b5, .int .i64 x.b6, .int .i64 x.b7, .slice po pn pc, .slice lo ln lc]), .bool true]) (by simp [results, Tryz.results117, go_sem]) rfl ⟨rfl, c1⟩

set_option maxRecDepth 100000 in
set_option maxHeartbeats 8000000 in
theorem wordOf_15 (x : Wd) (po lo : Option Addr) (pn pc ln lc : Nat) (w : World) (hk : x.a0 = 15) :
    Calls Tryz.prog 117 #[ .agg #[.int .i64 x.a0, .int .i64 x.a1, .int .i64 x.a2, .int .i64 x.a3, .int .i64 x.a4, .int .i64 x.a5, .int .i64 x.c0, .int .i64 x.c1, .int .i64 x.c2, .int .i64 x.c3, .int .i64 x.c4, .int .i64 x.c5, .int .i64 x.c6, .int .i64 x.c7, .int .i64 x.c8, .int .i64 x.c9, .int .i64 x.b0, .int .i64 x.b1, .int .i64 x.b2, .int .i64 x.b3, .int .i64 x.b4, .int .i64 x.b5, .int .i64 x.b6, .int .i64 x.b7, .slice po pn pc, .slice lo ln lc] ] w fun e w' => e = .returned (.tuple #[.iface 207 (.agg #[.int .i64 x.a0, .int .i64 x.a1, .int .i64 x.a2, .int .i64 x.a3, .int .i64 x.a4, .int .i64 x.a5, .int .i64 x.c0, .int .i64 x.c1, .int .i64 x.c2, .int .i64 x.c3, .int .i64 x.c4, .int .i64 x.c5, .int .i64 x.c6, .int .i64 x.c7, .int .i64 x.c8, .int .i64 x.c9, .int .i64 x.b0, .int .i64 x.b1, .int .i64 x.b2, .int .i64 x.b3, .int .i64 x.b4, .int .i64 x.b5, .int .i64 x.b6, .int .i64 x.b7, .slice po pn pc, .slice lo ln lc]), .bool true]) ∧ Below w.heap.size w w' := by
  have HK := hide hk
  clear hk
  have H1s := hide (all_of_list (List.all_eq_true.2 (wd_one x po lo pn pc ln lc)))
  go_enter Tryz.func117, Tryz.ntmps117
  go_wp2_with (first
    | (refine wpList_load_row rfl 87 (.tmp 1) rfl w.heap.size rfl _ _ (0, 0) _ (heap_alloc_new w _) Tryz.underlying87 rfl infoWd ?_)
    | (refine wpList_store_row rfl 190 (.tmp 4) (.tmp 6) rfl (w.heap.size + 1) _ rfl rfl _ _ (al2_1 w _ _) infoWb rfl H1s.out ?_; rw [setRow_new1]))
  generalize hW : World.alloc _ _ = W
  have hal : Below w.heap.size w W := by rw [← hW]; exact bal (bal (Below.refl _ _) _) _
  have B1 : W.heap[w.heap.size + 1]? = some (.cells (#[.int .i64 x.a0, .int .i64 x.a1, .int .i64 x.a2, .int .i64 x.a3, .int .i64 x.a4, .int .i64 x.a5, .int .i64 x.c0, .int .i64 x.c1, .int .i64 x.c2, .int .i64 x.c3, .int .i64 x.c4, .int .i64 x.c5, .int .i64 x.c6, .int .i64 x.c7, .int .i64 x.c8, .int .i64 x.c9, .int .i64 x.b0, .int .i64 x.b1, .int .i64 x.b2, .int .i64 x.b3, .int .i64 x.b4, .int .i64 x.b5, .int .i64 x.b6, .int .i64 x.b7, .slice po pn pc, .slice lo ln lc] : Array Value) 190 (0, 0)) := by rw [← hW]; exact al2_1 w _ _
  clear hW
  refine (wordBlank_any x.a0 _).mono ?_
  rintro e w1 ⟨v, rfl, -, hj, b1⟩
  obtain ⟨Z, rfl⟩ := hj 15 (by omega) (by omega) HK.out
  have HB := hide (bKeeps b1 B1)
  have c1 := bAll hal b1
  clear B1 b1 hal hj
  generalize Value.agg _ = A0
  simp only [kindT]
  obtain ⟨z1, q1⟩ := as_no (P := Tryz.prog) (T := 207) (xt := 169) Tryz.underlying193 (by kernel_rfl) (by decide)
  obtain ⟨z2, q2⟩ := as_no (P := Tryz.prog) (T := 207) (xt := 169) Tryz.underlying194 (by kernel_rfl) (by decide)
  obtain ⟨z3, q3⟩ := as_no (P := Tryz.prog) (T := 207) (xt := 169) Tryz.underlying195 (by kernel_rfl) (by decide)
  obtain ⟨z4, q4⟩ := as_no (P := Tryz.prog) (T := 207) (xt := 169) Tryz.underlying196 (by kernel_rfl) (by decide)
  obtain ⟨z5, q5⟩ := as_no (P := Tryz.prog) (T := 207) (xt := 169) Tryz.underlying197 (by kernel_rfl) (by decide)
  obtain ⟨z6, q6⟩ := as_no (P := Tryz.prog) (T := 207) (xt := 169) Tryz.underlying198 (by kernel_rfl) (by decide)
  obtain ⟨z7, q7⟩ := as_no (P := Tryz.prog) (T := 207) (xt := 169) Tryz.underlying199 (by kernel_rfl) (by decide)
  obtain ⟨z8, q8⟩ := as_no (P := Tryz.prog) (T := 207) (xt := 169) Tryz.underlying200 (by kernel_rfl) (by decide)
  obtain ⟨z9, q9⟩ := as_no (P := Tryz.prog) (T := 207) (xt := 169) Tryz.underlying201 (by kernel_rfl) (by decide)
  obtain ⟨z10, q10⟩ := as_no (P := Tryz.prog) (T := 207) (xt := 169) Tryz.underlying202 (by kernel_rfl) (by decide)
  obtain ⟨z11, q11⟩ := as_no (P := Tryz.prog) (T := 207) (xt := 169) Tryz.underlying203 (by kernel_rfl) (by decide)
  obtain ⟨z12, q12⟩ := as_no (P := Tryz.prog) (T := 207) (xt := 169) Tryz.underlying204 (by kernel_rfl) (by decide)
  obtain ⟨z13, q13⟩ := as_no (P := Tryz.prog) (T := 207) (xt := 169) Tryz.underlying205 (by kernel_rfl) (by decide)
  obtain ⟨z14, q14⟩ := as_no (P := Tryz.prog) (T := 207) (xt := 169) Tryz.underlying206 (by kernel_rfl) (by decide)
  have qy := as_yes (P := Tryz.prog) (xt := 169) Tryz.underlying207
  go_wp2_with (refine wpList_load_row rfl 190 (.tmp 4) rfl (w.heap.size + 1) rfl _ _ (0, 0) _ HB.out Tryz.underlying190 rfl infoWb ?_)
  exact bodyPost_ret (v := .tuple #[.iface 207 (.agg #[.int .i64 x.a0, .int .i64 x.a1, .int .i64 x.a2, .int .i64 x.a3, .int .i64 x.a4, .int .i64 x.a5, .int .i64 x.c0, .int .i64 x.c1, .int .i64 x.c2, .int .i64 x.c3, .int .i64 x.c4, .int .i64 x.c5, .int .i64 x.c6, .int .i64 x.c7, .int .i64 x.c8, .int .i64 x.c9, .int .i64 x.b0, .int .i64 x.b1, .int .i64 x.b2, .int .i64 x.b3, .int .i64 x.b4, .int .i64 x.b5, .int .i64 x.b6, .int .i64 x.b7, .slice po pn pc, .slice lo ln lc]), .bool true]) (by simp [results, Tryz.results117, go_sem]) rfl ⟨rfl, c1⟩

set_option maxRecDepth 100000 in
set_option maxHeartbeats 8000000 in
theorem wordOf_no (x : Wd) (po lo : Option Addr) (pn pc ln lc : Nat) (w : World) (hk : inI x.a0 1 15 = false) :
    Calls Tryz.prog 117 #[ .agg #[.int .i64 x.a0, .int .i64 x.a1, .int .i64 x.a2, .int .i64 x.a3, .int .i64 x.a4, .int .i64 x.a5, .int .i64 x.c0, .int .i64 x.c1, .int .i64 x.c2, .int .i64 x.c3, .int .i64 x.c4, .int .i64 x.c5, .int .i64 x.c6, .int .i64 x.c7, .int .i64 x.c8, .int .i64 x.c9, .int .i64 x.b0, .int .i64 x.b1, .int .i64 x.b2, .int .i64 x.b3, .int .i64 x.b4, .int .i64 x.b5, .int .i64 x.b6, .int .i64 x.b7, .slice po pn pc, .slice lo ln lc] ] w fun e w' => e = .returned (.tuple #[.nilIface, .bool false]) ∧ Below w.heap.size w w' := by
  have HK := hide hk
  clear hk
  have H1s := hide (all_of_list (List.all_eq_true.2 (wd_one x po lo pn pc ln lc)))
  go_enter Tryz.func117, Tryz.ntmps117
  go_wp2_with (first
    | (refine wpList_load_row rfl 87 (.tmp 1) rfl w.heap.size rfl _ _ (0, 0) _ (heap_alloc_new w _) Tryz.underlying87 rfl infoWd ?_)
    | (refine wpList_store_row rfl 190 (.tmp 4) (.tmp 6) rfl (w.heap.size + 1) _ rfl rfl _ _ (al2_1 w _ _) infoWb rfl H1s.out ?_; rw [setRow_new1]))
  generalize hW : World.alloc _ _ = W
  have hal : Below w.heap.size w W := by rw [← hW]; exact bal (bal (Below.refl _ _) _) _
  have B1 : W.heap[w.heap.size + 1]? = some (.cells (#[.int .i64 x.a0, .int .i64 x.a1, .int .i64 x.a2, .int .i64 x.a3, .int .i64 x.a4, .int .i64 x.a5, .int .i64 x.c0, .int .i64 x.c1, .int .i64 x.c2, .int .i64 x.c3, .int .i64 x.c4, .int .i64 x.c5, .int .i64 x.c6, .int .i64 x.c7, .int .i64 x.c8, .int .i64 x.c9, .int .i64 x.b0, .int .i64 x.b1, .int .i64 x.b2, .int .i64 x.b3, .int .i64 x.b4, .int .i64 x.b5, .int .i64 x.b6, .int .i64 x.b7, .slice po pn pc, .slice lo ln lc] : Array Value) 190 (0, 0)) := by rw [← hW]; exact al2_1 w _ _
  clear hW
  refine (wordBlank_any x.a0 _).mono ?_
  rintro e w1 ⟨v, rfl, hno, -, b1⟩
  obtain rfl := hno HK.out
  have c1 := bAll hal b1
  clear B1 b1 hal hno
  generalize Value.agg _ = A0
  obtain ⟨z1, q1⟩ := as_nilNo (P := Tryz.prog) (xt := 169) Tryz.underlying193 (by kernel_rfl)
  obtain ⟨z2, q2⟩ := as_nilNo (P := Tryz.prog) (xt := 169) Tryz.underlying194 (by kernel_rfl)
  obtain ⟨z3, q3⟩ := as_nilNo (P := Tryz.prog) (xt := 169) Tryz.underlying195 (by kernel_rfl)
  obtain ⟨z4, q4⟩ := as_nilNo (P := Tryz.prog) (xt := 169) Tryz.underlying196 (by kernel_rfl)
  obtain ⟨z5, q5⟩ := as_nilNo (P := Tryz.prog) (xt := 169) Tryz.underlying197 (by kernel_rfl)
  obtain ⟨z6, q6⟩ := as_nilNo (P := Tryz.prog) (xt := 169) Tryz.underlying198 (by kernel_rfl)
  obtain ⟨z7, q7⟩ := as_nilNo (P := Tryz.prog) (xt := 169) Tryz.underlying199 (by kernel_rfl)
  obtain ⟨z8, q8⟩ := as_nilNo (P := Tryz.prog) (xt := 169) Tryz.underlying200 (by kernel_rfl)
  obtain ⟨z9, q9⟩ := as_nilNo (P := Tryz.prog) (xt := 169) Tryz.underlying201 (by kernel_rfl)
  obtain ⟨z10, q10⟩ := as_nilNo (P := Tryz.prog) (xt := 169) Tryz.underlying202 (by kernel_rfl)
  obtain ⟨z11, q11⟩ := as_nilNo (P := Tryz.prog) (xt := 169) Tryz.underlying203 (by kernel_rfl)
  obtain ⟨z12, q12⟩ := as_nilNo (P := Tryz.prog) (xt := 169) Tryz.underlying204 (by kernel_rfl)
  obtain ⟨z13, q13⟩ := as_nilNo (P := Tryz.prog) (xt := 169) Tryz.underlying205 (by kernel_rfl)
  obtain ⟨z14, q14⟩ := as_nilNo (P := Tryz.prog) (xt := 169) Tryz.underlying206 (by kernel_rfl)
  obtain ⟨z15, q15⟩ := as_nilNo (P := Tryz.prog) (xt := 169) Tryz.underlying207 (by kernel_rfl)
  go_wp2
  exact bodyPost_ret (v := .tuple #[.nilIface, .bool false]) (by simp [results, Tryz.results117, go_sem]) rfl ⟨rfl, c1⟩

end Go.Proofs.YteddhdbglciahaaGreat

/- Whether a word fits, and WordOk, in the program: contracts; no statement of the seat is proved here. -/
namespace Go.Proofs.YteddhdbglciahaaGreat
open Go.RowKit

def fitsW (x : Wd) : Bool := x.nums.all numI && (placeI x.a1 && (placeI x.a2 && (cmdI x && (okP x.ps && okC x.ls))))
theorem okW_fits (x : Wd) : okW x = (inI x.a0 1 15 && fitsW x) := by
  unfold okW fitsW
  cases x.nums.all numI <;> cases inI x.a0 1 15 <;> simp

set_option maxRecDepth 100000 in
set_option maxHeartbeats 8000000 in
theorem fits_word (x : Wd) (po lo : Option Addr) (pc lc : Nat) (w : World) (a1 : RowR w 4 (.slice po x.ps.length pc) x.ps.length (pcells x.ps)) (a2 : RowR w 2 (.slice lo x.ls.length lc) x.ls.length (lcells x.ls)) :
    Calls Tryz.prog 177 #[ .agg #[.int .i64 x.a0, .int .i64 x.a1, .int .i64 x.a2, .int .i64 x.a3, .int .i64 x.a4, .int .i64 x.a5, .int .i64 x.c0, .int .i64 x.c1, .int .i64 x.c2, .int .i64 x.c3, .int .i64 x.c4, .int .i64 x.c5, .int .i64 x.c6, .int .i64 x.c7, .int .i64 x.c8, .int .i64 x.c9, .int .i64 x.b0, .int .i64 x.b1, .int .i64 x.b2, .int .i64 x.b3, .int .i64 x.b4, .int .i64 x.b5, .int .i64 x.b6, .int .i64 x.b7, .slice po x.ps.length pc, .slice lo x.ls.length lc] ] w fun e w' => e = .returned (.bool (fitsW x)) ∧ Below w.heap.size w w' := by
  obtain ⟨R, HR⟩ : ∃ R, Hid (fitsW x = R) := ⟨_, rfl⟩
  rw [HR.out]
  go_enter Tryz.func177, Tryz.ntmps177
  go_wp2_with fail
  generalize hW : World.alloc _ _ = W
  have hal : Below w.heap.size w W := by rw [← hW]; exact bal (Below.refl _ _) _
  have B0 : W.heap[w.heap.size]? = some (.cells (#[.int .i64 x.a0, .int .i64 x.a1, .int .i64 x.a2, .int .i64 x.a3, .int .i64 x.a4, .int .i64 x.a5, .int .i64 x.c0, .int .i64 x.c1, .int .i64 x.c2, .int .i64 x.c3, .int .i64 x.c4, .int .i64 x.c5, .int .i64 x.c6, .int .i64 x.c7, .int .i64 x.c8, .int .i64 x.c9, .int .i64 x.b0, .int .i64 x.b1, .int .i64 x.b2, .int .i64 x.b3, .int .i64 x.b4, .int .i64 x.b5, .int .i64 x.b6, .int .i64 x.b7, .slice po x.ps.length pc, .slice lo x.ls.length lc] : Array Value) 190 (0, 0)) := by rw [← hW]; exact heap_alloc_new w _
  clear hW
  generalize Value.agg _ = A0
  refine (wordNumbers_any w.heap.size _).mono ?_
  rintro e w1 ⟨ps, rfl, hps, b1⟩
  have C0 := bKeeps b1 B0
  have c1 := bAll hal b1
  have HP := hide hps
  have H24 := hide (show (Tryz.prog.info? 255).map (·.size) = some ps.size by rw [hps.1]; exact info24)
  have HS := hide (show 24 = ps.size from hps.1.symm)
  have H1 := hide hps.one
  clear hps B0 b1 hal
  have D0 := heap_up (.cells ps 255) C0
  have hN : ∀ k, k < 24 → (w1.alloc (.cells ps 255)).cell? ⟨w1.heap.size, k, none⟩ = some (.pointer (some ⟨w.heap.size, 0 + k, none⟩)) := fun k hk => (boxAt (heap_alloc_new w1 _) k).trans (HP.out.2 k hk)
  have hX : ∀ k a, x.nums[k]? = some a → (w1.alloc (.cells ps 255)).cell? ⟨w.heap.size, 0 + k, none⟩ = some (.int .i64 a) := by
    intro k a h
    rw [boxAt D0, Nat.zero_add]
    have hk : k < 24 := (List.getElem?_eq_some_iff.1 h).1
    rcases (by omega : k = 0 ∨ k = 1 ∨ k = 2 ∨ k = 3 ∨ k = 4 ∨ k = 5 ∨ k = 6 ∨ k = 7 ∨ k = 8 ∨ k = 9 ∨ k = 10 ∨ k = 11 ∨ k = 12 ∨ k = 13 ∨ k = 14 ∨ k = 15 ∨ k = 16 ∨ k = 17 ∨ k = 18 ∨ k = 19 ∨ k = 20 ∨ k = 21 ∨ k = 22 ∨ k = 23) with rfl | rfl | rfl | rfl | rfl | rfl | rfl | rfl | rfl | rfl | rfl | rfl | rfl | rfl | rfl | rfl | rfl | rfl | rfl | rfl | rfl | rfl | rfl | rfl <;> (obtain rfl := Option.some.inj h; rfl)
  have HB := hide (wordInBounds_any w1.heap.size w.heap.size 0 24 24 x.nums _ (by omega) rfl hN hX)
  have H0 := hide D0
  clear hN hX D0 C0
  have c2 := bal c1 (.cells ps 255)
  go_wp2_with (refine wpList_store_row rfl 255 (.tmp 4) (.tmp 7) rfl w1.heap.size ps rfl rfl _ _ (heap_alloc_new w1 _) H24.out HS.out H1.out ?_; rw [World.setRow_alloc_new])
  generalize hX : w1.alloc (.cells ps 255) = X at HB c2 H0 ⊢
  clear hX
  refine HB.out.mono ?_
  rintro e w' ⟨rfl, rfl⟩
  clear HB
  rcases hb0 : x.nums.all numI with _ | _
  · have hno : Hid (R = false) := by show _ = _; rw [← HR.out]; simp only [fitsW, hb0, Bool.false_and]
    go_wp2
    go_ret
    exact ⟨by rw [hno.out]; rfl, c2⟩
  have d1 : World.cell? _ ⟨w.heap.size, 1, none⟩ = some (Value.int .i64 x.a1) := boxAt (H0.out) 1
  have d2 : World.cell? _ ⟨w.heap.size, 2, none⟩ = some (Value.int .i64 x.a2) := boxAt (H0.out) 2
  have d6 : World.cell? _ ⟨w.heap.size, 6, none⟩ = some (Value.int .i64 x.c0) := boxAt (H0.out) 6
  have d7 : World.cell? _ ⟨w.heap.size, 7, none⟩ = some (Value.int .i64 x.c1) := boxAt (H0.out) 7
  have d8 : World.cell? _ ⟨w.heap.size, 8, none⟩ = some (Value.int .i64 x.c2) := boxAt (H0.out) 8
  have d9 : World.cell? _ ⟨w.heap.size, 9, none⟩ = some (Value.int .i64 x.c3) := boxAt (H0.out) 9
  have d10 : World.cell? _ ⟨w.heap.size, 10, none⟩ = some (Value.int .i64 x.c4) := boxAt (H0.out) 10
  have d11 : World.cell? _ ⟨w.heap.size, 11, none⟩ = some (Value.int .i64 x.c5) := boxAt (H0.out) 11
  have d12 : World.cell? _ ⟨w.heap.size, 12, none⟩ = some (Value.int .i64 x.c6) := boxAt (H0.out) 12
  have d13 : World.cell? _ ⟨w.heap.size, 13, none⟩ = some (Value.int .i64 x.c7) := boxAt (H0.out) 13
  have d14 : World.cell? _ ⟨w.heap.size, 14, none⟩ = some (Value.int .i64 x.c8) := boxAt (H0.out) 14
  have d15 : World.cell? _ ⟨w.heap.size, 15, none⟩ = some (Value.int .i64 x.c9) := boxAt (H0.out) 15
  go_wp2_with fail
  refine (wordIsPlace_any x.a1 _).mono ?_
  rintro e w' ⟨rfl, rfl⟩
  rcases hb1 : placeI x.a1 with _ | _
  · have hno : Hid (R = false) := by show _ = _; rw [← HR.out]; simp only [fitsW, hb0, hb1, Bool.true_and, Bool.false_and]
    go_wp2
    go_ret
    exact ⟨by rw [hno.out]; rfl, c2⟩
  go_wp2_with fail
  refine (wordIsPlace_any x.a2 _).mono ?_
  rintro e w' ⟨rfl, rfl⟩
  rcases hb2 : placeI x.a2 with _ | _
  · have hno : Hid (R = false) := by show _ = _; rw [← HR.out]; simp only [fitsW, hb0, hb1, hb2, Bool.true_and, Bool.false_and]
    go_wp2
    go_ret
    exact ⟨by rw [hno.out]; rfl, c2⟩
  go_wp2_with fail
  refine (cmdInForm_any x _).mono ?_
  rintro e w3 ⟨rfl, b3⟩
  have c3 := bAll c2 b3
  rcases hb3 : cmdI x with _ | _
  · have hno : Hid (R = false) := by show _ = _; rw [← HR.out]; simp only [fitsW, hb0, hb1, hb2, hb3, Bool.true_and, Bool.false_and]
    go_wp2
    go_ret
    exact ⟨by rw [hno.out]; rfl, c3⟩
  clear d1 d2 d6 d7 d8 d9 d10 d11 d12 d13 d14 d15
  have d24 : World.cell? w3 ⟨w.heap.size, 24, none⟩ = some (Value.slice po x.ps.length pc) := boxAt (bKeeps b3 H0.out) 24
  go_wp2_with fail
  refine (implBlkOk_any _ x.ps _ (a1.keep c3)).mono ?_
  rintro e w4 ⟨rfl, b4⟩
  have c4 := bAll c3 b4
  rcases hb4 : okP x.ps with _ | _
  · have hno : Hid (R = false) := by show _ = _; rw [← HR.out]; simp only [fitsW, hb0, hb1, hb2, hb3, hb4, Bool.true_and, Bool.false_and]
    go_wp2
    go_ret
    exact ⟨by rw [hno.out]; rfl, c4⟩
  clear d24
  have d25 : World.cell? w4 ⟨w.heap.size, 25, none⟩ = some (Value.slice lo x.ls.length lc) := boxAt (bKeeps (bAll b3 b4) H0.out) 25
  go_wp2_with fail
  refine (inForm_any _ x.ls _ (a2.keep c4)).mono ?_
  rintro e w5 ⟨rfl, b5⟩
  have hRR : Hid (R = okC x.ls) := by show _ = _; rw [← HR.out]; simp only [fitsW, hb0, hb1, hb2, hb3, hb4, Bool.true_and]
  go_wp2
  go_ret
  exact ⟨by rw [hRR.out]; rfl, bAll c4 b5⟩

end Go.Proofs.YteddhdbglciahaaGreat

/- WordOk of the program: contracts; no statement of the seat is proved here. -/
namespace Go.Proofs.YteddhdbglciahaaGreat
open Go.RowKit

theorem m_fits1 (u0 u1 u2 u3 u4 u5 u6 u7 u8 u9 u10 u11 u12 u13 u14 u15 u16 u17 u18 u19 u20 u21 u22 u23 u24 u25 : Value) (w : World) : (Go.method 367 193 (.agg #[u0, u1, u2, u3, u4, u5, u6, u7, u8, u9, u10, u11, u12, u13, u14, u15, u16, u17, u18, u19, u20, u21, u22, u23, u24, u25]) "loop.example/pannier/impl.fits").run Tryz.prog w = .ok (177, .agg #[u0, u1, u2, u3, u4, u5, u6, u7, u8, u9, u10, u11, u12, u13, u14, u15, u16, u17, u18, u19, u20, u21, u22, u23, u24, u25]) w := by kernel_rfl
theorem m_row1 (u0 u1 u2 u3 u4 u5 u6 u7 u8 u9 u10 u11 u12 u13 u14 u15 u16 u17 u18 u19 u20 u21 u22 u23 u24 u25 : Value) (w : World) : (Go.method 367 193 (.agg #[u0, u1, u2, u3, u4, u5, u6, u7, u8, u9, u10, u11, u12, u13, u14, u15, u16, u17, u18, u19, u20, u21, u22, u23, u24, u25]) "loop.example/pannier/impl.row").run Tryz.prog w = .ok (178, .agg #[u0, u1, u2, u3, u4, u5, u6, u7, u8, u9, u10, u11, u12, u13, u14, u15, u16, u17, u18, u19, u20, u21, u22, u23, u24, u25]) w := by kernel_rfl
theorem m_fits2 (u0 u1 u2 u3 u4 u5 u6 u7 u8 u9 u10 u11 u12 u13 u14 u15 u16 u17 u18 u19 u20 u21 u22 u23 u24 u25 : Value) (w : World) : (Go.method 367 194 (.agg #[u0, u1, u2, u3, u4, u5, u6, u7, u8, u9, u10, u11, u12, u13, u14, u15, u16, u17, u18, u19, u20, u21, u22, u23, u24, u25]) "loop.example/pannier/impl.fits").run Tryz.prog w = .ok (177, .agg #[u0, u1, u2, u3, u4, u5, u6, u7, u8, u9, u10, u11, u12, u13, u14, u15, u16, u17, u18, u19, u20, u21, u22, u23, u24, u25]) w := by kernel_rfl
theorem m_row2 (u0 u1 u2 u3 u4 u5 u6 u7 u8 u9 u10 u11 u12 u13 u14 u15 u16 u17 u18 u19 u20 u21 u22 u23 u24 u25 : Value) (w : World) : (Go.method 367 194 (.agg #[u0, u1, u2, u3, u4, u5, u6, u7, u8, u9, u10, u11, u12, u13, u14, u15, u16, u17, u18, u19, u20, u21, u22, u23, u24, u25]) "loop.example/pannier/impl.row").run Tryz.prog w = .ok (178, .agg #[u0, u1, u2, u3, u4, u5, u6, u7, u8, u9, u10, u11, u12, u13, u14, u15, u16, u17, u18, u19, u20, u21, u22, u23, u24, u25]) w := by kernel_rfl
theorem m_fits3 (u0 u1 u2 u3 u4 u5 u6 u7 u8 u9 u10 u11 u12 u13 u14 u15 u16 u17 u18 u19 u20 u21 u22 u23 u24 u25 : Value) (w : World) : (Go.method 367 195 (.agg #[u0, u1, u2, u3, u4, u5, u6, u7, u8, u9, u10, u11, u12, u13, u14, u15, u16, u17, u18, u19, u20, u21, u22, u23, u24, u25]) "loop.example/pannier/impl.fits").run Tryz.prog w = .ok (177, .agg #[u0, u1, u2, u3, u4, u5, u6, u7, u8, u9, u10, u11, u12, u13, u14, u15, u16, u17, u18, u19, u20, u21, u22, u23, u24, u25]) w := by kernel_rfl
theorem m_row3 (u0 u1 u2 u3 u4 u5 u6 u7 u8 u9 u10 u11 u12 u13 u14 u15 u16 u17 u18 u19 u20 u21 u22 u23 u24 u25 : Value) (w : World) : (Go.method 367 195 (.agg #[u0, u1, u2, u3, u4, u5, u6, u7, u8, u9, u10, u11, u12, u13, u14, u15, u16, u17, u18, u19, u20, u21, u22, u23, u24, u25]) "loop.example/pannier/impl.row").run Tryz.prog w = .ok (178, .agg #[u0, u1, u2, u3, u4, u5, u6, u7, u8, u9, u10, u11, u12, u13, u14, u15, u16, u17, u18, u19, u20, u21, u22, u23, u24, u25]) w := by kernel_rfl
theorem m_fits4 (u0 u1 u2 u3 u4 u5 u6 u7 u8 u9 u10 u11 u12 u13 u14 u15 u16 u17 u18 u19 u20 u21 u22 u23 u24 u25 : Value) (w : World) : (Go.method 367 196 (.agg #[u0, u1, u2, u3, u4, u5, u6, u7, u8, u9, u10, u11, u12, u13, u14, u15, u16, u17, u18, u19, u20, u21, u22, u23, u24, u25]) "loop.example/pannier/impl.fits").run Tryz.prog w = .ok (177, .agg #[u0, u1, u2, u3, u4, u5, u6, u7, u8, u9, u10, u11, u12, u13, u14, u15, u16, u17, u18, u19, u20, u21, u22, u23, u24, u25]) w := by kernel_rfl
theorem m_row4 (u0 u1 u2 u3 u4 u5 u6 u7 u8 u9 u10 u11 u12 u13 u14 u15 u16 u17 u18 u19 u20 u21 u22 u23 u24 u25 : Value) (w : World) : (Go.method 367 196 (.agg #[u0, u1, u2, u3, u4, u5, u6, u7, u8, u9, u10, u11, u12, u13, u14, u15, u16, u17, u18, u19, u20, u21, u22, u23, u24, u25]) "loop.example/pannier/impl.row").run Tryz.prog w = .ok (178, .agg #[u0, u1, u2, u3, u4, u5, u6, u7, u8, u9, u10, u11, u12, u13, u14, u15, u16, u17, u18, u19, u20, u21, u22, u23, u24, u25]) w := by kernel_rfl
theorem m_fits5 (u0 u1 u2 u3 u4 u5 u6 u7 u8 u9 u10 u11 u12 u13 u14 u15 u16 u17 u18 u19 u20 u21 u22 u23 u24 u25 : Value) (w : World) : (Go.method 367 197 (.agg #[u0, u1, u2, u3, u4, u5, u6, u7, u8, u9, u10, u11, u12, u13, u14, u15, u16, u17, u18, u19, u20, u21, u22, u23, u24, u25]) "loop.example/pannier/impl.fits").run Tryz.prog w = .ok (177, .agg #[u0, u1, u2, u3, u4, u5, u6, u7, u8, u9, u10, u11, u12, u13, u14, u15, u16, u17, u18, u19, u20, u21, u22, u23, u24, u25]) w := by kernel_rfl
theorem m_row5 (u0 u1 u2 u3 u4 u5 u6 u7 u8 u9 u10 u11 u12 u13 u14 u15 u16 u17 u18 u19 u20 u21 u22 u23 u24 u25 : Value) (w : World) : (Go.method 367 197 (.agg #[u0, u1, u2, u3, u4, u5, u6, u7, u8, u9, u10, u11, u12, u13, u14, u15, u16, u17, u18, u19, u20, u21, u22, u23, u24, u25]) "loop.example/pannier/impl.row").run Tryz.prog w = .ok (178, .agg #[u0, u1, u2, u3, u4, u5, u6, u7, u8, u9, u10, u11, u12, u13, u14, u15, u16, u17, u18, u19, u20, u21, u22, u23, u24, u25]) w := by kernel_rfl
theorem m_fits6 (u0 u1 u2 u3 u4 u5 u6 u7 u8 u9 u10 u11 u12 u13 u14 u15 u16 u17 u18 u19 u20 u21 u22 u23 u24 u25 : Value) (w : World) : (Go.method 367 198 (.agg #[u0, u1, u2, u3, u4, u5, u6, u7, u8, u9, u10, u11, u12, u13, u14, u15, u16, u17, u18, u19, u20, u21, u22, u23, u24, u25]) "loop.example/pannier/impl.fits").run Tryz.prog w = .ok (177, .agg #[u0, u1, u2, u3, u4, u5, u6, u7, u8, u9, u10, u11, u12, u13, u14, u15, u16, u17, u18, u19, u20, u21, u22, u23, u24, u25]) w := by kernel_rfl
theorem m_row6 (u0 u1 u2 u3 u4 u5 u6 u7 u8 u9 u10 u11 u12 u13 u14 u15 u16 u17 u18 u19 u20 u21 u22 u23 u24 u25 : Value) (w : World) : (Go.method 367 198 (.agg #[u0, u1, u2, u3, u4, u5, u6, u7, u8, u9, u10, u11, u12, u13, u14, u15, u16, u17, u18, u19, u20, u21, u22, u23, u24, u25]) "loop.example/pannier/impl.row").run Tryz.prog w = .ok (178, .agg #[u0, u1, u2, u3, u4, u5, u6, u7, u8, u9, u10, u11, u12, u13, u14, u15, u16, u17, u18, u19, u20, u21, u22, u23, u24, u25]) w := by kernel_rfl
theorem m_fits7 (u0 u1 u2 u3 u4 u5 u6 u7 u8 u9 u10 u11 u12 u13 u14 u15 u16 u17 u18 u19 u20 u21 u22 u23 u24 u25 : Value) (w : World) : (Go.method 367 199 (.agg #[u0, u1, u2, u3, u4, u5, u6, u7, u8, u9, u10, u11, u12, u13, u14, u15, u16, u17, u18, u19, u20, u21, u22, u23, u24, u25]) "loop.example/pannier/impl.fits").run Tryz.prog w = .ok (177, .agg #[u0, u1, u2, u3, u4, u5, u6, u7, u8, u9, u10, u11, u12, u13, u14, u15, u16, u17, u18, u19, u20, u21, u22, u23, u24, u25]) w := by kernel_rfl
theorem m_row7 (u0 u1 u2 u3 u4 u5 u6 u7 u8 u9 u10 u11 u12 u13 u14 u15 u16 u17 u18 u19 u20 u21 u22 u23 u24 u25 : Value) (w : World) : (Go.method 367 199 (.agg #[u0, u1, u2, u3, u4, u5, u6, u7, u8, u9, u10, u11, u12, u13, u14, u15, u16, u17, u18, u19, u20, u21, u22, u23, u24, u25]) "loop.example/pannier/impl.row").run Tryz.prog w = .ok (178, .agg #[u0, u1, u2, u3, u4, u5, u6, u7, u8, u9, u10, u11, u12, u13, u14, u15, u16, u17, u18, u19, u20, u21, u22, u23, u24, u25]) w := by kernel_rfl
theorem m_fits8 (u0 u1 u2 u3 u4 u5 u6 u7 u8 u9 u10 u11 u12 u13 u14 u15 u16 u17 u18 u19 u20 u21 u22 u23 u24 u25 : Value) (w : World) : (Go.method 367 200 (.agg #[u0, u1, u2, u3, u4, u5, u6, u7, u8, u9, u10, u11, u12, u13, u14, u15, u16, u17, u18, u19, u20, u21, u22, u23, u24, u25]) "loop.example/pannier/impl.fits").run Tryz.prog w = .ok (177, .agg #[u0, u1, u2, u3, u4, u5, u6, u7, u8, u9, u10, u11, u12, u13, u14, u15, u16, u17, u18, u19, u20, u21, u22, u23, u24, u25]) w := by kernel_rfl
theorem m_row8 (u0 u1 u2 u3 u4 u5 u6 u7 u8 u9 u10 u11 u12 u13 u14 u15 u16 u17 u18 u19 u20 u21 u22 u23 u24 u25 : Value) (w : World) : (Go.method 367 200 (.agg #[u0, u1, u2, u3, u4, u5, u6, u7, u8, u9, u10, u11, u12, u13, u14, u15, u16, u17, u18, u19, u20, u21, u22, u23, u24, u25]) "loop.example/pannier/impl.row").run Tryz.prog w = .ok (178, .agg #[u0, u1, u2, u3, u4, u5, u6, u7, u8, u9, u10, u11, u12, u13, u14, u15, u16, u17, u18, u19, u20, u21, u22, u23, u24, u25]) w := by kernel_rfl
theorem m_fits9 (u0 u1 u2 u3 u4 u5 u6 u7 u8 u9 u10 u11 u12 u13 u14 u15 u16 u17 u18 u19 u20 u21 u22 u23 u24 u25 : Value) (w : World) : (Go.method 367 201 (.agg #[u0, u1, u2, u3, u4, u5, u6, u7, u8, u9, u10, u11, u12, u13, u14, u15, u16, u17, u18, u19, u20, u21, u22, u23, u24, u25]) "loop.example/pannier/impl.fits").run Tryz.prog w = .ok (177, .agg #[u0, u1, u2, u3, u4, u5, u6, u7, u8, u9, u10, u11, u12, u13, u14, u15, u16, u17, u18, u19, u20, u21, u22, u23, u24, u25]) w := by kernel_rfl
theorem m_row9 (u0 u1 u2 u3 u4 u5 u6 u7 u8 u9 u10 u11 u12 u13 u14 u15 u16 u17 u18 u19 u20 u21 u22 u23 u24 u25 : Value) (w : World) : (Go.method 367 201 (.agg #[u0, u1, u2, u3, u4, u5, u6, u7, u8, u9, u10, u11, u12, u13, u14, u15, u16, u17, u18, u19, u20, u21, u22, u23, u24, u25]) "loop.example/pannier/impl.row").run Tryz.prog w = .ok (178, .agg #[u0, u1, u2, u3, u4, u5, u6, u7, u8, u9, u10, u11, u12, u13, u14, u15, u16, u17, u18, u19, u20, u21, u22, u23, u24, u25]) w := by kernel_rfl
theorem m_fits10 (u0 u1 u2 u3 u4 u5 u6 u7 u8 u9 u10 u11 u12 u13 u14 u15 u16 u17 u18 u19 u20 u21 u22 u23 u24 u25 : Value) (w : World) : (Go.method 367 202 (.agg #[u0, u1, u2, u3, u4, u5, u6, u7, u8, u9, u10, u11, u12, u13, u14, u15, u16, u17, u18, u19, u20, u21, u22, u23, u24, u25]) "loop.example/pannier/impl.fits").run Tryz.prog w = .ok (177, .agg #[u0, u1, u2, u3, u4, u5, u6, u7, u8, u9, u10, u11, u12, u13, u14, u15, u16, u17, u18, u19, u20, u21, u22, u23, u24, u25]) w := by kernel_rfl
theorem m_row10 (u0 u1 u2 u3 u4 u5 u6 u7 u8 u9 u10 u11 u12 u13 u14 u15 u16 u17 u18 u19 u20 u21 u22 u23 u24 u25 : Value) (w : World) : (Go.method 367 202 (.agg #[u0, u1, u2, u3, u4, u5, u6, u7, u8, u9, u10, u11, u12, u13, u14, u15, u16, u17, u18, u19, u20, u21, u22, u23, u24, u25]) "loop.example/pannier/impl.row").run Tryz.prog w = .ok (178, .agg #[u0, u1, u2, u3, u4, u5, u6, u7, u8, u9, u10, u11, u12, u13, u14, u15, u16, u17, u18, u19, u20, u21, u22, u23, u24, u25]) w := by kernel_rfl
theorem m_fits11 (u0 u1 u2 u3 u4 u5 u6 u7 u8 u9 u10 u11 u12 u13 u14 u15 u16 u17 u18 u19 u20 u21 u22 u23 u24 u25 : Value) (w : World) : (Go.method 367 203 (.agg #[u0, u1, u2, u3, u4, u5, u6, u7, u8, u9, u10, u11, u12, u13, u14, u15, u16, u17, u18, u19, u20, u21, u22, u23, u24, u25]) "loop.example/pannier/impl.fits").run Tryz.prog w = .ok (177, .agg #[u0, u1, u2, u3, u4, u5, u6, u7, u8, u9, u10, u11, u12, u13, u14, u15, u16, u17, u18, u19, u20, u21, u22, u23, u24, u25]) w := by kernel_rfl
theorem m_row11 (u0 u1 u2 u3 u4 u5 u6 u7 u8 u9 u10 u11 u12 u13 u14 u15 u16 u17 u18 u19 u20 u21 u22 u23 u24 u25 : Value) (w : World) : (Go.method 367 203 (.agg #[u0, u1, u2, u3, u4, u5, u6, u7, u8, u9, u10, u11, u12, u13, u14, u15, u16, u17, u18, u19, u20, u21, u22, u23, u24, u25]) "loop.example/pannier/impl.row").run Tryz.prog w = .ok (178, .agg #[u0, u1, u2, u3, u4, u5, u6, u7, u8, u9, u10, u11, u12, u13, u14, u15, u16, u17, u18, u19, u20, u21, u22, u23, u24, u25]) w := by kernel_rfl
theorem m_fits12 (u0 u1 u2 u3 u4 u5 u6 u7 u8 u9 u10 u11 u12 u13 u14 u15 u16 u17 u18 u19 u20 u21 u22 u23 u24 u25 : Value) (w : World) : (Go.method 367 204 (.agg #[u0, u1, u2, u3, u4, u5, u6, u7, u8, u9, u10, u11, u12, u13, u14, u15, u16, u17, u18, u19, u20, u21, u22, u23, u24, u25]) "loop.example/pannier/impl.fits").run Tryz.prog w = .ok (177, .agg #[u0, u1, u2, u3, u4, u5, u6, u7, u8, u9, u10, u11, u12, u13, u14, u15, u16, u17, u18, u19, u20, u21, u22, u23, u24, u25]) w := by kernel_rfl
theorem m_row12 (u0 u1 u2 u3 u4 u5 u6 u7 u8 u9 u10 u11 u12 u13 u14 u15 u16 u17 u18 u19 u20 u21 u22 u23 u24 u25 : Value) (w : World) : (Go.method 367 204 (.agg #[u0, u1, u2, u3, u4, u5, u6, u7, u8, u9, u10, u11, u12, u13, u14, u15, u16, u17, u18, u19, u20, u21, u22, u23, u24, u25]) "loop.example/pannier/impl.row").run Tryz.prog w = .ok (178, .agg #[u0, u1, u2, u3, u4, u5, u6, u7, u8, u9, u10, u11, u12, u13, u14, u15, u16, u17, u18, u19, u20, u21, u22, u23, u24, u25]) w := by kernel_rfl
theorem m_fits13 (u0 u1 u2 u3 u4 u5 u6 u7 u8 u9 u10 u11 u12 u13 u14 u15 u16 u17 u18 u19 u20 u21 u22 u23 u24 u25 : Value) (w : World) : (Go.method 367 205 (.agg #[u0, u1, u2, u3, u4, u5, u6, u7, u8, u9, u10, u11, u12, u13, u14, u15, u16, u17, u18, u19, u20, u21, u22, u23, u24, u25]) "loop.example/pannier/impl.fits").run Tryz.prog w = .ok (177, .agg #[u0, u1, u2, u3, u4, u5, u6, u7, u8, u9, u10, u11, u12, u13, u14, u15, u16, u17, u18, u19, u20, u21, u22, u23, u24, u25]) w := by kernel_rfl
theorem m_row13 (u0 u1 u2 u3 u4 u5 u6 u7 u8 u9 u10 u11 u12 u13 u14 u15 u16 u17 u18 u19 u20 u21 u22 u23 u24 u25 : Value) (w : World) : (Go.method 367 205 (.agg #[u0, u1, u2, u3, u4, u5, u6, u7, u8, u9, u10, u11, u12, u13, u14, u15, u16, u17, u18, u19, u20, u21, u22, u23, u24, u25]) "loop.example/pannier/impl.row").run Tryz.prog w = .ok (178, .agg #[u0, u1, u2, u3, u4, u5, u6, u7, u8, u9, u10, u11, u12, u13, u14, u15, u16, u17, u18, u19, u20, u21, u22, u23, u24, u25]) w := by kernel_rfl
theorem m_fits14 (u0 u1 u2 u3 u4 u5 u6 u7 u8 u9 u10 u11 u12 u13 u14 u15 u16 u17 u18 u19 u20 u21 u22 u23 u24 u25 : Value) (w : World) : (Go.method 367 206 (.agg #[u0, u1, u2, u3, u4, u5, u6, u7, u8, u9, u10, u11, u12, u13, u14, u15, u16, u17, u18, u19, u20, u21, u22, u23, u24, u25]) "loop.example/pannier/impl.fits").run Tryz.prog w = .ok (177, .agg #[u0, u1, u2, u3, u4, u5, u6, u7, u8, u9, u10, u11, u12, u13, u14, u15, u16, u17, u18, u19, u20, u21, u22, u23, u24, u25]) w := by kernel_rfl
theorem m_row14 (u0 u1 u2 u3 u4 u5 u6 u7 u8 u9 u10 u11 u12 u13 u14 u15 u16 u17 u18 u19 u20 u21 u22 u23 u24 u25 : Value) (w : World) : (Go.method 367 206 (.agg #[u0, u1, u2, u3, u4, u5, u6, u7, u8, u9, u10, u11, u12, u13, u14, u15, u16, u17, u18, u19, u20, u21, u22, u23, u24, u25]) "loop.example/pannier/impl.row").run Tryz.prog w = .ok (178, .agg #[u0, u1, u2, u3, u4, u5, u6, u7, u8, u9, u10, u11, u12, u13, u14, u15, u16, u17, u18, u19, u20, u21, u22, u23, u24, u25]) w := by kernel_rfl
theorem m_fits15 (u0 u1 u2 u3 u4 u5 u6 u7 u8 u9 u10 u11 u12 u13 u14 u15 u16 u17 u18 u19 u20 u21 u22 u23 u24 u25 : Value) (w : World) : (Go.method 367 207 (.agg #[u0, u1, u2, u3, u4, u5, u6, u7, u8, u9, u10, u11, u12, u13, u14, u15, u16, u17, u18, u19, u20, u21, u22, u23, u24, u25]) "loop.example/pannier/impl.fits").run Tryz.prog w = .ok (177, .agg #[u0, u1, u2, u3, u4, u5, u6, u7, u8, u9, u10, u11, u12, u13, u14, u15, u16, u17, u18, u19, u20, u21, u22, u23, u24, u25]) w := by kernel_rfl
theorem m_row15 (u0 u1 u2 u3 u4 u5 u6 u7 u8 u9 u10 u11 u12 u13 u14 u15 u16 u17 u18 u19 u20 u21 u22 u23 u24 u25 : Value) (w : World) : (Go.method 367 207 (.agg #[u0, u1, u2, u3, u4, u5, u6, u7, u8, u9, u10, u11, u12, u13, u14, u15, u16, u17, u18, u19, u20, u21, u22, u23, u24, u25]) "loop.example/pannier/impl.row").run Tryz.prog w = .ok (178, .agg #[u0, u1, u2, u3, u4, u5, u6, u7, u8, u9, u10, u11, u12, u13, u14, u15, u16, u17, u18, u19, u20, u21, u22, u23, u24, u25]) w := by kernel_rfl

theorem wordOf_any (x : Wd) (po lo : Option Addr) (pn pc ln lc : Nat) (w : World) (hk : inI x.a0 1 15 = true) :
    Calls Tryz.prog 117 #[ .agg #[.int .i64 x.a0, .int .i64 x.a1, .int .i64 x.a2, .int .i64 x.a3, .int .i64 x.a4, .int .i64 x.a5, .int .i64 x.c0, .int .i64 x.c1, .int .i64 x.c2, .int .i64 x.c3, .int .i64 x.c4, .int .i64 x.c5, .int .i64 x.c6, .int .i64 x.c7, .int .i64 x.c8, .int .i64 x.c9, .int .i64 x.b0, .int .i64 x.b1, .int .i64 x.b2, .int .i64 x.b3, .int .i64 x.b4, .int .i64 x.b5, .int .i64 x.b6, .int .i64 x.b7, .slice po pn pc, .slice lo ln lc] ] w fun e w' => ∃ T, e = .returned (.tuple #[.iface T (.agg #[.int .i64 x.a0, .int .i64 x.a1, .int .i64 x.a2, .int .i64 x.a3, .int .i64 x.a4, .int .i64 x.a5, .int .i64 x.c0, .int .i64 x.c1, .int .i64 x.c2, .int .i64 x.c3, .int .i64 x.c4, .int .i64 x.c5, .int .i64 x.c6, .int .i64 x.c7, .int .i64 x.c8, .int .i64 x.c9, .int .i64 x.b0, .int .i64 x.b1, .int .i64 x.b2, .int .i64 x.b3, .int .i64 x.b4, .int .i64 x.b5, .int .i64 x.b6, .int .i64 x.b7, .slice po pn pc, .slice lo ln lc]), .bool true]) ∧ Below w.heap.size w w' ∧
      (∀ w, (Go.method 367 T (.agg #[.int .i64 x.a0, .int .i64 x.a1, .int .i64 x.a2, .int .i64 x.a3, .int .i64 x.a4, .int .i64 x.a5, .int .i64 x.c0, .int .i64 x.c1, .int .i64 x.c2, .int .i64 x.c3, .int .i64 x.c4, .int .i64 x.c5, .int .i64 x.c6, .int .i64 x.c7, .int .i64 x.c8, .int .i64 x.c9, .int .i64 x.b0, .int .i64 x.b1, .int .i64 x.b2, .int .i64 x.b3, .int .i64 x.b4, .int .i64 x.b5, .int .i64 x.b6, .int .i64 x.b7, .slice po pn pc, .slice lo ln lc]) "loop.example/pannier/impl.fits").run Tryz.prog w = .ok (177, .agg #[.int .i64 x.a0, .int .i64 x.a1, .int .i64 x.a2, .int .i64 x.a3, .int .i64 x.a4, .int .i64 x.a5, .int .i64 x.c0, .int .i64 x.c1, .int .i64 x.c2, .int .i64 x.c3, .int .i64 x.c4, .int .i64 x.c5, .int .i64 x.c6, .int .i64 x.c7, .int .i64 x.c8, .int .i64 x.c9, .int .i64 x.b0, .int .i64 x.b1, .int .i64 x.b2, .int .i64 x.b3, .int .i64 x.b4, .int .i64 x.b5, .int .i64 x.b6, .int .i64 x.b7, .slice po pn pc, .slice lo ln lc]) w) ∧
      (∀ w, (Go.method 367 T (.agg #[.int .i64 x.a0, .int .i64 x.a1, .int .i64 x.a2, .int .i64 x.a3, .int .i64 x.a4, .int .i64 x.a5, .int .i64 x.c0, .int .i64 x.c1, .int .i64 x.c2, .int .i64 x.c3, .int .i64 x.c4, .int .i64 x.c5, .int .i64 x.c6, .int .i64 x.c7, .int .i64 x.c8, .int .i64 x.c9, .int .i64 x.b0, .int .i64 x.b1, .int .i64 x.b2, .int .i64 x.b3, .int .i64 x.b4, .int .i64 x.b5, .int .i64 x.b6, .int .i64 x.b7, .slice po pn pc, .slice lo ln lc]) "loop.example/pannier/impl.row").run Tryz.prog w = .ok (178, .agg #[.int .i64 x.a0, .int .i64 x.a1, .int .i64 x.a2, .int .i64 x.a3, .int .i64 x.a4, .int .i64 x.a5, .int .i64 x.c0, .int .i64 x.c1, .int .i64 x.c2, .int .i64 x.c3, .int .i64 x.c4, .int .i64 x.c5, .int .i64 x.c6, .int .i64 x.c7, .int .i64 x.c8, .int .i64 x.c9, .int .i64 x.b0, .int .i64 x.b1, .int .i64 x.b2, .int .i64 x.b3, .int .i64 x.b4, .int .i64 x.b5, .int .i64 x.b6, .int .i64 x.b7, .slice po pn pc, .slice lo ln lc]) w) := by
  simp only [inI, Bool.and_eq_true, decide_eq_true_eq] at hk
  rcases (by omega : x.a0 = 1 ∨ x.a0 = 2 ∨ x.a0 = 3 ∨ x.a0 = 4 ∨ x.a0 = 5 ∨ x.a0 = 6 ∨ x.a0 = 7 ∨ x.a0 = 8 ∨ x.a0 = 9 ∨ x.a0 = 10 ∨ x.a0 = 11 ∨ x.a0 = 12 ∨ x.a0 = 13 ∨ x.a0 = 14 ∨ x.a0 = 15) with h | h | h | h | h | h | h | h | h | h | h | h | h | h | h
  · exact (wordOf_1 x po lo pn pc ln lc w h).mono (fun e w' ⟨he, hb⟩ => ⟨_, he, hb, fun w => m_fits1 (.int .i64 x.a0) (.int .i64 x.a1) (.int .i64 x.a2) (.int .i64 x.a3) (.int .i64 x.a4) (.int .i64 x.a5) (.int .i64 x.c0) (.int .i64 x.c1) (.int .i64 x.c2) (.int .i64 x.c3) (.int .i64 x.c4) (.int .i64 x.c5) (.int .i64 x.c6) (.int .i64 x.c7) (.int .i64 x.c8) (.int .i64 x.c9) (.int .i64 x.b0) (.int .i64 x.b1) (.int .i64 x.b2) (.int .i64 x.b3) (.int .i64 x.b4) (.int .i64 x.b5) (.int .i64 x.b6) (.int .i64 x.b7) (.slice po pn pc) (.slice lo ln lc) w, fun w => m_row1 (.int .i64 x.a0) (.int .i64 x.a1) (.int .i64 x.a2) (.int .i64 x.a3) (.int .i64 x.a4) (.int .i64 x.a5) (.int .i64 x.c0) (.int .i64 x.c1) (.int .i64 x.c2) (.int .i64 x.c3) (.int .i64 x.c4) (.int .i64 x.c5) (.int .i64 x.c6) (.int .i64 x.c7) (.int .i64 x.c8) (.int .i64 x.c9) (.int .i64 x.b0) (.int .i64 x.b1) (.int .i64 x.b2) (.int .i64 x.b3) (.int .i64 x.b4) (.int .i64 x.b5) (.int .i64 x.b6) (.int .i64 x.b7) (.slice po pn pc) (.slice lo ln lc) w⟩)
  · exact (wordOf_2 x po lo pn pc ln lc w h).mono (fun e w' ⟨he, hb⟩ => ⟨_, he, hb, fun w => m_fits2 (.int .i64 x.a0) (.int .i64 x.a1) (.int .i64 x.a2) (.int .i64 x.a3) (.int .i64 x.a4) (.int .i64 x.a5) (.int .i64 x.c0) (.int .i64 x.c1) (.int .i64 x.c2) (.int .i64 x.c3) (.int .i64 x.c4) (.int .i64 x.c5) (.int .i64 x.c6) (.int .i64 x.c7) (.int .i64 x.c8) (.int .i64 x.c9) (.int .i64 x.b0) (.int .i64 x.b1) (.int .i64 x.b2) (.int .i64 x.b3) (.int .i64 x.b4) (.int .i64 x.b5) (.int .i64 x.b6) (.int .i64 x.b7) (.slice po pn pc) (.slice lo ln lc) w, fun w => m_row2 (.int .i64 x.a0) (.int .i64 x.a1) (.int .i64 x.a2) (.int .i64 x.a3) (.int .i64 x.a4) (.int .i64 x.a5) (.int .i64 x.c0) (.int .i64 x.c1) (.int .i64 x.c2) (.int .i64 x.c3) (.int .i64 x.c4) (.int .i64 x.c5) (.int .i64 x.c6) (.int .i64 x.c7) (.int .i64 x.c8) (.int .i64 x.c9) (.int .i64 x.b0) (.int .i64 x.b1) (.int .i64 x.b2) (.int .i64 x.b3) (.int .i64 x.b4) (.int .i64 x.b5) (.int .i64 x.b6) (.int .i64 x.b7) (.slice po pn pc) (.slice lo ln lc) w⟩)
  · exact (wordOf_3 x po lo pn pc ln lc w h).mono (fun e w' ⟨he, hb⟩ => ⟨_, he, hb, fun w => m_fits3 (.int .i64 x.a0) (.int .i64 x.a1) (.int .i64 x.a2) (.int .i64 x.a3) (.int .i64 x.a4) (.int .i64 x.a5) (.int .i64 x.c0) (.int .i64 x.c1) (.int .i64 x.c2) (.int .i64 x.c3) (.int .i64 x.c4) (.int .i64 x.c5) (.int .i64 x.c6) (.int .i64 x.c7) (.int .i64 x.c8) (.int .i64 x.c9) (.int .i64 x.b0) (.int .i64 x.b1) (.int .i64 x.b2) (.int .i64 x.b3) (.int .i64 x.b4) (.int .i64 x.b5) (.int .i64 x.b6) (.int .i64 x.b7) (.slice po pn pc) (.slice lo ln lc) w, fun w => m_row3 (.int .i64 x.a0) (.int .i64 x.a1) (.int .i64 x.a2) (.int .i64 x.a3) (.int .i64 x.a4) (.int .i64 x.a5) (.int .i64 x.c0) (.int .i64 x.c1) (.int .i64 x.c2) (.int .i64 x.c3) (.int .i64 x.c4) (.int .i64 x.c5) (.int .i64 x.c6) (.int .i64 x.c7) (.int .i64 x.c8) (.int .i64 x.c9) (.int .i64 x.b0) (.int .i64 x.b1) (.int .i64 x.b2) (.int .i64 x.b3) (.int .i64 x.b4) (.int .i64 x.b5) (.int .i64 x.b6) (.int .i64 x.b7) (.slice po pn pc) (.slice lo ln lc) w⟩)
  · exact (wordOf_4 x po lo pn pc ln lc w h).mono (fun e w' ⟨he, hb⟩ => ⟨_, he, hb, fun w => m_fits4 (.int .i64 x.a0) (.int .i64 x.a1) (.int .i64 x.a2) (.int .i64 x.a3) (.int .i64 x.a4) (.int .i64 x.a5) (.int .i64 x.c0) (.int .i64 x.c1) (.int .i64 x.c2) (.int .i64 x.c3) (.int .i64 x.c4) (.int .i64 x.c5) (.int .i64 x.c6) (.int .i64 x.c7) (.int .i64 x.c8) (.int .i64 x.c9) (.int .i64 x.b0) (.int .i64 x.b1) (.int .i64 x.b2) (.int .i64 x.b3) (.int .i64 x.b4) (.int .i64 x.b5) (.int .i64 x.b6) (.int .i64 x.b7) (.slice po pn pc) (.slice lo ln lc) w, fun w => m_row4 (.int .i64 x.a0) (.int .i64 x.a1) (.int .i64 x.a2) (.int .i64 x.a3) (.int .i64 x.a4) (.int .i64 x.a5) (.int .i64 x.c0) (.int .i64 x.c1) (.int .i64 x.c2) (.int .i64 x.c3) (.int .i64 x.c4) (.int .i64 x.c5) (.int .i64 x.c6) (.int .i64 x.c7) (.int .i64 x.c8) (.int .i64 x.c9) (.int .i64 x.b0) (.int .i64 x.b1) (.int .i64 x.b2) (.int .i64 x.b3) (.int .i64 x.b4) (.int .i64 x.b5) (.int .i64 x.b6) (.int .i64 x.b7) (.slice po pn pc) (.slice lo ln lc) w⟩)
  · exact (wordOf_5 x po lo pn pc ln lc w h).mono (fun e w' ⟨he, hb⟩ => ⟨_, he, hb, fun w => m_fits5 (.int .i64 x.a0) (.int .i64 x.a1) (.int .i64 x.a2) (.int .i64 x.a3) (.int .i64 x.a4) (.int .i64 x.a5) (.int .i64 x.c0) (.int .i64 x.c1) (.int .i64 x.c2) (.int .i64 x.c3) (.int .i64 x.c4) (.int .i64 x.c5) (.int .i64 x.c6) (.int .i64 x.c7) (.int .i64 x.c8) (.int .i64 x.c9) (.int .i64 x.b0) (.int .i64 x.b1) (.int .i64 x.b2) (.int .i64 x.b3) (.int .i64 x.b4) (.int .i64 x.b5) (.int .i64 x.b6) (.int .i64 x.b7) (.slice po pn pc) (.slice lo ln lc) w, fun w => m_row5 (.int .i64 x.a0) (.int .i64 x.a1) (.int .i64 x.a2) (.int .i64 x.a3) (.int .i64 x.a4) (.int .i64 x.a5) (.int .i64 x.c0) (.int .i64 x.c1) (.int .i64 x.c2) (.int .i64 x.c3) (.int .i64 x.c4) (.int .i64 x.c5) (.int .i64 x.c6) (.int .i64 x.c7) (.int .i64 x.c8) (.int .i64 x.c9) (.int .i64 x.b0) (.int .i64 x.b1) (.int .i64 x.b2) (.int .i64 x.b3) (.int .i64 x.b4) (.int .i64 x.b5) (.int .i64 x.b6) (.int .i64 x.b7) (.slice po pn pc) (.slice lo ln lc) w⟩)
  · exact (wordOf_6 x po lo pn pc ln lc w h).mono (fun e w' ⟨he, hb⟩ => ⟨_, he, hb, fun w => m_fits6 (.int .i64 x.a0) (.int .i64 x.a1) (.int .i64 x.a2) (.int .i64 x.a3) (.int .i64 x.a4) (.int .i64 x.a5) (.int .i64 x.c0) (.int .i64 x.c1) (.int .i64 x.c2) (.int .i64 x.c3) (.int .i64 x.c4) (.int .i64 x.c5) (.int .i64 x.c6) (.int .i64 x.c7) (.int .i64 x.c8) (.int .i64 x.c9) (.int .i64 x.b0) (.int .i64 x.b1) (.int .i64 x.b2) (.int .i64 x.b3) (.int .i64 x.b4) (.int .i64 x.b5) (.int .i64 x.b6) (.int .i64 x.b7) (.slice po pn pc) (.slice lo ln lc) w, fun w => m_row6 (.int .i64 x.a0) (.int .i64 x.a1) (.int .i64 x.a2) (.int .i64 x.a3) (.int .i64 x.a4) (.int .i64 x.a5) (.int .i64 x.c0) (.int .i64 x.c1) (.int .i64 x.c2) (.int .i64 x.c3) (.int .i64 x.c4) (.int .i64 x.c5) (.int .i64 x.c6) (.int .i64 x.c7) (.int .i64 x.c8) (.int .i64 x.c9) (.int .i64 x.b0) (.int .i64 x.b1) (.int .i64 x.b2) (.int .i64 x.b3) (.int .i64 x.b4) (.int .i64 x.b5) (.int .i64 x.b6) (.int .i64 x.b7) (.slice po pn pc) (.slice lo ln lc) w⟩)
  · exact (wordOf_7 x po lo pn pc ln lc w h).mono (fun e w' ⟨he, hb⟩ => ⟨_, he, hb, fun w => m_fits7 (.int .i64 x.a0) (.int .i64 x.a1) (.int .i64 x.a2) (.int .i64 x.a3) (.int .i64 x.a4) (.int .i64 x.a5) (.int .i64 x.c0) (.int .i64 x.c1) (.int .i64 x.c2) (.int .i64 x.c3) (.int .i64 x.c4) (.int .i64 x.c5) (.int .i64 x.c6) (.int .i64 x.c7) (.int .i64 x.c8) (.int .i64 x.c9) (.int .i64 x.b0) (.int .i64 x.b1) (.int .i64 x.b2) (.int .i64 x.b3) (.int .i64 x.b4) (.int .i64 x.b5) (.int .i64 x.b6) (.int .i64 x.b7) (.slice po pn pc) (.slice lo ln lc) w, fun w => m_row7 (.int .i64 x.a0) (.int .i64 x.a1) (.int .i64 x.a2) (.int .i64 x.a3) (.int .i64 x.a4) (.int .i64 x.a5) (.int .i64 x.c0) (.int .i64 x.c1) (.int .i64 x.c2) (.int .i64 x.c3) (.int .i64 x.c4) (.int .i64 x.c5) (.int .i64 x.c6) (.int .i64 x.c7) (.int .i64 x.c8) (.int .i64 x.c9) (.int .i64 x.b0) (.int .i64 x.b1) (.int .i64 x.b2) (.int .i64 x.b3) (.int .i64 x.b4) (.int .i64 x.b5) (.int .i64 x.b6) (.int .i64 x.b7) (.slice po pn pc) (.slice lo ln lc) w⟩)
  · exact (wordOf_8 x po lo pn pc ln lc w h).mono (fun e w' ⟨he, hb⟩ => ⟨_, he, hb, fun w => m_fits8 (.int .i64 x.a0) (.int .i64 x.a1) (.int .i64 x.a2) (.int .i64 x.a3) (.int .i64 x.a4) (.int .i64 x.a5) (.int .i64 x.c0) (.int .i64 x.c1) (.int .i64 x.c2) (.int .i64 x.c3) (.int .i64 x.c4) (.int .i64 x.c5) (.int .i64 x.c6) (.int .i64 x.c7) (.int .i64 x.c8) (.int .i64 x.c9) (.int .i64 x.b0) (.int .i64 x.b1) (.int .i64 x.b2) (.int .i64 x.b3) (.int .i64 x.b4) (.int .i64 x.b5) (.int .i64 x.b6) (.int .i64 x.b7) (.slice po pn pc) (.slice lo ln lc) w, fun w => m_row8 (.int .i64 x.a0) (.int .i64 x.a1) (.int .i64 x.a2) (.int .i64 x.a3) (.int .i64 x.a4) (.int .i64 x.a5) (.int .i64 x.c0) (.int .i64 x.c1) (.int .i64 x.c2) (.int .i64 x.c3) (.int .i64 x.c4) (.int .i64 x.c5) (.int .i64 x.c6) (.int .i64 x.c7) (.int .i64 x.c8) (.int .i64 x.c9) (.int .i64 x.b0) (.int .i64 x.b1) (.int .i64 x.b2) (.int .i64 x.b3) (.int .i64 x.b4) (.int .i64 x.b5) (.int .i64 x.b6) (.int .i64 x.b7) (.slice po pn pc) (.slice lo ln lc) w⟩)
  · exact (wordOf_9 x po lo pn pc ln lc w h).mono (fun e w' ⟨he, hb⟩ => ⟨_, he, hb, fun w => m_fits9 (.int .i64 x.a0) (.int .i64 x.a1) (.int .i64 x.a2) (.int .i64 x.a3) (.int .i64 x.a4) (.int .i64 x.a5) (.int .i64 x.c0) (.int .i64 x.c1) (.int .i64 x.c2) (.int .i64 x.c3) (.int .i64 x.c4) (.int .i64 x.c5) (.int .i64 x.c6) (.int .i64 x.c7) (.int .i64 x.c8) (.int .i64 x.c9) (.int .i64 x.b0) (.int .i64 x.b1) (.int .i64 x.b2) (.int .i64 x.b3) (.int .i64 x.b4) (.int .i64 x.b5) (.int .i64 x.b6) (.int .i64 x.b7) (.slice po pn pc) (.slice lo ln lc) w, fun w => m_row9 (.int .i64 x.a0) (.int .i64 x.a1) (.int .i64 x.a2) (.int .i64 x.a3) (.int .i64 x.a4) (.int .i64 x.a5) (.int .i64 x.c0) (.int .i64 x.c1) (.int .i64 x.c2) (.int .i64 x.c3) (.int .i64 x.c4) (.int .i64 x.c5) (.int .i64 x.c6) (.int .i64 x.c7) (.int .i64 x.c8) (.int .i64 x.c9) (.int .i64 x.b0) (.int .i64 x.b1) (.int .i64 x.b2) (.int .i64 x.b3) (.int .i64 x.b4) (.int .i64 x.b5) (.int .i64 x.b6) (.int .i64 x.b7) (.slice po pn pc) (.slice lo ln lc) w⟩)
  · exact (wordOf_10 x po lo pn pc ln lc w h).mono (fun e w' ⟨he, hb⟩ => ⟨_, he, hb, fun w => m_fits10 (.int .i64 x.a0) (.int .i64 x.a1) (.int .i64 x.a2) (.int .i64 x.a3) (.int .i64 x.a4) (.int .i64 x.a5) (.int .i64 x.c0) (.int .i64 x.c1) (.int .i64 x.c2) (.int .i64 x.c3) (.int .i64 x.c4) (.int .i64 x.c5) (.int .i64 x.c6) (.int .i64 x.c7) (.int .i64 x.c8) (.int .i64 x.c9) (.int .i64 x.b0) (.int .i64 x.b1) (.int .i64 x.b2) (.int .i64 x.b3) (.int .i64 x.b4) (.int .i64 x.b5) (.int .i64 x.b6) (.int .i64 x.b7) (.slice po pn pc) (.slice lo ln lc) w, fun w => m_row10 (.int .i64 x.a0) (.int .i64 x.a1) (.int .i64 x.a2) (.int .i64 x.a3) (.int .i64 x.a4) (.int .i64 x.a5) (.int .i64 x.c0) (.int .i64 x.c1) (.int .i64 x.c2) (.int .i64 x.c3) (.int .i64 x.c4) (.int .i64 x.c5) (.int .i64 x.c6) (.int .i64 x.c7) (.int .i64 x.c8) (.int .i64 x.c9) (.int .i64 x.b0) (.int .i64 x.b1) (.int .i64 x.b2) (.int .i64 x.b3) (.int .i64 x.b4) (.int .i64 x.b5) (.int .i64 x.b6) (.int .i64 x.b7) (.slice po pn pc) (.slice lo ln lc) w⟩)
  · exact (wordOf_11 x po lo pn pc ln lc w h).mono (fun e w' ⟨he, hb⟩ => ⟨_, he, hb, fun w => m_fits11 (.int .i64 x.a0) (.int .i64 x.a1) (.int .i64 x.a2) (.int .i64 x.a3) (.int .i64 x.a4) (.int .i64 x.a5) (.int .i64 x.c0) (.int .i64 x.c1) (.int .i64 x.c2) (.int .i64 x.c3) (.int .i64 x.c4) (.int .i64 x.c5) (.int .i64 x.c6) (.int .i64 x.c7) (.int .i64 x.c8) (.int .i64 x.c9) (.int .i64 x.b0) (.int .i64 x.b1) (.int .i64 x.b2) (.int .i64 x.b3) (.int .i64 x.b4) (.int .i64 x.b5) (.int .i64 x.b6) (.int .i64 x.b7) (.slice po pn pc) (.slice lo ln lc) w, fun w => m_row11 (.int .i64 x.a0) (.int .i64 x.a1) (.int .i64 x.a2) (.int .i64 x.a3) (.int .i64 x.a4) (.int .i64 x.a5) (.int .i64 x.c0) (.int .i64 x.c1) (.int .i64 x.c2) (.int .i64 x.c3) (.int .i64 x.c4) (.int .i64 x.c5) (.int .i64 x.c6) (.int .i64 x.c7) (.int .i64 x.c8) (.int .i64 x.c9) (.int .i64 x.b0) (.int .i64 x.b1) (.int .i64 x.b2) (.int .i64 x.b3) (.int .i64 x.b4) (.int .i64 x.b5) (.int .i64 x.b6) (.int .i64 x.b7) (.slice po pn pc) (.slice lo ln lc) w⟩)
  · exact (wordOf_12 x po lo pn pc ln lc w h).mono (fun e w' ⟨he, hb⟩ => ⟨_, he, hb, fun w => m_fits12 (.int .i64 x.a0) (.int .i64 x.a1) (.int .i64 x.a2) (.int .i64 x.a3) (.int .i64 x.a4) (.int .i64 x.a5) (.int .i64 x.c0) (.int .i64 x.c1) (.int .i64 x.c2) (.int .i64 x.c3) (.int .i64 x.c4) (.int .i64 x.c5) (.int .i64 x.c6) (.int .i64 x.c7) (.int .i64 x.c8) (.int .i64 x.c9) (.int .i64 x.b0) (.int .i64 x.b1) (.int .i64 x.b2) (.int .i64 x.b3) (.int .i64 x.b4) (.int .i64 x.b5) (.int .i64 x.b6) (.int .i64 x.b7) (.slice po pn pc) (.slice lo ln lc) w, fun w => m_row12 (.int .i64 x.a0) (.int .i64 x.a1) (.int .i64 x.a2) (.int .i64 x.a3) (.int .i64 x.a4) (.int .i64 x.a5) (.int .i64 x.c0) (.int .i64 x.c1) (.int .i64 x.c2) (.int .i64 x.c3) (.int .i64 x.c4) (.int .i64 x.c5) (.int .i64 x.c6) (.int .i64 x.c7) (.int .i64 x.c8) (.int .i64 x.c9) (.int .i64 x.b0) (.int .i64 x.b1) (.int .i64 x.b2) (.int .i64 x.b3) (.int .i64 x.b4) (.int .i64 x.b5) (.int .i64 x.b6) (.int .i64 x.b7) (.slice po pn pc) (.slice lo ln lc) w⟩)
  · exact (wordOf_13 x po lo pn pc ln lc w h).mono (fun e w' ⟨he, hb⟩ => ⟨_, he, hb, fun w => m_fits13 (.int .i64 x.a0) (.int .i64 x.a1) (.int .i64 x.a2) (.int .i64 x.a3) (.int .i64 x.a4) (.int .i64 x.a5) (.int .i64 x.c0) (.int .i64 x.c1) (.int .i64 x.c2) (.int .i64 x.c3) (.int .i64 x.c4) (.int .i64 x.c5) (.int .i64 x.c6) (.int .i64 x.c7) (.int .i64 x.c8) (.int .i64 x.c9) (.int .i64 x.b0) (.int .i64 x.b1) (.int .i64 x.b2) (.int .i64 x.b3) (.int .i64 x.b4) (.int .i64 x.b5) (.int .i64 x.b6) (.int .i64 x.b7) (.slice po pn pc) (.slice lo ln lc) w, fun w => m_row13 (.int .i64 x.a0) (.int .i64 x.a1) (.int .i64 x.a2) (.int .i64 x.a3) (.int .i64 x.a4) (.int .i64 x.a5) (.int .i64 x.c0) (.int .i64 x.c1) (.int .i64 x.c2) (.int .i64 x.c3) (.int .i64 x.c4) (.int .i64 x.c5) (.int .i64 x.c6) (.int .i64 x.c7) (.int .i64 x.c8) (.int .i64 x.c9) (.int .i64 x.b0) (.int .i64 x.b1) (.int .i64 x.b2) (.int .i64 x.b3) (.int .i64 x.b4) (.int .i64 x.b5) (.int .i64 x.b6) (.int .i64 x.b7) (.slice po pn pc) (.slice lo ln lc) w⟩)
  · exact (wordOf_14 x po lo pn pc ln lc w h).mono (fun e w' ⟨he, hb⟩ => ⟨_, he, hb, fun w => m_fits14 (.int .i64 x.a0) (.int .i64 x.a1) (.int .i64 x.a2) (.int .i64 x.a3) (.int .i64 x.a4) (.int .i64 x.a5) (.int .i64 x.c0) (.int .i64 x.c1) (.int .i64 x.c2) (.int .i64 x.c3) (.int .i64 x.c4) (.int .i64 x.c5) (.int .i64 x.c6) (.int .i64 x.c7) (.int .i64 x.c8) (.int .i64 x.c9) (.int .i64 x.b0) (.int .i64 x.b1) (.int .i64 x.b2) (.int .i64 x.b3) (.int .i64 x.b4) (.int .i64 x.b5) (.int .i64 x.b6) (.int .i64 x.b7) (.slice po pn pc) (.slice lo ln lc) w, fun w => m_row14 (.int .i64 x.a0) (.int .i64 x.a1) (.int .i64 x.a2) (.int .i64 x.a3) (.int .i64 x.a4) (.int .i64 x.a5) (.int .i64 x.c0) (.int .i64 x.c1) (.int .i64 x.c2) (.int .i64 x.c3) (.int .i64 x.c4) (.int .i64 x.c5) (.int .i64 x.c6) (.int .i64 x.c7) (.int .i64 x.c8) (.int .i64 x.c9) (.int .i64 x.b0) (.int .i64 x.b1) (.int .i64 x.b2) (.int .i64 x.b3) (.int .i64 x.b4) (.int .i64 x.b5) (.int .i64 x.b6) (.int .i64 x.b7) (.slice po pn pc) (.slice lo ln lc) w⟩)
  · exact (wordOf_15 x po lo pn pc ln lc w h).mono (fun e w' ⟨he, hb⟩ => ⟨_, he, hb, fun w => m_fits15 (.int .i64 x.a0) (.int .i64 x.a1) (.int .i64 x.a2) (.int .i64 x.a3) (.int .i64 x.a4) (.int .i64 x.a5) (.int .i64 x.c0) (.int .i64 x.c1) (.int .i64 x.c2) (.int .i64 x.c3) (.int .i64 x.c4) (.int .i64 x.c5) (.int .i64 x.c6) (.int .i64 x.c7) (.int .i64 x.c8) (.int .i64 x.c9) (.int .i64 x.b0) (.int .i64 x.b1) (.int .i64 x.b2) (.int .i64 x.b3) (.int .i64 x.b4) (.int .i64 x.b5) (.int .i64 x.b6) (.int .i64 x.b7) (.slice po pn pc) (.slice lo ln lc) w, fun w => m_row15 (.int .i64 x.a0) (.int .i64 x.a1) (.int .i64 x.a2) (.int .i64 x.a3) (.int .i64 x.a4) (.int .i64 x.a5) (.int .i64 x.c0) (.int .i64 x.c1) (.int .i64 x.c2) (.int .i64 x.c3) (.int .i64 x.c4) (.int .i64 x.c5) (.int .i64 x.c6) (.int .i64 x.c7) (.int .i64 x.c8) (.int .i64 x.c9) (.int .i64 x.b0) (.int .i64 x.b1) (.int .i64 x.b2) (.int .i64 x.b3) (.int .i64 x.b4) (.int .i64 x.b5) (.int .i64 x.b6) (.int .i64 x.b7) (.slice po pn pc) (.slice lo ln lc) w⟩)

set_option maxRecDepth 100000 in
set_option maxHeartbeats 8000000 in
theorem implWordOk_any (v : Value) (x : Wd) (w : World) (h : WdR w v x) :
    Calls Tryz.prog 73 #[v] w fun e w' => e = .returned (.bool (okW x)) ∧ Below w.heap.size w w' := by
  obtain ⟨po, pc, lo, lc, rfl, a1, a2⟩ := h
  rcases hk : inI x.a0 1 15 with _ | _
  · have HK := hide hk
    have hno : Hid (okW x = false) := by show _ = _; rw [okW_fits, hk, Bool.false_and]
    clear hk
    go_enter Tryz.func73, Tryz.ntmps73
    go_wp2_with (refine wpList_load_row rfl 87 (.tmp 1) rfl w.heap.size rfl _ _ (0, 0) _ (heap_alloc_new w _) Tryz.underlying87 rfl infoWd ?_)
    refine (wordOf_no x _ _ _ _ _ _ _ HK.out).mono ?_
    rintro e w1 ⟨rfl, b1⟩
    have c1 := bAll (bal (Below.refl w.heap.size w) _) b1
    go_wp2
    go_ret
    exact ⟨by rw [hno.out]; rfl, c1⟩
  · have HK := hide hk
    have hR : Hid (okW x = fitsW x) := by show _ = _; rw [okW_fits, hk, Bool.true_and]
    clear hk
    go_enter Tryz.func73, Tryz.ntmps73
    go_wp2_with (refine wpList_load_row rfl 87 (.tmp 1) rfl w.heap.size rfl _ _ (0, 0) _ (heap_alloc_new w _) Tryz.underlying87 rfl infoWd ?_)
    refine (wordOf_any x _ _ _ _ _ _ _ HK.out).mono ?_
    rintro e w1 ⟨T, rfl, b1, hm, -⟩
    have c1 := bAll (bal (Below.refl w.heap.size w) _) b1
    go_wp2_with fail
    refine (fits_word x _ _ _ _ _ (a1.keep c1) (a2.keep c1)).mono ?_
    rintro e w2 ⟨rfl, b2⟩
    go_wp2
    go_ret
    exact ⟨by rw [hR.out]; rfl, bAll c1 b2⟩

end Go.Proofs.YteddhdbglciahaaGreat
