/- Contracts and plain facts that this claim leans on (texts XO2, XOa, XOb); no statement of the seat is proved here. -/
import Derived.Test.YtiigcokbmggdkaaVk5

/- A plain word as a struct of its kind, in the program: contracts; no statement of the seat is proved here. -/
namespace Go.Proofs.Ytiigcokbmggdkaa
open Go.RowKit

theorem infoWb : (Try.prog.info? 171).map (·.size) = some 26 := by kernel_rfl

theorem setRow_new1 (w : World) (o : Obj) (c c' : Array Value) (t : TypeId) : ((w.alloc o).alloc (.cells c t)).setRow (w.heap.size + 1) c' = (w.alloc o).alloc (.cells c' t) := by
  have := World.setRow_alloc_new (w.alloc o) c c' t
  rwa [World.size_alloc] at this

theorem as_no {P : Program} {t T xt : TypeId} {d : Array Field} (hu : P.underlying t = some (.struct d)) (hz : (P.info? t).map (fun i => i.zero.isSome) = some true) (h : T ≠ t) :
    ∃ z, ∀ (Z : Value) (w : World), (Instr.typeAssert (.iface T Z) xt t true).run P w = .ok (.tuple #[z, .bool false]) w := by
  cases hq : P.info? t with
  | none => simp [hq] at hz
  | some i =>
    cases hzz : i.zero with
    | none => simp [hq, hzz] at hz
    | some z =>
      refine ⟨z, fun Z w => ?_⟩
      simp [Instr.typeAssert, run_underlying hu, h, zeroValue, typeInfo, hq, hzz]
theorem as_nilNo {P : Program} {t xt : TypeId} {d : Array Field} (hu : P.underlying t = some (.struct d)) (hz : (P.info? t).map (fun i => i.zero.isSome) = some true) :
    ∃ z, ∀ (w : World), (Instr.typeAssert .nilIface xt t true).run P w = .ok (.tuple #[z, .bool false]) w := by
  cases hq : P.info? t with
  | none => simp [hq] at hz
  | some i =>
    cases hzz : i.zero with
    | none => simp [hq, hzz] at hz
    | some z =>
      refine ⟨z, fun w => ?_⟩
      simp [Instr.typeAssert, run_underlying hu, zeroValue, typeInfo, hq, hzz]
theorem as_yes {P : Program} {t xt : TypeId} {d : Array Field} (hu : P.underlying t = some (.struct d)) :
    ∀ (Z : Value) (w : World), (Instr.typeAssert (.iface t Z) xt t true).run P w = .ok (.tuple #[Z, .bool true]) w := by
  intro Z w
  simp [Instr.typeAssert, run_underlying hu]

end Go.Proofs.Ytiigcokbmggdkaa

/- A plain word as a struct of its kind, in the program, kind by kind: contracts; no statement of the seat is proved here. -/
namespace Go.Proofs.Ytiigcokbmggdkaa
open Go.RowKit

set_option maxRecDepth 100000 in
set_option maxHeartbeats 8000000 in
theorem wordOf_1 (x : Wd) (po lo : Option Addr) (pn pc ln lc : Nat) (w : World) (hk : x.a0 = 1) :
    Calls Try.prog 125 #[ .agg #[.int .i64 x.a0, .int .i64 x.a1, .int .i64 x.a2, .int .i64 x.a3, .int .i64 x.a4, .int .i64 x.a5, .int .i64 x.c0, .int .i64 x.c1, .int .i64 x.c2, .int .i64 x.c3, .int .i64 x.c4, .int .i64 x.c5, .int .i64 x.c6, .int .i64 x.c7, .int .i64 x.c8, .int .i64 x.c9, .int .i64 x.b0, .int .i64 x.b1, .int .i64 x.b2, .int .i64 x.b3, .int .i64 x.b4, .int .i64 x.b5, .int .i64 x.b6, .int .i64 x.b7, .slice po pn pc, .slice lo ln lc] ] w fun e w' => e = .returned (.tuple #[.iface 174 (.agg #[.int .i64 x.a0, .int .i64 x.a1, .int .i64 x.a2, .int .i64 x.a3, .int .i64 x.a4, .int .i64 x.a5, .int .i64 x.c0, .int .i64 x.c1, .int .i64 x.c2, .int .i64 x.c3, .int .i64 x.c4, .int .i64 x.c5, .int .i64 x.c6, .int .i64 x.c7, .int .i64 x.c8, .int .i64 x.c9, .int .i64 x.b0, .int .i64 x.b1, .int .i64 x.b2, .int .i64 x.b3, .int .i64 x.b4, .int .i64 x.b5, .int .i64 x.b6, .int .i64 x.b7, .slice po pn pc, .slice lo ln lc]), .bool true]) ∧ Below w.heap.size w w' := by
  have HK := hide hk
  clear hk
  have H1s := hide (all_of_list (List.all_eq_true.2 (wd_one x po lo pn pc ln lc)))
  go_enter Try.func125, Try.ntmps125
  go_wp2_with (first
    | (refine wpList_load_row rfl 40 (.tmp 1) rfl w.heap.size rfl _ _ (0, 0) _ (heap_alloc_new w _) Try.underlying40 rfl infoWd ?_)
    | (refine wpList_store_row rfl 171 (.tmp 4) (.tmp 6) rfl (w.heap.size + 1) _ rfl rfl _ _ (al2_1 w _ _) infoWb rfl H1s.out ?_; rw [setRow_new1]))
  generalize hW : World.alloc _ _ = W
  have hal : Below w.heap.size w W := by rw [← hW]; exact bal (bal (Below.refl _ _) _) _
  have B1 : W.heap[w.heap.size + 1]? = some (.cells (#[.int .i64 x.a0, .int .i64 x.a1, .int .i64 x.a2, .int .i64 x.a3, .int .i64 x.a4, .int .i64 x.a5, .int .i64 x.c0, .int .i64 x.c1, .int .i64 x.c2, .int .i64 x.c3, .int .i64 x.c4, .int .i64 x.c5, .int .i64 x.c6, .int .i64 x.c7, .int .i64 x.c8, .int .i64 x.c9, .int .i64 x.b0, .int .i64 x.b1, .int .i64 x.b2, .int .i64 x.b3, .int .i64 x.b4, .int .i64 x.b5, .int .i64 x.b6, .int .i64 x.b7, .slice po pn pc, .slice lo ln lc] : Array Value) 171 (0, 0)) := by rw [← hW]; exact al2_1 w _ _
  clear hW
  refine (wordBlank_any x.a0 _).mono ?_
  rintro e w1 ⟨v, rfl, -, hj, b1⟩
  obtain ⟨Z, rfl⟩ := hj 1 (by omega) (by omega) HK.out
  have HB := hide (bKeeps b1 B1)
  have c1 := bAll hal b1
  clear B1 b1 hal hj
  generalize Value.agg _ = A0
  simp only [kindT]
  have qy := as_yes (P := Try.prog) (xt := 163) Try.underlying174
  go_wp2_with (refine wpList_load_row rfl 171 (.tmp 4) rfl (w.heap.size + 1) rfl _ _ (0, 0) _ HB.out Try.underlying171 rfl infoWb ?_)
  exact bodyPost_ret (v := .tuple #[.iface 174 (.agg #[.int .i64 x.a0, .int .i64 x.a1, .int .i64 x.a2, .int .i64 x.a3, .int .i64 x.a4, .int .i64 x.a5, .int .i64 x.c0, .int .i64 x.c1, .int .i64 x.c2, .int .i64 x.c3, .int .i64 x.c4, .int .i64 x.c5, .int .i64 x.c6, .int .i64 x.c7, .int .i64 x.c8, .int .i64 x.c9, .int .i64 x.b0, .int .i64 x.b1, .int .i64 x.b2, .int .i64 x.b3, .int .i64 x.b4, .int .i64 x.b5, .int .i64 x.b6, .int .i64 x.b7, .slice po pn pc, .slice lo ln lc]), .bool true]) (by simp [results, Try.results125, go_sem]) rfl ⟨rfl, c1⟩

set_option maxRecDepth 100000 in
set_option maxHeartbeats 8000000 in
theorem wordOf_2 (x : Wd) (po lo : Option Addr) (pn pc ln lc : Nat) (w : World) (hk : x.a0 = 2) :
    Calls Try.prog 125 #[ .agg #[.int .i64 x.a0, .int .i64 x.a1, .int .i64 x.a2, .int .i64 x.a3, .int .i64 x.a4, .int .i64 x.a5, .int .i64 x.c0, .int .i64 x.c1, .int .i64 x.c2, .int .i64 x.c3, .int .i64 x.c4, .int .i64 x.c5, .int .i64 x.c6, .int .i64 x.c7, .int .i64 x.c8, .int .i64 x.c9, .int .i64 x.b0, .int .i64 x.b1, .int .i64 x.b2, .int .i64 x.b3, .int .i64 x.b4, .int .i64 x.b5, .int .i64 x.b6, .int .i64 x.b7, .slice po pn pc, .slice lo ln lc] ] w fun e w' => e = .returned (.tuple #[.iface 175 (.agg #[.int .i64 x.a0, .int .i64 x.a1, .int .i64 x.a2, .int .i64 x.a3, .int .i64 x.a4, .int .i64 x.a5, .int .i64 x.c0, .int .i64 x.c1, .int .i64 x.c2, .int .i64 x.c3, .int .i64 x.c4, .int .i64 x.c5, .int .i64 x.c6, .int .i64 x.c7, .int .i64 x.c8, .int .i64 x.c9, .int .i64 x.b0, .int .i64 x.b1, .int .i64 x.b2, .int .i64 x.b3, .int .i64 x.b4, .int .i64 x.b5, .int .i64 x.b6, .int .i64 x.b7, .slice po pn pc, .slice lo ln lc]), .bool true]) ∧ Below w.heap.size w w' := by
  have HK := hide hk
  clear hk
  have H1s := hide (all_of_list (List.all_eq_true.2 (wd_one x po lo pn pc ln lc)))
  go_enter Try.func125, Try.ntmps125
  go_wp2_with (first
    | (refine wpList_load_row rfl 40 (.tmp 1) rfl w.heap.size rfl _ _ (0, 0) _ (heap_alloc_new w _) Try.underlying40 rfl infoWd ?_)
    | (refine wpList_store_row rfl 171 (.tmp 4) (.tmp 6) rfl (w.heap.size + 1) _ rfl rfl _ _ (al2_1 w _ _) infoWb rfl H1s.out ?_; rw [setRow_new1]))
  generalize hW : World.alloc _ _ = W
  have hal : Below w.heap.size w W := by rw [← hW]; exact bal (bal (Below.refl _ _) _) _
  have B1 : W.heap[w.heap.size + 1]? = some (.cells (#[.int .i64 x.a0, .int .i64 x.a1, .int .i64 x.a2, .int .i64 x.a3, .int .i64 x.a4, .int .i64 x.a5, .int .i64 x.c0, .int .i64 x.c1, .int .i64 x.c2, .int .i64 x.c3, .int .i64 x.c4, .int .i64 x.c5, .int .i64 x.c6, .int .i64 x.c7, .int .i64 x.c8, .int .i64 x.c9, .int .i64 x.b0, .int .i64 x.b1, .int .i64 x.b2, .int .i64 x.b3, .int .i64 x.b4, .int .i64 x.b5, .int .i64 x.b6, .int .i64 x.b7, .slice po pn pc, .slice lo ln lc] : Array Value) 171 (0, 0)) := by rw [← hW]; exact al2_1 w _ _
  clear hW
  refine (wordBlank_any x.a0 _).mono ?_
  rintro e w1 ⟨v, rfl, -, hj, b1⟩
  obtain ⟨Z, rfl⟩ := hj 2 (by omega) (by omega) HK.out
  have HB := hide (bKeeps b1 B1)
  have c1 := bAll hal b1
  clear B1 b1 hal hj
  generalize Value.agg _ = A0
  simp only [kindT]
  obtain ⟨z1, q1⟩ := as_no (P := Try.prog) (T := 175) (xt := 163) Try.underlying174 (by kernel_rfl) (by decide)
  have qy := as_yes (P := Try.prog) (xt := 163) Try.underlying175
  go_wp2_with (refine wpList_load_row rfl 171 (.tmp 4) rfl (w.heap.size + 1) rfl _ _ (0, 0) _ HB.out Try.underlying171 rfl infoWb ?_)
  exact bodyPost_ret (v := .tuple #[.iface 175 (.agg #[.int .i64 x.a0, .int .i64 x.a1, .int .i64 x.a2, .int .i64 x.a3, .int .i64 x.a4, .int .i64 x.a5, .int .i64 x.c0, .int .i64 x.c1, .int .i64 x.c2, .int .i64 x.c3, .int .i64 x.c4, .int .i64 x.c5, .int .i64 x.c6, .int .i64 x.c7, .int .i64 x.c8, .int .i64 x.c9, .int .i64 x.b0, .int .i64 x.b1, .int .i64 x.b2, .int .i64 x.b3, .int .i64 x.b4, .int .i64 x.b5, .int .i64 x.b6, .int .i64 x.b7, .slice po pn pc, .slice lo ln lc]), .bool true]) (by simp [results, Try.results125, go_sem]) rfl ⟨rfl, c1⟩

set_option maxRecDepth 100000 in
set_option maxHeartbeats 8000000 in
theorem wordOf_3 (x : Wd) (po lo : Option Addr) (pn pc ln lc : Nat) (w : World) (hk : x.a0 = 3) :
    Calls Try.prog 125 #[ .agg #[.int .i64 x.a0, .int .i64 x.a1, .int .i64 x.a2, .int .i64 x.a3, .int .i64 x.a4, .int .i64 x.a5, .int .i64 x.c0, .int .i64 x.c1, .int .i64 x.c2, .int .i64 x.c3, .int .i64 x.c4, .int .i64 x.c5, .int .i64 x.c6, .int .i64 x.c7, .int .i64 x.c8, .int .i64 x.c9, .int .i64 x.b0, .int .i64 x.b1, .int .i64 x.b2, .int .i64 x.b3, .int .i64 x.b4, .int .i64 x.b5, .int .i64 x.b6, .int .i64 x.b7, .slice po pn pc, .slice lo ln lc] ] w fun e w' => e = .returned (.tuple #[.iface 176 (.agg #[.int .i64 x.a0, .int .i64 x.a1, .int .i64 x.a2, .int .i64 x.a3, .int .i64 x.a4, .int .i64 x.a5, .int .i64 x.c0, .int .i64 x.c1, .int .i64 x.c2, .int .i64 x.c3, .int .i64 x.c4, .int .i64 x.c5, .int .i64 x.c6, .int .i64 x.c7, .int .i64 x.c8, .int .i64 x.c9, .int .i64 x.b0, .int .i64 x.b1, .int .i64 x.b2, .int .i64 x.b3, .int .i64 x.b4, .int .i64 x.b5, .int .i64 x.b6, .int .i64 x.b7, .slice po pn pc, .slice lo ln lc]), .bool true]) ∧ Below w.heap.size w w' := by
  have HK := hide hk
  clear hk
  have H1s := hide (all_of_list (List.all_eq_true.2 (wd_one x po lo pn pc ln lc)))
  go_enter Try.func125, Try.ntmps125
  go_wp2_with (first
    | (refine wpList_load_row rfl 40 (.tmp 1) rfl w.heap.size rfl _ _ (0, 0) _ (heap_alloc_new w _) Try.underlying40 rfl infoWd ?_)
    | (refine wpList_store_row rfl 171 (.tmp 4) (.tmp 6) rfl (w.heap.size + 1) _ rfl rfl _ _ (al2_1 w _ _) infoWb rfl H1s.out ?_; rw [setRow_new1]))
  generalize hW : World.alloc _ _ = W
  have hal : Below w.heap.size w W := by rw [← hW]; exact bal (bal (Below.refl _ _) _) _
  have B1 : W.heap[w.heap.size + 1]? = some (.cells (#[.int .i64 x.a0, .int .i64 x.a1, .int .i64 x.a2, .int .i64 x.a3, .int .i64 x.a4, .int .i64 x.a5, .int .i64 x.c0, .int .i64 x.c1, .int .i64 x.c2, .int .i64 x.c3, .int .i64 x.c4, .int .i64 x.c5, .int .i64 x.c6, .int .i64 x.c7, .int .i64 x.c8, .int .i64 x.c9, .int .i64 x.b0, .int .i64 x.b1, .int .i64 x.b2, .int .i64 x.b3, .int .i64 x.b4, .int .i64 x.b5, .int .i64 x.b6, .int .i64 x.b7, .slice po pn pc, .slice lo ln lc] : Array Value) 171 (0, 0)) := by rw [← hW]; exact al2_1 w _ _
  clear hW
  refine (wordBlank_any x.a0 _).mono ?_
  rintro e w1 ⟨v, rfl, -, hj, b1⟩
  obtain ⟨Z, rfl⟩ := hj 3 (by omega) (by omega) HK.out
  have HB := hide (bKeeps b1 B1)
  have c1 := bAll hal b1
  clear B1 b1 hal hj
  generalize Value.agg _ = A0
  simp only [kindT]
  obtain ⟨z1, q1⟩ := as_no (P := Try.prog) (T := 176) (xt := 163) Try.underlying174 (by kernel_rfl) (by decide)
  obtain ⟨z2, q2⟩ := as_no (P := Try.prog) (T := 176) (xt := 163) Try.underlying175 (by kernel_rfl) (by decide)
  have qy := as_yes (P := Try.prog) (xt := 163) Try.underlying176
  go_wp2_with (refine wpList_load_row rfl 171 (.tmp 4) rfl (w.heap.size + 1) rfl _ _ (0, 0) _ HB.out Try.underlying171 rfl infoWb ?_)
  exact bodyPost_ret (v := .tuple #[.iface 176 (.agg #[.int .i64 x.a0, .int .i64 x.a1, .int .i64 x.a2, .int .i64 x.a3, .int .i64 x.a4, .int .i64 x.a5, .int .i64 x.c0, .int .i64 x.c1, .int .i64 x.c2, .int .i64 x.c3, .int .i64 x.c4, .int .i64 x.c5, .int .i64 x.c6, .int .i64 x.c7, .int .i64 x.c8, .int .i64 x.c9, .int .i64 x.b0, .int .i64 x.b1, .int .i64 x.b2, .int .i64 x.b3, .int .i64 x.b4, .int .i64 x.b5, .int .i64 x.b6, .int .i64 x.b7, .slice po pn pc, .slice lo ln lc]), .bool true]) (by simp [results, Try.results125, go_sem]) rfl ⟨rfl, c1⟩

set_option maxRecDepth 100000 in
set_option maxHeartbeats 8000000 in
theorem wordOf_4 (x : Wd) (po lo : Option Addr) (pn pc ln lc : Nat) (w : World) (hk : x.a0 = 4) :
    Calls Try.prog 125 #[ .agg #[.int .i64 x.a0, .int .i64 x.a1, .int .i64 x.a2, .int .i64 x.a3, .int .i64 x.a4, .int .i64 x.a5, .int .i64 x.c0, .int .i64 x.c1, .int .i64 x.c2, .int .i64 x.c3, .int .i64 x.c4, .int .i64 x.c5, .int .i64 x.c6, .int .i64 x.c7, .int .i64 x.c8, .int .i64 x.c9, .int .i64 x.b0, .int .i64 x.b1, .int .i64 x.b2, .int .i64 x.b3, .int .i64 x.b4, .int .i64 x.b5, .int .i64 x.b6, .int .i64 x.b7, .slice po pn pc, .slice lo ln lc] ] w fun e w' => e = .returned (.tuple #[.iface 177 (.agg #[.int .i64 x.a0, .int .i64 x.a1, .int .i64 x.a2, .int .i64 x.a3, .int .i64 x.a4, .int .i64 x.a5, .int .i64 x.c0, .int .i64 x.c1, .int .i64 x.c2, .int .i64 x.c3, .int .i64 x.c4, .int .i64 x.c5, .int .i64 x.c6, .int .i64 x.c7, .int .i64 x.c8, .int .i64 x.c9, .int .i64 x.b0, .int .i64 x.b1, .int .i64 x.b2, .int .i64 x.b3, .int .i64 x.b4, .int .i64 x.b5, .int .i64 x.b6, .int .i64 x.b7, .slice po pn pc, .slice lo ln lc]), .bool true]) ∧ Below w.heap.size w w' := by
  have HK := hide hk
  clear hk
  have H1s := hide (all_of_list (List.all_eq_true.2 (wd_one x po lo pn pc ln lc)))
  go_enter Try.func125, Try.ntmps125
  go_wp2_with (first
    | (refine wpList_load_row rfl 40 (.tmp 1) rfl w.heap.size rfl _ _ (0, 0) _ (heap_alloc_new w _) Try.underlying40 rfl infoWd ?_)
    | (refine wpList_store_row rfl 171 (.tmp 4) (.tmp 6) rfl (w.heap.size + 1) _ rfl rfl _ _ (al2_1 w _ _) infoWb rfl H1s.out ?_; rw [setRow_new1]))
  generalize hW : World.alloc _ _ = W
  have hal : Below w.heap.size w W := by rw [← hW]; exact bal (bal (Below.refl _ _) _) _
  have B1 : W.heap[w.heap.size + 1]? = some (.cells (#[.int .i64 x.a0, .int .i64 x.a1, .int .i64 x.a2, .int .i64 x.a3, .int .i64 x.a4, .int .i64 x.a5, .int .i64 x.c0, .int .i64 x.c1, .int .i64 x.c2, .int .i64 x.c3, .int .i64 x.c4, .int .i64 x.c5, .int .i64 x.c6, .int .i64 x.c7, .int .i64 x.c8, .int .i64 x.c9, .int .i64 x.b0, .int .i64 x.b1, .int .i64 x.b2, .int .i64 x.b3, .int .i64 x.b4, .int .i64 x.b5, .int .i64 x.b6, .int .i64 x.b7, .slice po pn pc, .slice lo ln lc] : Array Value) 171 (0, 0)) := by rw [← hW]; exact al2_1 w _ _
  clear hW
  refine (wordBlank_any x.a0 _).mono ?_
  rintro e w1 ⟨v, rfl, -, hj, b1⟩
  obtain ⟨Z, rfl⟩ := hj 4 (by omega) (by omega) HK.out
  have HB := hide (bKeeps b1 B1)
  have c1 := bAll hal b1
  clear B1 b1 hal hj
  generalize Value.agg _ = A0
  simp only [kindT]
  obtain ⟨z1, q1⟩ := as_no (P := Try.prog) (T := 177) (xt := 163) Try.underlying174 (by kernel_rfl) (by decide)
  obtain ⟨z2, q2⟩ := as_no (P := Try.prog) (T := 177) (xt := 163) Try.underlying175 (by kernel_rfl) (by decide)
  obtain ⟨z3, q3⟩ := as_no (P := Try.prog) (T := 177) (xt := 163) Try.underlying176 (by kernel_rfl) (by decide)
  have qy := as_yes (P := Try.prog) (xt := 163) Try.underlying177
  go_wp2_with (refine wpList_load_row rfl 171 (.tmp 4) rfl (w.heap.size + 1) rfl _ _ (0, 0) _ HB.out Try.underlying171 rfl infoWb ?_)
  exact bodyPost_ret (v := .tuple #[.iface 177 (.agg #[.int .i64 x.a0, .int .i64 x.a1, .int .i64 x.a2, .int .i64 x.a3, .int .i64 x.a4, .int .i64 x.a5, .int .i64 x.c0, .int .i64 x.c1, .int .i64 x.c2, .int .i64 x.c3, .int .i64 x.c4, .int .i64 x.c5, .int .i64 x.c6, .int .i64 x.c7, .int .i64 x.c8, .int .i64 x.c9, .int .i64 x.b0, .int .i64 x.b1, .int .i64 x.b2, .int .i64 x.b3, .int .i64 x.b4, .int .i64 x.b5, .int .i64 x.b6, .int .i64 x.b7, .slice po pn pc, .slice lo ln lc]), .bool true]) (by simp [results, Try.results125, go_sem]) rfl ⟨rfl, c1⟩

set_option maxRecDepth 100000 in
set_option maxHeartbeats 8000000 in
theorem wordOf_5 (x : Wd) (po lo : Option Addr) (pn pc ln lc : Nat) (w : World) (hk : x.a0 = 5) :
    Calls Try.prog 125 #[ .agg #[.int .i64 x.a0, .int .i64 x.a1, .int .i64 x.a2, .int .i64 x.a3, .int .i64 x.a4, .int .i64 x.a5, .int .i64 x.c0, .int .i64 x.c1, .int .i64 x.c2, .int .i64 x.c3, .int .i64 x.c4, .int .i64 x.c5, .int .i64 x.c6, .int .i64 x.c7, .int .i64 x.c8, .int .i64 x.c9, .int .i64 x.b0, .int .i64 x.b1, .int .i64 x.b2, .int .i64 x.b3, .int .i64 x.b4, .int .i64 x.b5, .int .i64 x.b6, .int .i64 x.b7, .slice po pn pc, .slice lo ln lc] ] w fun e w' => e = .returned (.tuple #[.iface 178 (.agg #[.int .i64 x.a0, .int .i64 x.a1, .int .i64 x.a2, .int .i64 x.a3, .int .i64 x.a4, .int .i64 x.a5, .int .i64 x.c0, .int .i64 x.c1, .int .i64 x.c2, .int .i64 x.c3, .int .i64 x.c4, .int .i64 x.c5, .int .i64 x.c6, .int .i64 x.c7, .int .i64 x.c8, .int .i64 x.c9, .int .i64 x.b0, .int .i64 x.b1, .int .i64 x.b2, .int .i64 x.b3, .int .i64 x.b4, .int .i64 x.b5, .int .i64 x.b6, .int .i64 x.b7, .slice po pn pc, .slice lo ln lc]), .bool true]) ∧ Below w.heap.size w w' := by
  have HK := hide hk
  clear hk
  have H1s := hide (all_of_list (List.all_eq_true.2 (wd_one x po lo pn pc ln lc)))
  go_enter Try.func125, Try.ntmps125
  go_wp2_with (first
    | (refine wpList_load_row rfl 40 (.tmp 1) rfl w.heap.size rfl _ _ (0, 0) _ (heap_alloc_new w _) Try.underlying40 rfl infoWd ?_)
    | (refine wpList_store_row rfl 171 (.tmp 4) (.tmp 6) rfl (w.heap.size + 1) _ rfl rfl _ _ (al2_1 w _ _) infoWb rfl H1s.out ?_; rw [setRow_new1]))
  generalize hW : World.alloc _ _ = W
  have hal : Below w.heap.size w W := by rw [← hW]; exact bal (bal (Below.refl _ _) _) _
  have B1 : W.heap[w.heap.size + 1]? = some (.cells (#[.int .i64 x.a0, .int .i64 x.a1, .int .i64 x.a2, .int .i64 x.a3, .int .i64 x.a4, .int .i64 x.a5, .int .i64 x.c0, .int .i64 x.c1, .int .i64 x.c2, .int .i64 x.c3, .int .i64 x.c4, .int .i64 x.c5, .int .i64 x.c6, .int .i64 x.c7, .int .i64 x.c8, .int .i64 x.c9, .int .i64 x.b0, .int .i64 x.b1, .int .i64 x.b2, .int .i64 x.b3, .int .i64 x.b4, .int .i64 x.b5, .int .i64 x.b6, .int .i64 x.b7, .slice po pn pc, .slice lo ln lc] : Array Value) 171 (0, 0)) := by rw [← hW]; exact al2_1 w _ _
  clear hW
  refine (wordBlank_any x.a0 _).mono ?_
  rintro e w1 ⟨v, rfl, -, hj, b1⟩
  obtain ⟨Z, rfl⟩ := hj 5 (by omega) (by omega) HK.out
  have HB := hide (bKeeps b1 B1)
  have c1 := bAll hal b1
  clear B1 b1 hal hj
  generalize Value.agg _ = A0
  simp only [kindT]
  obtain ⟨z1, q1⟩ := as_no (P := Try.prog) (T := 178) (xt := 163) Try.underlying174 (by kernel_rfl) (by decide)
  obtain ⟨z2, q2⟩ := as_no (P := Try.prog) (T := 178) (xt := 163) Try.underlying175 (by kernel_rfl) (by decide)
  obtain ⟨z3, q3⟩ := as_no (P := Try.prog) (T := 178) (xt := 163) Try.underlying176 (by kernel_rfl) (by decide)
  obtain ⟨z4, q4⟩ := as_no (P := Try.prog) (T := 178) (xt := 163) Try.underlying177 (by kernel_rfl) (by decide)
  have qy := as_yes (P := Try.prog) (xt := 163) Try.underlying178
  go_wp2_with (refine wpList_load_row rfl 171 (.tmp 4) rfl (w.heap.size + 1) rfl _ _ (0, 0) _ HB.out Try.underlying171 rfl infoWb ?_)
  exact bodyPost_ret (v := .tuple #[.iface 178 (.agg #[.int .i64 x.a0, .int .i64 x.a1, .int .i64 x.a2, .int .i64 x.a3, .int .i64 x.a4, .int .i64 x.a5, .int .i64 x.c0, .int .i64 x.c1, .int .i64 x.c2, .int .i64 x.c3, .int .i64 x.c4, .int .i64 x.c5, .int .i64 x.c6, .int .i64 x.c7, .int .i64 x.c8, .int .i64 x.c9, .int .i64 x.b0, .int .i64 x.b1, .int .i64 x.b2, .int .i64 x.b3, .int .i64 x.b4, .int .i64 x.b5, .int .i64 x.b6, .int .i64 x.b7, .slice po pn pc, .slice lo ln lc]), .bool true]) (by simp [results, Try.results125, go_sem]) rfl ⟨rfl, c1⟩

set_option maxRecDepth 100000 in
set_option maxHeartbeats 8000000 in
theorem wordOf_6 (x : Wd) (po lo : Option Addr) (pn pc ln lc : Nat) (w : World) (hk : x.a0 = 6) :
    Calls Try.prog 125 #[ .agg #[.int .i64 x.a0, .int .i64 x.a1, .int .i64 x.a2, .int .i64 x.a3, .int .i64 x.a4, .int .i64 x.a5, .int .i64 x.c0, .int .i64 x.c1, .int .i64 x.c2, .int .i64 x.c3, .int .i64 x.c4, .int .i64 x.c5, .int .i64 x.c6, .int .i64 x.c7, .int .i64 x.c8, .int .i64 x.c9, .int .i64 x.b0, .int .i64 x.b1, .int .i64 x.b2, .int .i64 x.b3, .int .i64 x.b4, .int .i64 x.b5, .int .i64 x.b6, .int .i64 x.b7, .slice po pn pc, .slice lo ln lc] ] w fun e w' => e = .returned (.tuple #[.iface 179 (.agg #[.int .i64 x.a0, .int .i64 x.a1, .int .i64 x.a2, .int .i64 x.a3, .int .i64 x.a4, .int .i64 x.a5, .int .i64 x.c0, .int .i64 x.c1, .int .i64 x.c2, .int .i64 x.c3, .int .i64 x.c4, .int .i64 x.c5, .int .i64 x.c6, .int .i64 x.c7, .int .i64 x.c8, .int .i64 x.c9, .int .i64 x.b0, .int .i64 x.b1, .int .i64 x.b2, .int .i64 x.b3, .int .i64 x.b4, .int .i64 x.b5, .int .i64 x.b6, .int .i64 x.b7, .slice po pn pc, .slice lo ln lc]), .bool true]) ∧ Below w.heap.size w w' := by
  have HK := hide hk
  clear hk
  have H1s := hide (all_of_list (List.all_eq_true.2 (wd_one x po lo pn pc ln lc)))
  go_enter Try.func125, Try.ntmps125
  go_wp2_with (first
    | (refine wpList_load_row rfl 40 (.tmp 1) rfl w.heap.size rfl _ _ (0, 0) _ (heap_alloc_new w _) Try.underlying40 rfl infoWd ?_)
    | (refine wpList_store_row rfl 171 (.tmp 4) (.tmp 6) rfl (w.heap.size + 1) _ rfl rfl _ _ (al2_1 w _ _) infoWb rfl H1s.out ?_; rw [setRow_new1]))
  generalize hW : World.alloc _ _ = W
  have hal : Below w.heap.size w W := by rw [← hW]; exact bal (bal (Below.refl _ _) _) _
  have B1 : W.heap[w.heap.size + 1]? = some (.cells (#[.int .i64 x.a0, .int .i64 x.a1, .int .i64 x.a2, .int .i64 x.a3, .int .i64 x.a4, .int .i64 x.a5, .int .i64 x.c0, .int .i64 x.c1, .int .i64 x.c2, .int .i64 x.c3, .int .i64 x.c4, .int .i64 x.c5, .int .i64 x.c6, .int .i64 x.c7, .int .i64 x.c8, .int .i64 x.c9, .int .i64 x.b0, .int .i64 x.b1, .int .i64 x.b2, .int .i64 x.b3, .int .i64 x.b4, .int .i64 x.b5, .int .i64 x.b6, .int .i64 x.b7, .slice po pn pc, .slice lo ln lc] : Array Value) 171 (0, 0)) := by rw [← hW]; exact al2_1 w _ _
  clear hW
  refine (wordBlank_any x.a0 _).mono ?_
  rintro e w1 ⟨v, rfl, -, hj, b1⟩
  obtain ⟨Z, rfl⟩ := hj 6 (by omega) (by omega) HK.out
  have HB := hide (bKeeps b1 B1)
  have c1 := bAll hal b1
  clear B1 b1 hal hj
  generalize Value.agg _ = A0
  simp only [kindT]
  obtain ⟨z1, q1⟩ := as_no (P := Try.prog) (T := 179) (xt := 163) Try.underlying174 (by kernel_rfl) (by decide)
  obtain ⟨z2, q2⟩ := as_no (P := Try.prog) (T := 179) (xt := 163) Try.underlying175 (by kernel_rfl) (by decide)
  obtain ⟨z3, q3⟩ := as_no (P := Try.prog) (T := 179) (xt := 163) Try.underlying176 (by kernel_rfl) (by decide)
  obtain ⟨z4, q4⟩ := as_no (P := Try.prog) (T := 179) (xt := 163) Try.underlying177 (by kernel_rfl) (by decide)
  obtain ⟨z5, q5⟩ := as_no (P := Try.prog) (T := 179) (xt := 163) Try.underlying178 (by kernel_rfl) (by decide)
  have qy := as_yes (P := Try.prog) (xt := 163) Try.underlying179
  go_wp2_with (refine wpList_load_row rfl 171 (.tmp 4) rfl (w.heap.size + 1) rfl _ _ (0, 0) _ HB.out Try.underlying171 rfl infoWb ?_)
  exact bodyPost_ret (v := .tuple #[.iface 179 (.agg #[.int .i64 x.a0, .int .i64 x.a1, .int .i64 x.a2, .int .i64 x.a3, .int .i64 x.a4, .int .i64 x.a5, .int .i64 x.c0, .int .i64 x.c1, .int .i64 x.c2, .int .i64 x.c3, .int .i64 x.c4, .int .i64 x.c5, .int .i64 x.c6, .int .i64 x.c7, .int .i64 x.c8, .int .i64 x.c9, .int .i64 x.b0, .int .i64 x.b1, .int .i64 x.b2, .int .i64 x.b3, .int .i64 x.b4, .int .i64 x.b5, .int .i64 x.b6, .int .i64 x.b7, .slice po pn pc, .slice lo ln lc]), .bool true]) (by simp [results, Try.results125, go_sem]) rfl ⟨rfl, c1⟩

end Go.Proofs.Ytiigcokbmggdkaa

/- A plain word as a struct of its kind, in the program, kind by kind: contracts; no statement of the seat is proved here. -/
namespace Go.Proofs.Ytiigcokbmggdkaa
open Go.RowKit

set_option maxRecDepth 100000 in
set_option maxHeartbeats 8000000 in
theorem wordOf_7 (x : Wd) (po lo : Option Addr) (pn pc ln lc : Nat) (w : World) (hk : x.a0 = 7) :
    Calls Try.prog 125 #[ .agg #[.int .i64 x.a0, .int .i64 x.a1, .int .i64 x.a2, .int .i64 x.a3, .int .i64 x.a4, .int .i64 x.a5, .int .i64 x.c0, .int .i64 x.c1, .int .i64 x.c2, .int .i64 x.c3, .int .i64 x.c4, .int .i64 x.c5, .int .i64 x.c6, .int .i64 x.c7, .int .i64 x.c8, .int .i64 x.c9, .int .i64 x.b0, .int .i64 x.b1, .int .i64 x.b2, .int .i64 x.b3, .int .i64 x.b4, .int .i64 x.b5, .int .i64 x.b6, .int .i64 x.b7, .slice po pn pc, .slice lo ln lc] ] w fun e w' => e = .returned (.tuple #[.iface 180 (.agg #[.int .i64 x.a0, .int .i64 x.a1, .int .i64 x.a2, .int .i64 x.a3, .int .i64 x.a4, .int .i64 x.a5, .int .i64 x.c0, .int .i64 x.c1, .int .i64 x.c2, .int .i64 x.c3, .int .i64 x.c4, .int .i64 x.c5, .int .i64 x.c6, .int .i64 x.c7, .int .i64 x.c8, .int .i64 x.c9, .int .i64 x.b0, .int .i64 x.b1, .int .i64 x.b2, .int .i64 x.b3, .int .i64 x.b4, .int .i64 x.b5, .int .i64 x.b6, .int .i64 x.b7, .slice po pn pc, .slice lo ln lc]), .bool true]) ∧ Below w.heap.size w w' := by
  have HK := hide hk
  clear hk
  have H1s := hide (all_of_list (List.all_eq_true.2 (wd_one x po lo pn pc ln lc)))
  go_enter Try.func125, Try.ntmps125
  go_wp2_with (first
    | (refine wpList_load_row rfl 40 (.tmp 1) rfl w.heap.size rfl _ _ (0, 0) _ (heap_alloc_new w _) Try.underlying40 rfl infoWd ?_)
    | (refine wpList_store_row rfl 171 (.tmp 4) (.tmp 6) rfl (w.heap.size + 1) _ rfl rfl _ _ (al2_1 w _ _) infoWb rfl H1s.out ?_; rw [setRow_new1]))
  generalize hW : World.alloc _ _ = W
  have hal : Below w.heap.size w W := by rw [← hW]; exact bal (bal (Below.refl _ _) _) _
  have B1 : W.heap[w.heap.size + 1]? = some (.cells (#[.int .i64 x.a0, .int .i64 x.a1, .int .i64 x.a2, .int .i64 x.a3, .int .i64 x.a4, .int .i64 x.a5, .int .i64 x.c0, .int .i64 x.c1, .int .i64 x.c2, .int .i64 x.c3, .int .i64 x.c4, .int .i64 x.c5, .int .i64 x.c6, .int .i64 x.c7, .int .i64 x.c8, .int .i64 x.c9, .int .i64 x.b0, .int .i64 x.b1, .int .i64 x.b2, .int .i64 x.b3, .int .i64 x.b4, .int .i64 x.b5, .int .i64 x.b6, .int .i64 x.b7, .slice po pn pc, .slice lo ln lc] : Array Value) 171 (0, 0)) := by rw [← hW]; exact al2_1 w _ _
  clear hW
  refine (wordBlank_any x.a0 _).mono ?_
  rintro e w1 ⟨v, rfl, -, hj, b1⟩
  obtain ⟨Z, rfl⟩ := hj 7 (by omega) (by omega) HK.out
  have HB := hide (bKeeps b1 B1)
  have c1 := bAll hal b1
  clear B1 b1 hal hj
  generalize Value.agg _ = A0
  simp only [kindT]
  obtain ⟨z1, q1⟩ := as_no (P := Try.prog) (T := 180) (xt := 163) Try.underlying174 (by kernel_rfl) (by decide)
  obtain ⟨z2, q2⟩ := as_no (P := Try.prog) (T := 180) (xt := 163) Try.underlying175 (by kernel_rfl) (by decide)
  obtain ⟨z3, q3⟩ := as_no (P := Try.prog) (T := 180) (xt := 163) Try.underlying176 (by kernel_rfl) (by decide)
  obtain ⟨z4, q4⟩ := as_no (P := Try.prog) (T := 180) (xt := 163) Try.underlying177 (by kernel_rfl) (by decide)
  obtain ⟨z5, q5⟩ := as_no (P := Try.prog) (T := 180) (xt := 163) Try.underlying178 (by kernel_rfl) (by decide)
  obtain ⟨z6, q6⟩ := as_no (P := Try.prog) (T := 180) (xt := 163) Try.underlying179 (by kernel_rfl) (by decide)
  have qy := as_yes (P := Try.prog) (xt := 163) Try.underlying180
  go_wp2_with (refine wpList_load_row rfl 171 (.tmp 4) rfl (w.heap.size + 1) rfl _ _ (0, 0) _ HB.out Try.underlying171 rfl infoWb ?_)
  exact bodyPost_ret (v := .tuple #[.iface 180 (.agg #[.int .i64 x.a0, .int .i64 x.a1, .int .i64 x.a2, .int .i64 x.a3, .int .i64 x.a4, .int .i64 x.a5, .int .i64 x.c0, .int .i64 x.c1, .int .i64 x.c2, .int .i64 x.c3, .int .i64 x.c4, .int .i64 x.c5, .int .i64 x.c6, .int .i64 x.c7, .int .i64 x.c8, .int .i64 x.c9, .int .i64 x.b0, .int .i64 x.b1, .int .i64 x.b2, .int .i64 x.b3, .int .i64 x.b4, .int .i64 x.b5, .int .i64 x.b6, .int .i64 x.b7, .slice po pn pc, .slice lo ln lc]), .bool true]) (by simp [results, Try.results125, go_sem]) rfl ⟨rfl, c1⟩

set_option maxRecDepth 100000 in
set_option maxHeartbeats 8000000 in
theorem wordOf_8 (x : Wd) (po lo : Option Addr) (pn pc ln lc : Nat) (w : World) (hk : x.a0 = 8) :
    Calls Try.prog 125 #[ .agg #[.int .i64 x.a0, .int .i64 x.a1, .int .i64 x.a2, .int .i64 x.a3, .int .i64 x.a4, .int .i64 x.a5, .int .i64 x.c0, .int .i64 x.c1, .int .i64 x.c2, .int .i64 x.c3, .int .i64 x.c4, .int .i64 x.c5, .int .i64 x.c6, .int .i64 x.c7, .int .i64 x.c8, .int .i64 x.c9, .int .i64 x.b0, .int .i64 x.b1, .int .i64 x.b2, .int .i64 x.b3, .int .i64 x.b4, .int .i64 x.b5, .int .i64 x.b6, .int .i64 x.b7, .slice po pn pc, .slice lo ln lc] ] w fun e w' => e = .returned (.tuple #[.iface 181 (.agg #[.int .i64 x.a0, .int .i64 x.a1, .int .i64 x.a2, .int .i64 x.a3, .int .i64 x.a4, .int .i64 x.a5, .int .i64 x.c0, .int .i64 x.c1, .int .i64 x.c2, .int .i64 x.c3, .int .i64 x.c4, .int .i64 x.c5, .int .i64 x.c6, .int .i64 x.c7, .int .i64 x.c8, .int .i64 x.c9, .int .i64 x.b0, .int .i64 x.b1, .int .i64 x.b2, .int .i64 x.b3, .int .i64 x.b4, .int .i64 x.b5, .int .i64 x.b6, .int .i64 x.b7, .slice po pn pc, .slice lo ln lc]), .bool true]) ∧ Below w.heap.size w w' := by
  have HK := hide hk
  clear hk
  have H1s := hide (all_of_list (List.all_eq_true.2 (wd_one x po lo pn pc ln lc)))
  go_enter Try.func125, Try.ntmps125
  go_wp2_with (first
    | (refine wpList_load_row rfl 40 (.tmp 1) rfl w.heap.size rfl _ _ (0, 0) _ (heap_alloc_new w _) Try.underlying40 rfl infoWd ?_)
    | (refine wpList_store_row rfl 171 (.tmp 4) (.tmp 6) rfl (w.heap.size + 1) _ rfl rfl _ _ (al2_1 w _ _) infoWb rfl H1s.out ?_; rw [setRow_new1]))
  generalize hW : World.alloc _ _ = W
  have hal : Below w.heap.size w W := by rw [← hW]; exact bal (bal (Below.refl _ _) _) _
  have B1 : W.heap[w.heap.size + 1]? = some (.cells (#[.int .i64 x.a0, .int .i64 x.a1, .int .i64 x.a2, .int .i64 x.a3, .int .i64 x.a4, .int .i64 x.a5, .int .i64 x.c0, .int .i64 x.c1, .int .i64 x.c2, .int .i64 x.c3, .int .i64 x.c4, .int .i64 x.c5, .int .i64 x.c6, .int .i64 x.c7, .int .i64 x.c8, .int .i64 x.c9, .int .i64 x.b0, .int .i64 x.b1, .int .i64 x.b2, .int .i64 x.b3, .int .i64 x.b4, .int .i64 x.b5, .int .i64 x.b6, .int .i64 x.b7, .slice po pn pc, .slice lo ln lc] : Array Value) 171 (0, 0)) := by rw [← hW]; exact al2_1 w _ _
  clear hW
  refine (wordBlank_any x.a0 _).mono ?_
  rintro e w1 ⟨v, rfl, -, hj, b1⟩
  obtain ⟨Z, rfl⟩ := hj 8 (by omega) (by omega) HK.out
  have HB := hide (bKeeps b1 B1)
  have c1 := bAll hal b1
  clear B1 b1 hal hj
  generalize Value.agg _ = A0
  simp only [kindT]
  obtain ⟨z1, q1⟩ := as_no (P := Try.prog) (T := 181) (xt := 163) Try.underlying174 (by kernel_rfl) (by decide)
  obtain ⟨z2, q2⟩ := as_no (P := Try.prog) (T := 181) (xt := 163) Try.underlying175 (by kernel_rfl) (by decide)
  obtain ⟨z3, q3⟩ := as_no (P := Try.prog) (T := 181) (xt := 163) Try.underlying176 (by kernel_rfl) (by decide)
  obtain ⟨z4, q4⟩ := as_no (P := Try.prog) (T := 181) (xt := 163) Try.underlying177 (by kernel_rfl) (by decide)
  obtain ⟨z5, q5⟩ := as_no (P := Try.prog) (T := 181) (xt := 163) Try.underlying178 (by kernel_rfl) (by decide)
  obtain ⟨z6, q6⟩ := as_no (P := Try.prog) (T := 181) (xt := 163) Try.underlying179 (by kernel_rfl) (by decide)
  obtain ⟨z7, q7⟩ := as_no (P := Try.prog) (T := 181) (xt := 163) Try.underlying180 (by kernel_rfl) (by decide)
  have qy := as_yes (P := Try.prog) (xt := 163) Try.underlying181
  go_wp2_with (refine wpList_load_row rfl 171 (.tmp 4) rfl (w.heap.size + 1) rfl _ _ (0, 0) _ HB.out Try.underlying171 rfl infoWb ?_)
  exact bodyPost_ret (v := .tuple #[.iface 181 (.agg #[.int .i64 x.a0, .int .i64 x.a1, .int .i64 x.a2, .int .i64 x.a3, .int .i64 x.a4, .int .i64 x.a5, .int .i64 x.c0, .int .i64 x.c1, .int .i64 x.c2, .int .i64 x.c3, .int .i64 x.c4, .int .i64 x.c5, .int .i64 x.c6, .int .i64 x.c7, .int .i64 x.c8, .int .i64 x.c9, .int .i64 x.b0, .int .i64 x.b1, .int .i64 x.b2, .int .i64 x.b3, .int .i64 x.b4, .int .i64 x.b5, .int .i64 x.b6, .int .i64 x.b7, .slice po pn pc, .slice lo ln lc]), .bool true]) (by simp [results, Try.results125, go_sem]) rfl ⟨rfl, c1⟩

set_option maxRecDepth 100000 in
set_option maxHeartbeats 8000000 in
theorem wordOf_9 (x : Wd) (po lo : Option Addr) (pn pc ln lc : Nat) (w : World) (hk : x.a0 = 9) :
    Calls Try.prog 125 #[ .agg #[.int .i64 x.a0, .int .i64 x.a1, .int .i64 x.a2, .int .i64 x.a3, .int .i64 x.a4, .int .i64 x.a5, .int .i64 x.c0, .int .i64 x.c1, .int .i64 x.c2, .int .i64 x.c3, .int .i64 x.c4, .int .i64 x.c5, .int .i64 x.c6, .int .i64 x.c7, .int .i64 x.c8, .int .i64 x.c9, .int .i64 x.b0, .int .i64 x.b1, .int .i64 x.b2, .int .i64 x.b3, .int .i64 x.b4, .int .i64 x.b5, .int .i64 x.b6, .int .i64 x.b7, .slice po pn pc, .slice lo ln lc] ] w fun e w' => e = .returned (.tuple #[.iface 182 (.agg #[.int .i64 x.a0, .int .i64 x.a1, .int .i64 x.a2, .int .i64 x.a3, .int .i64 x.a4, .int .i64 x.a5, .int .i64 x.c0, .int .i64 x.c1, .int .i64 x.c2, .int .i64 x.c3, .int .i64 x.c4, .int .i64 x.c5, .int .i64 x.c6, .int .i64 x.c7, .int .i64 x.c8, .int .i64 x.c9, .int .i64 x.b0, .int .i64 x.b1, .int .i64 x.b2, .int .i64 x.b3, .int .i64 x.b4, .int .i64 x.b5, .int .i64 x.b6, .int .i64 x.b7, .slice po pn pc, .slice lo ln lc]), .bool true]) ∧ Below w.heap.size w w' := by
  have HK := hide hk
  clear hk
  have H1s := hide (all_of_list (List.all_eq_true.2 (wd_one x po lo pn pc ln lc)))
  go_enter Try.func125, Try.ntmps125
  go_wp2_with (first
    | (refine wpList_load_row rfl 40 (.tmp 1) rfl w.heap.size rfl _ _ (0, 0) _ (heap_alloc_new w _) Try.underlying40 rfl infoWd ?_)
    | (refine wpList_store_row rfl 171 (.tmp 4) (.tmp 6) rfl (w.heap.size + 1) _ rfl rfl _ _ (al2_1 w _ _) infoWb rfl H1s.out ?_; rw [setRow_new1]))
  generalize hW : World.alloc _ _ = W
  have hal : Below w.heap.size w W := by rw [← hW]; exact bal (bal (Below.refl _ _) _) _
  have B1 : W.heap[w.heap.size + 1]? = some (.cells (#[.int .i64 x.a0, .int .i64 x.a1, .int .i64 x.a2, .int .i64 x.a3, .int .i64 x.a4, .int .i64 x.a5, .int .i64 x.c0, .int .i64 x.c1, .int .i64 x.c2, .int .i64 x.c3, .int .i64 x.c4, .int .i64 x.c5, .int .i64 x.c6, .int .i64 x.c7, .int .i64 x.c8, .int .i64 x.c9, .int .i64 x.b0, .int .i64 x.b1, .int .i64 x.b2, .int .i64 x.b3, .int .i64 x.b4, .int .i64 x.b5, .int .i64 x.b6, .int .i64 x.b7, .slice po pn pc, .slice lo ln lc] : Array Value) 171 (0, 0)) := by rw [← hW]; exact al2_1 w _ _
  clear hW
  refine (wordBlank_any x.a0 _).mono ?_
  rintro e w1 ⟨v, rfl, -, hj, b1⟩
  obtain ⟨Z, rfl⟩ := hj 9 (by omega) (by omega) HK.out
  have HB := hide (bKeeps b1 B1)
  have c1 := bAll hal b1
  clear B1 b1 hal hj
  generalize Value.agg _ = A0
  simp only [kindT]
  obtain ⟨z1, q1⟩ := as_no (P := Try.prog) (T := 182) (xt := 163) Try.underlying174 (by kernel_rfl) (by decide)
  obtain ⟨z2, q2⟩ := as_no (P := Try.prog) (T := 182) (xt := 163) Try.underlying175 (by kernel_rfl) (by decide)
  obtain ⟨z3, q3⟩ := as_no (P := Try.prog) (T := 182) (xt := 163) Try.underlying176 (by kernel_rfl) (by decide)
  obtain ⟨z4, q4⟩ := as_no (P := Try.prog) (T := 182) (xt := 163) Try.underlying177 (by kernel_rfl) (by decide)
  obtain ⟨z5, q5⟩ := as_no (P := Try.prog) (T := 182) (xt := 163) Try.underlying178 (by kernel_rfl) (by decide)
  obtain ⟨z6, q6⟩ := as_no (P := Try.prog) (T := 182) (xt := 163) Try.underlying179 (by kernel_rfl) (by decide)
  obtain ⟨z7, q7⟩ := as_no (P := Try.prog) (T := 182) (xt := 163) Try.underlying180 (by kernel_rfl) (by decide)
  obtain ⟨z8, q8⟩ := as_no (P := Try.prog) (T := 182) (xt := 163) Try.underlying181 (by kernel_rfl) (by decide)
  have qy := as_yes (P := Try.prog) (xt := 163) Try.underlying182
  go_wp2_with (refine wpList_load_row rfl 171 (.tmp 4) rfl (w.heap.size + 1) rfl _ _ (0, 0) _ HB.out Try.underlying171 rfl infoWb ?_)
  exact bodyPost_ret (v := .tuple #[.iface 182 (.agg #[.int .i64 x.a0, .int .i64 x.a1, .int .i64 x.a2, .int .i64 x.a3, .int .i64 x.a4, .int .i64 x.a5, .int .i64 x.c0, .int .i64 x.c1, .int .i64 x.c2, .int .i64 x.c3, .int .i64 x.c4, .int .i64 x.c5, .int .i64 x.c6, .int .i64 x.c7, .int .i64 x.c8, .int .i64 x.c9, .int .i64 x.b0, .int .i64 x.b1, .int .i64 x.b2, .int .i64 x.b3, .int .i64 x.b4, .int .i64 x.b5, .int .i64 x.b6, .int .i64 x.b7, .slice po pn pc, .slice lo ln lc]), .bool true]) (by simp [results, Try.results125, go_sem]) rfl ⟨rfl, c1⟩

set_option maxRecDepth 100000 in
set_option maxHeartbeats 8000000 in
theorem wordOf_10 (x : Wd) (po lo : Option Addr) (pn pc ln lc : Nat) (w : World) (hk : x.a0 = 10) :
    Calls Try.prog 125 #[ .agg #[.int .i64 x.a0, .int .i64 x.a1, .int .i64 x.a2, .int .i64 x.a3, .int .i64 x.a4, .int .i64 x.a5, .int .i64 x.c0, .int .i64 x.c1, .int .i64 x.c2, .int .i64 x.c3, .int .i64 x.c4, .int .i64 x.c5, .int .i64 x.c6, .int .i64 x.c7, .int .i64 x.c8, .int .i64 x.c9, .int .i64 x.b0, .int .i64 x.b1, .int .i64 x.b2, .int .i64 x.b3, .int .i64 x.b4, .int .i64 x.b5, .int .i64 x.b6, .int .i64 x.b7, .slice po pn pc, .slice lo ln lc] ] w fun e w' => e = .returned (.tuple #[.iface 183 (.agg #[.int .i64 x.a0, .int .i64 x.a1, .int .i64 x.a2, .int .i64 x.a3, .int .i64 x.a4, .int .i64 x.a5, .int .i64 x.c0, .int .i64 x.c1, .int .i64 x.c2, .int .i64 x.c3, .int .i64 x.c4, .int .i64 x.c5, .int .i64 x.c6, .int .i64 x.c7, .int .i64 x.c8, .int .i64 x.c9, .int .i64 x.b0, .int .i64 x.b1, .int .i64 x.b2, .int .i64 x.b3, .int .i64 x.b4, .int .i64 x.b5, .int .i64 x.b6, .int .i64 x.b7, .slice po pn pc, .slice lo ln lc]), .bool true]) ∧ Below w.heap.size w w' := by
  have HK := hide hk
  clear hk
  have H1s := hide (all_of_list (List.all_eq_true.2 (wd_one x po lo pn pc ln lc)))
  go_enter Try.func125, Try.ntmps125
  go_wp2_with (first
    | (refine wpList_load_row rfl 40 (.tmp 1) rfl w.heap.size rfl _ _ (0, 0) _ (heap_alloc_new w _) Try.underlying40 rfl infoWd ?_)
    | (refine wpList_store_row rfl 171 (.tmp 4) (.tmp 6) rfl (w.heap.size + 1) _ rfl rfl _ _ (al2_1 w _ _) infoWb rfl H1s.out ?_; rw [setRow_new1]))
  generalize hW : World.alloc _ _ = W
  have hal : Below w.heap.size w W := by rw [← hW]; exact bal (bal (Below.refl _ _) _) _
  have B1 : W.heap[w.heap.size + 1]? = some (.cells (#[.int .i64 x.a0, .int .i64 x.a1, .int .i64 x.a2, .int .i64 x.a3, .int .i64 x.a4, .int .i64 x.a5, .int .i64 x.c0, .int .i64 x.c1, .int .i64 x.c2, .int .i64 x.c3, .int .i64 x.c4, .int .i64 x.c5, .int .i64 x.c6, .int .i64 x.c7, .int .i64 x.c8, .int .i64 x.c9, .int .i64 x.b0, .int .i64 x.b1, .int .i64 x.b2, .int .i64 x.b3, .int .i64 x.b4, .int .i64 x.b5, .int .i64 x.b6, .int .i64 x.b7, .slice po pn pc, .slice lo ln lc] : Array Value) 171 (0, 0)) := by rw [← hW]; exact al2_1 w _ _
  clear hW
  refine (wordBlank_any x.a0 _).mono ?_
  rintro e w1 ⟨v, rfl, -, hj, b1⟩
  obtain ⟨Z, rfl⟩ := hj 10 (by omega) (by omega) HK.out
  have HB := hide (bKeeps b1 B1)
  have c1 := bAll hal b1
  clear B1 b1 hal hj
  generalize Value.agg _ = A0
  simp only [kindT]
  obtain ⟨z1, q1⟩ := as_no (P := Try.prog) (T := 183) (xt := 163) Try.underlying174 (by kernel_rfl) (by decide)
  obtain ⟨z2, q2⟩ := as_no (P := Try.prog) (T := 183) (xt := 163) Try.underlying175 (by kernel_rfl) (by decide)
  obtain ⟨z3, q3⟩ := as_no (P := Try.prog) (T := 183) (xt := 163) Try.underlying176 (by kernel_rfl) (by decide)
  obtain ⟨z4, q4⟩ := as_no (P := Try.prog) (T := 183) (xt := 163) Try.underlying177 (by kernel_rfl) (by decide)
  obtain ⟨z5, q5⟩ := as_no (P := Try.prog) (T := 183) (xt := 163) Try.underlying178 (by kernel_rfl) (by decide)
  obtain ⟨z6, q6⟩ := as_no (P := Try.prog) (T := 183) (xt := 163) Try.underlying179 (by kernel_rfl) (by decide)
  obtain ⟨z7, q7⟩ := as_no (P := Try.prog) (T := 183) (xt := 163) Try.underlying180 (by kernel_rfl) (by decide)
  obtain ⟨z8, q8⟩ := as_no (P := Try.prog) (T := 183) (xt := 163) Try.underlying181 (by kernel_rfl) (by decide)
  obtain ⟨z9, q9⟩ := as_no (P := Try.prog) (T := 183) (xt := 163) Try.underlying182 (by kernel_rfl) (by decide)
  have qy := as_yes (P := Try.prog) (xt := 163) Try.underlying183
  go_wp2_with (refine wpList_load_row rfl 171 (.tmp 4) rfl (w.heap.size + 1) rfl _ _ (0, 0) _ HB.out Try.underlying171 rfl infoWb ?_)
  exact bodyPost_ret (v := .tuple #[.iface 183 (.agg #[.int .i64 x.a0, .int .i64 x.a1, .int .i64 x.a2, .int .i64 x.a3, .int .i64 x.a4, .int .i64 x.a5, .int .i64 x.c0, .int .i64 x.c1, .int .i64 x.c2, .int .i64 x.c3, .int .i64 x.c4, .int .i64 x.c5, .int .i64 x.c6, .int .i64 x.c7, .int .i64 x.c8, .int .i64 x.c9, .int .i64 x.b0, .int .i64 x.b1, .int .i64 x.b2, .int .i64 x.b3, .int .i64 x.b4, .int .i64 x.b5, .int .i64 x.b6, .int .i64 x.b7, .slice po pn pc, .slice lo ln lc]), .bool true]) (by simp [results, Try.results125, go_sem]) rfl ⟨rfl, c1⟩

end Go.Proofs.Ytiigcokbmggdkaa
