/- Contracts and plain facts that this claim leans on (texts VR); no statement of the seat is proved here. -/
import Derived.Laws.ResultCell
import Derived.Test.YtiigcokbmggdkaaVk13
import Derived.Test.YtiigcokbmggdkaaVk14

/- Laws for functions that give two structs and a truth; what a voter's answer is; no statement of the seat is proved here. -/
namespace Go.Proofs.Ytiigcokbmggdkaa
open Go.RowKit

theorem results_cell_cell_tmp {fn : Func} {p q t : Tmp} {ty ty2 : TypeId} (h : fn.results = #[.cell p ty, .cell q ty2, .tmp t]) (tmps : Array Value) (P : Program) (w : World) :
    (results fn tmps).run P w =
      ((asAddr (tmps.getD p undef)).run P w).andThen fun a w₁ => ((loadVar ty a).run P w₁).andThen fun v w₂ => ((asAddr (tmps.getD q undef)).run P w₂).andThen fun a2 w₃ => ((loadVar ty2 a2).run P w₃).andThen fun v2 w₄ => .ok (.tuple #[v, v2, tmps.getD t undef]) w₄ := by
  simp only [results, h]
  simp [Sem.run_bind, Result.andThen]

theorem results_row_row_tmp {P : Program} {fn : Func} {p q t : Tmp} {ty ty2 : TypeId} (h : fn.results = #[.cell p ty, .cell q ty2, .tmp t]) (tmps : Array Value) (w : World) (g g2 : Nat) (t1 t2 : TypeId) (cs ds : Array Value) (fr fr2 : Nat × Nat) (d d2 : TypeDesc) (b : Value)
    (hp : tmps.getD p undef = .pointer (some ⟨g, 0, none⟩)) (hq : tmps.getD q undef = .pointer (some ⟨g2, 0, none⟩)) (hb : tmps.getD t undef = b) (hg : w.heap[g]? = some (.cells cs t1 fr)) (hg2 : w.heap[g2]? = some (.cells ds t2 fr2))
    (hu : P.underlying ty = some d) (hd : (match d with | .struct _ | .array _ _ => true | _ => false) = true) (hi : (P.info? ty).map (·.size) = some cs.size)
    (hu2 : P.underlying ty2 = some d2) (hd2 : (match d2 with | .struct _ | .array _ _ => true | _ => false) = true) (hi2 : (P.info? ty2).map (·.size) = some ds.size) :
    (results fn tmps).run P w = .ok (.tuple #[.agg cs, .agg ds, b]) w := by
  rw [results_cell_cell_tmp h, hp, hq, hb]
  simp [asAddr, Result.andThen, run_loadVar_row w g t1 ty cs fr d hg hu hd hi, run_loadVar_row w g2 t2 ty2 ds fr2 d2 hg2 hu2 hd2 hi2]

theorem yields_build {P : Program} {ops : Array Oper} {S : World → Prop} {op : Oper} {a : Act} (hw : Region.wanted op (yielded ops a.tmps) = true) (ty : TypeId) (parts : Array (Nat × Operand)) (ho : op.op = .build ty parts)
    (ps : List (Nat × Value)) (cells : Array Value) (hp : (parts.map fun (i, x) => (i, a.eval x)).toList = ps) (hb : P.built ty ps = some cells) : YieldsIf P ops S op (.agg cells) a :=
  .inl ⟨hw, fun w _ => by
    unfold execOp
    simp only [ho, Sem.run_bind, run_build w ty _ cells (by rw [hp]; exact hb), Result.andThen_ok]
    rfl⟩

theorem al4_0 (w : World) (a b c d : Obj) : ((((w.alloc a).alloc b).alloc c).alloc d).heap[w.heap.size]? = some a := (Below.heap_alloc _ _ _ (by simp <;> omega)).trans (al3_0 w a b c)
theorem al4_1 (w : World) (a b c d : Obj) : ((((w.alloc a).alloc b).alloc c).alloc d).heap[w.heap.size + 1]? = some b := (Below.heap_alloc _ _ _ (by simp <;> omega)).trans (al3_1 w a b c)
theorem al4_2 (w : World) (a b c d : Obj) : ((((w.alloc a).alloc b).alloc c).alloc d).heap[w.heap.size + 1 + 1]? = some c := (Below.heap_alloc _ _ _ (by simp)).trans (al3_2 w a b c)
theorem al4_3 (w : World) (a b c d : Obj) : ((((w.alloc a).alloc b).alloc c).alloc d).heap[w.heap.size + 1 + 1 + 1]? = some d := by have := al3_2 (w.alloc a) b c d; rwa [World.size_alloc] at this

theorem updRow (w : World) (g : Nat) (cs : Array Value) : Upd (fun j => j = g) w (w.setRow g cs) := ⟨rfl, rfl, rfl, by simp, fun _ _ h => setRow_other _ _ _ _ h⟩

theorem infoSv2 : (Try.prog.info? 35).map (·.size) = some 2 := by kernel_rfl

/-- What a voter gives: itself and its answer, in memory of their own. -/
def VoteO (w : World) (R : Int × List Pp × Wd × Bool) (v u : Value) (w' : World) : Prop := VtO w' (fun k => w.heap.size ≤ k) v R.1 R.2.1 ∧ WdO w' (fun k => w.heap.size ≤ k) u R.2.2.1 ∧ Below w.heap.size w w'

/-- What is read of a word, of its numbers and its command. -/
theorem WdR.cells {w : World} {cs : Array Value} {x : Wd} (h : WdR w (.agg cs) x) : cs[0]? = some (.int .i64 x.a0) ∧ cs[1]? = some (.int .i64 x.a1) ∧ cs[3]? = some (.int .i64 x.a3) ∧ cs[4]? = some (.int .i64 x.a4) ∧ cs[5]? = some (.int .i64 x.a5) ∧ ∀ j z, (#[.int .i64 x.c0, .int .i64 x.c1, .int .i64 x.c2, .int .i64 x.c3, .int .i64 x.c4, .int .i64 x.c5, .int .i64 x.c6, .int .i64 x.c7, .int .i64 x.c8, .int .i64 x.c9] : Array Value)[j]? = some z → cs[6 + j]? = some z := by
  obtain ⟨po, pc, lo, lc, e, -, -⟩ := h
  injection e with e
  subst e
  refine ⟨rfl, rfl, rfl, rfl, rfl, fun j z hj => ?_⟩
  have hj' : j < 10 := (Array.getElem?_eq_some_iff.1 hj).1
  rcases (by omega : j = 0 ∨ j = 1 ∨ j = 2 ∨ j = 3 ∨ j = 4 ∨ j = 5 ∨ j = 6 ∨ j = 7 ∨ j = 8 ∨ j = 9) with rfl | rfl | rfl | rfl | rfl | rfl | rfl | rfl | rfl | rfl <;> exact hj

theorem typed_keeps {V V' : World} {S : Nat → Prop} {e f : TypeId} {g : Nat} {c : Array Value} (hne : e ≠ f) (hu : Upd (typed V S e) V V') (h : V.heap[g]? = some (.cells c f (0, 0))) : V'.heap[g]? = some (.cells c f (0, 0)) :=
  hu.keeps h (fun ⟨_, c', hc⟩ => by rw [h] at hc; simp at hc; exact hne hc.2.symm)
theorem row_keep_box {w w' : World} {S : Nat → Prop} {e f : TypeId} {g size n : Nat} {c : Array Value} {v : Value} {cs : List Value} (hne : e ≠ f) (h : Row w e size S v n cs) (hg : w.heap[g]? = some (.cells c f (0, 0))) (hu : Upd (fun j => j = g) w w') : Row w' e size S v n cs :=
  (h.typed.keep hu (fun k ⟨_, c', hc⟩ hk => by rw [hk, hg] at hc; simp at hc; exact hne hc.2.symm)).mono (fun _ _ h => h.1)
theorem firstV_cases (s : Int) (xs : List Pp) : (firstV s xs = -1 ∧ xs.find? (fun p => decide (p.1 = s)) = none) ∨ ∃ (k : Nat) (p : Pp), xs[k]? = some p ∧ firstV s xs = (k : Int) ∧ xs.find? (fun p => decide (p.1 = s)) = some p := by
  cases hf : xs.findIdx? (fun p => decide (p.1 = s)) with
  | none => exact .inl ⟨by simp [firstV, hf], find_none (by simp [firstV, hf])⟩
  | some i =>
    have h1 : firstV s xs = (i : Int) := by simp [firstV, hf]
    rw [List.findIdx?_eq_some_iff_getElem] at hf
    obtain ⟨hl, -, -⟩ := hf
    exact .inr ⟨i, xs[i], List.getElem?_eq_getElem hl, h1, find_first (List.getElem?_eq_getElem hl) h1⟩
theorem okV_asc {P : Int} {xs : List Pp} (h : okV P xs = true) : xs.length ≤ 60 ∧ Asc ordV xs := by
  simp only [okV, Bool.and_eq_true] at h
  obtain ⟨l1, -, l3⟩ := (ok_iff ordOkV).1 h.2
  exact ⟨l1, l3⟩

theorem builtPaper (s b : Int) (x : Wd) : Try.prog.built 56 [(0, .int .i64 s), (1, .int .i64 b), (2, .agg #[.int .i64 x.c0, .int .i64 x.c1, .int .i64 x.c2, .int .i64 x.c3, .int .i64 x.c4, .int .i64 x.c5, .int .i64 x.c6, .int .i64 x.c7, .int .i64 x.c8, .int .i64 x.c9])] = some (#[.int .i64 s, .int .i64 b, .int .i64 x.c0, .int .i64 x.c1, .int .i64 x.c2, .int .i64 x.c3, .int .i64 x.c4, .int .i64 x.c5, .int .i64 x.c6, .int .i64 x.c7, .int .i64 x.c8, .int .i64 x.c9] : Array Value) := by kernel_rfl
theorem wpList_builtPaper {ops : Array Oper} {rest : List Oper} {o : Oper} {a : Act} {w : World} {Q : Exit → Act → World → Prop} (s b : Int) (x : Wd) (hg : o.guard = none) (parts : Array (Nat × Operand)) (ho : o.op = .build 56 parts)
    (hp : (parts.map fun (i, x) => (i, a.eval x)).toList = [(0, .int .i64 s), (1, .int .i64 b), (2, .agg #[.int .i64 x.c0, .int .i64 x.c1, .int .i64 x.c2, .int .i64 x.c3, .int .i64 x.c4, .int .i64 x.c5, .int .i64 x.c6, .int .i64 x.c7, .int .i64 x.c8, .int .i64 x.c9])])
    (h : wpList Try.prog ops Q rest (a.put o.dst (.agg (#[.int .i64 s, .int .i64 b, .int .i64 x.c0, .int .i64 x.c1, .int .i64 x.c2, .int .i64 x.c3, .int .i64 x.c4, .int .i64 x.c5, .int .i64 x.c6, .int .i64 x.c7, .int .i64 x.c8, .int .i64 x.c9] : Array Value))) w) : wpList Try.prog ops Q (o :: rest) a w :=
  wpList_build hg 56 parts ho (by rw [hp, builtPaper]; rfl) (by rw [hp, builtPaper]; exact h)

theorem pparr_cmd {s b : Int} {x : Wd} {j : Nat} {z : Value} (hj : (#[.int .i64 x.c0, .int .i64 x.c1, .int .i64 x.c2, .int .i64 x.c3, .int .i64 x.c4, .int .i64 x.c5, .int .i64 x.c6, .int .i64 x.c7, .int .i64 x.c8, .int .i64 x.c9] : Array Value)[j]? = some z) : (pparr (s, b, x))[2 + j]? = some z := by
  have hj' : j < 10 := (Array.getElem?_eq_some_iff.1 hj).1
  rcases (by omega : j = 0 ∨ j = 1 ∨ j = 2 ∨ j = 3 ∨ j = 4 ∨ j = 5 ∨ j = 6 ∨ j = 7 ∨ j = 8 ∨ j = 9) with rfl | rfl | rfl | rfl | rfl | rfl | rfl | rfl | rfl | rfl <;> exact hj

end Go.Proofs.Ytiigcokbmggdkaa
