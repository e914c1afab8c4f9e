/- Contracts and plain facts that this claim leans on (texts VR, VS, VQ4, VPa, VI, VI2); no statement of the seat is proved here. -/
import Derived.Laws.ResultCell
import Derived.Test.YtiigcokbmggdkaaVk13
import Derived.Test.YtiigcokbmggdkaaVk14
import Derived.Deep.DeepCutAuto
import Derived.Test.YtiigcokbmggdkaaVk12
import Derived.BigQuiet

/- Laws for functions that give two structs and a truth; what a voter's answer is; no statement of the seat is proved here. -/
namespace Go.Proofs.Ytiigcokbmggdkaa
open Go.RowKit

theorem results_cell_cell_tmp {fn : Func} {p q t : Tmp} {ty ty2 : TypeId} (h : fn.results = #[.cell p ty, .cell q ty2, .tmp t]) (tmps : Array Value) (P : Program) (w : World) :
    (results fn tmps).run P w =
      ((asAddr (tmps.getD p undef)).run P w).andThen fun a w₁ => ((loadVar ty a).run P w₁).andThen fun v w₂ => ((asAddr (tmps.getD q undef)).run P w₂).andThen fun a2 w₃ => ((loadVar ty2 a2).run P w₃).andThen fun v2 w₄ => .ok (.tuple #[v, v2, tmps.getD t undef]) w₄ := by
  simp only [results, h]
  simp [Sem.run_bind, Result.andThen]

theorem results_row_row_tmp {P : Program} {fn : Func} {p q t : Tmp} {ty ty2 : TypeId} (h : fn.results = #[.cell p ty, .cell q ty2, .tmp t]) (tmps : Array Value) (w : World) (g g2 : Nat) (t1 t2 : TypeId) (cs ds : Array Value) (fr fr2 : Nat × Nat) (d d2 : TypeDesc) (b : Value)
    (hp : tmps.getD p undef = .pointer (some ⟨g, 0, none⟩)) (hq : tmps.getD q undef = .pointer (some ⟨g2, 0, none⟩)) (hb : tmps.getD t undef = b) (hg : w.heap[g]? = some (.cells cs t1 fr)) (hg2 : w.heap[g2]? = some (.cells ds t2 fr2))
    (hu : P.underlying ty = some d) (hd : (match d with | .struct _ | .array _ _ => true | _ => false) = true) (hi : (P.info? ty).map (·.size) = some cs.size)
    (hu2 : P.underlying ty2 = some d2) (hd2 : (match d2 with | .struct _ | .array _ _ => true | _ => false) = true) (hi2 : (P.info? ty2).map (·.size) = some ds.size) :
    (results fn tmps).run P w = .ok (.tuple #[.agg cs, .agg ds, b]) w := by
  rw [results_cell_cell_tmp h, hp, hq, hb]
  simp [asAddr, Result.andThen, run_loadVar_row w g t1 ty cs fr d hg hu hd hi, run_loadVar_row w g2 t2 ty2 ds fr2 d2 hg2 hu2 hd2 hi2]

theorem yields_build {P : Program} {ops : Array Oper} {S : World → Prop} {op : Oper} {a : Act} (hw : Region.wanted op (yielded ops a.tmps) = true) (ty : TypeId) (parts : Array (Nat × Operand)) (ho : op.op = .build ty parts)
    (ps : List (Nat × Value)) (cells : Array Value) (hp : (parts.map fun (i, x) => (i, a.eval x)).toList = ps) (hb : P.built ty ps = some cells) : YieldsIf P ops S op (.agg cells) a :=
  .inl ⟨hw, fun w _ => by
    unfold execOp
    simp only [ho, Sem.run_bind, run_build w ty _ cells (by rw [hp]; exact hb), Result.andThen_ok]
    rfl⟩

theorem al4_0 (w : World) (a b c d : Obj) : ((((w.alloc a).alloc b).alloc c).alloc d).heap[w.heap.size]? = some a := (Below.heap_alloc _ _ _ (by simp <;> omega)).trans (al3_0 w a b c)
theorem al4_1 (w : World) (a b c d : Obj) : ((((w.alloc a).alloc b).alloc c).alloc d).heap[w.heap.size + 1]? = some b := (Below.heap_alloc _ _ _ (by simp <;> omega)).trans (al3_1 w a b c)
theorem al4_2 (w : World) (a b c d : Obj) : ((((w.alloc a).alloc b).alloc c).alloc d).heap[w.heap.size + 1 + 1]? = some c := (Below.heap_alloc _ _ _ (by simp)).trans (al3_2 w a b c)
theorem al4_3 (w : World) (a b c d : Obj) : ((((w.alloc a).alloc b).alloc c).alloc d).heap[w.heap.size + 1 + 1 + 1]? = some d := by have := al3_2 (w.alloc a) b c d; rwa [World.size_alloc] at this

theorem updRow (w : World) (g : Nat) (cs : Array Value) : Upd (fun j => j = g) w (w.setRow g cs) := ⟨rfl, rfl, rfl, by simp, fun _ _ h => setRow_other _ _ _ _ h⟩

theorem infoSv2 : (Try.prog.info? 35).map (·.size) = some 2 := by kernel_rfl

/-- What a voter gives: itself and its answer, in memory of their own. -/
def VoteO (w : World) (R : Int × List Pp × Wd × Bool) (v u : Value) (w' : World) : Prop := VtO w' (fun k => w.heap.size ≤ k) v R.1 R.2.1 ∧ WdO w' (fun k => w.heap.size ≤ k) u R.2.2.1 ∧ Below w.heap.size w w'

/-- What is read of a word, of its numbers and its command. -/
theorem WdR.cells {w : World} {cs : Array Value} {x : Wd} (h : WdR w (.agg cs) x) : cs[0]? = some (.int .i64 x.a0) ∧ cs[1]? = some (.int .i64 x.a1) ∧ cs[3]? = some (.int .i64 x.a3) ∧ cs[4]? = some (.int .i64 x.a4) ∧ cs[5]? = some (.int .i64 x.a5) ∧ ∀ j z, (#[.int .i64 x.c0, .int .i64 x.c1, .int .i64 x.c2, .int .i64 x.c3, .int .i64 x.c4, .int .i64 x.c5, .int .i64 x.c6, .int .i64 x.c7, .int .i64 x.c8, .int .i64 x.c9] : Array Value)[j]? = some z → cs[6 + j]? = some z := by
  obtain ⟨po, pc, lo, lc, e, -, -⟩ := h
  injection e with e
  subst e
  refine ⟨rfl, rfl, rfl, rfl, rfl, fun j z hj => ?_⟩
  have hj' : j < 10 := (Array.getElem?_eq_some_iff.1 hj).1
  rcases (by omega : j = 0 ∨ j = 1 ∨ j = 2 ∨ j = 3 ∨ j = 4 ∨ j = 5 ∨ j = 6 ∨ j = 7 ∨ j = 8 ∨ j = 9) with rfl | rfl | rfl | rfl | rfl | rfl | rfl | rfl | rfl | rfl <;> exact hj

theorem typed_keeps {V V' : World} {S : Nat → Prop} {e f : TypeId} {g : Nat} {c : Array Value} (hne : e ≠ f) (hu : Upd (typed V S e) V V') (h : V.heap[g]? = some (.cells c f (0, 0))) : V'.heap[g]? = some (.cells c f (0, 0)) :=
  hu.keeps h (fun ⟨_, c', hc⟩ => by rw [h] at hc; simp at hc; exact hne hc.2.symm)
theorem row_keep_box {w w' : World} {S : Nat → Prop} {e f : TypeId} {g size n : Nat} {c : Array Value} {v : Value} {cs : List Value} (hne : e ≠ f) (h : Row w e size S v n cs) (hg : w.heap[g]? = some (.cells c f (0, 0))) (hu : Upd (fun j => j = g) w w') : Row w' e size S v n cs :=
  (h.typed.keep hu (fun k ⟨_, c', hc⟩ hk => by rw [hk, hg] at hc; simp at hc; exact hne hc.2.symm)).mono (fun _ _ h => h.1)
theorem firstV_cases (s : Int) (xs : List Pp) : (firstV s xs = -1 ∧ xs.find? (fun p => decide (p.1 = s)) = none) ∨ ∃ (k : Nat) (p : Pp), xs[k]? = some p ∧ firstV s xs = (k : Int) ∧ xs.find? (fun p => decide (p.1 = s)) = some p := by
  cases hf : xs.findIdx? (fun p => decide (p.1 = s)) with
  | none => exact .inl ⟨by simp [firstV, hf], find_none (by simp [firstV, hf])⟩
  | some i =>
    have h1 : firstV s xs = (i : Int) := by simp [firstV, hf]
    rw [List.findIdx?_eq_some_iff_getElem] at hf
    obtain ⟨hl, -, -⟩ := hf
    exact .inr ⟨i, xs[i], List.getElem?_eq_getElem hl, h1, find_first (List.getElem?_eq_getElem hl) h1⟩
theorem okV_asc {P : Int} {xs : List Pp} (h : okV P xs = true) : xs.length ≤ 60 ∧ Asc ordV xs := by
  simp only [okV, Bool.and_eq_true] at h
  obtain ⟨l1, -, l3⟩ := (ok_iff ordOkV).1 h.2
  exact ⟨l1, l3⟩

theorem builtPaper (s b : Int) (x : Wd) : Try.prog.built 56 [(0, .int .i64 s), (1, .int .i64 b), (2, .agg #[.int .i64 x.c0, .int .i64 x.c1, .int .i64 x.c2, .int .i64 x.c3, .int .i64 x.c4, .int .i64 x.c5, .int .i64 x.c6, .int .i64 x.c7, .int .i64 x.c8, .int .i64 x.c9])] = some (#[.int .i64 s, .int .i64 b, .int .i64 x.c0, .int .i64 x.c1, .int .i64 x.c2, .int .i64 x.c3, .int .i64 x.c4, .int .i64 x.c5, .int .i64 x.c6, .int .i64 x.c7, .int .i64 x.c8, .int .i64 x.c9] : Array Value) := by kernel_rfl
theorem wpList_builtPaper {ops : Array Oper} {rest : List Oper} {o : Oper} {a : Act} {w : World} {Q : Exit → Act → World → Prop} (s b : Int) (x : Wd) (hg : o.guard = none) (parts : Array (Nat × Operand)) (ho : o.op = .build 56 parts)
    (hp : (parts.map fun (i, x) => (i, a.eval x)).toList = [(0, .int .i64 s), (1, .int .i64 b), (2, .agg #[.int .i64 x.c0, .int .i64 x.c1, .int .i64 x.c2, .int .i64 x.c3, .int .i64 x.c4, .int .i64 x.c5, .int .i64 x.c6, .int .i64 x.c7, .int .i64 x.c8, .int .i64 x.c9])])
    (h : wpList Try.prog ops Q rest (a.put o.dst (.agg (#[.int .i64 s, .int .i64 b, .int .i64 x.c0, .int .i64 x.c1, .int .i64 x.c2, .int .i64 x.c3, .int .i64 x.c4, .int .i64 x.c5, .int .i64 x.c6, .int .i64 x.c7, .int .i64 x.c8, .int .i64 x.c9] : Array Value))) w) : wpList Try.prog ops Q (o :: rest) a w :=
  wpList_build hg 56 parts ho (by rw [hp, builtPaper]; rfl) (by rw [hp, builtPaper]; exact h)

theorem pparr_cmd {s b : Int} {x : Wd} {j : Nat} {z : Value} (hj : (#[.int .i64 x.c0, .int .i64 x.c1, .int .i64 x.c2, .int .i64 x.c3, .int .i64 x.c4, .int .i64 x.c5, .int .i64 x.c6, .int .i64 x.c7, .int .i64 x.c8, .int .i64 x.c9] : Array Value)[j]? = some z) : (pparr (s, b, x))[2 + j]? = some z := by
  have hj' : j < 10 := (Array.getElem?_eq_some_iff.1 hj).1
  rcases (by omega : j = 0 ∨ j = 1 ∨ j = 2 ∨ j = 3 ∨ j = 4 ∨ j = 5 ∨ j = 6 ∨ j = 7 ∨ j = 8 ∨ j = 9) with rfl | rfl | rfl | rfl | rfl | rfl | rfl | rfl | rfl | rfl <;> exact hj

end Go.Proofs.Ytiigcokbmggdkaa

/- SynVote of the specification: a contract; no statement of the seat is proved here. -/
namespace Go.Proofs.Ytiigcokbmggdkaa
open Go.RowKit

theorem builtBack (me f b s : Int) : Try.prog.built 40 [(1, .int .i64 me), (2, .int .i64 f), (3, .int .i64 b), (4, .int .i64 s)] = some #[.int .i64 0, .int .i64 me, .int .i64 f, .int .i64 b, .int .i64 s, .int .i64 0, .int .i64 0, .int .i64 0, .int .i64 0, .int .i64 0, .int .i64 0, .int .i64 0, .int .i64 0, .int .i64 0, .int .i64 0, .int .i64 0, .int .i64 0, .int .i64 0, .int .i64 0, .int .i64 0, .int .i64 0, .int .i64 0, .int .i64 0, .int .i64 0, .slice none 0 0, .slice none 0 0] := by kernel_rfl
theorem wpList_builtBack {ops : Array Oper} {rest : List Oper} {o : Oper} {a : Act} {w : World} {Q : Exit → Act → World → Prop} (me f b s : Int) (hg : o.guard = none) (parts : Array (Nat × Operand)) (ho : o.op = .build 40 parts)
    (hp : (parts.map fun (i, x) => (i, a.eval x)).toList = [(1, .int .i64 me), (2, .int .i64 f), (3, .int .i64 b), (4, .int .i64 s)])
    (h : wpList Try.prog ops Q rest (a.put o.dst (.agg #[.int .i64 0, .int .i64 me, .int .i64 f, .int .i64 b, .int .i64 s, .int .i64 0, .int .i64 0, .int .i64 0, .int .i64 0, .int .i64 0, .int .i64 0, .int .i64 0, .int .i64 0, .int .i64 0, .int .i64 0, .int .i64 0, .int .i64 0, .int .i64 0, .int .i64 0, .int .i64 0, .int .i64 0, .int .i64 0, .int .i64 0, .int .i64 0, .slice none 0 0, .slice none 0 0])) w) : wpList Try.prog ops Q (o :: rest) a w :=
  wpList_build hg 40 parts ho (by rw [hp, builtBack]; rfl) (by rw [hp, builtBack]; exact h)

/-- The cells of an answer. -/
def backA (k me f b s was : Int) (c : Wd) : Array Value := #[.int .i64 k, .int .i64 me, .int .i64 f, .int .i64 b, .int .i64 s, .int .i64 was, .int .i64 c.c0, .int .i64 c.c1, .int .i64 c.c2, .int .i64 c.c3, .int .i64 c.c4, .int .i64 c.c5, .int .i64 c.c6, .int .i64 c.c7, .int .i64 c.c8, .int .i64 c.c9, .int .i64 0, .int .i64 0, .int .i64 0, .int .i64 0, .int .i64 0, .int .i64 0, .int .i64 0, .int .i64 0, .slice none 0 0, .slice none 0 0]
theorem backA_row (w : World) (S : Nat → Prop) (me : Int) (x : Wd) (k was : Int) (c : Wd) : WdO w S (.agg (backA k me x.a1 x.a3 x.a4 was c)) (backW me x k was c) := ⟨none, 0, none, 0, rfl, Row.nil _ _ _ _, Row.nil _ _ _ _⟩

end Go.Proofs.Ytiigcokbmggdkaa

/- A denial; how a paper is put into papers, as plain lists: a contract and plain facts; no statement of the seat is proved here. -/
namespace Go.Proofs.Ytiigcokbmggdkaa
open Go.RowKit

theorem builtDeny (P : Int) : Try.prog.built 40 [(0, .int .i64 5), (5, .int .i64 P)] = some #[.int .i64 5, .int .i64 0, .int .i64 0, .int .i64 0, .int .i64 0, .int .i64 P, .int .i64 0, .int .i64 0, .int .i64 0, .int .i64 0, .int .i64 0, .int .i64 0, .int .i64 0, .int .i64 0, .int .i64 0, .int .i64 0, .int .i64 0, .int .i64 0, .int .i64 0, .int .i64 0, .int .i64 0, .int .i64 0, .int .i64 0, .int .i64 0, .slice none 0 0, .slice none 0 0] := by kernel_rfl
theorem wpList_builtDeny {ops : Array Oper} {rest : List Oper} {o : Oper} {a : Act} {w : World} {Q : Exit → Act → World → Prop} (P : Int) (hg : o.guard = none) (parts : Array (Nat × Operand)) (ho : o.op = .build 40 parts)
    (hp : (parts.map fun (i, x) => (i, a.eval x)).toList = [(0, .int .i64 5), (5, .int .i64 P)])
    (h : wpList Try.prog ops Q rest (a.put o.dst (.agg #[.int .i64 5, .int .i64 0, .int .i64 0, .int .i64 0, .int .i64 0, .int .i64 P, .int .i64 0, .int .i64 0, .int .i64 0, .int .i64 0, .int .i64 0, .int .i64 0, .int .i64 0, .int .i64 0, .int .i64 0, .int .i64 0, .int .i64 0, .int .i64 0, .int .i64 0, .int .i64 0, .int .i64 0, .int .i64 0, .int .i64 0, .int .i64 0, .slice none 0 0, .slice none 0 0])) w) : wpList Try.prog ops Q (o :: rest) a w :=
  wpList_build hg 40 parts ho (by rw [hp, builtDeny]; rfl) (by rw [hp, builtDeny]; exact h)

set_option maxRecDepth 100000 in
set_option maxHeartbeats 4000000 in
theorem deny_any (B : Nat) (P : Int) (t : Value) (w : World) (hB : w.heap[B]? = some (.cells #[.int .i64 P, t] 35 (0, 0))) :
    Calls Try.prog 110 #[.pointer (some ⟨B, 0, none⟩)] w fun e w' => e = .returned (.agg #[.int .i64 5, .int .i64 0, .int .i64 0, .int .i64 0, .int .i64 0, .int .i64 P, .int .i64 0, .int .i64 0, .int .i64 0, .int .i64 0, .int .i64 0, .int .i64 0, .int .i64 0, .int .i64 0, .int .i64 0, .int .i64 0, .int .i64 0, .int .i64 0, .int .i64 0, .int .i64 0, .int .i64 0, .int .i64 0, .int .i64 0, .int .i64 0, .slice none 0 0, .slice none 0 0]) ∧ Below w.heap.size w w' := by
  have al := bal (Below.refl w.heap.size w) (.cells #[.int .i64 0, .int .i64 0, .int .i64 0, .int .i64 0, .int .i64 0, .int .i64 0, .int .i64 0, .int .i64 0, .int .i64 0, .int .i64 0, .int .i64 0, .int .i64 0, .int .i64 0, .int .i64 0, .int .i64 0, .int .i64 0, .int .i64 0, .int .i64 0, .int .i64 0, .int .i64 0, .int .i64 0, .int .i64 0, .int .i64 0, .int .i64 0, .slice none 0 0, .slice none 0 0] 40)
  have N := hide (heap_alloc_new w (.cells #[.int .i64 0, .int .i64 0, .int .i64 0, .int .i64 0, .int .i64 0, .int .i64 0, .int .i64 0, .int .i64 0, .int .i64 0, .int .i64 0, .int .i64 0, .int .i64 0, .int .i64 0, .int .i64 0, .int .i64 0, .int .i64 0, .int .i64 0, .int .i64 0, .int .i64 0, .int .i64 0, .int .i64 0, .int .i64 0, .int .i64 0, .int .i64 0, .slice none 0 0, .slice none 0 0] 40))
  have C := bKeeps al hB
  have hlt := heap_lt hB
  have g0 : (w.alloc (.cells #[.int .i64 0, .int .i64 0, .int .i64 0, .int .i64 0, .int .i64 0, .int .i64 0, .int .i64 0, .int .i64 0, .int .i64 0, .int .i64 0, .int .i64 0, .int .i64 0, .int .i64 0, .int .i64 0, .int .i64 0, .int .i64 0, .int .i64 0, .int .i64 0, .int .i64 0, .int .i64 0, .int .i64 0, .int .i64 0, .int .i64 0, .int .i64 0, .slice none 0 0, .slice none 0 0] 40)).cell? ⟨B, 0, none⟩ = some (.int .i64 P) := boxAt C 0
  clear C hB
  go_enter Try.func110, Try.ntmps110
  generalize hW : w.alloc (.cells #[.int .i64 0, .int .i64 0, .int .i64 0, .int .i64 0, .int .i64 0, .int .i64 0, .int .i64 0, .int .i64 0, .int .i64 0, .int .i64 0, .int .i64 0, .int .i64 0, .int .i64 0, .int .i64 0, .int .i64 0, .int .i64 0, .int .i64 0, .int .i64 0, .int .i64 0, .int .i64 0, .int .i64 0, .int .i64 0, .int .i64 0, .int .i64 0, .slice none 0 0, .slice none 0 0] 40) = W at al N g0
  go_wp2_with (first
    | rw [hW]
    | (refine wpList_builtDeny P rfl _ rfl ?hp ?_; (case hp => ((conv => lhs; simp only [List.map_toArray, List.map_cons, List.map_nil]); rfl)))
    | (refine wpList_store_row rfl 40 (.tmp 2) (.tmp 7) rfl w.heap.size _ rfl rfl _ _ N.out infoWd (show (26 : Nat) = 26 from rfl) (all_of_list rfl) ?_))
  refine bodyPost_ret (v := .agg #[.int .i64 5, .int .i64 0, .int .i64 0, .int .i64 0, .int .i64 0, .int .i64 P, .int .i64 0, .int .i64 0, .int .i64 0, .int .i64 0, .int .i64 0, .int .i64 0, .int .i64 0, .int .i64 0, .int .i64 0, .int .i64 0, .int .i64 0, .int .i64 0, .int .i64 0, .int .i64 0, .int .i64 0, .int .i64 0, .int .i64 0, .int .i64 0, .slice none 0 0, .slice none 0 0]) (results_cell_row Try.results110 _ _ w.heap.size _ _ (0, 0) _ rfl (setRow_heap _ _ _ _ _ _ N.out) Try.underlying40 rfl infoWd) rfl ?_
  have u6 : Upd (fun j => j = w.heap.size) W (W.setRow w.heap.size #[.int .i64 5, .int .i64 0, .int .i64 0, .int .i64 0, .int .i64 0, .int .i64 P, .int .i64 0, .int .i64 0, .int .i64 0, .int .i64 0, .int .i64 0, .int .i64 0, .int .i64 0, .int .i64 0, .int .i64 0, .int .i64 0, .int .i64 0, .int .i64 0, .int .i64 0, .int .i64 0, .int .i64 0, .int .i64 0, .int .i64 0, .int .i64 0, .slice none 0 0, .slice none 0 0]) := ⟨rfl, rfl, rfl, by simp, fun k _ h => setRow_other _ _ _ _ h⟩
  exact ⟨rfl, al.trans (u6.below al.size (fun k h => by omega))⟩

end Go.Proofs.Ytiigcokbmggdkaa

/- The paper of a slot, by the program: a contract; no statement of the seat is proved here. -/
namespace Go.Proofs.Ytiigcokbmggdkaa
open Go.RowKit

/-- What turned later, in blocks that are new, is no change of the old ones. -/
theorem upd_late {S T : Nat → Prop} {a b c : World} (h : Upd S a b) (k : Upd T b c) (hT : ∀ j, T j → a.heap.size ≤ j) : Upd S a c :=
  ⟨k.os.trans h.os, k.tape.trans h.tape, k.output.trans h.output, Nat.le_trans h.size k.size,
    fun i hi hS => (k.block i (Nat.lt_of_lt_of_le hi h.size) (fun ht => by have := hT i ht; omega)).trans (h.block i hi hS)⟩

theorem builtKind (k : Int) : Try.prog.built 40 [(0, .int .i64 k)] = some (backA k 0 0 0 0 0 zeroW) := by kernel_rfl
theorem wpList_builtKind {ops : Array Oper} {rest : List Oper} {o : Oper} {a : Act} {w : World} {Q : Exit → Act → World → Prop} (k : Int) (hg : o.guard = none) (parts : Array (Nat × Operand)) (ho : o.op = .build 40 parts)
    (hp : (parts.map fun (i, x) => (i, a.eval x)).toList = [(0, .int .i64 k)])
    (h : wpList Try.prog ops Q rest (a.put o.dst (.agg (backA k 0 0 0 0 0 zeroW))) w) : wpList Try.prog ops Q (o :: rest) a w :=
  wpList_build hg 40 parts ho (by rw [hp, builtKind]; rfl) (by rw [hp, builtKind]; exact h)
theorem builtSlot (s : Int) : Try.prog.built 56 [(0, .int .i64 s)] = some (#[.int .i64 s, .int .i64 0, .int .i64 zeroW.c0, .int .i64 zeroW.c1, .int .i64 zeroW.c2, .int .i64 zeroW.c3, .int .i64 zeroW.c4, .int .i64 zeroW.c5, .int .i64 zeroW.c6, .int .i64 zeroW.c7, .int .i64 zeroW.c8, .int .i64 zeroW.c9] : Array Value) := by kernel_rfl

theorem wpList_builtSlot {ops : Array Oper} {rest : List Oper} {o : Oper} {a : Act} {w : World} {Q : Exit → Act → World → Prop} (s : Int) (hg : o.guard = none) (parts : Array (Nat × Operand)) (ho : o.op = .build 56 parts)
    (hp : (parts.map fun (i, x) => (i, a.eval x)).toList = [(0, .int .i64 s)])
    (h : wpList Try.prog ops Q rest (a.put o.dst (.agg (#[.int .i64 s, .int .i64 0, .int .i64 zeroW.c0, .int .i64 zeroW.c1, .int .i64 zeroW.c2, .int .i64 zeroW.c3, .int .i64 zeroW.c4, .int .i64 zeroW.c5, .int .i64 zeroW.c6, .int .i64 zeroW.c7, .int .i64 zeroW.c8, .int .i64 zeroW.c9] : Array Value))) w) : wpList Try.prog ops Q (o :: rest) a w :=
  wpList_build hg 56 parts ho (by rw [hp, builtSlot]; rfl) (by rw [hp, builtSlot]; exact h)
theorem builtNoPaper : Try.prog.built 56 [] = some (#[.int .i64 0, .int .i64 0, .int .i64 zeroW.c0, .int .i64 zeroW.c1, .int .i64 zeroW.c2, .int .i64 zeroW.c3, .int .i64 zeroW.c4, .int .i64 zeroW.c5, .int .i64 zeroW.c6, .int .i64 zeroW.c7, .int .i64 zeroW.c8, .int .i64 zeroW.c9] : Array Value) := by kernel_rfl
theorem wpList_builtNoPaper {ops : Array Oper} {rest : List Oper} {o : Oper} {a : Act} {w : World} {Q : Exit → Act → World → Prop} (hg : o.guard = none) (parts : Array (Nat × Operand)) (ho : o.op = .build 56 parts)
    (hp : (parts.map fun (i, x) => (i, a.eval x)).toList = [])
    (h : wpList Try.prog ops Q rest (a.put o.dst (.agg (#[.int .i64 0, .int .i64 0, .int .i64 zeroW.c0, .int .i64 zeroW.c1, .int .i64 zeroW.c2, .int .i64 zeroW.c3, .int .i64 zeroW.c4, .int .i64 zeroW.c5, .int .i64 zeroW.c6, .int .i64 zeroW.c7, .int .i64 zeroW.c8, .int .i64 zeroW.c9] : Array Value))) w) : wpList Try.prog ops Q (o :: rest) a w :=
  wpList_build hg 56 parts ho (by rw [hp, builtNoPaper]; rfl) (by rw [hp, builtNoPaper]; exact h)
theorem builtProm (b : Int) (x : Wd) : Try.prog.built 40 [(0, .int .i64 2), (5, .int .i64 b), (6, .agg #[.int .i64 x.c0, .int .i64 x.c1, .int .i64 x.c2, .int .i64 x.c3, .int .i64 x.c4, .int .i64 x.c5, .int .i64 x.c6, .int .i64 x.c7, .int .i64 x.c8, .int .i64 x.c9])] = some (backA 2 0 0 0 0 b x) := by kernel_rfl
theorem wpList_builtProm {ops : Array Oper} {rest : List Oper} {o : Oper} {a : Act} {w : World} {Q : Exit → Act → World → Prop} (b : Int) (x : Wd) (hg : o.guard = none) (parts : Array (Nat × Operand)) (ho : o.op = .build 40 parts)
    (hp : (parts.map fun (i, x) => (i, a.eval x)).toList = [(0, .int .i64 2), (5, .int .i64 b), (6, .agg #[.int .i64 x.c0, .int .i64 x.c1, .int .i64 x.c2, .int .i64 x.c3, .int .i64 x.c4, .int .i64 x.c5, .int .i64 x.c6, .int .i64 x.c7, .int .i64 x.c8, .int .i64 x.c9])])
    (h : wpList Try.prog ops Q rest (a.put o.dst (.agg (backA 2 0 0 0 0 b x))) w) : wpList Try.prog ops Q (o :: rest) a w :=
  wpList_build hg 40 parts ho (by rw [hp, builtProm]; rfl) (by rw [hp, builtProm]; exact h)

/-- The paper of a slot; nothing, if there is none. -/
def paperOf (s : Int) (xs : List Pp) : Pp := match xs.find? (fun p => decide (p.1 = s)) with | some p => p | none => (0, 0, zeroW)

set_option maxRecDepth 100000 in
set_option maxHeartbeats 8000000 in
theorem paper_any (g off : Nat) (v : Value) (xs : List Pp) (s : Int) (w : World) (hg : w.cell? ⟨g, off + 1, none⟩ = some v) (hr : RowR w 12 v xs.length (ppcells xs)) (hn : xs.length ≤ 60) (hs : Asc ordV xs) :
    Calls Try.prog 111 #[.pointer (some ⟨g, off, none⟩), .int .i64 s] w fun e w' => e = .returned (.agg (pparr (paperOf s xs))) ∧ Below w.heap.size w w' := by
  obtain ⟨q, hq⟩ : ∃ q, paperOf s xs = q := ⟨_, rfl⟩
  rw [hq]
  have HQ := hide hq
  have HR := hide hr
  have HS := hide hs
  obtain ⟨n, hnn⟩ : ∃ n, xs.length = n := ⟨_, rfl⟩
  have Hl := hide hnn
  obtain ⟨ao, ca, rfl, -, -, hr⟩ := hr
  rw [hnn] at hn hr hg
  have hgl := World.block_lt_of_cell? w _ hg
  have HG : Hid (∀ V : World, Below w.heap.size w V → V.cell? ⟨g, off + 1, none⟩ = some (.slice ao n ca)) := fun V h => (h.cell (p := ⟨g, off + 1, none⟩) hgl).trans hg
  have CC : Hid (∀ (V : World) (p : Nat) (q : Pp), Below w.heap.size w V → xs[p]? = some q → ∃ b o, ao = some ⟨b, o, none⟩ ∧ ∀ j z, (pparr q)[j]? = some z → V.cell? ⟨b, o + p * 12 + j, none⟩ = some z) := by
    intro V p q h hp
    have hp' := (List.getElem?_eq_some_iff.1 hp).1
    obtain ⟨b, o, e, hc⟩ := hr (by omega)
    exact ⟨b, o, e, pp_at hc hp h⟩
  clear hq hs hr hg hnn
  go_enter Try.func111, Try.ntmps111
  go_upto_region 1 with fail
  generalize hW : World.alloc _ _ = W
  have al : Below w.heap.size w W := by rw [← hW]; exact bal (Below.refl _ _) _
  have B0 : Hid (W.heap[w.heap.size]? = some (.cells #[.int .i64 0, .int .i64 0, .int .i64 0, .int .i64 0, .int .i64 0, .int .i64 0, .int .i64 0, .int .i64 0, .int .i64 0, .int .i64 0, .int .i64 0, .int .i64 0] 56 (0, 0))) := by show _ = _; rw [← hW]; exact al1_0 w _
  clear hW
  have k1 := HG.out _ al
  go_wp2_with (refine wpList_builtSlot s rfl _ rfl ?hp ?_; (case hp => ((conv => lhs; simp only [List.map_toArray, List.map_cons, List.map_nil]); rfl)))
  refine (findV_any (.slice ao n ca) xs s 0 zeroW W (by have := HR.out.keep al; rwa [Hl.out] at this ⊢) (by rw [Hl.out]; exact hn) HS.out).mono ?_
  rintro e V ⟨p, there, rfl, hat, b1⟩
  have hF := isAt_first HS.out hat
  have c1 := bAll al b1
  have B1 := hide (bKeeps b1 B0.out)
  have zV := c1.size
  cases there
  · have hfind := find_none (by simpa using hF)
    have HQ2 : Hid (q = (0, 0, zeroW)) := by show _ = _; rw [← HQ.out, paperOf, hfind]
    clear hF hfind hat k1
    go_wp2_with (first
      | (refine wpList_builtNoPaper rfl _ rfl ?hp ?_; (case hp => rfl))
      | (refine wpList_store_row rfl 56 (.tmp 4) (.tmp 19) rfl w.heap.size (#[.int .i64 0, .int .i64 0, .int .i64 zeroW.c0, .int .i64 zeroW.c1, .int .i64 zeroW.c2, .int .i64 zeroW.c3, .int .i64 zeroW.c4, .int .i64 zeroW.c5, .int .i64 zeroW.c6, .int .i64 zeroW.c7, .int .i64 zeroW.c8, .int .i64 zeroW.c9] : Array Value) rfl rfl _ _ B1.out infoPpS (show (12 : Nat) = 12 from rfl) (all_of_list rfl) ?_))
    rw [HQ2.out]
    have s8 := updRow V w.heap.size (#[.int .i64 0, .int .i64 0, .int .i64 zeroW.c0, .int .i64 zeroW.c1, .int .i64 zeroW.c2, .int .i64 zeroW.c3, .int .i64 zeroW.c4, .int .i64 zeroW.c5, .int .i64 zeroW.c6, .int .i64 zeroW.c7, .int .i64 zeroW.c8, .int .i64 zeroW.c9] : Array Value)
    refine bodyPost_ret (v := .agg (pparr (0, 0, zeroW))) (results_cell_row Try.results111 _ _ w.heap.size _ _ (0, 0) _ rfl (setRow_heap _ _ _ _ _ _ B1.out) Try.underlying56 rfl infoPpS) rfl ?_
    exact ⟨rfl, c1.trans (s8.below c1.size (fun k h => by omega))⟩
  · obtain ⟨⟨s', b', x'⟩, hp, -⟩ := hat.th.1 rfl
    have hfind := find_first hp (by simpa using hF)
    have HQ2 : Hid (q = (s', b', x')) := by show _ = _; rw [← HQ.out, paperOf, hfind]
    have hpn : p < n := by have := (List.getElem?_eq_some_iff.1 hp).1; have := Hl.out; omega
    have hpi : (p : Int) < (n : Int) := by omega
    obtain ⟨b, o, rfl, hc⟩ := CC.out V p _ c1 hp
    have HC := hide hc
    have k1 := HG.out _ c1
    clear hF hfind hat hp hc CC
    go_wp2_with (first
      | (refine wpList_load_at (by rfl) 56 (.tmp 25) rfl b (o + p * 12) rfl (pparr (s', b', x')) _ HC.out Try.underlying56 rfl infoPpS ?_)
      | (refine wpList_store_row rfl 56 (.tmp 4) (.tmp 26) rfl w.heap.size (pparr (s', b', x')) rfl rfl _ _ B1.out infoPpS (show (12 : Nat) = 12 from rfl) (all_of_list rfl) ?_))
    rw [HQ2.out]
    have s8 := updRow V w.heap.size (pparr (s', b', x'))
    refine bodyPost_ret (v := .agg (pparr (s', b', x'))) (results_cell_row Try.results111 _ _ w.heap.size _ _ (0, 0) _ rfl (setRow_heap _ _ _ _ _ _ B1.out) Try.underlying56 rfl infoPpS) rfl ?_
    exact ⟨rfl, c1.trans (s8.below c1.size (fun k h => by omega))⟩

end Go.Proofs.Ytiigcokbmggdkaa

/- What a voter does with a word, by the program: contracts; no statement of the seat is proved here. -/
namespace Go.Proofs.Ytiigcokbmggdkaa
open Go.RowKit

set_option maxHeartbeats 400000 in
theorem synIsVoter_any (n : Int) (w : World) :
    Calls Try.prog 55 #[.int .i64 n] w fun e w' => e = .returned (.bool (inI n 0 2)) ∧ w' = w := by
  go_enter Try.func55, Try.ntmps55
  go_wp2_with fail
  refine (blkWithin_any n 0 2 _).mono ?_
  rintro e w1 ⟨rfl, rfl⟩
  go_wp2
  go_ret
  exact ⟨rfl, rfl⟩

/-- What a voter does that is asked to promise: what it has promised then; its answer's kind, and what was voted for. -/
def prepR (P : Int) (xs : List Pp) (x : Wd) : Int × Int × Int × Wd :=
  if P < x.a3 then (match xs.find? (fun p => decide (p.1 = x.a4)) with | some p => (x.a3, 2, p.2.1, p.2.2) | none => (x.a3, 2, 0, zeroW)) else (P, 5, P, zeroW)
/-- What a voter does that is asked to vote. -/
def accR (P : Int) (xs : List Pp) (x : Wd) : Int × List Pp × Int × Int :=
  if P ≤ x.a3 then (x.a3, insL ordV xs (x.a4, x.a3, x), 4, 0) else (P, xs, 5, P)

theorem prepR_paper {P : Int} {xs : List Pp} {x : Wd} (h : P < x.a3) : prepR P xs x = (x.a3, 2, (paperOf x.a4 xs).2.1, (paperOf x.a4 xs).2.2) := by
  rw [prepR, if_pos h]
  unfold paperOf
  cases xs.find? (fun p => decide (p.1 = x.a4)) <;> rfl

set_option maxRecDepth 100000 in
set_option maxHeartbeats 16000000 in
theorem prepare_any (g : Nat) (P : Int) (so : Option Addr) (n sc : Nat) (xs : List Pp) (S : Nat → Prop) (cs : Array Value) (x : Wd) (w : World) (hg : w.heap[g]? = some (.cells #[.int .i64 P, .slice so n sc] 35 (0, 0)))
    (hr : Row w 56 12 S (.slice so n sc) n (ppcells xs)) (hl : xs.length = n) (hn : n ≤ 60) (hs : Asc ordV xs) (hx : WdR w (.agg cs) x) :
    Calls Try.prog 57 #[.pointer (some ⟨g, 0, none⟩), .agg cs] w fun e w' => e = .returned (.agg (backA (prepR P xs x).2.1 0 0 0 0 (prepR P xs x).2.2.1 (prepR P xs x).2.2.2)) ∧ w'.heap[g]? = some (.cells #[.int .i64 (prepR P xs x).1, .slice so n sc] 35 (0, 0)) ∧ Upd (fun j => j = g) w w' := by
  obtain ⟨q, hq⟩ : ∃ q, prepR P xs x = q := ⟨_, rfl⟩
  rw [hq]
  have HQ := hide hq
  have HC := hide hx.cells
  have Hl := hide hl
  have HS := hide hs
  have hlt := heap_lt hg
  clear hq hs hl hx
  go_enter Try.func57, Try.ntmps57
  go_upto_region 1 with fail
  generalize hW : World.alloc _ _ = W
  have al : Below w.heap.size w W := by rw [← hW]; exact bal (bal (Below.refl _ _) _) _
  have B0 : Hid (W.heap[w.heap.size]? = some (.cells cs 40 (0, 0))) := by show _ = _; rw [← hW]; exact al2_0 w _ _
  have B1 : Hid (W.heap[w.heap.size + 1]? = some (.cells #[.int .i64 0, .int .i64 0, .int .i64 0, .int .i64 0, .int .i64 0, .int .i64 0, .int .i64 0, .int .i64 0, .int .i64 0, .int .i64 0, .int .i64 0, .int .i64 0, .int .i64 0, .int .i64 0, .int .i64 0, .int .i64 0, .int .i64 0, .int .i64 0, .int .i64 0, .int .i64 0, .int .i64 0, .int .i64 0, .int .i64 0, .int .i64 0, .slice none 0 0, .slice none 0 0] 40 (0, 0))) := by show _ = _; rw [← hW]; exact al2_1 w _ _
  have zW : W.heap.size = w.heap.size + 1 + 1 := by rw [← hW]; simp
  have ZW := hide zW
  have Hg := hide (bKeeps al hg)
  have Hr := hide (hr.keepB al)
  clear hW zW hg hr
  have k3 : W.cell? ⟨w.heap.size, 3, none⟩ = some (.int .i64 x.a3) := (boxAt B0.out 3).trans HC.out.2.2.1
  have kP : W.cell? ⟨g, 0, none⟩ = some (.int .i64 P) := boxAt Hg.out 0
  by_cases hlp : P < x.a3
  · have d1 : decide (x.a3 ≤ P) = false := by simpa using hlp
    have HLP := hide hlp
    clear hlp
    go_wp2
    go_quiet (fail)
    generalize hV : World.drewN W _ = V
    have bV : Below W.heap.size W V := by rw [← hV]; exact below_drewN (Below.refl _ _) _
    clear hV k3 kP
    have zV := bV.size
    have kg : V.cell? ⟨g, 0, none⟩ = some (.int .i64 P) := boxAt (bKeeps bV Hg.out) 0
    have kg' : V.frozen? ⟨g, 0, none⟩ = false := boxFz (bKeeps bV Hg.out) 0
    have k3 : V.cell? ⟨w.heap.size, 3, none⟩ = some (.int .i64 x.a3) := (boxAt (bKeeps bV B0.out) 3).trans HC.out.2.2.1
    go_upto_region 4 with fail
    generalize hV2 : World.setCell _ _ _ = V2
    have up2 : Upd (fun j => j = g) V V2 := by rw [← hV2]; exact Upd.setCell _ _ _ _ rfl
    have Hg2 : Hid (V2.heap[g]? = some (.cells #[.int .i64 x.a3, .slice so n sc] 35 (0, 0))) := by show _ = _; rw [← hV2]; exact row_set _ (bKeeps bV Hg.out)
    have Hr2 := hide (row_keep_box (by decide) (Hr.out.keepB bV) (bKeeps bV Hg.out) up2)
    have C0 := hide (up2.keeps (bKeeps bV B0.out) (by omega))
    have C1 := hide (up2.keeps (bKeeps bV B1.out) (by omega))
    have z2 := up2.size
    have w2 : Upd (fun j => j = g) w V2 := (Upd.ofBelow (bAll al bV)).trans up2
    clear hV2 kg kg' k3 up2
    obtain ⟨⟨s', b', x'⟩, hpq⟩ : ∃ pq, paperOf x.a4 xs = pq := ⟨_, rfl⟩
    have HQ2 : Hid (q = (x.a3, 2, b', x')) := by
      show _ = _
      rw [← HQ.out, prepR_paper HLP.out, hpq]
    have cP := fun V h1 h2 => paper_any g 0 (.slice so n sc) xs x.a4 V h1 h2 (by rw [Hl.out]; exact hn) HS.out
    rw [hpq] at cP
    clear hpq
    have k4 : V2.cell? ⟨w.heap.size, 4, none⟩ = some (.int .i64 x.a4) := (boxAt C0.out 4).trans HC.out.2.2.2.1
    go_wp2_with fail
    refine (cP _ (boxAt Hg2.out 1) (by rw [Hl.out]; exact Hr2.out.reads)).mono ?_
    rintro e V3 ⟨rfl, b3⟩
    have Hg3 := hide (bKeeps b3 Hg2.out)
    have D1 := hide (bKeeps b3 C1.out)
    have w3 : Upd (fun j => j = g) w V3 := w2.trans (Upd.ofBelow b3)
    have z3 := b3.size
    have zW := ZW.out
    clear cP k4 Hg2 Hr2 C0 C1 b3 w2
    obtain ⟨h, hh⟩ : ∃ h, V3.heap.size = h := ⟨_, rfl⟩
    have N4 : Hid ((V3.alloc (.cells #[.int .i64 0, .int .i64 0, .int .i64 0, .int .i64 0, .int .i64 0, .int .i64 0, .int .i64 0, .int .i64 0, .int .i64 0, .int .i64 0, .int .i64 0, .int .i64 0] 56)).heap[h]? = some (.cells #[.int .i64 0, .int .i64 0, .int .i64 0, .int .i64 0, .int .i64 0, .int .i64 0, .int .i64 0, .int .i64 0, .int .i64 0, .int .i64 0, .int .i64 0, .int .i64 0] 56 (0, 0))) := by show _ = _; rw [← hh]; exact heap_alloc_new V3 _
    have r4 := updRow (V3.alloc (.cells #[.int .i64 0, .int .i64 0, .int .i64 0, .int .i64 0, .int .i64 0, .int .i64 0, .int .i64 0, .int .i64 0, .int .i64 0, .int .i64 0, .int .i64 0, .int .i64 0] 56)) h (pparr (s', b', x'))
    have N5 := hide (setRow_heap _ _ _ (pparr (s', b', x')) _ _ N4.out)
    go_upto_region 5 with (refine wpList_store_row rfl 56 (.tmp 5) (.tmp 23) rfl h (pparr (s', b', x')) (by rw [← hh]; rfl) rfl _ _ N4.out infoPpS (show (12 : Nat) = 12 from rfl) (all_of_list rfl) ?_)
    generalize hV5 : World.setRow _ _ _ = V5 at N5 r4 ⊢
    have w5 : Upd (fun j => j = g) w V5 := upd_late (w3.trans (Upd.ofBelow (bal (Below.refl _ _) _))) r4 (fun k hk => by omega)
    have hgh : ¬ g = h := by omega
    have Hg5 := hide (r4.keeps (bKeeps (bal (Below.refl _ _) _) Hg3.out) hgh)
    have E5 := hide (r4.keeps (bKeeps (bal (Below.refl _ _) _) D1.out) (by omega))
    have kb : V5.cell? ⟨h, 1, none⟩ = some (.int .i64 b') := boxAt N5.out 1
    have fC : Hid (∀ j z, (#[.int .i64 x'.c0, .int .i64 x'.c1, .int .i64 x'.c2, .int .i64 x'.c3, .int .i64 x'.c4, .int .i64 x'.c5, .int .i64 x'.c6, .int .i64 x'.c7, .int .i64 x'.c8, .int .i64 x'.c9] : Array Value)[j]? = some z → V5.cell? ⟨h, 2 + j, none⟩ = some z) := fun j z hj => (boxAt N5.out (2 + j)).trans (pparr_cmd hj)
    clear hV5 N4 N5 r4 Hg3 D1 w3 hh
    go_wp2_with (first
      | (refine wpList_load_at (by rfl) 36 (.tmp 26) rfl h 2 rfl #[.int .i64 x'.c0, .int .i64 x'.c1, .int .i64 x'.c2, .int .i64 x'.c3, .int .i64 x'.c4, .int .i64 x'.c5, .int .i64 x'.c6, .int .i64 x'.c7, .int .i64 x'.c8, .int .i64 x'.c9] _ fC.out Try.underlying36 rfl infoCm10 ?_)
      | (refine wpList_builtProm b' x' rfl _ rfl ?hp ?_; (case hp => ((conv => lhs; simp only [List.map_toArray, List.map_cons, List.map_nil]); rfl)))
      | (refine wpList_store_row rfl 40 (.tmp 4) (.tmp 28) rfl (w.heap.size + 1) (backA 2 0 0 0 0 b' x') rfl rfl _ _ E5.out infoWd (show (26 : Nat) = 26 from rfl) (all_of_list rfl) ?_))
    rw [HQ2.out]
    have s8 := updRow V5 (w.heap.size + 1) (backA 2 0 0 0 0 b' x')
    refine bodyPost_ret (v := .agg (backA 2 0 0 0 0 b' x')) (results_cell_row Try.results57 _ _ (w.heap.size + 1) _ _ (0, 0) _ rfl (setRow_heap _ _ _ _ _ _ E5.out) Try.underlying40 rfl infoWd) rfl ?_
    exact ⟨rfl, s8.keeps Hg5.out (by omega), upd_late w5 s8 (fun k hk => by omega)⟩
  · have d1 : decide (x.a3 ≤ P) = true := by simp; omega
    have HQ2 : Hid (q = (P, 5, P, zeroW)) := by
      show _ = _
      rw [← HQ.out, prepR, if_neg hlp]
    clear hlp
    go_wp2
    go_quiet (fail)
    generalize hV : World.drewN W _ = V
    have bV : Below W.heap.size W V := by rw [← hV]; exact below_drewN (Below.refl _ _) _
    clear hV k3 kP
    have zV := bV.size
    have zW := ZW.out
    go_wp2_with fail
    refine (deny_any g P _ V (bKeeps bV Hg.out)).mono ?_
    rintro e V2 ⟨rfl, b2⟩
    have b2' := bAll bV b2
    have z2 := b2'.size
    have Hg2 := hide (bKeeps b2' Hg.out)
    have E2 := hide (bKeeps b2' B1.out)
    go_wp2_with (refine wpList_store_row rfl 40 (.tmp 4) (.tmp 14) rfl (w.heap.size + 1) (backA 5 0 0 0 0 P zeroW) rfl rfl _ _ E2.out infoWd (show (26 : Nat) = 26 from rfl) (all_of_list rfl) ?_)
    rw [HQ2.out]
    have s8 := updRow V2 (w.heap.size + 1) (backA 5 0 0 0 0 P zeroW)
    refine bodyPost_ret (v := .agg (backA 5 0 0 0 0 P zeroW)) (results_cell_row Try.results57 _ _ (w.heap.size + 1) _ _ (0, 0) _ rfl (setRow_heap _ _ _ _ _ _ E2.out) Try.underlying40 rfl infoWd) rfl ?_
    exact ⟨rfl, s8.keeps Hg2.out (by omega), upd_late (Upd.ofBelow (bAll al b2')) s8 (fun k hk => by omega)⟩

end Go.Proofs.Ytiigcokbmggdkaa

/- What a voter does that is asked to vote, by the program: a contract; no statement of the seat is proved here. -/
namespace Go.Proofs.Ytiigcokbmggdkaa
open Go.RowKit

/-- A voter in a box: its block, and its papers in memory of their own. -/
def VtB (w : World) (g : Nat) (S : Nat → Prop) (P : Int) (xs : List Pp) : Prop :=
  ∃ so sc, w.heap[g]? = some (.cells #[.int .i64 P, .slice so xs.length sc] 35 (0, 0)) ∧ xs.length ≤ sc ∧ Row w 56 12 S (.slice so xs.length sc) xs.length (ppcells xs)

set_option maxRecDepth 100000 in
set_option maxHeartbeats 16000000 in
theorem accept_any (g : Nat) (P : Int) (so : Option Addr) (n sc : Nat) (xs : List Pp) (S : Nat → Prop) (cs : Array Value) (x : Wd) (w : World) (hg : w.heap[g]? = some (.cells #[.int .i64 P, .slice so n sc] 35 (0, 0)))
    (hr : Row w 56 12 S (.slice so n sc) n (ppcells xs)) (hcap : n ≤ sc) (hl : xs.length = n) (hn : n ≤ 60) (hs : Asc ordV xs) (hx : WdR w (.agg cs) x) :
    Calls Try.prog 58 #[.pointer (some ⟨g, 0, none⟩), .agg cs] w fun e w' => e = .returned (.agg (backA (accR P xs x).2.2.1 0 0 0 0 (accR P xs x).2.2.2 zeroW)) ∧ VtB w' g (fun k => S k ∨ w.heap.size ≤ k) (accR P xs x).1 (accR P xs x).2.1 ∧ Upd (fun j => j = g) w w' := by
  obtain ⟨q, hq⟩ : ∃ q, accR P xs x = q := ⟨_, rfl⟩
  rw [hq]
  have HQ := hide hq
  have HC := hide hx.cells
  have Hl := hide hl
  have HS := hide hs
  have hlt := heap_lt hg
  clear hq hs hl hx
  go_enter Try.func58, Try.ntmps58
  go_upto_region 1 with fail
  generalize hW : World.alloc _ _ = W
  have al : Below w.heap.size w W := by rw [← hW]; exact bal (bal (Below.refl _ _) _) _
  have B0 : Hid (W.heap[w.heap.size]? = some (.cells cs 40 (0, 0))) := by show _ = _; rw [← hW]; exact al2_0 w _ _
  have B1 : Hid (W.heap[w.heap.size + 1]? = some (.cells #[.int .i64 0, .int .i64 0, .int .i64 0, .int .i64 0, .int .i64 0, .int .i64 0, .int .i64 0, .int .i64 0, .int .i64 0, .int .i64 0, .int .i64 0, .int .i64 0, .int .i64 0, .int .i64 0, .int .i64 0, .int .i64 0, .int .i64 0, .int .i64 0, .int .i64 0, .int .i64 0, .int .i64 0, .int .i64 0, .int .i64 0, .int .i64 0, .slice none 0 0, .slice none 0 0] 40 (0, 0))) := by show _ = _; rw [← hW]; exact al2_1 w _ _
  have zW : W.heap.size = w.heap.size + 1 + 1 := by rw [← hW]; simp
  have ZW := hide zW
  have Hg := hide (bKeeps al hg)
  have Hr := hide (hr.keepB al)
  clear hW zW hg hr
  have k3 : W.cell? ⟨w.heap.size, 3, none⟩ = some (.int .i64 x.a3) := (boxAt B0.out 3).trans HC.out.2.2.1
  have kP : W.cell? ⟨g, 0, none⟩ = some (.int .i64 P) := boxAt Hg.out 0
  by_cases hlp : P ≤ x.a3
  · have d1 : decide (x.a3 < P) = false := by simpa using hlp
    have HQ2 : Hid (q = (x.a3, insL ordV xs (x.a4, x.a3, x), 4, 0)) := by
      show _ = _
      rw [← HQ.out, accR, if_pos hlp]
    clear hlp
    go_wp2
    go_quiet (fail)
    generalize hV : World.drewN W _ = V
    have bV : Below W.heap.size W V := by rw [← hV]; exact below_drewN (Below.refl _ _) _
    clear hV k3 kP
    have zV := bV.size
    have kg : V.cell? ⟨g, 0, none⟩ = some (.int .i64 P) := boxAt (bKeeps bV Hg.out) 0
    have kg' : V.frozen? ⟨g, 0, none⟩ = false := boxFz (bKeeps bV Hg.out) 0
    have k3 : V.cell? ⟨w.heap.size, 3, none⟩ = some (.int .i64 x.a3) := (boxAt (bKeeps bV B0.out) 3).trans HC.out.2.2.1
    go_upto_region 4 with fail
    generalize hV2 : World.setCell _ _ _ = V2
    have up2 : Upd (fun j => j = g) V V2 := by rw [← hV2]; exact Upd.setCell _ _ _ _ rfl
    have Hg2 : Hid (V2.heap[g]? = some (.cells #[.int .i64 x.a3, .slice so n sc] 35 (0, 0))) := by show _ = _; rw [← hV2]; exact row_set _ (bKeeps bV Hg.out)
    have Hr2 := hide (row_keep_box (by decide) (Hr.out.keepB bV) (bKeeps bV Hg.out) up2)
    have C0 := hide (up2.keeps (bKeeps bV B0.out) (by omega))
    have C1 := hide (up2.keeps (bKeeps bV B1.out) (by omega))
    have z2 := up2.size
    have w2 : Upd (fun j => j = g) w V2 := (Upd.ofBelow (bAll al bV)).trans up2
    clear hV2 kg kg' k3 up2
    have dd := bDrewB (Below.refl V2.heap.size V2)
    have cW := withV_any so sc xs x.a4 x.a3 x V2.drew (by rw [Hl.out]; exact Hr2.out.reads.keep dd) (by rw [Hl.out]; exact hcap) (by rw [Hl.out]; exact hn) HS.out
    rw [Hl.out] at cW
    have zW := ZW.out
    obtain ⟨X, hX⟩ : ∃ X, insL ordV xs (x.a4, x.a3, x) = X := ⟨_, rfl⟩
    have d2 : V2.drew.heap.size = V2.heap.size := rfl
    have hXn : X.length ≤ 61 := by rw [← hX]; have := ins_len (ord := ordV) xs (x.a4, x.a3, x); have := Hl.out; omega
    rw [hX] at HQ2 cW
    clear hX Hr2
    have fC : Hid (∀ V : World, V.heap[w.heap.size]? = some (.cells cs 40 (0, 0)) → ∀ j z, (#[.int .i64 x.c0, .int .i64 x.c1, .int .i64 x.c2, .int .i64 x.c3, .int .i64 x.c4, .int .i64 x.c5, .int .i64 x.c6, .int .i64 x.c7, .int .i64 x.c8, .int .i64 x.c9] : Array Value)[j]? = some z → V.cell? ⟨w.heap.size, 6 + j, none⟩ = some z) := fun V hV j z hj => (boxAt hV (6 + j)).trans (HC.out.2.2.2.2.2 j z hj)
    have kd : V2.drew.cell? ⟨g, 1, none⟩ = some (.slice so n sc) := boxAt (bKeeps dd Hg2.out) 1
    have fS : Hid (∀ V : World, V.heap[w.heap.size]? = some (.cells cs 40 (0, 0)) → V.heap[w.heap.size]? = some (.cells cs 40 (0, 0)) ∧ V.cell? ⟨w.heap.size, 3, none⟩ = some (.int .i64 x.a3) ∧ V.cell? ⟨w.heap.size, 4, none⟩ = some (.int .i64 x.a4)) := fun V hV => ⟨hV, (boxAt hV 3).trans HC.out.2.2.1, (boxAt hV 4).trans HC.out.2.2.2.1⟩
    go_wp2
    refine wp_region_noPanic ?_
    refine wp_region_held_drew (S := (fun w' => w'.heap[w.heap.size]? = some (.cells cs 40 (0, 0)) ∧ w'.cell? ⟨w.heap.size, 3, none⟩ = some (.int .i64 x.a3) ∧ w'.cell? ⟨w.heap.size, 4, none⟩ = some (.int .i64 x.a4))) (by kernel_rfl) ?_ (fun hHeld => ?_)
    · exact fS.out _ (bKeeps dd C0.out)
    refine wpAnyH_take (i := 0) (v := ?v1) rfl (by kernel_rfl) (by kernel_rfl) (by kernel_rfl) (fun _ _ _ h => h) (Or.inl ⟨by rfl, ?hy1⟩) (by assumption) ?rest1
    case hy1 => ((intro w hSw; (try dsimp only at hSw); (try simp only [List.getElem_toArray, List.getElem_cons_zero]); go_simp; first | done | (with_reducible rfl)))
    simp only [Act.put, List.getElem_toArray, List.getElem_cons_zero, List.setIfInBounds_toArray, List.set_cons_zero, List.set_cons_succ]
    refine wpAnyH_take (i := 1) (v := ?v2) rfl (by kernel_rfl) (by kernel_rfl) (by kernel_rfl) (fun _ _ _ h => h) (Or.inl ⟨by rfl, ?hy2⟩) (by assumption) ?rest2
    case hy2 => ((intro w hSw; (try dsimp only at hSw); (try simp only [List.getElem_toArray, List.getElem_cons_zero, List.getElem_cons_succ]); go_simp; first | done | (with_reducible rfl)))
    simp only [Act.put, List.getElem_toArray, List.getElem_cons_zero, List.getElem_cons_succ, List.setIfInBounds_toArray, List.set_cons_zero, List.set_cons_succ]
    refine wpAnyH_take (i := 2) (v := ?v3) rfl (by kernel_rfl) (by kernel_rfl) (by kernel_rfl) (fun _ _ _ h => h) (Or.inl ⟨by rfl, ?hy3⟩) (by assumption) ?rest3
    case hy3 => ((intro w hSw; (try dsimp only at hSw); (try simp only [List.getElem_toArray, List.getElem_cons_zero, List.getElem_cons_succ]); go_simp; first | done | (with_reducible rfl)))
    simp only [Act.put, List.getElem_toArray, List.getElem_cons_zero, List.getElem_cons_succ, List.setIfInBounds_toArray, List.set_cons_zero, List.set_cons_succ]
    refine wpAnyH_take (i := 3) (v := ?v4) rfl (by kernel_rfl) (by kernel_rfl) (by kernel_rfl) (fun _ _ _ h => h) (Or.inl ⟨by rfl, ?hy4⟩) (by assumption) ?rest4
    case hy4 => ((intro w hSw; (try dsimp only at hSw); (try simp only [List.getElem_toArray, List.getElem_cons_zero, List.getElem_cons_succ]); go_simp; first | done | (with_reducible rfl)))
    simp only [Act.put, List.getElem_toArray, List.getElem_cons_zero, List.getElem_cons_succ, List.setIfInBounds_toArray, List.set_cons_zero, List.set_cons_succ]
    refine wpAnyH_take (i := 5) (v := ?v5) rfl (by kernel_rfl) (by kernel_rfl) (by kernel_rfl) (fun _ _ _ h => h) (Or.inl ⟨by rfl, ?hy5⟩) (by assumption) ?rest5
    case hy5 => ((intro w hSw; (try dsimp only at hSw); (try simp only [List.getElem_toArray, List.getElem_cons_zero, List.getElem_cons_succ]); go_simp; first | done | (with_reducible rfl)))
    simp only [Act.put, List.getElem_toArray, List.getElem_cons_zero, List.getElem_cons_succ, List.setIfInBounds_toArray, List.set_cons_zero, List.set_cons_succ]
    refine wpAnyH_take (i := 6) (v := ?v6) rfl (by kernel_rfl) (by kernel_rfl) (by kernel_rfl) (fun _ _ _ h => h) (Or.inl ⟨by rfl, ?hy6⟩) (by assumption) ?rest6
    case hy6 => ((intro w hSw; (try dsimp only at hSw); (try simp only [List.getElem_toArray, List.getElem_cons_zero, List.getElem_cons_succ]); go_simp; first | done | (with_reducible rfl)))
    simp only [Act.put, List.getElem_toArray, List.getElem_cons_zero, List.getElem_cons_succ, List.setIfInBounds_toArray, List.set_cons_zero, List.set_cons_succ]
    refine wpAnyH_take (i := 7) (v := ?v7) rfl (by kernel_rfl) (by kernel_rfl) (by kernel_rfl) (fun _ _ _ h => h) (Or.inl ⟨by rfl, ?hy7⟩) (by assumption) ?rest7
    case hy7 => ((intro w hSw; (try dsimp only at hSw); (try simp only [List.getElem_toArray, List.getElem_cons_zero, List.getElem_cons_succ]); go_simp; first | done | (with_reducible rfl)))
    simp only [Act.put, List.getElem_toArray, List.getElem_cons_zero, List.getElem_cons_succ, List.setIfInBounds_toArray, List.set_cons_zero, List.set_cons_succ]
    refine wpAnyH_take (i := 8) (v := ?v8) rfl (by kernel_rfl) (by kernel_rfl) (by kernel_rfl) (fun _ _ _ h => h) (Or.inl ⟨by rfl, ?hy8⟩) (by assumption) ?rest8
    case hy8 => ((intro w hSw; (try dsimp only at hSw); (try simp only [List.getElem_toArray, List.getElem_cons_zero, List.getElem_cons_succ]); go_simp; first | done | (with_reducible rfl)))
    simp only [Act.put, List.getElem_toArray, List.getElem_cons_zero, List.getElem_cons_succ, List.setIfInBounds_toArray, List.set_cons_zero, List.set_cons_succ]
    refine wpAnyH_take (i := 9) (v := ?v9) rfl (by kernel_rfl) (by kernel_rfl) (by kernel_rfl) (fun _ _ _ h => h) (Or.inl ⟨by rfl, ?hy9⟩) (by assumption) ?rest9
    case hy9 => ((intro w hSw; (try dsimp only at hSw); (try simp only [List.getElem_toArray, List.getElem_cons_zero, List.getElem_cons_succ]); go_simp; first | done | (with_reducible rfl)))
    simp only [Act.put, List.getElem_toArray, List.getElem_cons_zero, List.getElem_cons_succ, List.setIfInBounds_toArray, List.set_cons_zero, List.set_cons_succ]
    refine wpAnyH_take (i := 10) (v := .agg #[.int .i64 x.c0, .int .i64 x.c1, .int .i64 x.c2, .int .i64 x.c3, .int .i64 x.c4, .int .i64 x.c5, .int .i64 x.c6, .int .i64 x.c7, .int .i64 x.c8, .int .i64 x.c9]) rfl (by kernel_rfl) (by kernel_rfl) (by kernel_rfl) (fun _ _ _ h => h) (yields_at rfl 36 (.tmp 28) rfl (w.heap.size) (6) rfl #[.int .i64 x.c0, .int .i64 x.c1, .int .i64 x.c2, .int .i64 x.c3, .int .i64 x.c4, .int .i64 x.c5, .int .i64 x.c6, .int .i64 x.c7, .int .i64 x.c8, .int .i64 x.c9] _ (fun w' h => fC.out w' h.1) Try.underlying36 rfl infoCm10) (by assumption) ?_
    simp only [Act.put, List.getElem_toArray, List.getElem_cons_zero, List.getElem_cons_succ, List.setIfInBounds_toArray, List.set_cons_zero, List.set_cons_succ]
    refine wpAnyH_take (i := 11) (v := .agg (#[.int .i64 x.a4, .int .i64 x.a3, .int .i64 x.c0, .int .i64 x.c1, .int .i64 x.c2, .int .i64 x.c3, .int .i64 x.c4, .int .i64 x.c5, .int .i64 x.c6, .int .i64 x.c7, .int .i64 x.c8, .int .i64 x.c9] : Array Value)) rfl (by kernel_rfl) (by kernel_rfl) (by kernel_rfl) (fun _ _ _ h => h) (yields_build rfl 56 _ rfl [(0, .int .i64 x.a4), (1, .int .i64 x.a3), (2, .agg #[.int .i64 x.c0, .int .i64 x.c1, .int .i64 x.c2, .int .i64 x.c3, .int .i64 x.c4, .int .i64 x.c5, .int .i64 x.c6, .int .i64 x.c7, .int .i64 x.c8, .int .i64 x.c9])] _ ((by (conv => lhs; simp only [List.map_toArray, List.map_cons, List.map_nil]); rfl)) (builtPaper x.a4 x.a3 x)) (by assumption) ?_
    simp only [Act.put, List.getElem_toArray, List.getElem_cons_zero, List.getElem_cons_succ, List.setIfInBounds_toArray, List.set_cons_zero, List.set_cons_succ]
    refine wpAnyH_ready (rs := [4]) (by kernel_rfl) (by simp) ?_
    refine AllReadyH.cons rfl (fun K hK => ?_) AllReadyH.nil
    go_simp
    (skip)
    refine hK.out _ _ ?_ (fun hHeld => ?_)
    · exact fS.out _ (bKeeps dd C0.out)
    clear hK K
    refine wpAnyH_ready (rs := [12]) (by kernel_rfl) (by simp) ?_
    refine AllReadyH.cons rfl (fun K hK => ?_) AllReadyH.nil
    go_simp
    (go_at_call 112; refine cW.mono ?_; rintro e V4 ⟨v4, rfl, own, b4⟩; have b4' : Below V2.heap.size V2 V4 := bAll dd b4; obtain ⟨so4, sc4, rfl, hc4⟩ := owns_shape own; have kg : V4.cell? ⟨g, 1, none⟩ = some (.slice so n sc) := boxAt (bKeeps b4' Hg2.out) 1; have kg' : V4.frozen? ⟨g, 1, none⟩ = false := boxFz (bKeeps b4' Hg2.out) 1)
    refine hK.out _ _ ?_ (fun hHeld => ?_)
    · exact fS.out _ (bKeeps b4' C0.out)
    clear hK K
    have Hg4 := hide (bKeeps b4' Hg2.out)
    have D0 := hide (bKeeps b4' C0.out)
    have D1 := hide (bKeeps b4' C1.out)
    have z4 := b4'.size
    have w4 : Upd (fun j => j = g) w V4 := w2.trans (Upd.ofBelow b4')
    have u5 : Upd (fun j => j = g) V4 (V4.setCell ⟨g, 1, none⟩ (.slice so4 X.length sc4)) := Upd.setCell _ _ _ _ rfl
    have R5 := row_keep_box (by decide) (Row.ofOwns own (by omega)) Hg4.out u5
    have Hg5 : (V4.setCell ⟨g, 1, none⟩ (.slice so4 X.length sc4)).heap[g]? = some (.cells #[.int .i64 x.a3, .slice so4 X.length sc4] 35 (0, 0)) := row_set _ Hg4.out
    have E1 := hide (u5.keeps D1.out (by omega))
    have w5 := w4.trans u5
    have z5 := u5.size
    have HG5 := hide Hg5
    have HR5 := hide R5
    have HW5 := hide w5
    clear cW own Hg5 R5 w5
    have hgs : ¬ g = w.heap.size := by omega
    refine wpAnyH_take (i := 13) (v := ?v10) rfl (by kernel_rfl) (by kernel_rfl) (by kernel_rfl) (fun _ _ _ h => h) (Or.inl ⟨by rfl, ?hy10⟩) (by assumption) ?rest10
    case hy10 => ((intro w hSw; (try dsimp only at hSw); (try simp only [List.getElem_toArray, List.getElem_cons_zero, List.getElem_cons_succ]); go_simp; first | done | (with_reducible rfl)))
    simp only [Act.put, List.getElem_toArray, List.getElem_cons_zero, List.getElem_cons_succ, List.setIfInBounds_toArray, List.set_cons_zero, List.set_cons_succ]
    refine wpAnyH_take (i := 14) (v := ?v11) rfl (by kernel_rfl) (by kernel_rfl) (by kernel_rfl) (fun _ _ _ h => h) (Or.inl ⟨by rfl, ?hy11⟩) (by assumption) ?rest11
    case hy11 => ((intro w hSw; (try dsimp only at hSw); (try simp only [List.getElem_toArray, List.getElem_cons_zero, List.getElem_cons_succ]); go_simp; first | done | (with_reducible rfl)))
    simp only [Act.put, List.getElem_toArray, List.getElem_cons_zero, List.getElem_cons_succ, List.setIfInBounds_toArray, List.set_cons_zero, List.set_cons_succ]
    refine wpAnyH_ready (rs := [15]) (by kernel_rfl) (by simp) ?_
    refine AllReadyH.cons rfl (fun K hK => ?_) AllReadyH.nil
    go_simp
    (skip)
    refine hK.out _ _ ?_ (fun hHeld => ?_)
    · exact fS.out _ (u5.keeps D0.out (by omega))
    clear hK K
    refine wpAnyH_done (by kernel_rfl) ?_ _
    refine NoPanic.normal ?_
    clear hHeld
    generalize World.setCell _ _ _ = V5 at HG5 HR5 HW5 E1 z5 ⊢
    clear u5 kg kg' Hg4 D0 D1 w4
    go_wp2_with (first | (refine wpList_builtKind 4 rfl _ rfl ?hp ?_; (case hp => ((conv => lhs; simp only [List.map_toArray, List.map_cons, List.map_nil]); rfl))) | (refine wpList_store_row rfl 40 (.tmp 4) (.tmp 34) rfl (w.heap.size + 1) (backA 4 0 0 0 0 0 zeroW) rfl rfl _ _ E1.out infoWd (show (26 : Nat) = 26 from rfl) (all_of_list rfl) ?_))
    rw [HQ2.out]
    have s8 := updRow V5 (w.heap.size + 1) (backA 4 0 0 0 0 0 zeroW)
    refine bodyPost_ret (v := .agg (backA 4 0 0 0 0 0 zeroW)) (results_cell_row Try.results58 _ _ (w.heap.size + 1) _ _ (0, 0) _ rfl (setRow_heap _ _ _ _ _ _ E1.out) Try.underlying40 rfl infoWd) rfl ?_
    exact ⟨rfl, ⟨so4, sc4, s8.keeps HG5.out (by omega), hc4, (row_keep_box (by decide) HR5.out E1.out s8).mono (fun k _ h => .inr (by omega))⟩, upd_late HW5.out s8 (fun k hk => by omega)⟩
  · have d1 : decide (x.a3 < P) = true := by simp; omega
    have HQ2 : Hid (q = (P, xs, 5, P)) := by
      show _ = _
      rw [← HQ.out, accR, if_neg hlp]
    clear hlp
    go_wp2
    go_quiet (fail)
    generalize hV : World.drewN W _ = V
    have bV : Below W.heap.size W V := by rw [← hV]; exact below_drewN (Below.refl _ _) _
    clear hV k3 kP
    have zV := bV.size
    have zW := ZW.out
    go_wp2_with fail
    refine (deny_any g P _ V (bKeeps bV Hg.out)).mono ?_
    rintro e V2 ⟨rfl, b2⟩
    have b2' := bAll bV b2
    have z2 := b2'.size
    have Hg2 := hide (bKeeps b2' Hg.out)
    have E2 := hide (bKeeps b2' B1.out)
    have R2 := hide (Hr.out.keepB b2')
    go_wp2_with (refine wpList_store_row rfl 40 (.tmp 4) (.tmp 13) rfl (w.heap.size + 1) (backA 5 0 0 0 0 P zeroW) rfl rfl _ _ E2.out infoWd (show (26 : Nat) = 26 from rfl) (all_of_list rfl) ?_)
    rw [HQ2.out]
    have s8 := updRow V2 (w.heap.size + 1) (backA 5 0 0 0 0 P zeroW)
    refine bodyPost_ret (v := .agg (backA 5 0 0 0 0 P zeroW)) (results_cell_row Try.results58 _ _ (w.heap.size + 1) _ _ (0, 0) _ rfl (setRow_heap _ _ _ _ _ _ E2.out) Try.underlying40 rfl infoWd) rfl ?_
    refine ⟨rfl, ⟨so, sc, ?_, by rw [Hl.out]; exact hcap, ?_⟩, upd_late (Upd.ofBelow (bAll al b2')) s8 (fun k hk => by omega)⟩
    · rw [Hl.out]
      exact s8.keeps Hg2.out (by omega)
    · rw [Hl.out]
      exact (row_keep_box (by decide) R2.out E2.out s8).mono (fun k _ h => .inl h)

end Go.Proofs.Ytiigcokbmggdkaa
