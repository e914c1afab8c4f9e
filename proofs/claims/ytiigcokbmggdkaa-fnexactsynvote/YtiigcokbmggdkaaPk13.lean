/- Contracts and plain facts that this claim leans on (texts VU, VR, VQ2); no statement of the seat is proved here. -/
import Derived.Laws.ResultCell
import Derived.Test.YtiigcokbmggdkaaPk9
import Derived.Test.YtiigcokbmggdkaaPk12
import Derived.Test.YtiigcokbmggdkaaPk11

/- Words that are nothing, copies, results: laws; no statement of the seat is proved here. -/
namespace Go.Proofs.Ytiigcokbmggdkaa
open Go.RowKit

theorem built34z : Try.prog.built 40 [] = some #[.int .i64 0, .int .i64 0, .int .i64 0, .int .i64 0, .int .i64 0, .int .i64 0, .int .i64 0, .int .i64 0, .int .i64 0, .int .i64 0, .int .i64 0, .int .i64 0, .int .i64 0, .int .i64 0, .int .i64 0, .int .i64 0, .int .i64 0, .int .i64 0, .int .i64 0, .int .i64 0, .int .i64 0, .int .i64 0, .int .i64 0, .int .i64 0, .slice none 0 0, .slice none 0 0] := by kernel_rfl
theorem wpList_built34z {ops : Array Oper} {rest : List Oper} {o : Oper} {a : Act} {w : World} {Q : Exit → Act → World → Prop} (hg : o.guard = none) (parts : Array (Nat × Operand)) (ho : o.op = .build 40 parts) (hp : (parts.map fun (i, x) => (i, a.eval x)).toList = [])
    (h : wpList Try.prog ops Q rest (a.put o.dst (.agg #[.int .i64 0, .int .i64 0, .int .i64 0, .int .i64 0, .int .i64 0, .int .i64 0, .int .i64 0, .int .i64 0, .int .i64 0, .int .i64 0, .int .i64 0, .int .i64 0, .int .i64 0, .int .i64 0, .int .i64 0, .int .i64 0, .int .i64 0, .int .i64 0, .int .i64 0, .int .i64 0, .int .i64 0, .int .i64 0, .int .i64 0, .int .i64 0, .slice none 0 0, .slice none 0 0])) w) : wpList Try.prog ops Q (o :: rest) a w :=
  wpList_build hg 40 parts ho (by rw [hp, built34z]; rfl) (by rw [hp, built34z]; exact h)
theorem wpList_load_rowG {P : Program} {ops : Array Oper} {rest : List Oper} {o : Oper} {a : Act} {w : World} {Q : Exit → Act → World → Prop} (hgd : Region.wanted o (yielded ops a.tmps) = true) (ty : TypeId) (x : Operand) (ho : o.op = .load ty x)
    (g : Nat) (hx : a.eval x = .pointer (some ⟨g, 0, none⟩)) (t : TypeId) (cs : Array Value) (fr : Nat × Nat) (d : TypeDesc) (hg : w.heap[g]? = some (.cells cs t fr))
    (hu : P.underlying ty = some d) (hd : (match d with | .struct _ | .array _ _ => true | _ => false) = true) (hi : (P.info? ty).map (·.size) = some cs.size)
    (h : wpList P ops Q rest (a.put o.dst (.agg cs)) w) : wpList P ops Q (o :: rest) a w :=
  wpList_step fun _ hK => by rw [if_pos hgd]; exact wp_load_row ty x ho g hx t cs fr d hg hu hd hi (hK _ _ h)
theorem zeroRow (w : World) (S : Nat → Prop) : WdO w S (.agg #[.int .i64 0, .int .i64 0, .int .i64 0, .int .i64 0, .int .i64 0, .int .i64 0, .int .i64 0, .int .i64 0, .int .i64 0, .int .i64 0, .int .i64 0, .int .i64 0, .int .i64 0, .int .i64 0, .int .i64 0, .int .i64 0, .int .i64 0, .int .i64 0, .int .i64 0, .int .i64 0, .int .i64 0, .int .i64 0, .int .i64 0, .int .i64 0, .slice none 0 0, .slice none 0 0]) zeroW := ⟨none, 0, none, 0, rfl, Row.nil _ _ _ _, Row.nil _ _ _ _⟩
theorem wp_copyA0 {P : Program} {o : Oper} {a : Act} {w : World} {K : Act → World → Prop} {Q : Exit → Act → World → Prop} (s x : Operand) (t : TypeId)
    (ho : o.op = .call { callee := .builtin .append, args := #[s, x], argTypes := #[t, t] })
    (base : Nat) (e : TypeId) (i : TypeInfo) (z : Value) (size bytes : Nat) (ht : P.underlying t = some (.slice e)) (hi : P.info? e = some i) (hz : i.zero = some z)
    (hsize : i.size = size) (hby : i.bytes = bytes) (hzs : z.cells.size = size) (hsz : 0 < size)
    (v0 : Value) (hs : a.eval s = v0) (hown : RowA w base e size v0 0 [])
    (vx : Value) (m : Nat) (news : List Value) (hx : a.eval x = vx) (hr : RowR w size vx m news) (h1 : ∀ u ∈ news, u.oneCell' = true)
    (h63 : m ≤ 1048576) (hbytes : m * bytes ≤ 140737488355328) (hbase : base ≤ w.heap.size)
    (h : ∀ v' w', RowA w' base e size v' m news → Upd (typed w (fun k => base ≤ k) e) w w' → K (a.put o.dst v') w') : Oper.wp P o a w K Q := by
  obtain ⟨ao, c, rfl, _, hl, hr⟩ := hr
  rcases Nat.eq_zero_or_pos m with rfl | hpos
  · obtain rfl : news = [] := List.eq_nil_of_length_eq_zero (by simpa using hl)
    obtain ⟨ao0, c0, rfl⟩ := hown.shape
    have hrun : (Builtin.append_ #[t, t] o.type #[.slice ao0 0 c0, .slice ao 0 c]).run P w = .ok (.slice ao0 0 c0) w := by
      cases ao <;> cases ao0 <;> simp [Builtin.append_, run_underlying ht, sizeOf, typeInfo, hi, Builtin.lenOf, Builtin.firstCells, storeCells, loadCells, loadCellsFrom]
    unfold Oper.wp
    simp [execOp, ho, resolve, invoke, builtin, hs, hx, hrun, Result.andThen]
    exact h _ w hown (Upd.refl _ _)
  · obtain ⟨b, off, rfl, hc⟩ := hr hpos
    refine wp_appendA s x t ho base e i z size bytes ht hi hz hsize hby hzs hsz _ 0 [] hs hown ⟨b, off, none⟩ m c news hx hl (fun j u hj => by rw [Addr.add_lit]; exact hc j u hj) h1 hpos (by unfold maxLen; omega) (by rw [Nat.zero_add]; exact hbytes) hbase ?_
    intro v' w' r1 r2
    rw [Nat.zero_add, List.nil_append] at r1
    exact h v' w' (.inl r1) r2
theorem roomA {w : World} {base : Nat} {e : TypeId} {size : Nat} {v : Value} {n : Nat} {cs : List Value} (h : RowA w base e size v n cs) : ∃ ao ca, v = .slice ao n ca ∧ n ≤ ca := by
  rcases h with h | ⟨rfl, _, ao, rfl⟩
  · exact owns_shape h
  · exact ⟨ao, 0, rfl, Nat.le_refl _⟩

end Go.Proofs.Ytiigcokbmggdkaa

/- Laws for functions that give two structs and a truth; what a voter's answer is; no statement of the seat is proved here. -/
namespace Go.Proofs.Ytiigcokbmggdkaa
open Go.RowKit

theorem results_cell_cell_tmp {fn : Func} {p q t : Tmp} {ty ty2 : TypeId} (h : fn.results = #[.cell p ty, .cell q ty2, .tmp t]) (tmps : Array Value) (P : Program) (w : World) :
    (results fn tmps).run P w =
      ((asAddr (tmps.getD p undef)).run P w).andThen fun a w₁ => ((loadVar ty a).run P w₁).andThen fun v w₂ => ((asAddr (tmps.getD q undef)).run P w₂).andThen fun a2 w₃ => ((loadVar ty2 a2).run P w₃).andThen fun v2 w₄ => .ok (.tuple #[v, v2, tmps.getD t undef]) w₄ := by
  simp only [results, h]
  simp [Sem.run_bind, Result.andThen]

theorem results_row_row_tmp {P : Program} {fn : Func} {p q t : Tmp} {ty ty2 : TypeId} (h : fn.results = #[.cell p ty, .cell q ty2, .tmp t]) (tmps : Array Value) (w : World) (g g2 : Nat) (t1 t2 : TypeId) (cs ds : Array Value) (fr fr2 : Nat × Nat) (d d2 : TypeDesc) (b : Value)
    (hp : tmps.getD p undef = .pointer (some ⟨g, 0, none⟩)) (hq : tmps.getD q undef = .pointer (some ⟨g2, 0, none⟩)) (hb : tmps.getD t undef = b) (hg : w.heap[g]? = some (.cells cs t1 fr)) (hg2 : w.heap[g2]? = some (.cells ds t2 fr2))
    (hu : P.underlying ty = some d) (hd : (match d with | .struct _ | .array _ _ => true | _ => false) = true) (hi : (P.info? ty).map (·.size) = some cs.size)
    (hu2 : P.underlying ty2 = some d2) (hd2 : (match d2 with | .struct _ | .array _ _ => true | _ => false) = true) (hi2 : (P.info? ty2).map (·.size) = some ds.size) :
    (results fn tmps).run P w = .ok (.tuple #[.agg cs, .agg ds, b]) w := by
  rw [results_cell_cell_tmp h, hp, hq, hb]
  simp [asAddr, Result.andThen, run_loadVar_row w g t1 ty cs fr d hg hu hd hi, run_loadVar_row w g2 t2 ty2 ds fr2 d2 hg2 hu2 hd2 hi2]

theorem yields_build {P : Program} {ops : Array Oper} {S : World → Prop} {op : Oper} {a : Act} (hw : Region.wanted op (yielded ops a.tmps) = true) (ty : TypeId) (parts : Array (Nat × Operand)) (ho : op.op = .build ty parts)
    (ps : List (Nat × Value)) (cells : Array Value) (hp : (parts.map fun (i, x) => (i, a.eval x)).toList = ps) (hb : P.built ty ps = some cells) : YieldsIf P ops S op (.agg cells) a :=
  .inl ⟨hw, fun w _ => by
    unfold execOp
    simp only [ho, Sem.run_bind, run_build w ty _ cells (by rw [hp]; exact hb), Result.andThen_ok]
    rfl⟩

theorem al4_0 (w : World) (a b c d : Obj) : ((((w.alloc a).alloc b).alloc c).alloc d).heap[w.heap.size]? = some a := (Below.heap_alloc _ _ _ (by simp <;> omega)).trans (al3_0 w a b c)
theorem al4_1 (w : World) (a b c d : Obj) : ((((w.alloc a).alloc b).alloc c).alloc d).heap[w.heap.size + 1]? = some b := (Below.heap_alloc _ _ _ (by simp <;> omega)).trans (al3_1 w a b c)
theorem al4_2 (w : World) (a b c d : Obj) : ((((w.alloc a).alloc b).alloc c).alloc d).heap[w.heap.size + 1 + 1]? = some c := (Below.heap_alloc _ _ _ (by simp)).trans (al3_2 w a b c)
theorem al4_3 (w : World) (a b c d : Obj) : ((((w.alloc a).alloc b).alloc c).alloc d).heap[w.heap.size + 1 + 1 + 1]? = some d := by have := al3_2 (w.alloc a) b c d; rwa [World.size_alloc] at this

theorem updRow (w : World) (g : Nat) (cs : Array Value) : Upd (fun j => j = g) w (w.setRow g cs) := ⟨rfl, rfl, rfl, by simp, fun _ _ h => setRow_other _ _ _ _ h⟩

theorem infoSv2 : (Try.prog.info? 35).map (·.size) = some 2 := by kernel_rfl

/-- What a voter gives: itself and its answer, in memory of their own. -/
def VoteO (w : World) (R : Int × List Pp × Wd × Bool) (v u : Value) (w' : World) : Prop := VtO w' (fun k => w.heap.size ≤ k) v R.1 R.2.1 ∧ WdO w' (fun k => w.heap.size ≤ k) u R.2.2.1 ∧ Below w.heap.size w w'

/-- What is read of a word, of its numbers and its command. -/
theorem WdR.cells {w : World} {cs : Array Value} {x : Wd} (h : WdR w (.agg cs) x) : cs[0]? = some (.int .i64 x.a0) ∧ cs[1]? = some (.int .i64 x.a1) ∧ cs[3]? = some (.int .i64 x.a3) ∧ cs[4]? = some (.int .i64 x.a4) ∧ cs[5]? = some (.int .i64 x.a5) ∧ ∀ j z, (#[.int .i64 x.c0, .int .i64 x.c1, .int .i64 x.c2, .int .i64 x.c3, .int .i64 x.c4, .int .i64 x.c5, .int .i64 x.c6, .int .i64 x.c7, .int .i64 x.c8, .int .i64 x.c9] : Array Value)[j]? = some z → cs[6 + j]? = some z := by
  obtain ⟨po, pc, lo, lc, e, -, -⟩ := h
  injection e with e
  subst e
  refine ⟨rfl, rfl, rfl, rfl, rfl, fun j z hj => ?_⟩
  have hj' : j < 10 := (Array.getElem?_eq_some_iff.1 hj).1
  rcases (by omega : j = 0 ∨ j = 1 ∨ j = 2 ∨ j = 3 ∨ j = 4 ∨ j = 5 ∨ j = 6 ∨ j = 7 ∨ j = 8 ∨ j = 9) with rfl | rfl | rfl | rfl | rfl | rfl | rfl | rfl | rfl | rfl <;> exact hj

theorem typed_keeps {V V' : World} {S : Nat → Prop} {e f : TypeId} {g : Nat} {c : Array Value} (hne : e ≠ f) (hu : Upd (typed V S e) V V') (h : V.heap[g]? = some (.cells c f (0, 0))) : V'.heap[g]? = some (.cells c f (0, 0)) :=
  hu.keeps h (fun ⟨_, c', hc⟩ => by rw [h] at hc; simp at hc; exact hne hc.2.symm)
theorem row_keep_box {w w' : World} {S : Nat → Prop} {e f : TypeId} {g size n : Nat} {c : Array Value} {v : Value} {cs : List Value} (hne : e ≠ f) (h : Row w e size S v n cs) (hg : w.heap[g]? = some (.cells c f (0, 0))) (hu : Upd (fun j => j = g) w w') : Row w' e size S v n cs :=
  (h.typed.keep hu (fun k ⟨_, c', hc⟩ hk => by rw [hk, hg] at hc; simp at hc; exact hne hc.2.symm)).mono (fun _ _ h => h.1)
theorem firstV_cases (s : Int) (xs : List Pp) : (firstV s xs = -1 ∧ xs.find? (fun p => decide (p.1 = s)) = none) ∨ ∃ (k : Nat) (p : Pp), xs[k]? = some p ∧ firstV s xs = (k : Int) ∧ xs.find? (fun p => decide (p.1 = s)) = some p := by
  cases hf : xs.findIdx? (fun p => decide (p.1 = s)) with
  | none => exact .inl ⟨by simp [firstV, hf], find_none (by simp [firstV, hf])⟩
  | some i =>
    have h1 : firstV s xs = (i : Int) := by simp [firstV, hf]
    rw [List.findIdx?_eq_some_iff_getElem] at hf
    obtain ⟨hl, -, -⟩ := hf
    exact .inr ⟨i, xs[i], List.getElem?_eq_getElem hl, h1, find_first (List.getElem?_eq_getElem hl) h1⟩
theorem okV_asc {P : Int} {xs : List Pp} (h : okV P xs = true) : xs.length ≤ 60 ∧ Asc ordV xs := by
  simp only [okV, Bool.and_eq_true] at h
  obtain ⟨l1, -, l3⟩ := (ok_iff ordOkV).1 h.2
  exact ⟨l1, l3⟩

theorem builtPaper (s b : Int) (x : Wd) : Try.prog.built 56 [(0, .int .i64 s), (1, .int .i64 b), (2, .agg #[.int .i64 x.c0, .int .i64 x.c1, .int .i64 x.c2, .int .i64 x.c3, .int .i64 x.c4, .int .i64 x.c5, .int .i64 x.c6, .int .i64 x.c7, .int .i64 x.c8, .int .i64 x.c9])] = some (#[.int .i64 s, .int .i64 b, .int .i64 x.c0, .int .i64 x.c1, .int .i64 x.c2, .int .i64 x.c3, .int .i64 x.c4, .int .i64 x.c5, .int .i64 x.c6, .int .i64 x.c7, .int .i64 x.c8, .int .i64 x.c9] : Array Value) := by kernel_rfl
theorem wpList_builtPaper {ops : Array Oper} {rest : List Oper} {o : Oper} {a : Act} {w : World} {Q : Exit → Act → World → Prop} (s b : Int) (x : Wd) (hg : o.guard = none) (parts : Array (Nat × Operand)) (ho : o.op = .build 56 parts)
    (hp : (parts.map fun (i, x) => (i, a.eval x)).toList = [(0, .int .i64 s), (1, .int .i64 b), (2, .agg #[.int .i64 x.c0, .int .i64 x.c1, .int .i64 x.c2, .int .i64 x.c3, .int .i64 x.c4, .int .i64 x.c5, .int .i64 x.c6, .int .i64 x.c7, .int .i64 x.c8, .int .i64 x.c9])])
    (h : wpList Try.prog ops Q rest (a.put o.dst (.agg (#[.int .i64 s, .int .i64 b, .int .i64 x.c0, .int .i64 x.c1, .int .i64 x.c2, .int .i64 x.c3, .int .i64 x.c4, .int .i64 x.c5, .int .i64 x.c6, .int .i64 x.c7, .int .i64 x.c8, .int .i64 x.c9] : Array Value))) w) : wpList Try.prog ops Q (o :: rest) a w :=
  wpList_build hg 56 parts ho (by rw [hp, builtPaper]; rfl) (by rw [hp, builtPaper]; exact h)

theorem pparr_cmd {s b : Int} {x : Wd} {j : Nat} {z : Value} (hj : (#[.int .i64 x.c0, .int .i64 x.c1, .int .i64 x.c2, .int .i64 x.c3, .int .i64 x.c4, .int .i64 x.c5, .int .i64 x.c6, .int .i64 x.c7, .int .i64 x.c8, .int .i64 x.c9] : Array Value)[j]? = some z) : (pparr (s, b, x))[2 + j]? = some z := by
  have hj' : j < 10 := (Array.getElem?_eq_some_iff.1 hj).1
  rcases (by omega : j = 0 ∨ j = 1 ∨ j = 2 ∨ j = 3 ∨ j = 4 ∨ j = 5 ∨ j = 6 ∨ j = 7 ∨ j = 8 ∨ j = 9) with rfl | rfl | rfl | rfl | rfl | rfl | rfl | rfl | rfl | rfl <;> exact hj

end Go.Proofs.Ytiigcokbmggdkaa

/- A paper is put into papers: contracts; no statement of the seat is proved here. -/
namespace Go.Proofs.Ytiigcokbmggdkaa
open Go.RowKit

theorem ppcell_one (p : Pp) : ∀ u ∈ ppcell p, u.oneCell' = true := fun u hu => Array.all_eq_true_iff_forall_mem.1 (pparr_one p) u (by simpa [ppcell] using hu)
theorem ppcells_one (xs : List Pp) : ∀ u ∈ ppcells xs, u.oneCell' = true := fm_one ppcell_one xs
theorem owns_insV {w : World} {base base' : Nat} {e : TypeId} {v : Value} {q m : Nat} {us bs ys : List Pp} {x : Pp} (h : w.ownsRow base e 12 v (q + 1 + m) ((ppcells us ++ ppcell x) ++ ppcells bs)) (hb : base' ≤ base) (hy : us ++ x :: bs = ys ∧ ys.length = q + 1 + m) : w.ownsRow base' e 12 v ys.length (ppcells ys) := by
  obtain ⟨rfl, hl⟩ := hy
  have e1 : ppcells (us ++ x :: bs) = (ppcells us ++ ppcell x) ++ ppcells bs := by simp [ppcells]
  rw [e1, hl]
  exact owns_mono h hb
theorem newV_cells (w : World) (p : Pp) (e : TypeId) : ∀ j u, (ppcell p)[j]? = some u → (w.alloc (.cells (pparr p) e)).cell? ((⟨w.heap.size, 0, none⟩ : Addr).add j) = some u := by
  intro j u h
  rw [Addr.add_lit, Nat.zero_add, boxAt (al1_0 w _)]
  simpa [ppcell] using h
theorem newV_later (w : World) (p : Pp) (e : TypeId) {w2 : World} (hb : Below (w.alloc (.cells (pparr p) e)).heap.size (w.alloc (.cells (pparr p) e)) w2) : ∀ j u, (ppcell p)[j]? = some u → w2.cell? ((⟨w.heap.size, 0, none⟩ : Addr).add j) = some u := by
  intro j u h
  have h1 := newV_cells w p e j u h
  rw [Addr.add_lit] at h1 ⊢
  exact (hb.cell (p := ⟨w.heap.size, 0 + j, none⟩) (by simp)).trans h1

set_option maxRecDepth 100000 in
set_option maxHeartbeats 4000000 in
theorem withV_any (ao : Option Addr) (ca : Nat) (xs : List Pp) (s b : Int) (x : Wd) (w : World) (hr : RowR w 12 (.slice ao xs.length ca) xs.length (ppcells xs)) (hca : xs.length ≤ ca) (hn : xs.length ≤ 60) (hs : Asc ordV xs) :
    Calls Try.prog 112 #[.slice ao xs.length ca, .agg (#[.int .i64 s, .int .i64 b, .int .i64 x.c0, .int .i64 x.c1, .int .i64 x.c2, .int .i64 x.c3, .int .i64 x.c4, .int .i64 x.c5, .int .i64 x.c6, .int .i64 x.c7, .int .i64 x.c8, .int .i64 x.c9] : Array Value), .func (.func 80) #[] #[] ] w fun e w' => ∃ v', e = .returned v' ∧ w'.ownsRow w.heap.size 56 12 v' (insL ordV xs (s, b, x)).length (ppcells (insL ordV xs (s, b, x))) ∧ Below w.heap.size w w' := by
  obtain ⟨i1, gi, gz0, gz1, gz2⟩ := info_parts infoPp
  have Hr := hide hr
  obtain ⟨n, hnn⟩ : ∃ n, xs.length = n := ⟨_, rfl⟩
  have Hl := hide hnn
  rw [hnn] at hn hr hca ⊢
  have hal : Below w.heap.size w (w.alloc (.cells (pparr (s, b, x)) 56)) := (Below.refl _ _).alloc (Nat.le_refl _) _
  obtain ⟨W, hW⟩ : ∃ W, W = w.alloc (.cells (pparr (s, b, x)) 56) := ⟨_, rfl⟩
  have B0 : Hid (W.heap[w.heap.size]? = some (.cells (pparr (s, b, x)) 56 (0, 0))) := by show _ = _; rw [hW]; exact al1_0 w _
  rw [← hW] at hal
  have HS := hide hs
  have cF := findV_any _ xs s b x W (Hr.out.keep hal) (by omega) hs
  rw [hnn] at cF Hr
  clear hs hnn
  have hcai : (n : Int) ≤ (ca : Int) := by omega
  have hPA : (#[.int .i64 s, .int .i64 b, .int .i64 x.c0, .int .i64 x.c1, .int .i64 x.c2, .int .i64 x.c3, .int .i64 x.c4, .int .i64 x.c5, .int .i64 x.c6, .int .i64 x.c7, .int .i64 x.c8, .int .i64 x.c9] : Array Value) = (pparr (s, b, x)) := rfl
  rw [hPA]
  clear hPA
  go_enter Try.func112, Try.ntmps112
  go_wp2_with (refine wpList_load_row rfl 56 (.tmp 4) rfl w.heap.size rfl _ _ (0, 0) _ (heap_alloc_new w (.cells (pparr (s, b, x)) 56)) Try.underlying56 rfl infoPpS ?_)
  rw [← hW]
  clear hW
  refine cF.mono ?_
  clear cF
  rintro e w1 ⟨q, there, rfl, hat, b1⟩
  have hqn : q ≤ n := by have := hat.le; have := Hl.out; omega
  have hqi : (q : Int) ≤ (n : Int) := by omega
  have hqc : q ≤ ca := by omega
  have hw1 : w.heap.size ≤ w1.heap.size := Nat.le_trans hal.size b1.size
  have kt : Hid (∀ c', RowR w1 12 (.slice ao q c') q (ppcells (xs.take q))) := by
    show ∀ c', RowR _ _ _ _ _
    intro c'
    have := RowR.take (k := q) (c' := c') (Hr.out.keep (bAll hal b1)) hqn
    rwa [ppcells, fm_take ppcell_len] at this
  have hI := hide (ins_at ordOkV HS.out hat)
  cases there
  · simp only [Bool.false_eq_true, if_false] at hI
    by_cases hcq : ca = q
    · have kb : Hid (∀ c', RowR w1 12 (.slice ao (n - q) c') (n - q) (ppcells (xs.drop q))) := by
        show ∀ c', RowR _ _ _ _ _
        intro c'
        rw [List.drop_of_length_le (by rw [Hl.out]; omega), show n - q = 0 by omega]
        exact RowR.zero
      replace hI : Hid (xs.take q ++ (s, b, x) :: xs.drop q = insL ordV xs (s, b, x) ∧ (insL ordV xs (s, b, x)).length = q + 1 + (n - q)) := ⟨hI.out, by rw [← hI.out]; simp; have := Hl.out; omega⟩
      clear hr Hr
      go_wp2
      refine wp_region_noPanic ?_
      refine wp_region_held_drew (S := (fun w' => w'.heap[w.heap.size]? = some (.cells (pparr (s, b, x)) 56 (0, 0)))) (by kernel_rfl) ?_ (fun hHeld => ?_)
      · exact bKeeps (bAll b1 (bDrew1 _)) B0.out
      refine wpAnyH_take (i := 0) (v := ?v1) rfl (by kernel_rfl) (by kernel_rfl) (by kernel_rfl) (fun _ _ _ h => h) (Or.inl ⟨by rfl, ?hy1⟩) (by assumption) ?rest1
      case hy1 => ((intro w hSw; (try dsimp only at hSw); (try simp only [List.getElem_toArray, List.getElem_cons_zero]); go_simp; first | done | (with_reducible rfl)))
      simp only [Act.put, List.getElem_toArray, List.getElem_cons_zero, List.setIfInBounds_toArray, List.set_cons_zero, List.set_cons_succ]
      refine wpAnyH_take (i := 1) (v := ?v2) rfl (by kernel_rfl) (by kernel_rfl) (by kernel_rfl) (fun _ _ _ h => h) (Or.inl ⟨by rfl, ?hy2⟩) (by assumption) ?rest2
      case hy2 => ((intro w hSw; (try dsimp only at hSw); (try simp only [List.getElem_toArray, List.getElem_cons_zero, List.getElem_cons_succ]); go_simp; first | done | (with_reducible rfl)))
      simp only [Act.put, List.getElem_toArray, List.getElem_cons_zero, List.getElem_cons_succ, List.setIfInBounds_toArray, List.set_cons_zero, List.set_cons_succ]
      refine wpAnyH_take (i := 2) (v := ?v3) rfl (by kernel_rfl) (by kernel_rfl) (by kernel_rfl) (fun _ _ _ h => h) (Or.inl ⟨by rfl, ?hy3⟩) (by assumption) ?rest3
      case hy3 => ((intro w hSw; (try dsimp only at hSw); (try simp only [List.getElem_toArray, List.getElem_cons_zero, List.getElem_cons_succ]); go_simp; first | done | (with_reducible rfl)))
      simp only [Act.put, List.getElem_toArray, List.getElem_cons_zero, List.getElem_cons_succ, List.setIfInBounds_toArray, List.set_cons_zero, List.set_cons_succ]
      refine wpAnyH_take (i := 4) (v := .agg (#[.int .i64 s, .int .i64 b, .int .i64 x.c0, .int .i64 x.c1, .int .i64 x.c2, .int .i64 x.c3, .int .i64 x.c4, .int .i64 x.c5, .int .i64 x.c6, .int .i64 x.c7, .int .i64 x.c8, .int .i64 x.c9] : Array Value)) rfl (by kernel_rfl) (by kernel_rfl) (by kernel_rfl) (fun _ _ _ h => h) (yields_row rfl 56 (.tmp 4) rfl (w.heap.size) rfl _ (#[.int .i64 s, .int .i64 b, .int .i64 x.c0, .int .i64 x.c1, .int .i64 x.c2, .int .i64 x.c3, .int .i64 x.c4, .int .i64 x.c5, .int .i64 x.c6, .int .i64 x.c7, .int .i64 x.c8, .int .i64 x.c9] : Array Value) _ (fun _ h => h) Try.underlying56 rfl infoPpS) (by assumption) ?_
      simp only [Act.put, List.getElem_toArray, List.getElem_cons_zero, List.getElem_cons_succ, List.setIfInBounds_toArray, List.set_cons_zero, List.set_cons_succ]
      refine wpAnyH_take (i := 7) (v := ?v4) rfl (by kernel_rfl) (by kernel_rfl) (by kernel_rfl) (fun _ _ _ h => h) (Or.inl ⟨by rfl, ?hy4⟩) (by assumption) ?rest4
      case hy4 => ((intro w hSw; (try dsimp only at hSw); (try simp only [List.getElem_toArray, List.getElem_cons_zero, List.getElem_cons_succ]); go_simp; first | done | (with_reducible rfl)))
      simp only [Act.put, List.getElem_toArray, List.getElem_cons_zero, List.getElem_cons_succ, List.setIfInBounds_toArray, List.set_cons_zero, List.set_cons_succ]
      refine wpAnyH_ready (rs := [3, 5]) (by kernel_rfl) (by simp) ?_
      refine AllReadyH.cons rfl (fun K hK => ?_) (AllReadyH.cons rfl (fun K hK => ?_) AllReadyH.nil)
      · go_simp
        (go_at_call 54; refine (copyV_any _ q (ppcells (xs.take q)) _ ((kt.out _).keep (bDrew1 _)) (ppcells_one _) (by omega)).mono ?_; rintro e w2 ⟨v2, rfl, r2, b2⟩; have b2' : Below w1.heap.size w1 w2 := bAll (bDrew1 _) b2)
        refine hK.out _ _ ?_ (fun hHeld => ?_)
        · exact bKeeps (bAll b1 b2') B0.out
        clear hK K
        refine wpAnyH_ready (rs := [5]) (by kernel_rfl) (by simp) ?_
        refine AllReadyH.cons rfl (fun K hK => ?_) AllReadyH.nil
        go_simp
        refine hK.out _ _ ?_ (fun hHeld => ?_)
        · exact bKeeps (bAll b1 (bAlloc b2' _)) B0.out
        clear hK K
        refine wpAnyH_ready (rs := [6]) (by kernel_rfl) (by simp) ?_
        refine AllReadyH.cons rfl (fun K hK => ?_) AllReadyH.nil
        refine step_appendA rfl (.tmp 26) (.tmp 28) 33 rfl w1.heap.size 56 i1 (.agg #[.int .i64 0, .int .i64 0, .int .i64 0, .int .i64 0, .int .i64 0, .int .i64 0, .int .i64 0, .int .i64 0, .int .i64 0, .int .i64 0, .int .i64 0, .int .i64 0]) 12 96 Try.underlying33 gi gz0 gz1 gz2 rfl (by decide) v2 q (ppcells (xs.take q)) rfl (RowA.keepB (.inl r2) (bAlloc (Below.refl _ _) _)) ⟨w2.heap.size, 0, none⟩ 1 1 (ppcell (s, b, x)) rfl rfl (newV_cells w2 (s, b, x) _) (ppcell_one _) (by decide) (by unfold maxLen; omega) (by omega) (bAlloc b2' _).size ?_
        intro v3 w3 r3 u3
        have b3 : Below w1.heap.size w1 w3 := bAll3 (bAlloc b2' _) u3
        refine hK.out _ _ ?_ (fun hHeld => ?_)
        · exact bKeeps (bAll b1 b3) B0.out
        clear hK K
        refine wpAnyH_ready (rs := [8]) (by kernel_rfl) (by simp) ?_
        refine AllReadyH.cons rfl (fun K hK => ?_) AllReadyH.nil
        refine step_append_row rfl (.tmp 29) (.tmp 30) 33 rfl w1.heap.size 56 i1 (.agg #[.int .i64 0, .int .i64 0, .int .i64 0, .int .i64 0, .int .i64 0, .int .i64 0, .int .i64 0, .int .i64 0, .int .i64 0, .int .i64 0, .int .i64 0, .int .i64 0]) 12 96 Try.underlying33 gi gz0 gz1 gz2 rfl (by decide) v3 (q + 1) _ rfl r3 _ (n - q) (ppcells (xs.drop (q))) rfl ((kb.out _).keep b3) (ppcells_one _) (by omega) (by omega) b3.size ?_
        intro v4 w4 r4 b4
        have b4' : Below w1.heap.size w1 w4 := b3.trans b4
        refine hK.out _ _ ?_ (fun hHeld => ?_)
        · exact bKeeps (bAll b1 b4') B0.out
        clear hK K
        refine wpAnyH_take (i := 9) (v := ?v5) rfl (by kernel_rfl) (by kernel_rfl) (by kernel_rfl) (fun _ _ _ h => h) (Or.inl ⟨by rfl, ?hy5⟩) (by assumption) ?rest5
        case hy5 => ((intro w hSw; (try dsimp only at hSw); (try simp only [List.getElem_toArray, List.getElem_cons_zero, List.getElem_cons_succ]); go_simp; first | done | (with_reducible rfl)))
        simp only [Act.put, List.getElem_toArray, List.getElem_cons_zero, List.getElem_cons_succ, List.setIfInBounds_toArray, List.set_cons_zero, List.set_cons_succ]
        refine wpAnyH_done (by kernel_rfl) ?_ _
        refine NoPanic.normal ?_
        go_wp2
        go_ret
        exact ⟨_, rfl, owns_insV r4 hw1 hI.out, bAll hal (bAll b1 b4')⟩
      · go_simp
        refine hK.out _ _ ?_ (fun hHeld => ?_)
        · exact bKeeps (bAll b1 (bAlloc (bDrew1 _) _)) B0.out
        clear hK K
        refine wpAnyH_ready (rs := [3]) (by kernel_rfl) (by simp) ?_
        refine AllReadyH.cons rfl (fun K hK => ?_) AllReadyH.nil
        go_simp
        (go_at_call 54; refine (copyV_any _ q (ppcells (xs.take q)) _ ((kt.out _).keep (bAlloc (bDrew1 _) _)) (ppcells_one _) (by omega)).mono ?_; rintro e w2 ⟨v2, rfl, r2, b2⟩; have b2' : Below w1.heap.size w1 w2 := bAll (bAlloc (bDrew1 _) _) b2)
        refine hK.out _ _ ?_ (fun hHeld => ?_)
        · exact bKeeps (bAll b1 b2') B0.out
        clear hK K
        refine wpAnyH_ready (rs := [6]) (by kernel_rfl) (by simp) ?_
        refine AllReadyH.cons rfl (fun K hK => ?_) AllReadyH.nil
        refine step_appendA rfl (.tmp 26) (.tmp 28) 33 rfl w1.heap.size 56 i1 (.agg #[.int .i64 0, .int .i64 0, .int .i64 0, .int .i64 0, .int .i64 0, .int .i64 0, .int .i64 0, .int .i64 0, .int .i64 0, .int .i64 0, .int .i64 0, .int .i64 0]) 12 96 Try.underlying33 gi gz0 gz1 gz2 rfl (by decide) v2 q (ppcells (xs.take q)) rfl (RowA.mono (.inl r2) (by simp)) ⟨w1.heap.size, 0, none⟩ 1 1 (ppcell (s, b, x)) rfl rfl (newV_later w1.drew (s, b, x) _ b2) (ppcell_one _) (by decide) (by unfold maxLen; omega) (by omega) (b2').size ?_
        intro v3 w3 r3 u3
        have b3 : Below w1.heap.size w1 w3 := bAll3 (b2') u3
        refine hK.out _ _ ?_ (fun hHeld => ?_)
        · exact bKeeps (bAll b1 b3) B0.out
        clear hK K
        refine wpAnyH_ready (rs := [8]) (by kernel_rfl) (by simp) ?_
        refine AllReadyH.cons rfl (fun K hK => ?_) AllReadyH.nil
        refine step_append_row rfl (.tmp 29) (.tmp 30) 33 rfl w1.heap.size 56 i1 (.agg #[.int .i64 0, .int .i64 0, .int .i64 0, .int .i64 0, .int .i64 0, .int .i64 0, .int .i64 0, .int .i64 0, .int .i64 0, .int .i64 0, .int .i64 0, .int .i64 0]) 12 96 Try.underlying33 gi gz0 gz1 gz2 rfl (by decide) v3 (q + 1) _ rfl r3 _ (n - q) (ppcells (xs.drop (q))) rfl ((kb.out _).keep b3) (ppcells_one _) (by omega) (by omega) b3.size ?_
        intro v4 w4 r4 b4
        have b4' : Below w1.heap.size w1 w4 := b3.trans b4
        refine hK.out _ _ ?_ (fun hHeld => ?_)
        · exact bKeeps (bAll b1 b4') B0.out
        clear hK K
        refine wpAnyH_take (i := 9) (v := ?v6) rfl (by kernel_rfl) (by kernel_rfl) (by kernel_rfl) (fun _ _ _ h => h) (Or.inl ⟨by rfl, ?hy6⟩) (by assumption) ?rest6
        case hy6 => ((intro w hSw; (try dsimp only at hSw); (try simp only [List.getElem_toArray, List.getElem_cons_zero, List.getElem_cons_succ]); go_simp; first | done | (with_reducible rfl)))
        simp only [Act.put, List.getElem_toArray, List.getElem_cons_zero, List.getElem_cons_succ, List.setIfInBounds_toArray, List.set_cons_zero, List.set_cons_succ]
        refine wpAnyH_done (by kernel_rfl) ?_ _
        refine NoPanic.normal ?_
        go_wp2
        go_ret
        exact ⟨_, rfl, owns_insV r4 hw1 hI.out, bAll hal (bAll b1 b4')⟩
    · have kb : Hid (∀ c', RowR w1 12 (.slice (Option.map (fun x => x.add (q * 12)) ao) (n - q) c') (n - q) (ppcells (xs.drop q))) := by
        show ∀ c', RowR _ _ _ _ _
        intro c'
        have h0 := Hr.out.keep (bAll hal b1)
        rcases Nat.eq_zero_or_pos n with hn0 | hpos
        · have hq0 : n - q = 0 := by omega
          rw [hq0, List.drop_of_length_le (by rw [Hl.out]; omega)]
          exact RowR.zero
        · obtain ⟨bb, oo, rfl⟩ := h0.addr hpos
          have := RowR.drop (k := q) (c' := c') h0 hqn
          rw [ppcells, fm_drop ppcell_len] at this
          rw [Option.map_some, Addr.add_lit]
          exact this
      replace hI : Hid (xs.take q ++ (s, b, x) :: xs.drop q = insL ordV xs (s, b, x) ∧ (insL ordV xs (s, b, x)).length = q + 1 + (n - q)) := ⟨hI.out, by rw [← hI.out]; simp; have := Hl.out; omega⟩
      clear hr Hr
      go_wp2
      refine wp_region_noPanic ?_
      refine wp_region_held_drew (S := (fun w' => w'.heap[w.heap.size]? = some (.cells (pparr (s, b, x)) 56 (0, 0)))) (by kernel_rfl) ?_ (fun hHeld => ?_)
      · exact bKeeps (bAll b1 (bDrew1 _)) B0.out
      refine wpAnyH_take (i := 0) (v := ?v7) rfl (by kernel_rfl) (by kernel_rfl) (by kernel_rfl) (fun _ _ _ h => h) (Or.inl ⟨by rfl, ?hy7⟩) (by assumption) ?rest7
      case hy7 => ((intro w hSw; (try dsimp only at hSw); (try simp only [List.getElem_toArray, List.getElem_cons_zero]); go_simp; first | done | (with_reducible rfl)))
      simp only [Act.put, List.getElem_toArray, List.getElem_cons_zero, List.setIfInBounds_toArray, List.set_cons_zero, List.set_cons_succ]
      refine wpAnyH_take (i := 1) (v := ?v8) rfl (by kernel_rfl) (by kernel_rfl) (by kernel_rfl) (fun _ _ _ h => h) (Or.inl ⟨by rfl, ?hy8⟩) (by assumption) ?rest8
      case hy8 => ((intro w hSw; (try dsimp only at hSw); (try simp only [List.getElem_toArray, List.getElem_cons_zero, List.getElem_cons_succ]); go_simp; first | done | (with_reducible rfl)))
      simp only [Act.put, List.getElem_toArray, List.getElem_cons_zero, List.getElem_cons_succ, List.setIfInBounds_toArray, List.set_cons_zero, List.set_cons_succ]
      refine wpAnyH_take (i := 2) (v := ?v9) rfl (by kernel_rfl) (by kernel_rfl) (by kernel_rfl) (fun _ _ _ h => h) (Or.inl ⟨by rfl, ?hy9⟩) (by assumption) ?rest9
      case hy9 => ((intro w hSw; (try dsimp only at hSw); (try simp only [List.getElem_toArray, List.getElem_cons_zero, List.getElem_cons_succ]); go_simp; first | done | (with_reducible rfl)))
      simp only [Act.put, List.getElem_toArray, List.getElem_cons_zero, List.getElem_cons_succ, List.setIfInBounds_toArray, List.set_cons_zero, List.set_cons_succ]
      refine wpAnyH_take (i := 4) (v := .agg (#[.int .i64 s, .int .i64 b, .int .i64 x.c0, .int .i64 x.c1, .int .i64 x.c2, .int .i64 x.c3, .int .i64 x.c4, .int .i64 x.c5, .int .i64 x.c6, .int .i64 x.c7, .int .i64 x.c8, .int .i64 x.c9] : Array Value)) rfl (by kernel_rfl) (by kernel_rfl) (by kernel_rfl) (fun _ _ _ h => h) (yields_row rfl 56 (.tmp 4) rfl (w.heap.size) rfl _ (#[.int .i64 s, .int .i64 b, .int .i64 x.c0, .int .i64 x.c1, .int .i64 x.c2, .int .i64 x.c3, .int .i64 x.c4, .int .i64 x.c5, .int .i64 x.c6, .int .i64 x.c7, .int .i64 x.c8, .int .i64 x.c9] : Array Value) _ (fun _ h => h) Try.underlying56 rfl infoPpS) (by assumption) ?_
      simp only [Act.put, List.getElem_toArray, List.getElem_cons_zero, List.getElem_cons_succ, List.setIfInBounds_toArray, List.set_cons_zero, List.set_cons_succ]
      refine wpAnyH_take (i := 7) (v := ?v10) rfl (by kernel_rfl) (by kernel_rfl) (by kernel_rfl) (fun _ _ _ h => h) (Or.inl ⟨by rfl, ?hy10⟩) (by assumption) ?rest10
      case hy10 => ((intro w hSw; (try dsimp only at hSw); (try simp only [List.getElem_toArray, List.getElem_cons_zero, List.getElem_cons_succ]); go_simp; first | done | (with_reducible rfl)))
      simp only [Act.put, List.getElem_toArray, List.getElem_cons_zero, List.getElem_cons_succ, List.setIfInBounds_toArray, List.set_cons_zero, List.set_cons_succ]
      refine wpAnyH_ready (rs := [3, 5]) (by kernel_rfl) (by simp) ?_
      refine AllReadyH.cons rfl (fun K hK => ?_) (AllReadyH.cons rfl (fun K hK => ?_) AllReadyH.nil)
      · go_simp
        (go_at_call 54; refine (copyV_any _ q (ppcells (xs.take q)) _ ((kt.out _).keep (bDrew1 _)) (ppcells_one _) (by omega)).mono ?_; rintro e w2 ⟨v2, rfl, r2, b2⟩; have b2' : Below w1.heap.size w1 w2 := bAll (bDrew1 _) b2)
        refine hK.out _ _ ?_ (fun hHeld => ?_)
        · exact bKeeps (bAll b1 b2') B0.out
        clear hK K
        refine wpAnyH_ready (rs := [5]) (by kernel_rfl) (by simp) ?_
        refine AllReadyH.cons rfl (fun K hK => ?_) AllReadyH.nil
        go_simp
        refine hK.out _ _ ?_ (fun hHeld => ?_)
        · exact bKeeps (bAll b1 (bAlloc b2' _)) B0.out
        clear hK K
        refine wpAnyH_ready (rs := [6]) (by kernel_rfl) (by simp) ?_
        refine AllReadyH.cons rfl (fun K hK => ?_) AllReadyH.nil
        refine step_appendA rfl (.tmp 26) (.tmp 28) 33 rfl w1.heap.size 56 i1 (.agg #[.int .i64 0, .int .i64 0, .int .i64 0, .int .i64 0, .int .i64 0, .int .i64 0, .int .i64 0, .int .i64 0, .int .i64 0, .int .i64 0, .int .i64 0, .int .i64 0]) 12 96 Try.underlying33 gi gz0 gz1 gz2 rfl (by decide) v2 q (ppcells (xs.take q)) rfl (RowA.keepB (.inl r2) (bAlloc (Below.refl _ _) _)) ⟨w2.heap.size, 0, none⟩ 1 1 (ppcell (s, b, x)) rfl rfl (newV_cells w2 (s, b, x) _) (ppcell_one _) (by decide) (by unfold maxLen; omega) (by omega) (bAlloc b2' _).size ?_
        intro v3 w3 r3 u3
        have b3 : Below w1.heap.size w1 w3 := bAll3 (bAlloc b2' _) u3
        refine hK.out _ _ ?_ (fun hHeld => ?_)
        · exact bKeeps (bAll b1 b3) B0.out
        clear hK K
        refine wpAnyH_ready (rs := [8]) (by kernel_rfl) (by simp) ?_
        refine AllReadyH.cons rfl (fun K hK => ?_) AllReadyH.nil
        refine step_append_row rfl (.tmp 29) (.tmp 30) 33 rfl w1.heap.size 56 i1 (.agg #[.int .i64 0, .int .i64 0, .int .i64 0, .int .i64 0, .int .i64 0, .int .i64 0, .int .i64 0, .int .i64 0, .int .i64 0, .int .i64 0, .int .i64 0, .int .i64 0]) 12 96 Try.underlying33 gi gz0 gz1 gz2 rfl (by decide) v3 (q + 1) _ rfl r3 _ (n - q) (ppcells (xs.drop (q))) rfl ((kb.out _).keep b3) (ppcells_one _) (by omega) (by omega) b3.size ?_
        intro v4 w4 r4 b4
        have b4' : Below w1.heap.size w1 w4 := b3.trans b4
        refine hK.out _ _ ?_ (fun hHeld => ?_)
        · exact bKeeps (bAll b1 b4') B0.out
        clear hK K
        refine wpAnyH_take (i := 9) (v := ?v11) rfl (by kernel_rfl) (by kernel_rfl) (by kernel_rfl) (fun _ _ _ h => h) (Or.inl ⟨by rfl, ?hy11⟩) (by assumption) ?rest11
        case hy11 => ((intro w hSw; (try dsimp only at hSw); (try simp only [List.getElem_toArray, List.getElem_cons_zero, List.getElem_cons_succ]); go_simp; first | done | (with_reducible rfl)))
        simp only [Act.put, List.getElem_toArray, List.getElem_cons_zero, List.getElem_cons_succ, List.setIfInBounds_toArray, List.set_cons_zero, List.set_cons_succ]
        refine wpAnyH_done (by kernel_rfl) ?_ _
        refine NoPanic.normal ?_
        go_wp2
        go_ret
        exact ⟨_, rfl, owns_insV r4 hw1 hI.out, bAll hal (bAll b1 b4')⟩
      · go_simp
        refine hK.out _ _ ?_ (fun hHeld => ?_)
        · exact bKeeps (bAll b1 (bAlloc (bDrew1 _) _)) B0.out
        clear hK K
        refine wpAnyH_ready (rs := [3]) (by kernel_rfl) (by simp) ?_
        refine AllReadyH.cons rfl (fun K hK => ?_) AllReadyH.nil
        go_simp
        (go_at_call 54; refine (copyV_any _ q (ppcells (xs.take q)) _ ((kt.out _).keep (bAlloc (bDrew1 _) _)) (ppcells_one _) (by omega)).mono ?_; rintro e w2 ⟨v2, rfl, r2, b2⟩; have b2' : Below w1.heap.size w1 w2 := bAll (bAlloc (bDrew1 _) _) b2)
        refine hK.out _ _ ?_ (fun hHeld => ?_)
        · exact bKeeps (bAll b1 b2') B0.out
        clear hK K
        refine wpAnyH_ready (rs := [6]) (by kernel_rfl) (by simp) ?_
        refine AllReadyH.cons rfl (fun K hK => ?_) AllReadyH.nil
        refine step_appendA rfl (.tmp 26) (.tmp 28) 33 rfl w1.heap.size 56 i1 (.agg #[.int .i64 0, .int .i64 0, .int .i64 0, .int .i64 0, .int .i64 0, .int .i64 0, .int .i64 0, .int .i64 0, .int .i64 0, .int .i64 0, .int .i64 0, .int .i64 0]) 12 96 Try.underlying33 gi gz0 gz1 gz2 rfl (by decide) v2 q (ppcells (xs.take q)) rfl (RowA.mono (.inl r2) (by simp)) ⟨w1.heap.size, 0, none⟩ 1 1 (ppcell (s, b, x)) rfl rfl (newV_later w1.drew (s, b, x) _ b2) (ppcell_one _) (by decide) (by unfold maxLen; omega) (by omega) (b2').size ?_
        intro v3 w3 r3 u3
        have b3 : Below w1.heap.size w1 w3 := bAll3 (b2') u3
        refine hK.out _ _ ?_ (fun hHeld => ?_)
        · exact bKeeps (bAll b1 b3) B0.out
        clear hK K
        refine wpAnyH_ready (rs := [8]) (by kernel_rfl) (by simp) ?_
        refine AllReadyH.cons rfl (fun K hK => ?_) AllReadyH.nil
        refine step_append_row rfl (.tmp 29) (.tmp 30) 33 rfl w1.heap.size 56 i1 (.agg #[.int .i64 0, .int .i64 0, .int .i64 0, .int .i64 0, .int .i64 0, .int .i64 0, .int .i64 0, .int .i64 0, .int .i64 0, .int .i64 0, .int .i64 0, .int .i64 0]) 12 96 Try.underlying33 gi gz0 gz1 gz2 rfl (by decide) v3 (q + 1) _ rfl r3 _ (n - q) (ppcells (xs.drop (q))) rfl ((kb.out _).keep b3) (ppcells_one _) (by omega) (by omega) b3.size ?_
        intro v4 w4 r4 b4
        have b4' : Below w1.heap.size w1 w4 := b3.trans b4
        refine hK.out _ _ ?_ (fun hHeld => ?_)
        · exact bKeeps (bAll b1 b4') B0.out
        clear hK K
        refine wpAnyH_take (i := 9) (v := ?v12) rfl (by kernel_rfl) (by kernel_rfl) (by kernel_rfl) (fun _ _ _ h => h) (Or.inl ⟨by rfl, ?hy12⟩) (by assumption) ?rest12
        case hy12 => ((intro w hSw; (try dsimp only at hSw); (try simp only [List.getElem_toArray, List.getElem_cons_zero, List.getElem_cons_succ]); go_simp; first | done | (with_reducible rfl)))
        simp only [Act.put, List.getElem_toArray, List.getElem_cons_zero, List.getElem_cons_succ, List.setIfInBounds_toArray, List.set_cons_zero, List.set_cons_succ]
        refine wpAnyH_done (by kernel_rfl) ?_ _
        refine NoPanic.normal ?_
        go_wp2
        go_ret
        exact ⟨_, rfl, owns_insV r4 hw1 hI.out, bAll hal (bAll b1 b4')⟩
  · simp only [if_true] at hI
    have hql : q < n := by
      obtain ⟨y, hy, _⟩ := hat.th.1 rfl
      have := (List.getElem?_eq_some_iff.1 hy).1
      have := Hl.out
      omega
    obtain ⟨bb, oo, rfl⟩ := Hr.out.addr (by omega)
    have kb0 : Hid (∀ c', RowR w1 12 (.slice (some ⟨bb, oo + (q + 1) * 12, none⟩) (n - (q + 1)) c') (n - (q + 1)) (ppcells (xs.drop (q + 1)))) := by
      show ∀ c', RowR _ _ _ _ _
      intro c'
      have := RowR.drop (k := q + 1) (c' := c') (Hr.out.keep (bAll hal b1)) (by omega)
      rwa [ppcells, fm_drop ppcell_len] at this
    replace hI : Hid (xs.take q ++ (s, b, x) :: xs.drop (q + 1) = insL ordV xs (s, b, x) ∧ (insL ordV xs (s, b, x)).length = q + 1 + (n - (q + 1))) := ⟨hI.out, by rw [← hI.out]; simp; have := Hl.out; omega⟩
    have hne : ¬ ca = q := by omega
    have hge : (1 : Int) ≤ ((n - q : Nat) : Int) := by omega
    clear hr Hr
    by_cases hc1 : ca - q = 1
    · have hnq : n - q = 1 := by omega
      have hnq' : n - (q + 1) = 0 := by omega
      have kb : Hid (∀ c', RowR w1 12 (.slice (some ⟨bb, oo + q * 12, none⟩) 0 c') 0 (ppcells (xs.drop (q + 1)))) := by
        show ∀ c', RowR _ _ _ _ _
        intro c'
        rw [List.drop_of_length_le (by rw [Hl.out]; omega)]
        exact RowR.zero
      rw [hnq'] at hI
      rw [hnq] at hge
      clear kb0
      go_wp2
      refine wp_region_noPanic ?_
      refine wp_region_held_drew (S := (fun w' => w'.heap[w.heap.size]? = some (.cells (pparr (s, b, x)) 56 (0, 0)))) (by kernel_rfl) ?_ (fun hHeld => ?_)
      · exact bKeeps (bAll b1 (bDrew1 _)) B0.out
      refine wpAnyH_take (i := 0) (v := ?v13) rfl (by kernel_rfl) (by kernel_rfl) (by kernel_rfl) (fun _ _ _ h => h) (Or.inl ⟨by rfl, ?hy13⟩) (by assumption) ?rest13
      case hy13 => ((intro w hSw; (try dsimp only at hSw); (try simp only [List.getElem_toArray, List.getElem_cons_zero]); go_simp; first | done | (with_reducible rfl)))
      simp only [Act.put, List.getElem_toArray, List.getElem_cons_zero, List.setIfInBounds_toArray, List.set_cons_zero, List.set_cons_succ]
      refine wpAnyH_take (i := 1) (v := ?v14) rfl (by kernel_rfl) (by kernel_rfl) (by kernel_rfl) (fun _ _ _ h => h) (Or.inl ⟨by rfl, ?hy14⟩) (by assumption) ?rest14
      case hy14 => ((intro w hSw; (try dsimp only at hSw); (try simp only [List.getElem_toArray, List.getElem_cons_zero, List.getElem_cons_succ]); go_simp; first | done | (with_reducible rfl)))
      simp only [Act.put, List.getElem_toArray, List.getElem_cons_zero, List.getElem_cons_succ, List.setIfInBounds_toArray, List.set_cons_zero, List.set_cons_succ]
      refine wpAnyH_take (i := 2) (v := ?v15) rfl (by kernel_rfl) (by kernel_rfl) (by kernel_rfl) (fun _ _ _ h => h) (Or.inl ⟨by rfl, ?hy15⟩) (by assumption) ?rest15
      case hy15 => ((intro w hSw; (try dsimp only at hSw); (try simp only [List.getElem_toArray, List.getElem_cons_zero, List.getElem_cons_succ]); go_simp; first | done | (with_reducible rfl)))
      simp only [Act.put, List.getElem_toArray, List.getElem_cons_zero, List.getElem_cons_succ, List.setIfInBounds_toArray, List.set_cons_zero, List.set_cons_succ]
      refine wpAnyH_take (i := 4) (v := .agg (#[.int .i64 s, .int .i64 b, .int .i64 x.c0, .int .i64 x.c1, .int .i64 x.c2, .int .i64 x.c3, .int .i64 x.c4, .int .i64 x.c5, .int .i64 x.c6, .int .i64 x.c7, .int .i64 x.c8, .int .i64 x.c9] : Array Value)) rfl (by kernel_rfl) (by kernel_rfl) (by kernel_rfl) (fun _ _ _ h => h) (yields_row rfl 56 (.tmp 4) rfl (w.heap.size) rfl _ (#[.int .i64 s, .int .i64 b, .int .i64 x.c0, .int .i64 x.c1, .int .i64 x.c2, .int .i64 x.c3, .int .i64 x.c4, .int .i64 x.c5, .int .i64 x.c6, .int .i64 x.c7, .int .i64 x.c8, .int .i64 x.c9] : Array Value) _ (fun _ h => h) Try.underlying56 rfl infoPpS) (by assumption) ?_
      simp only [Act.put, List.getElem_toArray, List.getElem_cons_zero, List.getElem_cons_succ, List.setIfInBounds_toArray, List.set_cons_zero, List.set_cons_succ]
      refine wpAnyH_take (i := 7) (v := ?v16) rfl (by kernel_rfl) (by kernel_rfl) (by kernel_rfl) (fun _ _ _ h => h) (Or.inl ⟨by rfl, ?hy16⟩) (by assumption) ?rest16
      case hy16 => ((intro w hSw; (try dsimp only at hSw); (try simp only [List.getElem_toArray, List.getElem_cons_zero, List.getElem_cons_succ]); go_simp; first | done | (with_reducible rfl)))
      simp only [Act.put, List.getElem_toArray, List.getElem_cons_zero, List.getElem_cons_succ, List.setIfInBounds_toArray, List.set_cons_zero, List.set_cons_succ]
      refine wpAnyH_ready (rs := [3, 5]) (by kernel_rfl) (by simp) ?_
      refine AllReadyH.cons rfl (fun K hK => ?_) (AllReadyH.cons rfl (fun K hK => ?_) AllReadyH.nil)
      · go_simp
        (go_at_call 54; refine (copyV_any _ q (ppcells (xs.take q)) _ ((kt.out _).keep (bDrew1 _)) (ppcells_one _) (by omega)).mono ?_; rintro e w2 ⟨v2, rfl, r2, b2⟩; have b2' : Below w1.heap.size w1 w2 := bAll (bDrew1 _) b2)
        refine hK.out _ _ ?_ (fun hHeld => ?_)
        · exact bKeeps (bAll b1 b2') B0.out
        clear hK K
        refine wpAnyH_ready (rs := [5]) (by kernel_rfl) (by simp) ?_
        refine AllReadyH.cons rfl (fun K hK => ?_) AllReadyH.nil
        go_simp
        refine hK.out _ _ ?_ (fun hHeld => ?_)
        · exact bKeeps (bAll b1 (bAlloc b2' _)) B0.out
        clear hK K
        refine wpAnyH_ready (rs := [6]) (by kernel_rfl) (by simp) ?_
        refine AllReadyH.cons rfl (fun K hK => ?_) AllReadyH.nil
        refine step_appendA rfl (.tmp 26) (.tmp 28) 33 rfl w1.heap.size 56 i1 (.agg #[.int .i64 0, .int .i64 0, .int .i64 0, .int .i64 0, .int .i64 0, .int .i64 0, .int .i64 0, .int .i64 0, .int .i64 0, .int .i64 0, .int .i64 0, .int .i64 0]) 12 96 Try.underlying33 gi gz0 gz1 gz2 rfl (by decide) v2 q (ppcells (xs.take q)) rfl (RowA.keepB (.inl r2) (bAlloc (Below.refl _ _) _)) ⟨w2.heap.size, 0, none⟩ 1 1 (ppcell (s, b, x)) rfl rfl (newV_cells w2 (s, b, x) _) (ppcell_one _) (by decide) (by unfold maxLen; omega) (by omega) (bAlloc b2' _).size ?_
        intro v3 w3 r3 u3
        have b3 : Below w1.heap.size w1 w3 := bAll3 (bAlloc b2' _) u3
        refine hK.out _ _ ?_ (fun hHeld => ?_)
        · exact bKeeps (bAll b1 b3) B0.out
        clear hK K
        refine wpAnyH_ready (rs := [8]) (by kernel_rfl) (by simp) ?_
        refine AllReadyH.cons rfl (fun K hK => ?_) AllReadyH.nil
        refine step_append_row rfl (.tmp 29) (.tmp 30) 33 rfl w1.heap.size 56 i1 (.agg #[.int .i64 0, .int .i64 0, .int .i64 0, .int .i64 0, .int .i64 0, .int .i64 0, .int .i64 0, .int .i64 0, .int .i64 0, .int .i64 0, .int .i64 0, .int .i64 0]) 12 96 Try.underlying33 gi gz0 gz1 gz2 rfl (by decide) v3 (q + 1) _ rfl r3 _ 0 (ppcells (xs.drop (q + 1))) rfl ((kb.out _).keep b3) (ppcells_one _) (by omega) (by omega) b3.size ?_
        intro v4 w4 r4 b4
        have b4' : Below w1.heap.size w1 w4 := b3.trans b4
        refine hK.out _ _ ?_ (fun hHeld => ?_)
        · exact bKeeps (bAll b1 b4') B0.out
        clear hK K
        refine wpAnyH_take (i := 9) (v := ?v17) rfl (by kernel_rfl) (by kernel_rfl) (by kernel_rfl) (fun _ _ _ h => h) (Or.inl ⟨by rfl, ?hy17⟩) (by assumption) ?rest17
        case hy17 => ((intro w hSw; (try dsimp only at hSw); (try simp only [List.getElem_toArray, List.getElem_cons_zero, List.getElem_cons_succ]); go_simp; first | done | (with_reducible rfl)))
        simp only [Act.put, List.getElem_toArray, List.getElem_cons_zero, List.getElem_cons_succ, List.setIfInBounds_toArray, List.set_cons_zero, List.set_cons_succ]
        refine wpAnyH_done (by kernel_rfl) ?_ _
        refine NoPanic.normal ?_
        go_wp2
        go_ret
        exact ⟨_, rfl, owns_insV r4 hw1 hI.out, bAll hal (bAll b1 b4')⟩
      · go_simp
        refine hK.out _ _ ?_ (fun hHeld => ?_)
        · exact bKeeps (bAll b1 (bAlloc (bDrew1 _) _)) B0.out
        clear hK K
        refine wpAnyH_ready (rs := [3]) (by kernel_rfl) (by simp) ?_
        refine AllReadyH.cons rfl (fun K hK => ?_) AllReadyH.nil
        go_simp
        (go_at_call 54; refine (copyV_any _ q (ppcells (xs.take q)) _ ((kt.out _).keep (bAlloc (bDrew1 _) _)) (ppcells_one _) (by omega)).mono ?_; rintro e w2 ⟨v2, rfl, r2, b2⟩; have b2' : Below w1.heap.size w1 w2 := bAll (bAlloc (bDrew1 _) _) b2)
        refine hK.out _ _ ?_ (fun hHeld => ?_)
        · exact bKeeps (bAll b1 b2') B0.out
        clear hK K
        refine wpAnyH_ready (rs := [6]) (by kernel_rfl) (by simp) ?_
        refine AllReadyH.cons rfl (fun K hK => ?_) AllReadyH.nil
        refine step_appendA rfl (.tmp 26) (.tmp 28) 33 rfl w1.heap.size 56 i1 (.agg #[.int .i64 0, .int .i64 0, .int .i64 0, .int .i64 0, .int .i64 0, .int .i64 0, .int .i64 0, .int .i64 0, .int .i64 0, .int .i64 0, .int .i64 0, .int .i64 0]) 12 96 Try.underlying33 gi gz0 gz1 gz2 rfl (by decide) v2 q (ppcells (xs.take q)) rfl (RowA.mono (.inl r2) (by simp)) ⟨w1.heap.size, 0, none⟩ 1 1 (ppcell (s, b, x)) rfl rfl (newV_later w1.drew (s, b, x) _ b2) (ppcell_one _) (by decide) (by unfold maxLen; omega) (by omega) (b2').size ?_
        intro v3 w3 r3 u3
        have b3 : Below w1.heap.size w1 w3 := bAll3 (b2') u3
        refine hK.out _ _ ?_ (fun hHeld => ?_)
        · exact bKeeps (bAll b1 b3) B0.out
        clear hK K
        refine wpAnyH_ready (rs := [8]) (by kernel_rfl) (by simp) ?_
        refine AllReadyH.cons rfl (fun K hK => ?_) AllReadyH.nil
        refine step_append_row rfl (.tmp 29) (.tmp 30) 33 rfl w1.heap.size 56 i1 (.agg #[.int .i64 0, .int .i64 0, .int .i64 0, .int .i64 0, .int .i64 0, .int .i64 0, .int .i64 0, .int .i64 0, .int .i64 0, .int .i64 0, .int .i64 0, .int .i64 0]) 12 96 Try.underlying33 gi gz0 gz1 gz2 rfl (by decide) v3 (q + 1) _ rfl r3 _ 0 (ppcells (xs.drop (q + 1))) rfl ((kb.out _).keep b3) (ppcells_one _) (by omega) (by omega) b3.size ?_
        intro v4 w4 r4 b4
        have b4' : Below w1.heap.size w1 w4 := b3.trans b4
        refine hK.out _ _ ?_ (fun hHeld => ?_)
        · exact bKeeps (bAll b1 b4') B0.out
        clear hK K
        refine wpAnyH_take (i := 9) (v := ?v18) rfl (by kernel_rfl) (by kernel_rfl) (by kernel_rfl) (fun _ _ _ h => h) (Or.inl ⟨by rfl, ?hy18⟩) (by assumption) ?rest18
        case hy18 => ((intro w hSw; (try dsimp only at hSw); (try simp only [List.getElem_toArray, List.getElem_cons_zero, List.getElem_cons_succ]); go_simp; first | done | (with_reducible rfl)))
        simp only [Act.put, List.getElem_toArray, List.getElem_cons_zero, List.getElem_cons_succ, List.setIfInBounds_toArray, List.set_cons_zero, List.set_cons_succ]
        refine wpAnyH_done (by kernel_rfl) ?_ _
        refine NoPanic.normal ?_
        go_wp2
        go_ret
        exact ⟨_, rfl, owns_insV r4 hw1 hI.out, bAll hal (bAll b1 b4')⟩
    · have kb : Hid (∀ c', RowR w1 12 (.slice (some ⟨bb, oo + q * 12 + 12, none⟩) (n - q - 1) c') (n - q - 1) (ppcells (xs.drop (q + 1)))) := by
        show ∀ c', RowR _ _ _ _ _
        intro c'
        have := kb0.out c'
        rwa [Nat.add_mul, Nat.one_mul, ← Nat.add_assoc, ← Nat.sub_sub] at this
      rw [← Nat.sub_sub] at hI
      clear kb0
      go_wp2
      refine wp_region_noPanic ?_
      refine wp_region_held_drew (S := (fun w' => w'.heap[w.heap.size]? = some (.cells (pparr (s, b, x)) 56 (0, 0)))) (by kernel_rfl) ?_ (fun hHeld => ?_)
      · exact bKeeps (bAll b1 (bDrew1 _)) B0.out
      refine wpAnyH_take (i := 0) (v := ?v19) rfl (by kernel_rfl) (by kernel_rfl) (by kernel_rfl) (fun _ _ _ h => h) (Or.inl ⟨by rfl, ?hy19⟩) (by assumption) ?rest19
      case hy19 => ((intro w hSw; (try dsimp only at hSw); (try simp only [List.getElem_toArray, List.getElem_cons_zero]); go_simp; first | done | (with_reducible rfl)))
      simp only [Act.put, List.getElem_toArray, List.getElem_cons_zero, List.setIfInBounds_toArray, List.set_cons_zero, List.set_cons_succ]
      refine wpAnyH_take (i := 1) (v := ?v20) rfl (by kernel_rfl) (by kernel_rfl) (by kernel_rfl) (fun _ _ _ h => h) (Or.inl ⟨by rfl, ?hy20⟩) (by assumption) ?rest20
      case hy20 => ((intro w hSw; (try dsimp only at hSw); (try simp only [List.getElem_toArray, List.getElem_cons_zero, List.getElem_cons_succ]); go_simp; first | done | (with_reducible rfl)))
      simp only [Act.put, List.getElem_toArray, List.getElem_cons_zero, List.getElem_cons_succ, List.setIfInBounds_toArray, List.set_cons_zero, List.set_cons_succ]
      refine wpAnyH_take (i := 2) (v := ?v21) rfl (by kernel_rfl) (by kernel_rfl) (by kernel_rfl) (fun _ _ _ h => h) (Or.inl ⟨by rfl, ?hy21⟩) (by assumption) ?rest21
      case hy21 => ((intro w hSw; (try dsimp only at hSw); (try simp only [List.getElem_toArray, List.getElem_cons_zero, List.getElem_cons_succ]); go_simp; first | done | (with_reducible rfl)))
      simp only [Act.put, List.getElem_toArray, List.getElem_cons_zero, List.getElem_cons_succ, List.setIfInBounds_toArray, List.set_cons_zero, List.set_cons_succ]
      refine wpAnyH_take (i := 4) (v := .agg (#[.int .i64 s, .int .i64 b, .int .i64 x.c0, .int .i64 x.c1, .int .i64 x.c2, .int .i64 x.c3, .int .i64 x.c4, .int .i64 x.c5, .int .i64 x.c6, .int .i64 x.c7, .int .i64 x.c8, .int .i64 x.c9] : Array Value)) rfl (by kernel_rfl) (by kernel_rfl) (by kernel_rfl) (fun _ _ _ h => h) (yields_row rfl 56 (.tmp 4) rfl (w.heap.size) rfl _ (#[.int .i64 s, .int .i64 b, .int .i64 x.c0, .int .i64 x.c1, .int .i64 x.c2, .int .i64 x.c3, .int .i64 x.c4, .int .i64 x.c5, .int .i64 x.c6, .int .i64 x.c7, .int .i64 x.c8, .int .i64 x.c9] : Array Value) _ (fun _ h => h) Try.underlying56 rfl infoPpS) (by assumption) ?_
      simp only [Act.put, List.getElem_toArray, List.getElem_cons_zero, List.getElem_cons_succ, List.setIfInBounds_toArray, List.set_cons_zero, List.set_cons_succ]
      refine wpAnyH_take (i := 7) (v := ?v22) rfl (by kernel_rfl) (by kernel_rfl) (by kernel_rfl) (fun _ _ _ h => h) (Or.inl ⟨by rfl, ?hy22⟩) (by assumption) ?rest22
      case hy22 => ((intro w hSw; (try dsimp only at hSw); (try simp only [List.getElem_toArray, List.getElem_cons_zero, List.getElem_cons_succ]); go_simp; first | done | (with_reducible rfl)))
      simp only [Act.put, List.getElem_toArray, List.getElem_cons_zero, List.getElem_cons_succ, List.setIfInBounds_toArray, List.set_cons_zero, List.set_cons_succ]
      refine wpAnyH_ready (rs := [3, 5]) (by kernel_rfl) (by simp) ?_
      refine AllReadyH.cons rfl (fun K hK => ?_) (AllReadyH.cons rfl (fun K hK => ?_) AllReadyH.nil)
      · go_simp
        (go_at_call 54; refine (copyV_any _ q (ppcells (xs.take q)) _ ((kt.out _).keep (bDrew1 _)) (ppcells_one _) (by omega)).mono ?_; rintro e w2 ⟨v2, rfl, r2, b2⟩; have b2' : Below w1.heap.size w1 w2 := bAll (bDrew1 _) b2)
        refine hK.out _ _ ?_ (fun hHeld => ?_)
        · exact bKeeps (bAll b1 b2') B0.out
        clear hK K
        refine wpAnyH_ready (rs := [5]) (by kernel_rfl) (by simp) ?_
        refine AllReadyH.cons rfl (fun K hK => ?_) AllReadyH.nil
        go_simp
        refine hK.out _ _ ?_ (fun hHeld => ?_)
        · exact bKeeps (bAll b1 (bAlloc b2' _)) B0.out
        clear hK K
        refine wpAnyH_ready (rs := [6]) (by kernel_rfl) (by simp) ?_
        refine AllReadyH.cons rfl (fun K hK => ?_) AllReadyH.nil
        refine step_appendA rfl (.tmp 26) (.tmp 28) 33 rfl w1.heap.size 56 i1 (.agg #[.int .i64 0, .int .i64 0, .int .i64 0, .int .i64 0, .int .i64 0, .int .i64 0, .int .i64 0, .int .i64 0, .int .i64 0, .int .i64 0, .int .i64 0, .int .i64 0]) 12 96 Try.underlying33 gi gz0 gz1 gz2 rfl (by decide) v2 q (ppcells (xs.take q)) rfl (RowA.keepB (.inl r2) (bAlloc (Below.refl _ _) _)) ⟨w2.heap.size, 0, none⟩ 1 1 (ppcell (s, b, x)) rfl rfl (newV_cells w2 (s, b, x) _) (ppcell_one _) (by decide) (by unfold maxLen; omega) (by omega) (bAlloc b2' _).size ?_
        intro v3 w3 r3 u3
        have b3 : Below w1.heap.size w1 w3 := bAll3 (bAlloc b2' _) u3
        refine hK.out _ _ ?_ (fun hHeld => ?_)
        · exact bKeeps (bAll b1 b3) B0.out
        clear hK K
        refine wpAnyH_ready (rs := [8]) (by kernel_rfl) (by simp) ?_
        refine AllReadyH.cons rfl (fun K hK => ?_) AllReadyH.nil
        refine step_append_row rfl (.tmp 29) (.tmp 30) 33 rfl w1.heap.size 56 i1 (.agg #[.int .i64 0, .int .i64 0, .int .i64 0, .int .i64 0, .int .i64 0, .int .i64 0, .int .i64 0, .int .i64 0, .int .i64 0, .int .i64 0, .int .i64 0, .int .i64 0]) 12 96 Try.underlying33 gi gz0 gz1 gz2 rfl (by decide) v3 (q + 1) _ rfl r3 _ (n - q - 1) (ppcells (xs.drop (q + 1))) rfl ((kb.out _).keep b3) (ppcells_one _) (by omega) (by omega) b3.size ?_
        intro v4 w4 r4 b4
        have b4' : Below w1.heap.size w1 w4 := b3.trans b4
        refine hK.out _ _ ?_ (fun hHeld => ?_)
        · exact bKeeps (bAll b1 b4') B0.out
        clear hK K
        refine wpAnyH_take (i := 9) (v := ?v23) rfl (by kernel_rfl) (by kernel_rfl) (by kernel_rfl) (fun _ _ _ h => h) (Or.inl ⟨by rfl, ?hy23⟩) (by assumption) ?rest23
        case hy23 => ((intro w hSw; (try dsimp only at hSw); (try simp only [List.getElem_toArray, List.getElem_cons_zero, List.getElem_cons_succ]); go_simp; first | done | (with_reducible rfl)))
        simp only [Act.put, List.getElem_toArray, List.getElem_cons_zero, List.getElem_cons_succ, List.setIfInBounds_toArray, List.set_cons_zero, List.set_cons_succ]
        refine wpAnyH_done (by kernel_rfl) ?_ _
        refine NoPanic.normal ?_
        go_wp2
        go_ret
        exact ⟨_, rfl, owns_insV r4 hw1 hI.out, bAll hal (bAll b1 b4')⟩
      · go_simp
        refine hK.out _ _ ?_ (fun hHeld => ?_)
        · exact bKeeps (bAll b1 (bAlloc (bDrew1 _) _)) B0.out
        clear hK K
        refine wpAnyH_ready (rs := [3]) (by kernel_rfl) (by simp) ?_
        refine AllReadyH.cons rfl (fun K hK => ?_) AllReadyH.nil
        go_simp
        (go_at_call 54; refine (copyV_any _ q (ppcells (xs.take q)) _ ((kt.out _).keep (bAlloc (bDrew1 _) _)) (ppcells_one _) (by omega)).mono ?_; rintro e w2 ⟨v2, rfl, r2, b2⟩; have b2' : Below w1.heap.size w1 w2 := bAll (bAlloc (bDrew1 _) _) b2)
        refine hK.out _ _ ?_ (fun hHeld => ?_)
        · exact bKeeps (bAll b1 b2') B0.out
        clear hK K
        refine wpAnyH_ready (rs := [6]) (by kernel_rfl) (by simp) ?_
        refine AllReadyH.cons rfl (fun K hK => ?_) AllReadyH.nil
        refine step_appendA rfl (.tmp 26) (.tmp 28) 33 rfl w1.heap.size 56 i1 (.agg #[.int .i64 0, .int .i64 0, .int .i64 0, .int .i64 0, .int .i64 0, .int .i64 0, .int .i64 0, .int .i64 0, .int .i64 0, .int .i64 0, .int .i64 0, .int .i64 0]) 12 96 Try.underlying33 gi gz0 gz1 gz2 rfl (by decide) v2 q (ppcells (xs.take q)) rfl (RowA.mono (.inl r2) (by simp)) ⟨w1.heap.size, 0, none⟩ 1 1 (ppcell (s, b, x)) rfl rfl (newV_later w1.drew (s, b, x) _ b2) (ppcell_one _) (by decide) (by unfold maxLen; omega) (by omega) (b2').size ?_
        intro v3 w3 r3 u3
        have b3 : Below w1.heap.size w1 w3 := bAll3 (b2') u3
        refine hK.out _ _ ?_ (fun hHeld => ?_)
        · exact bKeeps (bAll b1 b3) B0.out
        clear hK K
        refine wpAnyH_ready (rs := [8]) (by kernel_rfl) (by simp) ?_
        refine AllReadyH.cons rfl (fun K hK => ?_) AllReadyH.nil
        refine step_append_row rfl (.tmp 29) (.tmp 30) 33 rfl w1.heap.size 56 i1 (.agg #[.int .i64 0, .int .i64 0, .int .i64 0, .int .i64 0, .int .i64 0, .int .i64 0, .int .i64 0, .int .i64 0, .int .i64 0, .int .i64 0, .int .i64 0, .int .i64 0]) 12 96 Try.underlying33 gi gz0 gz1 gz2 rfl (by decide) v3 (q + 1) _ rfl r3 _ (n - q - 1) (ppcells (xs.drop (q + 1))) rfl ((kb.out _).keep b3) (ppcells_one _) (by omega) (by omega) b3.size ?_
        intro v4 w4 r4 b4
        have b4' : Below w1.heap.size w1 w4 := b3.trans b4
        refine hK.out _ _ ?_ (fun hHeld => ?_)
        · exact bKeeps (bAll b1 b4') B0.out
        clear hK K
        refine wpAnyH_take (i := 9) (v := ?v24) rfl (by kernel_rfl) (by kernel_rfl) (by kernel_rfl) (fun _ _ _ h => h) (Or.inl ⟨by rfl, ?hy24⟩) (by assumption) ?rest24
        case hy24 => ((intro w hSw; (try dsimp only at hSw); (try simp only [List.getElem_toArray, List.getElem_cons_zero, List.getElem_cons_succ]); go_simp; first | done | (with_reducible rfl)))
        simp only [Act.put, List.getElem_toArray, List.getElem_cons_zero, List.getElem_cons_succ, List.setIfInBounds_toArray, List.set_cons_zero, List.set_cons_succ]
        refine wpAnyH_done (by kernel_rfl) ?_ _
        refine NoPanic.normal ?_
        go_wp2
        go_ret
        exact ⟨_, rfl, owns_insV r4 hw1 hI.out, bAll hal (bAll b1 b4')⟩

end Go.Proofs.Ytiigcokbmggdkaa
