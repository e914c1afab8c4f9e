/- Contracts and plain facts that this claim leans on (texts SK3, SK4, SH1, SK2, SH2, SH4); no statement of the seat is proved here. -/
import Derived.Deep.DeepCutAuto
import Derived.BigQuiet
import Derived.Test.YteddhdbglciahaaHk9

/- SynSeekerOk of the program: contracts; no statement of the seat is proved here. -/
namespace Go.Proofs.Yteddhdbglciahaa
open Go.RowKit

def noS (k : Sk) : Bool := k.s == 0 && (k.b == 0 && (k.ph == 0 && (isZ k.m && (isZP k.p && decide (k.ys.length = 0)))))
def yesI (ys : List Int) : Bool := decide (ys.length = 0) || (decide (ys.length = 1) && inI (ys.headD 0) 0 2)
def bestI (k : Sk) : Bool := isZP k.p || (ppI k.p && (decide (k.p.1 = k.s) && decide (k.p.2.1 < k.b)))
def mayS (k : Sk) : Bool := ppI (k.s, k.b, k.m) && (inI k.ph 1 2 && (yesI k.ys && bestI k))
def okS (k : Sk) : Bool := noS k || mayS k

theorem wpList_eqlCmd {ops : Array Oper} {rest : List Oper} {o : Oper} {a : Act} {w : World} {Q : Exit → Act → World → Prop} (hgd : Region.wanted o (yielded ops a.tmps) = true) (yt : TypeId) (x y : Operand) (ho : o.op = .binOp .eql 35 x y yt)
    (c : Wd) (hx : a.eval x = .agg #[.int .i64 c.c0, .int .i64 c.c1, .int .i64 c.c2, .int .i64 c.c3, .int .i64 c.c4, .int .i64 c.c5, .int .i64 c.c6, .int .i64 c.c7, .int .i64 c.c8, .int .i64 c.c9]) (hy : a.eval y = .agg #[.int .i64 0, .int .i64 0, .int .i64 0, .int .i64 0, .int .i64 0, .int .i64 0, .int .i64 0, .int .i64 0, .int .i64 0, .int .i64 0])
    (h : wpList Try.prog ops Q rest (a.put o.dst (.bool (isZ c))) w) : wpList Try.prog ops Q (o :: rest) a w :=
  wpList_step fun _ hK => by
    rw [if_pos hgd]
    unfold Oper.wp execOp
    simp only [ho, hx, hy, Sem.run_bind, guardCmd, Result.andThen_ok, eqlCmd0]
    exact hK _ _ h
theorem wpList_eqlPaper {ops : Array Oper} {rest : List Oper} {o : Oper} {a : Act} {w : World} {Q : Exit → Act → World → Prop} (hgd : Region.wanted o (yielded ops a.tmps) = true) (yt : TypeId) (x y : Operand) (ho : o.op = .binOp .eql 37 x y yt)
    (p : Pp) (hx : a.eval x = .agg (pparr p)) (hy : a.eval y = .agg #[.int .i64 0, .int .i64 0, .int .i64 0, .int .i64 0, .int .i64 0, .int .i64 0, .int .i64 0, .int .i64 0, .int .i64 0, .int .i64 0, .int .i64 0, .int .i64 0])
    (h : wpList Try.prog ops Q rest (a.put o.dst (.bool (isZP p))) w) : wpList Try.prog ops Q (o :: rest) a w :=
  wpList_step fun _ hK => by
    rw [if_pos hgd]
    have hx' : a.eval x = .agg (#[.int .i64 p.1, .int .i64 p.2.1, .int .i64 p.2.2.c0, .int .i64 p.2.2.c1, .int .i64 p.2.2.c2, .int .i64 p.2.2.c3, .int .i64 p.2.2.c4, .int .i64 p.2.2.c5, .int .i64 p.2.2.c6, .int .i64 p.2.2.c7, .int .i64 p.2.2.c8, .int .i64 p.2.2.c9] : Array Value) := hx
    unfold Oper.wp execOp
    simp only [ho, hx', hy, Sem.run_bind, guardPaper, Result.andThen_ok, eqlPaper0]
    exact hK _ _ h
theorem wpList_buildG {P : Program} {ops : Array Oper} {rest : List Oper} {o : Oper} {a : Act} {w : World} {Q : Exit → Act → World → Prop} (hgd : Region.wanted o (yielded ops a.tmps) = true) (ty : TypeId) (parts : Array (Nat × Operand)) (ho : o.op = .build ty parts)
    (ps : List (Nat × Value)) (cells : Array Value) (hp : (parts.map fun (i, x) => (i, a.eval x)).toList = ps) (hb : P.built ty ps = some cells)
    (h : wpList P ops Q rest (a.put o.dst (.agg cells)) w) : wpList P ops Q (o :: rest) a w :=
  wpList_step fun _ hK => by
    rw [if_pos hgd]
    unfold Oper.wp execOp
    simp only [ho, Sem.run_bind, run_build w ty _ cells (by rw [hp]; exact hb), Result.andThen_ok]
    exact hK _ _ h
theorem builtCmd0 : Try.prog.built 35 [] = some #[.int .i64 0, .int .i64 0, .int .i64 0, .int .i64 0, .int .i64 0, .int .i64 0, .int .i64 0, .int .i64 0, .int .i64 0, .int .i64 0] := by kernel_rfl
theorem builtPaper0 : Try.prog.built 37 [] = some #[.int .i64 0, .int .i64 0, .int .i64 0, .int .i64 0, .int .i64 0, .int .i64 0, .int .i64 0, .int .i64 0, .int .i64 0, .int .i64 0, .int .i64 0, .int .i64 0] := by kernel_rfl

set_option maxRecDepth 100000 in
set_option maxHeartbeats 8000000 in
theorem isNothing_any (g : Nat) (k : Sk) (yo : Option Addr) (yc : Nat) (w : World) (hg : w.heap[g]? = some (.cells (skarr k (.slice yo k.ys.length yc)) 39 (0, 0))) :
    Calls Try.prog 74 #[.pointer (some ⟨g, 0, none⟩)] w fun e w' => e = .returned (.bool (noS k)) ∧ w' = w := by
  obtain ⟨x0, x1, x2, xm, xp, -, -, xy⟩ := sk_cells hg
  clear hg
  by_cases h0 : k.s ≠ 0
  · have h00 : (k.s == 0) = false := by simpa using h0
    go_enter Try.func74, Try.ntmps74
    go_wp2
    go_ret
    exact ⟨by rw [noS, h00]; rfl, rfl⟩
  have h00 : (k.s == 0) = true := by simpa using h0
  by_cases h1 : k.b ≠ 0
  · have h11 : (k.b == 0) = false := by simpa using h1
    clear h0
    go_enter Try.func74, Try.ntmps74
    go_wp2
    go_ret
    exact ⟨by rw [noS, h00, h11]; rfl, rfl⟩
  have h11 : (k.b == 0) = true := by simpa using h1
  by_cases h2 : k.ph ≠ 0
  · have h22 : (k.ph == 0) = false := by simpa using h2
    clear h0 h1
    go_enter Try.func74, Try.ntmps74
    go_wp2
    go_ret
    exact ⟨by rw [noS, h00, h11, h22]; rfl, rfl⟩
  have h22 : (k.ph == 0) = true := by simpa using h2
  clear h0 h1 h2
  have hF : Hid (noS k = (isZ k.m && (isZP k.p && decide (k.ys.length = 0)))) := by show _ = _; rw [noS, h00, h11, h22]; rfl
  obtain ⟨j1, hj1⟩ : ∃ j, isZ k.m = j := ⟨_, rfl⟩
  obtain ⟨j2, hj2⟩ : ∃ j, isZP k.p = j := ⟨_, rfl⟩
  have H1 := hide hj1
  have H2 := hide hj2
  have hF2 : Hid (noS k = (j1 && (j2 && decide (k.ys.length = 0)))) := by show _ = _; rw [hF.out, hj1, hj2]
  clear hj1 hj2 hF
  go_enter Try.func74, Try.ntmps74
  cases j1
  · go_wp2_with (first
    | (refine wpList_load_at (by rfl) 35 (.tmp 25) rfl g 3 rfl #[.int .i64 k.m.c0, .int .i64 k.m.c1, .int .i64 k.m.c2, .int .i64 k.m.c3, .int .i64 k.m.c4, .int .i64 k.m.c5, .int .i64 k.m.c6, .int .i64 k.m.c7, .int .i64 k.m.c8, .int .i64 k.m.c9] _ xm Try.underlying35 rfl infoCm10 ?_)
    | (refine wpList_buildG (by rfl) 35 _ rfl [] _ rfl builtCmd0 ?_)
    | (refine wpList_eqlCmd (by rfl) _ _ _ rfl k.m rfl rfl ?_; rw [H1.out])
    | (refine wpList_load_at (by rfl) 37 (.tmp 33) rfl g 13 rfl (pparr k.p) _ xp Try.underlying37 rfl infoPpS ?_)
    | (refine wpList_buildG (by rfl) 37 _ rfl [] _ rfl builtPaper0 ?_)
    | (refine wpList_eqlPaper (by rfl) _ _ _ rfl k.p rfl rfl ?_; rw [H2.out]))
    go_ret
    exact ⟨by rw [hF2.out]; rfl, rfl⟩
  cases j2
  · go_wp2_with (first
    | (refine wpList_load_at (by rfl) 35 (.tmp 25) rfl g 3 rfl #[.int .i64 k.m.c0, .int .i64 k.m.c1, .int .i64 k.m.c2, .int .i64 k.m.c3, .int .i64 k.m.c4, .int .i64 k.m.c5, .int .i64 k.m.c6, .int .i64 k.m.c7, .int .i64 k.m.c8, .int .i64 k.m.c9] _ xm Try.underlying35 rfl infoCm10 ?_)
    | (refine wpList_buildG (by rfl) 35 _ rfl [] _ rfl builtCmd0 ?_)
    | (refine wpList_eqlCmd (by rfl) _ _ _ rfl k.m rfl rfl ?_; rw [H1.out])
    | (refine wpList_load_at (by rfl) 37 (.tmp 33) rfl g 13 rfl (pparr k.p) _ xp Try.underlying37 rfl infoPpS ?_)
    | (refine wpList_buildG (by rfl) 37 _ rfl [] _ rfl builtPaper0 ?_)
    | (refine wpList_eqlPaper (by rfl) _ _ _ rfl k.p rfl rfl ?_; rw [H2.out]))
    go_ret
    exact ⟨by rw [hF2.out]; rfl, rfl⟩
  by_cases hl : k.ys.length = 0
  · have hl1 : ((k.ys.length : Int) == 0) = true := by simp [hl]
    have HL : Hid (decide (k.ys.length = 0) = true) := decide_eq_true hl
    clear hl
    go_wp2_with (first
    | (refine wpList_load_at (by rfl) 35 (.tmp 25) rfl g 3 rfl #[.int .i64 k.m.c0, .int .i64 k.m.c1, .int .i64 k.m.c2, .int .i64 k.m.c3, .int .i64 k.m.c4, .int .i64 k.m.c5, .int .i64 k.m.c6, .int .i64 k.m.c7, .int .i64 k.m.c8, .int .i64 k.m.c9] _ xm Try.underlying35 rfl infoCm10 ?_)
    | (refine wpList_buildG (by rfl) 35 _ rfl [] _ rfl builtCmd0 ?_)
    | (refine wpList_eqlCmd (by rfl) _ _ _ rfl k.m rfl rfl ?_; rw [H1.out])
    | (refine wpList_load_at (by rfl) 37 (.tmp 33) rfl g 13 rfl (pparr k.p) _ xp Try.underlying37 rfl infoPpS ?_)
    | (refine wpList_buildG (by rfl) 37 _ rfl [] _ rfl builtPaper0 ?_)
    | (refine wpList_eqlPaper (by rfl) _ _ _ rfl k.p rfl rfl ?_; rw [H2.out]))
    go_ret
    exact ⟨by rw [hF2.out, HL.out]; rfl, rfl⟩
  · have hl1 : ((k.ys.length : Int) == 0) = false := beq_eq_false_iff_ne.2 (by omega)
    have HL : Hid (decide (k.ys.length = 0) = false) := decide_eq_false hl
    clear hl
    go_wp2_with (first
    | (refine wpList_load_at (by rfl) 35 (.tmp 25) rfl g 3 rfl #[.int .i64 k.m.c0, .int .i64 k.m.c1, .int .i64 k.m.c2, .int .i64 k.m.c3, .int .i64 k.m.c4, .int .i64 k.m.c5, .int .i64 k.m.c6, .int .i64 k.m.c7, .int .i64 k.m.c8, .int .i64 k.m.c9] _ xm Try.underlying35 rfl infoCm10 ?_)
    | (refine wpList_buildG (by rfl) 35 _ rfl [] _ rfl builtCmd0 ?_)
    | (refine wpList_eqlCmd (by rfl) _ _ _ rfl k.m rfl rfl ?_; rw [H1.out])
    | (refine wpList_load_at (by rfl) 37 (.tmp 33) rfl g 13 rfl (pparr k.p) _ xp Try.underlying37 rfl infoPpS ?_)
    | (refine wpList_buildG (by rfl) 37 _ rfl [] _ rfl builtPaper0 ?_)
    | (refine wpList_eqlPaper (by rfl) _ _ _ rfl k.p rfl rfl ?_; rw [H2.out]))
    go_ret
    exact ⟨by rw [hF2.out, HL.out]; rfl, rfl⟩

set_option maxRecDepth 100000 in
set_option maxHeartbeats 4000000 in
theorem yesFits_any (g : Nat) (k : Sk) (yo : Option Addr) (yc : Nat) (w : World) (hg : w.heap[g]? = some (.cells (skarr k (.slice yo k.ys.length yc)) 39 (0, 0))) (hr : RowR w 1 (.slice yo k.ys.length yc) k.ys.length (ints k.ys)) :
    Calls Try.prog 122 #[.pointer (some ⟨g, 0, none⟩)] w fun e w' => e = .returned (.bool (yesI k.ys)) ∧ w' = w := by
  obtain ⟨-, -, -, -, -, -, -, xy⟩ := sk_cells hg
  clear hg
  rcases hys : k.ys with _ | ⟨a, l⟩
  · have h1 : k.ys.length = 0 := by rw [hys]; rfl
    rw [h1] at xy
    clear hr
    go_enter Try.func122, Try.ntmps122
    go_wp2
    go_ret
    exact ⟨rfl, rfl⟩
  · rcases hl : l with _ | ⟨b, l'⟩
    · have h1 : k.ys.length = 1 := by rw [hys, hl]; rfl
      rw [h1, hys, hl] at hr
      rw [h1] at xy
      obtain ⟨ao, ca, e0, -, -, hc⟩ := hr
      injection e0 with e1 _ e2
      subst e1 e2
      obtain ⟨b, off, rfl, hc2⟩ := hc (by decide)
      have xa : w.cell? ⟨b, off, none⟩ = some (.int .i64 a) := hc2 0 _ rfl
      have hf : Hid (yesI [a] = inI a 0 2) := rfl
      clear hc hc2 h1 hys hl
      go_enter Try.func122, Try.ntmps122
      go_wp2_with fail
      refine (synIsVoter_any a _).mono ?_
      rintro e w1 ⟨rfl, rfl⟩
      go_wp2
      go_ret
      exact ⟨by rw [hf.out]; rfl, rfl⟩
    · have h1 : k.ys.length = l'.length + 2 := by rw [hys, hl]; rfl
      have h2 : ((k.ys.length : Int) == 0) = false := beq_eq_false_iff_ne.2 (by omega)
      have h3 : ((k.ys.length : Int) == 1) = false := beq_eq_false_iff_ne.2 (by omega)
      have hf : Hid (yesI (a :: b :: l') = false) := by show yesI _ = _; simp [yesI]
      clear hr h1 hys hl
      go_enter Try.func122, Try.ntmps122
      go_wp2
      go_ret
      exact ⟨by rw [hf.out]; rfl, rfl⟩

theorem yields_eqlPaper {ops : Array Oper} {S : World → Prop} {op : Oper} {a : Act} (hw : Region.wanted op (yielded ops a.tmps) = true) (yt : TypeId) (x y : Operand) (ho : op.op = .binOp .eql 37 x y yt)
    (p : Pp) (hx : a.eval x = .agg (pparr p)) (hy : a.eval y = .agg #[.int .i64 0, .int .i64 0, .int .i64 0, .int .i64 0, .int .i64 0, .int .i64 0, .int .i64 0, .int .i64 0, .int .i64 0, .int .i64 0, .int .i64 0, .int .i64 0]) (j : Bool) (hj : isZP p = j) : YieldsIf Try.prog ops S op (.bool j) a :=
  .inl ⟨hw, fun w _ => by
    have hx' : a.eval x = .agg (#[.int .i64 p.1, .int .i64 p.2.1, .int .i64 p.2.2.c0, .int .i64 p.2.2.c1, .int .i64 p.2.2.c2, .int .i64 p.2.2.c3, .int .i64 p.2.2.c4, .int .i64 p.2.2.c5, .int .i64 p.2.2.c6, .int .i64 p.2.2.c7, .int .i64 p.2.2.c8, .int .i64 p.2.2.c9] : Array Value) := hx
    subst hj
    unfold execOp
    simp only [ho, hx', hy, Sem.run_bind, guardPaper, Result.andThen_ok, eqlPaper0]
    rfl⟩

set_option maxRecDepth 100000 in
set_option maxHeartbeats 8000000 in
theorem bestFits_any (g : Nat) (k : Sk) (y : Value) (w : World) (hg : w.heap[g]? = some (.cells (skarr k y) 39 (0, 0))) :
    Calls Try.prog 123 #[.pointer (some ⟨g, 0, none⟩)] w fun e w' => e = .returned (.bool (bestI k)) ∧ Below w.heap.size w w' := by
  have HG := hide hg
  obtain ⟨x0, x1, -, -, xp, x13, x14, -⟩ := sk_cells hg
  clear hg
  obtain ⟨j1, hj1⟩ : ∃ j, isZP k.p = j := ⟨_, rfl⟩
  obtain ⟨j2, hj2⟩ : ∃ j, ppI k.p = j := ⟨_, rfl⟩
  have cF := fun V => synInForm_any k.p.1 k.p.2.1 k.p.2.2 V
  rw [show ppI (k.p.1, k.p.2.1, k.p.2.2) = j2 from hj2] at cF
  have H1 := hide hj1
  have hF : Hid (bestI k = (j1 || (j2 && (decide (k.p.1 = k.s) && decide (k.p.2.1 < k.b))))) := by show _ = _; rw [bestI, hj1, hj2]
  clear hj1 hj2
  go_enter Try.func123, Try.ntmps123
  go_upto_region 1 with fail
  have dd := bDrewB (Below.refl w.heap.size w)
  have fS : Hid (∀ V : World, Below w.heap.size w V → V.heap[g]? = some (.cells (skarr k y) 39 (0, 0)) ∧ V.cell? ⟨g, 0, none⟩ = some (.int .i64 k.s) ∧ V.cell? ⟨g, 1, none⟩ = some (.int .i64 k.b) ∧ V.cell? ⟨g, 13, none⟩ = some (.int .i64 k.p.1) ∧ V.cell? ⟨g, 14, none⟩ = some (.int .i64 k.p.2.1)) := fun V h => by
    have hh := bKeeps h HG.out
    obtain ⟨a0, a1, -, -, -, a13, a14, -⟩ := sk_cells hh
    exact ⟨hh, a0, a1, a13, a14⟩
  clear x0 x1 xp x13 x14
  cases j1
  · skip
    refine wp_region_noPanic ?_
    refine wp_region_held_drew (S := (fun w' => w'.heap[g]? = some (.cells (skarr k y) 39 (0, 0)) ∧ w'.cell? ⟨g, 0, none⟩ = some (.int .i64 k.s) ∧ w'.cell? ⟨g, 1, none⟩ = some (.int .i64 k.b) ∧ w'.cell? ⟨g, 13, none⟩ = some (.int .i64 k.p.1) ∧ w'.cell? ⟨g, 14, none⟩ = some (.int .i64 k.p.2.1))) (by kernel_rfl) ?_ (fun hHeld => ?_)
    · exact fS.out _ dd
    refine wpAnyH_take (i := 0) (v := ?v1) rfl (by kernel_rfl) (by kernel_rfl) (by kernel_rfl) (fun _ _ _ h => h) (Or.inl ⟨by rfl, ?hy1⟩) (by assumption) ?rest1
    case hy1 => ((intro w hSw; (try dsimp only at hSw); (try simp only [List.getElem_toArray, List.getElem_cons_zero]); go_simp; first | done | (with_reducible rfl)))
    simp only [Act.put, List.getElem_toArray, List.getElem_cons_zero, List.setIfInBounds_toArray, List.set_cons_zero, List.set_cons_succ]
    refine wpAnyH_take (i := 1) (v := ?v2) rfl (by kernel_rfl) (by kernel_rfl) (by kernel_rfl) (fun _ _ _ h => h) (Or.inl ⟨by rfl, ?hy2⟩) (by assumption) ?rest2
    case hy2 => ((intro w hSw; (try dsimp only at hSw); (try simp only [List.getElem_toArray, List.getElem_cons_zero, List.getElem_cons_succ]); go_simp; first | done | (with_reducible rfl)))
    simp only [Act.put, List.getElem_toArray, List.getElem_cons_zero, List.getElem_cons_succ, List.setIfInBounds_toArray, List.set_cons_zero, List.set_cons_succ]
    refine wpAnyH_take (i := 2) (v := ?v3) rfl (by kernel_rfl) (by kernel_rfl) (by kernel_rfl) (fun _ _ _ h => h) (Or.inl ⟨by rfl, ?hy3⟩) (by assumption) ?rest3
    case hy3 => ((intro w hSw; (try dsimp only at hSw); (try simp only [List.getElem_toArray, List.getElem_cons_zero, List.getElem_cons_succ]); go_simp; first | done | (with_reducible rfl)))
    simp only [Act.put, List.getElem_toArray, List.getElem_cons_zero, List.getElem_cons_succ, List.setIfInBounds_toArray, List.set_cons_zero, List.set_cons_succ]
    refine wpAnyH_take (i := 3) (v := .agg (pparr k.p)) rfl (by kernel_rfl) (by kernel_rfl) (by kernel_rfl) (fun _ _ _ h => h) (yields_at rfl 37 (.tmp 5) rfl (g) (13) rfl (pparr k.p) _ (fun w' h => (sk_cells h.1).2.2.2.2.1) Try.underlying37 rfl infoPpS) (by assumption) ?_
    simp only [Act.put, List.getElem_toArray, List.getElem_cons_zero, List.getElem_cons_succ, List.setIfInBounds_toArray, List.set_cons_zero, List.set_cons_succ]
    refine wpAnyH_take (i := 4) (v := .agg #[.int .i64 0, .int .i64 0, .int .i64 0, .int .i64 0, .int .i64 0, .int .i64 0, .int .i64 0, .int .i64 0, .int .i64 0, .int .i64 0, .int .i64 0, .int .i64 0]) rfl (by kernel_rfl) (by kernel_rfl) (by kernel_rfl) (fun _ _ _ h => h) (yields_build rfl 37 #[] rfl [] #[.int .i64 0, .int .i64 0, .int .i64 0, .int .i64 0, .int .i64 0, .int .i64 0, .int .i64 0, .int .i64 0, .int .i64 0, .int .i64 0, .int .i64 0, .int .i64 0] (by simp) builtPaper0) (by assumption) ?_
    simp only [Act.put, List.getElem_toArray, List.getElem_cons_zero, List.getElem_cons_succ, List.setIfInBounds_toArray, List.set_cons_zero, List.set_cons_succ]
    refine wpAnyH_take (i := 5) (v := .bool false) rfl (by kernel_rfl) (by kernel_rfl) (by kernel_rfl) (fun _ _ _ h => h) (yields_eqlPaper rfl _ _ _ rfl k.p rfl rfl _ H1.out) (by assumption) ?_
    simp only [Act.put, List.getElem_toArray, List.getElem_cons_zero, List.getElem_cons_succ, List.setIfInBounds_toArray, List.set_cons_zero, List.set_cons_succ]
    refine wpAnyH_take (i := 6) (v := ?v4) rfl (by kernel_rfl) (by kernel_rfl) (by kernel_rfl) (fun _ _ _ h => h) (Or.inl ⟨by rfl, ?hy4⟩) (by assumption) ?rest4
    case hy4 => ((intro w hSw; (try dsimp only at hSw); (try simp only [List.getElem_toArray, List.getElem_cons_zero, List.getElem_cons_succ]); go_simp; first | done | (with_reducible rfl)))
    simp only [Act.put, List.getElem_toArray, List.getElem_cons_zero, List.getElem_cons_succ, List.setIfInBounds_toArray, List.set_cons_zero, List.set_cons_succ]
    refine wpAnyH_take (i := 7) (v := ?v5) rfl (by kernel_rfl) (by kernel_rfl) (by kernel_rfl) (fun _ _ _ h => h) (Or.inl ⟨by rfl, ?hy5⟩) (by assumption) ?rest5
    case hy5 => ((intro w hSw; (try dsimp only at hSw); (try simp only [List.getElem_toArray, List.getElem_cons_zero, List.getElem_cons_succ]); go_simp; first | done | (with_reducible rfl)))
    simp only [Act.put, List.getElem_toArray, List.getElem_cons_zero, List.getElem_cons_succ, List.setIfInBounds_toArray, List.set_cons_zero, List.set_cons_succ]
    refine wpAnyH_take (i := 8) (v := ?v6) rfl (by kernel_rfl) (by kernel_rfl) (by kernel_rfl) (fun _ _ _ h => h) (Or.inl ⟨by rfl, ?hy6⟩) (by assumption) ?rest6
    case hy6 => ((intro w hSw; (try dsimp only at hSw); (try simp only [List.getElem_toArray, List.getElem_cons_zero, List.getElem_cons_succ]); go_simp; first | done | (with_reducible rfl)))
    simp only [Act.put, List.getElem_toArray, List.getElem_cons_zero, List.getElem_cons_succ, List.setIfInBounds_toArray, List.set_cons_zero, List.set_cons_succ]
    refine wpAnyH_take (i := 9) (v := ?v7) rfl (by kernel_rfl) (by kernel_rfl) (by kernel_rfl) (fun _ _ _ h => h) (Or.inl ⟨by rfl, ?hy7⟩) (by assumption) ?rest7
    case hy7 => ((intro w hSw; (try dsimp only at hSw); (try simp only [List.getElem_toArray, List.getElem_cons_zero, List.getElem_cons_succ]); go_simp; first | done | (with_reducible rfl)))
    simp only [Act.put, List.getElem_toArray, List.getElem_cons_zero, List.getElem_cons_succ, List.setIfInBounds_toArray, List.set_cons_zero, List.set_cons_succ]
    refine wpAnyH_take (i := 10) (v := .agg (pparr k.p)) rfl (by kernel_rfl) (by kernel_rfl) (by kernel_rfl) (fun _ _ _ h => h) (yields_at rfl 37 (.tmp 12) rfl (g) (13) rfl (pparr k.p) _ (fun w' h => (sk_cells h.1).2.2.2.2.1) Try.underlying37 rfl infoPpS) (by assumption) ?_
    simp only [Act.put, List.getElem_toArray, List.getElem_cons_zero, List.getElem_cons_succ, List.setIfInBounds_toArray, List.set_cons_zero, List.set_cons_succ]
    refine wpAnyH_ready (rs := [11]) (by kernel_rfl) (by simp) ?_
    refine AllReadyH.cons rfl (fun K hK => ?_) AllReadyH.nil
    go_simp
    (go_at_call 103; refine (cF _).mono ?_; rintro e V1 ⟨rfl, b1⟩; have b1' := bAll dd b1)
    refine hK.out _ _ ?_ (fun hHeld => ?_)
    · exact fS.out _ b1'
    clear hK K
    refine wpAnyH_take (i := 12) (v := ?v8) rfl (by kernel_rfl) (by kernel_rfl) (by kernel_rfl) (fun _ _ _ h => h) (Or.inl ⟨by rfl, ?hy8⟩) (by assumption) ?rest8
    case hy8 => ((intro w hSw; (try dsimp only at hSw); (try simp only [List.getElem_toArray, List.getElem_cons_zero, List.getElem_cons_succ]); go_simp; first | done | (with_reducible rfl)))
    simp only [Act.put, List.getElem_toArray, List.getElem_cons_zero, List.getElem_cons_succ, List.setIfInBounds_toArray, List.set_cons_zero, List.set_cons_succ]
    cases j2
    · skip
      refine wpAnyH_take (i := 13) (v := undef) rfl (by kernel_rfl) (by kernel_rfl) (by kernel_rfl) (fun _ _ _ h => h) (Or.inr ⟨by rfl, rfl⟩) (by assumption) ?_
      simp only [Act.put, List.getElem_toArray, List.getElem_cons_zero, List.getElem_cons_succ, List.setIfInBounds_toArray, List.set_cons_zero, List.set_cons_succ]
      refine wpAnyH_take (i := 14) (v := undef) rfl (by kernel_rfl) (by kernel_rfl) (by kernel_rfl) (fun _ _ _ h => h) (Or.inr ⟨by rfl, rfl⟩) (by assumption) ?_
      simp only [Act.put, List.getElem_toArray, List.getElem_cons_zero, List.getElem_cons_succ, List.setIfInBounds_toArray, List.set_cons_zero, List.set_cons_succ]
      refine wpAnyH_take (i := 15) (v := undef) rfl (by kernel_rfl) (by kernel_rfl) (by kernel_rfl) (fun _ _ _ h => h) (Or.inr ⟨by rfl, rfl⟩) (by assumption) ?_
      simp only [Act.put, List.getElem_toArray, List.getElem_cons_zero, List.getElem_cons_succ, List.setIfInBounds_toArray, List.set_cons_zero, List.set_cons_succ]
      refine wpAnyH_take (i := 16) (v := undef) rfl (by kernel_rfl) (by kernel_rfl) (by kernel_rfl) (fun _ _ _ h => h) (Or.inr ⟨by rfl, rfl⟩) (by assumption) ?_
      simp only [Act.put, List.getElem_toArray, List.getElem_cons_zero, List.getElem_cons_succ, List.setIfInBounds_toArray, List.set_cons_zero, List.set_cons_succ]
      refine wpAnyH_take (i := 17) (v := undef) rfl (by kernel_rfl) (by kernel_rfl) (by kernel_rfl) (fun _ _ _ h => h) (Or.inr ⟨by rfl, rfl⟩) (by assumption) ?_
      simp only [Act.put, List.getElem_toArray, List.getElem_cons_zero, List.getElem_cons_succ, List.setIfInBounds_toArray, List.set_cons_zero, List.set_cons_succ]
      refine wpAnyH_take (i := 18) (v := undef) rfl (by kernel_rfl) (by kernel_rfl) (by kernel_rfl) (fun _ _ _ h => h) (Or.inr ⟨by rfl, rfl⟩) (by assumption) ?_
      simp only [Act.put, List.getElem_toArray, List.getElem_cons_zero, List.getElem_cons_succ, List.setIfInBounds_toArray, List.set_cons_zero, List.set_cons_succ]
      refine wpAnyH_take (i := 19) (v := undef) rfl (by kernel_rfl) (by kernel_rfl) (by kernel_rfl) (fun _ _ _ h => h) (Or.inr ⟨by rfl, rfl⟩) (by assumption) ?_
      simp only [Act.put, List.getElem_toArray, List.getElem_cons_zero, List.getElem_cons_succ, List.setIfInBounds_toArray, List.set_cons_zero, List.set_cons_succ]
      refine wpAnyH_take (i := 20) (v := undef) rfl (by kernel_rfl) (by kernel_rfl) (by kernel_rfl) (fun _ _ _ h => h) (Or.inr ⟨by rfl, rfl⟩) (by assumption) ?_
      simp only [Act.put, List.getElem_toArray, List.getElem_cons_zero, List.getElem_cons_succ, List.setIfInBounds_toArray, List.set_cons_zero, List.set_cons_succ]
      refine wpAnyH_take (i := 21) (v := undef) rfl (by kernel_rfl) (by kernel_rfl) (by kernel_rfl) (fun _ _ _ h => h) (Or.inr ⟨by rfl, rfl⟩) (by assumption) ?_
      simp only [Act.put, List.getElem_toArray, List.getElem_cons_zero, List.getElem_cons_succ, List.setIfInBounds_toArray, List.set_cons_zero, List.set_cons_succ]
      refine wpAnyH_take (i := 22) (v := undef) rfl (by kernel_rfl) (by kernel_rfl) (by kernel_rfl) (fun _ _ _ h => h) (Or.inr ⟨by rfl, rfl⟩) (by assumption) ?_
      simp only [Act.put, List.getElem_toArray, List.getElem_cons_zero, List.getElem_cons_succ, List.setIfInBounds_toArray, List.set_cons_zero, List.set_cons_succ]
      refine wpAnyH_take (i := 23) (v := ?v9) rfl (by kernel_rfl) (by kernel_rfl) (by kernel_rfl) (fun _ _ _ h => h) (Or.inl ⟨by rfl, ?hy9⟩) (by assumption) ?rest9
      case hy9 => ((intro w hSw; (try dsimp only at hSw); (try simp only [List.getElem_toArray, List.getElem_cons_zero, List.getElem_cons_succ]); go_simp; first | done | (with_reducible rfl)))
      simp only [Act.put, List.getElem_toArray, List.getElem_cons_zero, List.getElem_cons_succ, List.setIfInBounds_toArray, List.set_cons_zero, List.set_cons_succ]
      refine wpAnyH_take (i := 24) (v := ?v10) rfl (by kernel_rfl) (by kernel_rfl) (by kernel_rfl) (fun _ _ _ h => h) (Or.inl ⟨by rfl, ?hy10⟩) (by assumption) ?rest10
      case hy10 => ((intro w hSw; (try dsimp only at hSw); (try simp only [List.getElem_toArray, List.getElem_cons_zero, List.getElem_cons_succ]); go_simp; first | done | (with_reducible rfl)))
      simp only [Act.put, List.getElem_toArray, List.getElem_cons_zero, List.getElem_cons_succ, List.setIfInBounds_toArray, List.set_cons_zero, List.set_cons_succ]
      refine wpAnyH_take (i := 25) (v := undef) rfl (by kernel_rfl) (by kernel_rfl) (by kernel_rfl) (fun _ _ _ h => h) (Or.inr ⟨by rfl, rfl⟩) (by assumption) ?_
      simp only [Act.put, List.getElem_toArray, List.getElem_cons_zero, List.getElem_cons_succ, List.setIfInBounds_toArray, List.set_cons_zero, List.set_cons_succ]
      refine wpAnyH_take (i := 26) (v := undef) rfl (by kernel_rfl) (by kernel_rfl) (by kernel_rfl) (fun _ _ _ h => h) (Or.inr ⟨by rfl, rfl⟩) (by assumption) ?_
      simp only [Act.put, List.getElem_toArray, List.getElem_cons_zero, List.getElem_cons_succ, List.setIfInBounds_toArray, List.set_cons_zero, List.set_cons_succ]
      refine wpAnyH_take (i := 27) (v := undef) rfl (by kernel_rfl) (by kernel_rfl) (by kernel_rfl) (fun _ _ _ h => h) (Or.inr ⟨by rfl, rfl⟩) (by assumption) ?_
      simp only [Act.put, List.getElem_toArray, List.getElem_cons_zero, List.getElem_cons_succ, List.setIfInBounds_toArray, List.set_cons_zero, List.set_cons_succ]
      refine wpAnyH_take (i := 28) (v := undef) rfl (by kernel_rfl) (by kernel_rfl) (by kernel_rfl) (fun _ _ _ h => h) (Or.inr ⟨by rfl, rfl⟩) (by assumption) ?_
      simp only [Act.put, List.getElem_toArray, List.getElem_cons_zero, List.getElem_cons_succ, List.setIfInBounds_toArray, List.set_cons_zero, List.set_cons_succ]
      refine wpAnyH_take (i := 29) (v := undef) rfl (by kernel_rfl) (by kernel_rfl) (by kernel_rfl) (fun _ _ _ h => h) (Or.inr ⟨by rfl, rfl⟩) (by assumption) ?_
      simp only [Act.put, List.getElem_toArray, List.getElem_cons_zero, List.getElem_cons_succ, List.setIfInBounds_toArray, List.set_cons_zero, List.set_cons_succ]
      refine wpAnyH_take (i := 30) (v := undef) rfl (by kernel_rfl) (by kernel_rfl) (by kernel_rfl) (fun _ _ _ h => h) (Or.inr ⟨by rfl, rfl⟩) (by assumption) ?_
      simp only [Act.put, List.getElem_toArray, List.getElem_cons_zero, List.getElem_cons_succ, List.setIfInBounds_toArray, List.set_cons_zero, List.set_cons_succ]
      refine wpAnyH_take (i := 31) (v := undef) rfl (by kernel_rfl) (by kernel_rfl) (by kernel_rfl) (fun _ _ _ h => h) (Or.inr ⟨by rfl, rfl⟩) (by assumption) ?_
      simp only [Act.put, List.getElem_toArray, List.getElem_cons_zero, List.getElem_cons_succ, List.setIfInBounds_toArray, List.set_cons_zero, List.set_cons_succ]
      refine wpAnyH_take (i := 32) (v := undef) rfl (by kernel_rfl) (by kernel_rfl) (by kernel_rfl) (fun _ _ _ h => h) (Or.inr ⟨by rfl, rfl⟩) (by assumption) ?_
      simp only [Act.put, List.getElem_toArray, List.getElem_cons_zero, List.getElem_cons_succ, List.setIfInBounds_toArray, List.set_cons_zero, List.set_cons_succ]
      refine wpAnyH_take (i := 33) (v := undef) rfl (by kernel_rfl) (by kernel_rfl) (by kernel_rfl) (fun _ _ _ h => h) (Or.inr ⟨by rfl, rfl⟩) (by assumption) ?_
      simp only [Act.put, List.getElem_toArray, List.getElem_cons_zero, List.getElem_cons_succ, List.setIfInBounds_toArray, List.set_cons_zero, List.set_cons_succ]
      refine wpAnyH_take (i := 34) (v := undef) rfl (by kernel_rfl) (by kernel_rfl) (by kernel_rfl) (fun _ _ _ h => h) (Or.inr ⟨by rfl, rfl⟩) (by assumption) ?_
      simp only [Act.put, List.getElem_toArray, List.getElem_cons_zero, List.getElem_cons_succ, List.setIfInBounds_toArray, List.set_cons_zero, List.set_cons_succ]
      refine wpAnyH_take (i := 35) (v := ?v11) rfl (by kernel_rfl) (by kernel_rfl) (by kernel_rfl) (fun _ _ _ h => h) (Or.inl ⟨by rfl, ?hy11⟩) (by assumption) ?rest11
      case hy11 => ((intro w hSw; (try dsimp only at hSw); (try simp only [List.getElem_toArray, List.getElem_cons_zero, List.getElem_cons_succ]); go_simp; first | done | (with_reducible rfl)))
      simp only [Act.put, List.getElem_toArray, List.getElem_cons_zero, List.getElem_cons_succ, List.setIfInBounds_toArray, List.set_cons_zero, List.set_cons_succ]
      refine wpAnyH_take (i := 36) (v := ?v12) rfl (by kernel_rfl) (by kernel_rfl) (by kernel_rfl) (fun _ _ _ h => h) (Or.inl ⟨by rfl, ?hy12⟩) (by assumption) ?rest12
      case hy12 => ((intro w hSw; (try dsimp only at hSw); (try simp only [List.getElem_toArray, List.getElem_cons_zero, List.getElem_cons_succ]); go_simp; first | done | (with_reducible rfl)))
      simp only [Act.put, List.getElem_toArray, List.getElem_cons_zero, List.getElem_cons_succ, List.setIfInBounds_toArray, List.set_cons_zero, List.set_cons_succ]
      refine wpAnyH_take (i := 37) (v := ?v13) rfl (by kernel_rfl) (by kernel_rfl) (by kernel_rfl) (fun _ _ _ h => h) (Or.inl ⟨by rfl, ?hy13⟩) (by assumption) ?rest13
      case hy13 => ((intro w hSw; (try dsimp only at hSw); (try simp only [List.getElem_toArray, List.getElem_cons_zero, List.getElem_cons_succ]); go_simp; first | done | (with_reducible rfl)))
      simp only [Act.put, List.getElem_toArray, List.getElem_cons_zero, List.getElem_cons_succ, List.setIfInBounds_toArray, List.set_cons_zero, List.set_cons_succ]
      refine wpAnyH_done (by kernel_rfl) ?_ _
      refine NoPanic.normal ?_
      clear hHeld
      go_wp2
      go_ret
      exact ⟨by rw [hF.out]; rfl, b1'⟩
    by_cases h1 : k.p.1 = k.s
    · have e1 : (k.p.1 == k.s) = true := by simpa using h1
      have E1 : Hid (decide (k.p.1 = k.s) = true) := decide_eq_true h1
      clear h1
      refine wpAnyH_take (i := 13) (v := ?v14) rfl (by kernel_rfl) (by kernel_rfl) (by kernel_rfl) (fun _ _ _ h => h) (Or.inl ⟨by rfl, ?hy14⟩) (by assumption) ?rest14
      case hy14 => ((intro w hSw; (try dsimp only at hSw); (try simp only [List.getElem_toArray, List.getElem_cons_zero, List.getElem_cons_succ]); go_simp; first | done | (with_reducible rfl)))
      simp only [Act.put, List.getElem_toArray, List.getElem_cons_zero, List.getElem_cons_succ, List.setIfInBounds_toArray, List.set_cons_zero, List.set_cons_succ]
      refine wpAnyH_take (i := 14) (v := ?v15) rfl (by kernel_rfl) (by kernel_rfl) (by kernel_rfl) (fun _ _ _ h => h) (Or.inl ⟨by rfl, ?hy15⟩) (by assumption) ?rest15
      case hy15 => ((intro w hSw; (try dsimp only at hSw); (try simp only [List.getElem_toArray, List.getElem_cons_zero, List.getElem_cons_succ]); go_simp; first | done | (with_reducible rfl)))
      simp only [Act.put, List.getElem_toArray, List.getElem_cons_zero, List.getElem_cons_succ, List.setIfInBounds_toArray, List.set_cons_zero, List.set_cons_succ]
      refine wpAnyH_take (i := 15) (v := ?v16) rfl (by kernel_rfl) (by kernel_rfl) (by kernel_rfl) (fun _ _ _ h => h) (Or.inl ⟨by rfl, ?hy16⟩) (by assumption) ?rest16
      case hy16 => ((intro w hSw; (try dsimp only at hSw); (try simp only [List.getElem_toArray, List.getElem_cons_zero, List.getElem_cons_succ]); go_simp; first | done | (with_reducible rfl)))
      simp only [Act.put, List.getElem_toArray, List.getElem_cons_zero, List.getElem_cons_succ, List.setIfInBounds_toArray, List.set_cons_zero, List.set_cons_succ]
      refine wpAnyH_take (i := 16) (v := ?v17) rfl (by kernel_rfl) (by kernel_rfl) (by kernel_rfl) (fun _ _ _ h => h) (Or.inl ⟨by rfl, ?hy17⟩) (by assumption) ?rest17
      case hy17 => ((intro w hSw; (try dsimp only at hSw); (try simp only [List.getElem_toArray, List.getElem_cons_zero, List.getElem_cons_succ]); go_simp; first | done | (with_reducible rfl)))
      simp only [Act.put, List.getElem_toArray, List.getElem_cons_zero, List.getElem_cons_succ, List.setIfInBounds_toArray, List.set_cons_zero, List.set_cons_succ]
      refine wpAnyH_take (i := 17) (v := ?v18) rfl (by kernel_rfl) (by kernel_rfl) (by kernel_rfl) (fun _ _ _ h => h) (Or.inl ⟨by rfl, ?hy18⟩) (by assumption) ?rest18
      case hy18 => ((intro w hSw; (try dsimp only at hSw); (try simp only [List.getElem_toArray, List.getElem_cons_zero, List.getElem_cons_succ]); go_simp; first | done | (with_reducible rfl)))
      simp only [Act.put, List.getElem_toArray, List.getElem_cons_zero, List.getElem_cons_succ, List.setIfInBounds_toArray, List.set_cons_zero, List.set_cons_succ]
      refine wpAnyH_take (i := 18) (v := ?v19) rfl (by kernel_rfl) (by kernel_rfl) (by kernel_rfl) (fun _ _ _ h => h) (Or.inl ⟨by rfl, ?hy19⟩) (by assumption) ?rest19
      case hy19 => ((intro w hSw; (try dsimp only at hSw); (try simp only [List.getElem_toArray, List.getElem_cons_zero, List.getElem_cons_succ]); go_simp; first | done | (with_reducible rfl)))
      simp only [Act.put, List.getElem_toArray, List.getElem_cons_zero, List.getElem_cons_succ, List.setIfInBounds_toArray, List.set_cons_zero, List.set_cons_succ]
      refine wpAnyH_take (i := 19) (v := ?v20) rfl (by kernel_rfl) (by kernel_rfl) (by kernel_rfl) (fun _ _ _ h => h) (Or.inl ⟨by rfl, ?hy20⟩) (by assumption) ?rest20
      case hy20 => ((intro w hSw; (try dsimp only at hSw); (try simp only [List.getElem_toArray, List.getElem_cons_zero, List.getElem_cons_succ]); go_simp; first | done | (with_reducible rfl)))
      simp only [Act.put, List.getElem_toArray, List.getElem_cons_zero, List.getElem_cons_succ, List.setIfInBounds_toArray, List.set_cons_zero, List.set_cons_succ]
      refine wpAnyH_take (i := 20) (v := ?v21) rfl (by kernel_rfl) (by kernel_rfl) (by kernel_rfl) (fun _ _ _ h => h) (Or.inl ⟨by rfl, ?hy21⟩) (by assumption) ?rest21
      case hy21 => ((intro w hSw; (try dsimp only at hSw); (try simp only [List.getElem_toArray, List.getElem_cons_zero, List.getElem_cons_succ]); go_simp; first | done | (with_reducible rfl)))
      simp only [Act.put, List.getElem_toArray, List.getElem_cons_zero, List.getElem_cons_succ, List.setIfInBounds_toArray, List.set_cons_zero, List.set_cons_succ]
      refine wpAnyH_take (i := 21) (v := ?v22) rfl (by kernel_rfl) (by kernel_rfl) (by kernel_rfl) (fun _ _ _ h => h) (Or.inl ⟨by rfl, ?hy22⟩) (by assumption) ?rest22
      case hy22 => ((intro w hSw; (try dsimp only at hSw); (try simp only [List.getElem_toArray, List.getElem_cons_zero, List.getElem_cons_succ]); go_simp; first | done | (with_reducible rfl)))
      simp only [Act.put, List.getElem_toArray, List.getElem_cons_zero, List.getElem_cons_succ, List.setIfInBounds_toArray, List.set_cons_zero, List.set_cons_succ]
      refine wpAnyH_take (i := 22) (v := ?v23) rfl (by kernel_rfl) (by kernel_rfl) (by kernel_rfl) (fun _ _ _ h => h) (Or.inl ⟨by rfl, ?hy23⟩) (by assumption) ?rest23
      case hy23 => ((intro w hSw; (try dsimp only at hSw); (try simp only [List.getElem_toArray, List.getElem_cons_zero, List.getElem_cons_succ]); go_simp; first | done | (with_reducible rfl)))
      simp only [Act.put, List.getElem_toArray, List.getElem_cons_zero, List.getElem_cons_succ, List.setIfInBounds_toArray, List.set_cons_zero, List.set_cons_succ]
      refine wpAnyH_take (i := 23) (v := ?v24) rfl (by kernel_rfl) (by kernel_rfl) (by kernel_rfl) (fun _ _ _ h => h) (Or.inl ⟨by rfl, ?hy24⟩) (by assumption) ?rest24
      case hy24 => ((intro w hSw; (try dsimp only at hSw); (try simp only [List.getElem_toArray, List.getElem_cons_zero, List.getElem_cons_succ]); go_simp; first | done | (with_reducible rfl)))
      simp only [Act.put, List.getElem_toArray, List.getElem_cons_zero, List.getElem_cons_succ, List.setIfInBounds_toArray, List.set_cons_zero, List.set_cons_succ]
      refine wpAnyH_take (i := 24) (v := ?v25) rfl (by kernel_rfl) (by kernel_rfl) (by kernel_rfl) (fun _ _ _ h => h) (Or.inl ⟨by rfl, ?hy25⟩) (by assumption) ?rest25
      case hy25 => ((intro w hSw; (try dsimp only at hSw); (try simp only [List.getElem_toArray, List.getElem_cons_zero, List.getElem_cons_succ]); go_simp; first | done | (with_reducible rfl)))
      simp only [Act.put, List.getElem_toArray, List.getElem_cons_zero, List.getElem_cons_succ, List.setIfInBounds_toArray, List.set_cons_zero, List.set_cons_succ]
      refine wpAnyH_take (i := 25) (v := ?v26) rfl (by kernel_rfl) (by kernel_rfl) (by kernel_rfl) (fun _ _ _ h => h) (Or.inl ⟨by rfl, ?hy26⟩) (by assumption) ?rest26
      case hy26 => ((intro w hSw; (try dsimp only at hSw); (try simp only [List.getElem_toArray, List.getElem_cons_zero, List.getElem_cons_succ]); go_simp; first | done | (with_reducible rfl)))
      simp only [Act.put, List.getElem_toArray, List.getElem_cons_zero, List.getElem_cons_succ, List.setIfInBounds_toArray, List.set_cons_zero, List.set_cons_succ]
      refine wpAnyH_take (i := 26) (v := ?v27) rfl (by kernel_rfl) (by kernel_rfl) (by kernel_rfl) (fun _ _ _ h => h) (Or.inl ⟨by rfl, ?hy27⟩) (by assumption) ?rest27
      case hy27 => ((intro w hSw; (try dsimp only at hSw); (try simp only [List.getElem_toArray, List.getElem_cons_zero, List.getElem_cons_succ]); go_simp; first | done | (with_reducible rfl)))
      simp only [Act.put, List.getElem_toArray, List.getElem_cons_zero, List.getElem_cons_succ, List.setIfInBounds_toArray, List.set_cons_zero, List.set_cons_succ]
      refine wpAnyH_take (i := 27) (v := ?v28) rfl (by kernel_rfl) (by kernel_rfl) (by kernel_rfl) (fun _ _ _ h => h) (Or.inl ⟨by rfl, ?hy28⟩) (by assumption) ?rest28
      case hy28 => ((intro w hSw; (try dsimp only at hSw); (try simp only [List.getElem_toArray, List.getElem_cons_zero, List.getElem_cons_succ]); go_simp; first | done | (with_reducible rfl)))
      simp only [Act.put, List.getElem_toArray, List.getElem_cons_zero, List.getElem_cons_succ, List.setIfInBounds_toArray, List.set_cons_zero, List.set_cons_succ]
      refine wpAnyH_take (i := 28) (v := ?v29) rfl (by kernel_rfl) (by kernel_rfl) (by kernel_rfl) (fun _ _ _ h => h) (Or.inl ⟨by rfl, ?hy29⟩) (by assumption) ?rest29
      case hy29 => ((intro w hSw; (try dsimp only at hSw); (try simp only [List.getElem_toArray, List.getElem_cons_zero, List.getElem_cons_succ]); go_simp; first | done | (with_reducible rfl)))
      simp only [Act.put, List.getElem_toArray, List.getElem_cons_zero, List.getElem_cons_succ, List.setIfInBounds_toArray, List.set_cons_zero, List.set_cons_succ]
      refine wpAnyH_take (i := 29) (v := ?v30) rfl (by kernel_rfl) (by kernel_rfl) (by kernel_rfl) (fun _ _ _ h => h) (Or.inl ⟨by rfl, ?hy30⟩) (by assumption) ?rest30
      case hy30 => ((intro w hSw; (try dsimp only at hSw); (try simp only [List.getElem_toArray, List.getElem_cons_zero, List.getElem_cons_succ]); go_simp; first | done | (with_reducible rfl)))
      simp only [Act.put, List.getElem_toArray, List.getElem_cons_zero, List.getElem_cons_succ, List.setIfInBounds_toArray, List.set_cons_zero, List.set_cons_succ]
      refine wpAnyH_take (i := 30) (v := ?v31) rfl (by kernel_rfl) (by kernel_rfl) (by kernel_rfl) (fun _ _ _ h => h) (Or.inl ⟨by rfl, ?hy31⟩) (by assumption) ?rest31
      case hy31 => ((intro w hSw; (try dsimp only at hSw); (try simp only [List.getElem_toArray, List.getElem_cons_zero, List.getElem_cons_succ]); go_simp; first | done | (with_reducible rfl)))
      simp only [Act.put, List.getElem_toArray, List.getElem_cons_zero, List.getElem_cons_succ, List.setIfInBounds_toArray, List.set_cons_zero, List.set_cons_succ]
      refine wpAnyH_take (i := 31) (v := ?v32) rfl (by kernel_rfl) (by kernel_rfl) (by kernel_rfl) (fun _ _ _ h => h) (Or.inl ⟨by rfl, ?hy32⟩) (by assumption) ?rest32
      case hy32 => ((intro w hSw; (try dsimp only at hSw); (try simp only [List.getElem_toArray, List.getElem_cons_zero, List.getElem_cons_succ]); go_simp; first | done | (with_reducible rfl)))
      simp only [Act.put, List.getElem_toArray, List.getElem_cons_zero, List.getElem_cons_succ, List.setIfInBounds_toArray, List.set_cons_zero, List.set_cons_succ]
      refine wpAnyH_take (i := 32) (v := ?v33) rfl (by kernel_rfl) (by kernel_rfl) (by kernel_rfl) (fun _ _ _ h => h) (Or.inl ⟨by rfl, ?hy33⟩) (by assumption) ?rest33
      case hy33 => ((intro w hSw; (try dsimp only at hSw); (try simp only [List.getElem_toArray, List.getElem_cons_zero, List.getElem_cons_succ]); go_simp; first | done | (with_reducible rfl)))
      simp only [Act.put, List.getElem_toArray, List.getElem_cons_zero, List.getElem_cons_succ, List.setIfInBounds_toArray, List.set_cons_zero, List.set_cons_succ]
      refine wpAnyH_take (i := 33) (v := ?v34) rfl (by kernel_rfl) (by kernel_rfl) (by kernel_rfl) (fun _ _ _ h => h) (Or.inl ⟨by rfl, ?hy34⟩) (by assumption) ?rest34
      case hy34 => ((intro w hSw; (try dsimp only at hSw); (try simp only [List.getElem_toArray, List.getElem_cons_zero, List.getElem_cons_succ]); go_simp; first | done | (with_reducible rfl)))
      simp only [Act.put, List.getElem_toArray, List.getElem_cons_zero, List.getElem_cons_succ, List.setIfInBounds_toArray, List.set_cons_zero, List.set_cons_succ]
      refine wpAnyH_take (i := 34) (v := ?v35) rfl (by kernel_rfl) (by kernel_rfl) (by kernel_rfl) (fun _ _ _ h => h) (Or.inl ⟨by rfl, ?hy35⟩) (by assumption) ?rest35
      case hy35 => ((intro w hSw; (try dsimp only at hSw); (try simp only [List.getElem_toArray, List.getElem_cons_zero, List.getElem_cons_succ]); go_simp; first | done | (with_reducible rfl)))
      simp only [Act.put, List.getElem_toArray, List.getElem_cons_zero, List.getElem_cons_succ, List.setIfInBounds_toArray, List.set_cons_zero, List.set_cons_succ]
      refine wpAnyH_take (i := 35) (v := ?v36) rfl (by kernel_rfl) (by kernel_rfl) (by kernel_rfl) (fun _ _ _ h => h) (Or.inl ⟨by rfl, ?hy36⟩) (by assumption) ?rest36
      case hy36 => ((intro w hSw; (try dsimp only at hSw); (try simp only [List.getElem_toArray, List.getElem_cons_zero, List.getElem_cons_succ]); go_simp; first | done | (with_reducible rfl)))
      simp only [Act.put, List.getElem_toArray, List.getElem_cons_zero, List.getElem_cons_succ, List.setIfInBounds_toArray, List.set_cons_zero, List.set_cons_succ]
      refine wpAnyH_take (i := 36) (v := ?v37) rfl (by kernel_rfl) (by kernel_rfl) (by kernel_rfl) (fun _ _ _ h => h) (Or.inl ⟨by rfl, ?hy37⟩) (by assumption) ?rest37
      case hy37 => ((intro w hSw; (try dsimp only at hSw); (try simp only [List.getElem_toArray, List.getElem_cons_zero, List.getElem_cons_succ]); go_simp; first | done | (with_reducible rfl)))
      simp only [Act.put, List.getElem_toArray, List.getElem_cons_zero, List.getElem_cons_succ, List.setIfInBounds_toArray, List.set_cons_zero, List.set_cons_succ]
      refine wpAnyH_take (i := 37) (v := ?v38) rfl (by kernel_rfl) (by kernel_rfl) (by kernel_rfl) (fun _ _ _ h => h) (Or.inl ⟨by rfl, ?hy38⟩) (by assumption) ?rest38
      case hy38 => ((intro w hSw; (try dsimp only at hSw); (try simp only [List.getElem_toArray, List.getElem_cons_zero, List.getElem_cons_succ]); go_simp; first | done | (with_reducible rfl)))
      simp only [Act.put, List.getElem_toArray, List.getElem_cons_zero, List.getElem_cons_succ, List.setIfInBounds_toArray, List.set_cons_zero, List.set_cons_succ]
      refine wpAnyH_done (by kernel_rfl) ?_ _
      refine NoPanic.normal ?_
      clear hHeld
      go_wp2
      go_ret
      exact ⟨by rw [hF.out, E1.out]; rfl, b1'⟩
    · have e1 : (k.p.1 == k.s) = false := by simpa using h1
      have E1 : Hid (decide (k.p.1 = k.s) = false) := decide_eq_false h1
      clear h1
      refine wpAnyH_take (i := 13) (v := ?v39) rfl (by kernel_rfl) (by kernel_rfl) (by kernel_rfl) (fun _ _ _ h => h) (Or.inl ⟨by rfl, ?hy39⟩) (by assumption) ?rest39
      case hy39 => ((intro w hSw; (try dsimp only at hSw); (try simp only [List.getElem_toArray, List.getElem_cons_zero, List.getElem_cons_succ]); go_simp; first | done | (with_reducible rfl)))
      simp only [Act.put, List.getElem_toArray, List.getElem_cons_zero, List.getElem_cons_succ, List.setIfInBounds_toArray, List.set_cons_zero, List.set_cons_succ]
      refine wpAnyH_take (i := 14) (v := ?v40) rfl (by kernel_rfl) (by kernel_rfl) (by kernel_rfl) (fun _ _ _ h => h) (Or.inl ⟨by rfl, ?hy40⟩) (by assumption) ?rest40
      case hy40 => ((intro w hSw; (try dsimp only at hSw); (try simp only [List.getElem_toArray, List.getElem_cons_zero, List.getElem_cons_succ]); go_simp; first | done | (with_reducible rfl)))
      simp only [Act.put, List.getElem_toArray, List.getElem_cons_zero, List.getElem_cons_succ, List.setIfInBounds_toArray, List.set_cons_zero, List.set_cons_succ]
      refine wpAnyH_take (i := 15) (v := ?v41) rfl (by kernel_rfl) (by kernel_rfl) (by kernel_rfl) (fun _ _ _ h => h) (Or.inl ⟨by rfl, ?hy41⟩) (by assumption) ?rest41
      case hy41 => ((intro w hSw; (try dsimp only at hSw); (try simp only [List.getElem_toArray, List.getElem_cons_zero, List.getElem_cons_succ]); go_simp; first | done | (with_reducible rfl)))
      simp only [Act.put, List.getElem_toArray, List.getElem_cons_zero, List.getElem_cons_succ, List.setIfInBounds_toArray, List.set_cons_zero, List.set_cons_succ]
      refine wpAnyH_take (i := 16) (v := ?v42) rfl (by kernel_rfl) (by kernel_rfl) (by kernel_rfl) (fun _ _ _ h => h) (Or.inl ⟨by rfl, ?hy42⟩) (by assumption) ?rest42
      case hy42 => ((intro w hSw; (try dsimp only at hSw); (try simp only [List.getElem_toArray, List.getElem_cons_zero, List.getElem_cons_succ]); go_simp; first | done | (with_reducible rfl)))
      simp only [Act.put, List.getElem_toArray, List.getElem_cons_zero, List.getElem_cons_succ, List.setIfInBounds_toArray, List.set_cons_zero, List.set_cons_succ]
      refine wpAnyH_take (i := 17) (v := ?v43) rfl (by kernel_rfl) (by kernel_rfl) (by kernel_rfl) (fun _ _ _ h => h) (Or.inl ⟨by rfl, ?hy43⟩) (by assumption) ?rest43
      case hy43 => ((intro w hSw; (try dsimp only at hSw); (try simp only [List.getElem_toArray, List.getElem_cons_zero, List.getElem_cons_succ]); go_simp; first | done | (with_reducible rfl)))
      simp only [Act.put, List.getElem_toArray, List.getElem_cons_zero, List.getElem_cons_succ, List.setIfInBounds_toArray, List.set_cons_zero, List.set_cons_succ]
      refine wpAnyH_take (i := 18) (v := ?v44) rfl (by kernel_rfl) (by kernel_rfl) (by kernel_rfl) (fun _ _ _ h => h) (Or.inl ⟨by rfl, ?hy44⟩) (by assumption) ?rest44
      case hy44 => ((intro w hSw; (try dsimp only at hSw); (try simp only [List.getElem_toArray, List.getElem_cons_zero, List.getElem_cons_succ]); go_simp; first | done | (with_reducible rfl)))
      simp only [Act.put, List.getElem_toArray, List.getElem_cons_zero, List.getElem_cons_succ, List.setIfInBounds_toArray, List.set_cons_zero, List.set_cons_succ]
      refine wpAnyH_take (i := 19) (v := ?v45) rfl (by kernel_rfl) (by kernel_rfl) (by kernel_rfl) (fun _ _ _ h => h) (Or.inl ⟨by rfl, ?hy45⟩) (by assumption) ?rest45
      case hy45 => ((intro w hSw; (try dsimp only at hSw); (try simp only [List.getElem_toArray, List.getElem_cons_zero, List.getElem_cons_succ]); go_simp; first | done | (with_reducible rfl)))
      simp only [Act.put, List.getElem_toArray, List.getElem_cons_zero, List.getElem_cons_succ, List.setIfInBounds_toArray, List.set_cons_zero, List.set_cons_succ]
      refine wpAnyH_take (i := 20) (v := ?v46) rfl (by kernel_rfl) (by kernel_rfl) (by kernel_rfl) (fun _ _ _ h => h) (Or.inl ⟨by rfl, ?hy46⟩) (by assumption) ?rest46
      case hy46 => ((intro w hSw; (try dsimp only at hSw); (try simp only [List.getElem_toArray, List.getElem_cons_zero, List.getElem_cons_succ]); go_simp; first | done | (with_reducible rfl)))
      simp only [Act.put, List.getElem_toArray, List.getElem_cons_zero, List.getElem_cons_succ, List.setIfInBounds_toArray, List.set_cons_zero, List.set_cons_succ]
      refine wpAnyH_take (i := 21) (v := ?v47) rfl (by kernel_rfl) (by kernel_rfl) (by kernel_rfl) (fun _ _ _ h => h) (Or.inl ⟨by rfl, ?hy47⟩) (by assumption) ?rest47
      case hy47 => ((intro w hSw; (try dsimp only at hSw); (try simp only [List.getElem_toArray, List.getElem_cons_zero, List.getElem_cons_succ]); go_simp; first | done | (with_reducible rfl)))
      simp only [Act.put, List.getElem_toArray, List.getElem_cons_zero, List.getElem_cons_succ, List.setIfInBounds_toArray, List.set_cons_zero, List.set_cons_succ]
      refine wpAnyH_take (i := 22) (v := ?v48) rfl (by kernel_rfl) (by kernel_rfl) (by kernel_rfl) (fun _ _ _ h => h) (Or.inl ⟨by rfl, ?hy48⟩) (by assumption) ?rest48
      case hy48 => ((intro w hSw; (try dsimp only at hSw); (try simp only [List.getElem_toArray, List.getElem_cons_zero, List.getElem_cons_succ]); go_simp; first | done | (with_reducible rfl)))
      simp only [Act.put, List.getElem_toArray, List.getElem_cons_zero, List.getElem_cons_succ, List.setIfInBounds_toArray, List.set_cons_zero, List.set_cons_succ]
      refine wpAnyH_take (i := 23) (v := ?v49) rfl (by kernel_rfl) (by kernel_rfl) (by kernel_rfl) (fun _ _ _ h => h) (Or.inl ⟨by rfl, ?hy49⟩) (by assumption) ?rest49
      case hy49 => ((intro w hSw; (try dsimp only at hSw); (try simp only [List.getElem_toArray, List.getElem_cons_zero, List.getElem_cons_succ]); go_simp; first | done | (with_reducible rfl)))
      simp only [Act.put, List.getElem_toArray, List.getElem_cons_zero, List.getElem_cons_succ, List.setIfInBounds_toArray, List.set_cons_zero, List.set_cons_succ]
      refine wpAnyH_take (i := 24) (v := ?v50) rfl (by kernel_rfl) (by kernel_rfl) (by kernel_rfl) (fun _ _ _ h => h) (Or.inl ⟨by rfl, ?hy50⟩) (by assumption) ?rest50
      case hy50 => ((intro w hSw; (try dsimp only at hSw); (try simp only [List.getElem_toArray, List.getElem_cons_zero, List.getElem_cons_succ]); go_simp; first | done | (with_reducible rfl)))
      simp only [Act.put, List.getElem_toArray, List.getElem_cons_zero, List.getElem_cons_succ, List.setIfInBounds_toArray, List.set_cons_zero, List.set_cons_succ]
      refine wpAnyH_take (i := 25) (v := undef) rfl (by kernel_rfl) (by kernel_rfl) (by kernel_rfl) (fun _ _ _ h => h) (Or.inr ⟨by rfl, rfl⟩) (by assumption) ?_
      simp only [Act.put, List.getElem_toArray, List.getElem_cons_zero, List.getElem_cons_succ, List.setIfInBounds_toArray, List.set_cons_zero, List.set_cons_succ]
      refine wpAnyH_take (i := 26) (v := undef) rfl (by kernel_rfl) (by kernel_rfl) (by kernel_rfl) (fun _ _ _ h => h) (Or.inr ⟨by rfl, rfl⟩) (by assumption) ?_
      simp only [Act.put, List.getElem_toArray, List.getElem_cons_zero, List.getElem_cons_succ, List.setIfInBounds_toArray, List.set_cons_zero, List.set_cons_succ]
      refine wpAnyH_take (i := 27) (v := undef) rfl (by kernel_rfl) (by kernel_rfl) (by kernel_rfl) (fun _ _ _ h => h) (Or.inr ⟨by rfl, rfl⟩) (by assumption) ?_
      simp only [Act.put, List.getElem_toArray, List.getElem_cons_zero, List.getElem_cons_succ, List.setIfInBounds_toArray, List.set_cons_zero, List.set_cons_succ]
      refine wpAnyH_take (i := 28) (v := undef) rfl (by kernel_rfl) (by kernel_rfl) (by kernel_rfl) (fun _ _ _ h => h) (Or.inr ⟨by rfl, rfl⟩) (by assumption) ?_
      simp only [Act.put, List.getElem_toArray, List.getElem_cons_zero, List.getElem_cons_succ, List.setIfInBounds_toArray, List.set_cons_zero, List.set_cons_succ]
      refine wpAnyH_take (i := 29) (v := undef) rfl (by kernel_rfl) (by kernel_rfl) (by kernel_rfl) (fun _ _ _ h => h) (Or.inr ⟨by rfl, rfl⟩) (by assumption) ?_
      simp only [Act.put, List.getElem_toArray, List.getElem_cons_zero, List.getElem_cons_succ, List.setIfInBounds_toArray, List.set_cons_zero, List.set_cons_succ]
      refine wpAnyH_take (i := 30) (v := undef) rfl (by kernel_rfl) (by kernel_rfl) (by kernel_rfl) (fun _ _ _ h => h) (Or.inr ⟨by rfl, rfl⟩) (by assumption) ?_
      simp only [Act.put, List.getElem_toArray, List.getElem_cons_zero, List.getElem_cons_succ, List.setIfInBounds_toArray, List.set_cons_zero, List.set_cons_succ]
      refine wpAnyH_take (i := 31) (v := undef) rfl (by kernel_rfl) (by kernel_rfl) (by kernel_rfl) (fun _ _ _ h => h) (Or.inr ⟨by rfl, rfl⟩) (by assumption) ?_
      simp only [Act.put, List.getElem_toArray, List.getElem_cons_zero, List.getElem_cons_succ, List.setIfInBounds_toArray, List.set_cons_zero, List.set_cons_succ]
      refine wpAnyH_take (i := 32) (v := undef) rfl (by kernel_rfl) (by kernel_rfl) (by kernel_rfl) (fun _ _ _ h => h) (Or.inr ⟨by rfl, rfl⟩) (by assumption) ?_
      simp only [Act.put, List.getElem_toArray, List.getElem_cons_zero, List.getElem_cons_succ, List.setIfInBounds_toArray, List.set_cons_zero, List.set_cons_succ]
      refine wpAnyH_take (i := 33) (v := undef) rfl (by kernel_rfl) (by kernel_rfl) (by kernel_rfl) (fun _ _ _ h => h) (Or.inr ⟨by rfl, rfl⟩) (by assumption) ?_
      simp only [Act.put, List.getElem_toArray, List.getElem_cons_zero, List.getElem_cons_succ, List.setIfInBounds_toArray, List.set_cons_zero, List.set_cons_succ]
      refine wpAnyH_take (i := 34) (v := undef) rfl (by kernel_rfl) (by kernel_rfl) (by kernel_rfl) (fun _ _ _ h => h) (Or.inr ⟨by rfl, rfl⟩) (by assumption) ?_
      simp only [Act.put, List.getElem_toArray, List.getElem_cons_zero, List.getElem_cons_succ, List.setIfInBounds_toArray, List.set_cons_zero, List.set_cons_succ]
      refine wpAnyH_take (i := 35) (v := ?v51) rfl (by kernel_rfl) (by kernel_rfl) (by kernel_rfl) (fun _ _ _ h => h) (Or.inl ⟨by rfl, ?hy51⟩) (by assumption) ?rest51
      case hy51 => ((intro w hSw; (try dsimp only at hSw); (try simp only [List.getElem_toArray, List.getElem_cons_zero, List.getElem_cons_succ]); go_simp; first | done | (with_reducible rfl)))
      simp only [Act.put, List.getElem_toArray, List.getElem_cons_zero, List.getElem_cons_succ, List.setIfInBounds_toArray, List.set_cons_zero, List.set_cons_succ]
      refine wpAnyH_take (i := 36) (v := ?v52) rfl (by kernel_rfl) (by kernel_rfl) (by kernel_rfl) (fun _ _ _ h => h) (Or.inl ⟨by rfl, ?hy52⟩) (by assumption) ?rest52
      case hy52 => ((intro w hSw; (try dsimp only at hSw); (try simp only [List.getElem_toArray, List.getElem_cons_zero, List.getElem_cons_succ]); go_simp; first | done | (with_reducible rfl)))
      simp only [Act.put, List.getElem_toArray, List.getElem_cons_zero, List.getElem_cons_succ, List.setIfInBounds_toArray, List.set_cons_zero, List.set_cons_succ]
      refine wpAnyH_take (i := 37) (v := ?v53) rfl (by kernel_rfl) (by kernel_rfl) (by kernel_rfl) (fun _ _ _ h => h) (Or.inl ⟨by rfl, ?hy53⟩) (by assumption) ?rest53
      case hy53 => ((intro w hSw; (try dsimp only at hSw); (try simp only [List.getElem_toArray, List.getElem_cons_zero, List.getElem_cons_succ]); go_simp; first | done | (with_reducible rfl)))
      simp only [Act.put, List.getElem_toArray, List.getElem_cons_zero, List.getElem_cons_succ, List.setIfInBounds_toArray, List.set_cons_zero, List.set_cons_succ]
      refine wpAnyH_done (by kernel_rfl) ?_ _
      refine NoPanic.normal ?_
      clear hHeld
      go_wp2
      go_ret
      exact ⟨by rw [hF.out, E1.out]; rfl, b1'⟩
  · skip
    refine wp_region_noPanic ?_
    refine wp_region_held_drew (S := (fun w' => w'.heap[g]? = some (.cells (skarr k y) 39 (0, 0)) ∧ w'.cell? ⟨g, 0, none⟩ = some (.int .i64 k.s) ∧ w'.cell? ⟨g, 1, none⟩ = some (.int .i64 k.b) ∧ w'.cell? ⟨g, 13, none⟩ = some (.int .i64 k.p.1) ∧ w'.cell? ⟨g, 14, none⟩ = some (.int .i64 k.p.2.1))) (by kernel_rfl) ?_ (fun hHeld => ?_)
    · exact fS.out _ dd
    refine wpAnyH_take (i := 0) (v := ?v54) rfl (by kernel_rfl) (by kernel_rfl) (by kernel_rfl) (fun _ _ _ h => h) (Or.inl ⟨by rfl, ?hy54⟩) (by assumption) ?rest54
    case hy54 => ((intro w hSw; (try dsimp only at hSw); (try simp only [List.getElem_toArray, List.getElem_cons_zero]); go_simp; first | done | (with_reducible rfl)))
    simp only [Act.put, List.getElem_toArray, List.getElem_cons_zero, List.setIfInBounds_toArray, List.set_cons_zero, List.set_cons_succ]
    refine wpAnyH_take (i := 1) (v := ?v55) rfl (by kernel_rfl) (by kernel_rfl) (by kernel_rfl) (fun _ _ _ h => h) (Or.inl ⟨by rfl, ?hy55⟩) (by assumption) ?rest55
    case hy55 => ((intro w hSw; (try dsimp only at hSw); (try simp only [List.getElem_toArray, List.getElem_cons_zero, List.getElem_cons_succ]); go_simp; first | done | (with_reducible rfl)))
    simp only [Act.put, List.getElem_toArray, List.getElem_cons_zero, List.getElem_cons_succ, List.setIfInBounds_toArray, List.set_cons_zero, List.set_cons_succ]
    refine wpAnyH_take (i := 2) (v := ?v56) rfl (by kernel_rfl) (by kernel_rfl) (by kernel_rfl) (fun _ _ _ h => h) (Or.inl ⟨by rfl, ?hy56⟩) (by assumption) ?rest56
    case hy56 => ((intro w hSw; (try dsimp only at hSw); (try simp only [List.getElem_toArray, List.getElem_cons_zero, List.getElem_cons_succ]); go_simp; first | done | (with_reducible rfl)))
    simp only [Act.put, List.getElem_toArray, List.getElem_cons_zero, List.getElem_cons_succ, List.setIfInBounds_toArray, List.set_cons_zero, List.set_cons_succ]
    refine wpAnyH_take (i := 3) (v := .agg (pparr k.p)) rfl (by kernel_rfl) (by kernel_rfl) (by kernel_rfl) (fun _ _ _ h => h) (yields_at rfl 37 (.tmp 5) rfl (g) (13) rfl (pparr k.p) _ (fun w' h => (sk_cells h.1).2.2.2.2.1) Try.underlying37 rfl infoPpS) (by assumption) ?_
    simp only [Act.put, List.getElem_toArray, List.getElem_cons_zero, List.getElem_cons_succ, List.setIfInBounds_toArray, List.set_cons_zero, List.set_cons_succ]
    refine wpAnyH_take (i := 4) (v := .agg #[.int .i64 0, .int .i64 0, .int .i64 0, .int .i64 0, .int .i64 0, .int .i64 0, .int .i64 0, .int .i64 0, .int .i64 0, .int .i64 0, .int .i64 0, .int .i64 0]) rfl (by kernel_rfl) (by kernel_rfl) (by kernel_rfl) (fun _ _ _ h => h) (yields_build rfl 37 #[] rfl [] #[.int .i64 0, .int .i64 0, .int .i64 0, .int .i64 0, .int .i64 0, .int .i64 0, .int .i64 0, .int .i64 0, .int .i64 0, .int .i64 0, .int .i64 0, .int .i64 0] (by simp) builtPaper0) (by assumption) ?_
    simp only [Act.put, List.getElem_toArray, List.getElem_cons_zero, List.getElem_cons_succ, List.setIfInBounds_toArray, List.set_cons_zero, List.set_cons_succ]
    refine wpAnyH_take (i := 5) (v := .bool true) rfl (by kernel_rfl) (by kernel_rfl) (by kernel_rfl) (fun _ _ _ h => h) (yields_eqlPaper rfl _ _ _ rfl k.p rfl rfl _ H1.out) (by assumption) ?_
    simp only [Act.put, List.getElem_toArray, List.getElem_cons_zero, List.getElem_cons_succ, List.setIfInBounds_toArray, List.set_cons_zero, List.set_cons_succ]
    refine wpAnyH_take (i := 6) (v := ?v57) rfl (by kernel_rfl) (by kernel_rfl) (by kernel_rfl) (fun _ _ _ h => h) (Or.inl ⟨by rfl, ?hy57⟩) (by assumption) ?rest57
    case hy57 => ((intro w hSw; (try dsimp only at hSw); (try simp only [List.getElem_toArray, List.getElem_cons_zero, List.getElem_cons_succ]); go_simp; first | done | (with_reducible rfl)))
    simp only [Act.put, List.getElem_toArray, List.getElem_cons_zero, List.getElem_cons_succ, List.setIfInBounds_toArray, List.set_cons_zero, List.set_cons_succ]
    refine wpAnyH_take (i := 7) (v := undef) rfl (by kernel_rfl) (by kernel_rfl) (by kernel_rfl) (fun _ _ _ h => h) (Or.inr ⟨by rfl, rfl⟩) (by assumption) ?_
    simp only [Act.put, List.getElem_toArray, List.getElem_cons_zero, List.getElem_cons_succ, List.setIfInBounds_toArray, List.set_cons_zero, List.set_cons_succ]
    refine wpAnyH_take (i := 8) (v := undef) rfl (by kernel_rfl) (by kernel_rfl) (by kernel_rfl) (fun _ _ _ h => h) (Or.inr ⟨by rfl, rfl⟩) (by assumption) ?_
    simp only [Act.put, List.getElem_toArray, List.getElem_cons_zero, List.getElem_cons_succ, List.setIfInBounds_toArray, List.set_cons_zero, List.set_cons_succ]
    refine wpAnyH_take (i := 9) (v := undef) rfl (by kernel_rfl) (by kernel_rfl) (by kernel_rfl) (fun _ _ _ h => h) (Or.inr ⟨by rfl, rfl⟩) (by assumption) ?_
    simp only [Act.put, List.getElem_toArray, List.getElem_cons_zero, List.getElem_cons_succ, List.setIfInBounds_toArray, List.set_cons_zero, List.set_cons_succ]
    refine wpAnyH_take (i := 10) (v := undef) rfl (by kernel_rfl) (by kernel_rfl) (by kernel_rfl) (fun _ _ _ h => h) (Or.inr ⟨by rfl, rfl⟩) (by assumption) ?_
    simp only [Act.put, List.getElem_toArray, List.getElem_cons_zero, List.getElem_cons_succ, List.setIfInBounds_toArray, List.set_cons_zero, List.set_cons_succ]
    refine wpAnyH_take (i := 11) (v := undef) rfl (by kernel_rfl) (by kernel_rfl) (by kernel_rfl) (fun _ _ _ h => h) (Or.inr ⟨by rfl, rfl⟩) (by assumption) ?_
    simp only [Act.put, List.getElem_toArray, List.getElem_cons_zero, List.getElem_cons_succ, List.setIfInBounds_toArray, List.set_cons_zero, List.set_cons_succ]
    refine wpAnyH_take (i := 12) (v := undef) rfl (by kernel_rfl) (by kernel_rfl) (by kernel_rfl) (fun _ _ _ h => h) (Or.inr ⟨by rfl, rfl⟩) (by assumption) ?_
    simp only [Act.put, List.getElem_toArray, List.getElem_cons_zero, List.getElem_cons_succ, List.setIfInBounds_toArray, List.set_cons_zero, List.set_cons_succ]
    refine wpAnyH_take (i := 13) (v := undef) rfl (by kernel_rfl) (by kernel_rfl) (by kernel_rfl) (fun _ _ _ h => h) (Or.inr ⟨by rfl, rfl⟩) (by assumption) ?_
    simp only [Act.put, List.getElem_toArray, List.getElem_cons_zero, List.getElem_cons_succ, List.setIfInBounds_toArray, List.set_cons_zero, List.set_cons_succ]
    refine wpAnyH_take (i := 14) (v := undef) rfl (by kernel_rfl) (by kernel_rfl) (by kernel_rfl) (fun _ _ _ h => h) (Or.inr ⟨by rfl, rfl⟩) (by assumption) ?_
    simp only [Act.put, List.getElem_toArray, List.getElem_cons_zero, List.getElem_cons_succ, List.setIfInBounds_toArray, List.set_cons_zero, List.set_cons_succ]
    refine wpAnyH_take (i := 15) (v := undef) rfl (by kernel_rfl) (by kernel_rfl) (by kernel_rfl) (fun _ _ _ h => h) (Or.inr ⟨by rfl, rfl⟩) (by assumption) ?_
    simp only [Act.put, List.getElem_toArray, List.getElem_cons_zero, List.getElem_cons_succ, List.setIfInBounds_toArray, List.set_cons_zero, List.set_cons_succ]
    refine wpAnyH_take (i := 16) (v := undef) rfl (by kernel_rfl) (by kernel_rfl) (by kernel_rfl) (fun _ _ _ h => h) (Or.inr ⟨by rfl, rfl⟩) (by assumption) ?_
    simp only [Act.put, List.getElem_toArray, List.getElem_cons_zero, List.getElem_cons_succ, List.setIfInBounds_toArray, List.set_cons_zero, List.set_cons_succ]
    refine wpAnyH_take (i := 17) (v := undef) rfl (by kernel_rfl) (by kernel_rfl) (by kernel_rfl) (fun _ _ _ h => h) (Or.inr ⟨by rfl, rfl⟩) (by assumption) ?_
    simp only [Act.put, List.getElem_toArray, List.getElem_cons_zero, List.getElem_cons_succ, List.setIfInBounds_toArray, List.set_cons_zero, List.set_cons_succ]
    refine wpAnyH_take (i := 18) (v := undef) rfl (by kernel_rfl) (by kernel_rfl) (by kernel_rfl) (fun _ _ _ h => h) (Or.inr ⟨by rfl, rfl⟩) (by assumption) ?_
    simp only [Act.put, List.getElem_toArray, List.getElem_cons_zero, List.getElem_cons_succ, List.setIfInBounds_toArray, List.set_cons_zero, List.set_cons_succ]
    refine wpAnyH_take (i := 19) (v := undef) rfl (by kernel_rfl) (by kernel_rfl) (by kernel_rfl) (fun _ _ _ h => h) (Or.inr ⟨by rfl, rfl⟩) (by assumption) ?_
    simp only [Act.put, List.getElem_toArray, List.getElem_cons_zero, List.getElem_cons_succ, List.setIfInBounds_toArray, List.set_cons_zero, List.set_cons_succ]
    refine wpAnyH_take (i := 20) (v := undef) rfl (by kernel_rfl) (by kernel_rfl) (by kernel_rfl) (fun _ _ _ h => h) (Or.inr ⟨by rfl, rfl⟩) (by assumption) ?_
    simp only [Act.put, List.getElem_toArray, List.getElem_cons_zero, List.getElem_cons_succ, List.setIfInBounds_toArray, List.set_cons_zero, List.set_cons_succ]
    refine wpAnyH_take (i := 21) (v := undef) rfl (by kernel_rfl) (by kernel_rfl) (by kernel_rfl) (fun _ _ _ h => h) (Or.inr ⟨by rfl, rfl⟩) (by assumption) ?_
    simp only [Act.put, List.getElem_toArray, List.getElem_cons_zero, List.getElem_cons_succ, List.setIfInBounds_toArray, List.set_cons_zero, List.set_cons_succ]
    refine wpAnyH_take (i := 22) (v := undef) rfl (by kernel_rfl) (by kernel_rfl) (by kernel_rfl) (fun _ _ _ h => h) (Or.inr ⟨by rfl, rfl⟩) (by assumption) ?_
    simp only [Act.put, List.getElem_toArray, List.getElem_cons_zero, List.getElem_cons_succ, List.setIfInBounds_toArray, List.set_cons_zero, List.set_cons_succ]
    refine wpAnyH_take (i := 23) (v := undef) rfl (by kernel_rfl) (by kernel_rfl) (by kernel_rfl) (fun _ _ _ h => h) (Or.inr ⟨by rfl, rfl⟩) (by assumption) ?_
    simp only [Act.put, List.getElem_toArray, List.getElem_cons_zero, List.getElem_cons_succ, List.setIfInBounds_toArray, List.set_cons_zero, List.set_cons_succ]
    refine wpAnyH_take (i := 24) (v := undef) rfl (by kernel_rfl) (by kernel_rfl) (by kernel_rfl) (fun _ _ _ h => h) (Or.inr ⟨by rfl, rfl⟩) (by assumption) ?_
    simp only [Act.put, List.getElem_toArray, List.getElem_cons_zero, List.getElem_cons_succ, List.setIfInBounds_toArray, List.set_cons_zero, List.set_cons_succ]
    refine wpAnyH_take (i := 25) (v := undef) rfl (by kernel_rfl) (by kernel_rfl) (by kernel_rfl) (fun _ _ _ h => h) (Or.inr ⟨by rfl, rfl⟩) (by assumption) ?_
    simp only [Act.put, List.getElem_toArray, List.getElem_cons_zero, List.getElem_cons_succ, List.setIfInBounds_toArray, List.set_cons_zero, List.set_cons_succ]
    refine wpAnyH_take (i := 26) (v := undef) rfl (by kernel_rfl) (by kernel_rfl) (by kernel_rfl) (fun _ _ _ h => h) (Or.inr ⟨by rfl, rfl⟩) (by assumption) ?_
    simp only [Act.put, List.getElem_toArray, List.getElem_cons_zero, List.getElem_cons_succ, List.setIfInBounds_toArray, List.set_cons_zero, List.set_cons_succ]
    refine wpAnyH_take (i := 27) (v := undef) rfl (by kernel_rfl) (by kernel_rfl) (by kernel_rfl) (fun _ _ _ h => h) (Or.inr ⟨by rfl, rfl⟩) (by assumption) ?_
    simp only [Act.put, List.getElem_toArray, List.getElem_cons_zero, List.getElem_cons_succ, List.setIfInBounds_toArray, List.set_cons_zero, List.set_cons_succ]
    refine wpAnyH_take (i := 28) (v := undef) rfl (by kernel_rfl) (by kernel_rfl) (by kernel_rfl) (fun _ _ _ h => h) (Or.inr ⟨by rfl, rfl⟩) (by assumption) ?_
    simp only [Act.put, List.getElem_toArray, List.getElem_cons_zero, List.getElem_cons_succ, List.setIfInBounds_toArray, List.set_cons_zero, List.set_cons_succ]
    refine wpAnyH_take (i := 29) (v := undef) rfl (by kernel_rfl) (by kernel_rfl) (by kernel_rfl) (fun _ _ _ h => h) (Or.inr ⟨by rfl, rfl⟩) (by assumption) ?_
    simp only [Act.put, List.getElem_toArray, List.getElem_cons_zero, List.getElem_cons_succ, List.setIfInBounds_toArray, List.set_cons_zero, List.set_cons_succ]
    refine wpAnyH_take (i := 30) (v := undef) rfl (by kernel_rfl) (by kernel_rfl) (by kernel_rfl) (fun _ _ _ h => h) (Or.inr ⟨by rfl, rfl⟩) (by assumption) ?_
    simp only [Act.put, List.getElem_toArray, List.getElem_cons_zero, List.getElem_cons_succ, List.setIfInBounds_toArray, List.set_cons_zero, List.set_cons_succ]
    refine wpAnyH_take (i := 31) (v := undef) rfl (by kernel_rfl) (by kernel_rfl) (by kernel_rfl) (fun _ _ _ h => h) (Or.inr ⟨by rfl, rfl⟩) (by assumption) ?_
    simp only [Act.put, List.getElem_toArray, List.getElem_cons_zero, List.getElem_cons_succ, List.setIfInBounds_toArray, List.set_cons_zero, List.set_cons_succ]
    refine wpAnyH_take (i := 32) (v := undef) rfl (by kernel_rfl) (by kernel_rfl) (by kernel_rfl) (fun _ _ _ h => h) (Or.inr ⟨by rfl, rfl⟩) (by assumption) ?_
    simp only [Act.put, List.getElem_toArray, List.getElem_cons_zero, List.getElem_cons_succ, List.setIfInBounds_toArray, List.set_cons_zero, List.set_cons_succ]
    refine wpAnyH_take (i := 33) (v := undef) rfl (by kernel_rfl) (by kernel_rfl) (by kernel_rfl) (fun _ _ _ h => h) (Or.inr ⟨by rfl, rfl⟩) (by assumption) ?_
    simp only [Act.put, List.getElem_toArray, List.getElem_cons_zero, List.getElem_cons_succ, List.setIfInBounds_toArray, List.set_cons_zero, List.set_cons_succ]
    refine wpAnyH_take (i := 34) (v := undef) rfl (by kernel_rfl) (by kernel_rfl) (by kernel_rfl) (fun _ _ _ h => h) (Or.inr ⟨by rfl, rfl⟩) (by assumption) ?_
    simp only [Act.put, List.getElem_toArray, List.getElem_cons_zero, List.getElem_cons_succ, List.setIfInBounds_toArray, List.set_cons_zero, List.set_cons_succ]
    refine wpAnyH_take (i := 35) (v := undef) rfl (by kernel_rfl) (by kernel_rfl) (by kernel_rfl) (fun _ _ _ h => h) (Or.inr ⟨by rfl, rfl⟩) (by assumption) ?_
    simp only [Act.put, List.getElem_toArray, List.getElem_cons_zero, List.getElem_cons_succ, List.setIfInBounds_toArray, List.set_cons_zero, List.set_cons_succ]
    refine wpAnyH_take (i := 36) (v := ?v58) rfl (by kernel_rfl) (by kernel_rfl) (by kernel_rfl) (fun _ _ _ h => h) (Or.inl ⟨by rfl, ?hy58⟩) (by assumption) ?rest58
    case hy58 => ((intro w hSw; (try dsimp only at hSw); (try simp only [List.getElem_toArray, List.getElem_cons_zero, List.getElem_cons_succ]); go_simp; first | done | (with_reducible rfl)))
    simp only [Act.put, List.getElem_toArray, List.getElem_cons_zero, List.getElem_cons_succ, List.setIfInBounds_toArray, List.set_cons_zero, List.set_cons_succ]
    refine wpAnyH_take (i := 37) (v := ?v59) rfl (by kernel_rfl) (by kernel_rfl) (by kernel_rfl) (fun _ _ _ h => h) (Or.inl ⟨by rfl, ?hy59⟩) (by assumption) ?rest59
    case hy59 => ((intro w hSw; (try dsimp only at hSw); (try simp only [List.getElem_toArray, List.getElem_cons_zero, List.getElem_cons_succ]); go_simp; first | done | (with_reducible rfl)))
    simp only [Act.put, List.getElem_toArray, List.getElem_cons_zero, List.getElem_cons_succ, List.setIfInBounds_toArray, List.set_cons_zero, List.set_cons_succ]
    refine wpAnyH_done (by kernel_rfl) ?_ _
    refine NoPanic.normal ?_
    clear hHeld
    go_wp2
    go_ret
    exact ⟨by rw [hF.out]; rfl, dd⟩

end Go.Proofs.Yteddhdbglciahaa

/- SynSeekerOk of the program, whole: contracts; no statement of the seat is proved here. -/
namespace Go.Proofs.Yteddhdbglciahaa
open Go.RowKit

set_option maxRecDepth 100000 in
set_option maxHeartbeats 8000000 in
theorem maySeek_any (g : Nat) (k : Sk) (yo : Option Addr) (yc : Nat) (w : World) (hg : w.heap[g]? = some (.cells (skarr k (.slice yo k.ys.length yc)) 39 (0, 0))) (hr : RowR w 1 (.slice yo k.ys.length yc) k.ys.length (ints k.ys)) :
    Calls Try.prog 75 #[.pointer (some ⟨g, 0, none⟩)] w fun e w' => e = .returned (.bool (mayS k)) ∧ Below w.heap.size w w' := by
  have HG := hide hg
  have HR := hide hr
  obtain ⟨j1, hj1⟩ : ∃ j, ppI (k.s, k.b, k.m) = j := ⟨_, rfl⟩
  obtain ⟨j2, hj2⟩ : ∃ j, inI k.ph 1 2 = j := ⟨_, rfl⟩
  obtain ⟨j3, hj3⟩ : ∃ j, yesI k.ys = j := ⟨_, rfl⟩
  obtain ⟨j4, hj4⟩ : ∃ j, bestI k = j := ⟨_, rfl⟩
  have cF := fun V => synInForm_any k.s k.b k.m V
  have cW := fun V => blkWithin_any k.ph 1 2 V
  have cY := fun V h1 h2 => yesFits_any g k yo yc V h1 h2
  have cB := fun V h => bestFits_any g k (.slice yo k.ys.length yc) V h
  rw [hj1] at cF
  rw [hj2] at cW
  rw [hj3] at cY
  rw [hj4] at cB
  have hF : Hid (mayS k = (j1 && (j2 && (j3 && j4)))) := by show _ = _; rw [mayS, hj1, hj2, hj3, hj4]
  clear hj1 hj2 hj3 hj4 hg hr
  go_enter Try.func75, Try.ntmps75
  go_upto_region 1 with fail
  have dd := bDrewB (Below.refl w.heap.size w)
  have a1 : Below w.heap.size w (w.drew.alloc (.cells #[.int .i64 0, .int .i64 0, .int .i64 0, .int .i64 0, .int .i64 0, .int .i64 0, .int .i64 0, .int .i64 0, .int .i64 0, .int .i64 0, .int .i64 0, .int .i64 0] 37)) := bal dd _
  have fS : Hid (∀ V : World, Below w.heap.size w V → V.heap[g]? = some (.cells (skarr k (.slice yo k.ys.length yc)) 39 (0, 0)) ∧ V.cell? ⟨g, 0, none⟩ = some (.int .i64 k.s) ∧ V.cell? ⟨g, 1, none⟩ = some (.int .i64 k.b)) := fun V h => by
    have hh := bKeeps h HG.out
    obtain ⟨a0, a1, -, -, -, -, -, -⟩ := sk_cells hh
    exact ⟨hh, a0, a1⟩
  have r8 := updRow (w.drew.alloc (.cells #[.int .i64 0, .int .i64 0, .int .i64 0, .int .i64 0, .int .i64 0, .int .i64 0, .int .i64 0, .int .i64 0, .int .i64 0, .int .i64 0, .int .i64 0, .int .i64 0] 37)) w.heap.size (#[.int .i64 k.s, .int .i64 k.b, .int .i64 k.m.c0, .int .i64 k.m.c1, .int .i64 k.m.c2, .int .i64 k.m.c3, .int .i64 k.m.c4, .int .i64 k.m.c5, .int .i64 k.m.c6, .int .i64 k.m.c7, .int .i64 k.m.c8, .int .i64 k.m.c9] : Array Value)
  have b8 : Below w.heap.size w ((w.drew.alloc (.cells #[.int .i64 0, .int .i64 0, .int .i64 0, .int .i64 0, .int .i64 0, .int .i64 0, .int .i64 0, .int .i64 0, .int .i64 0, .int .i64 0, .int .i64 0, .int .i64 0] 37)).setRow w.heap.size (#[.int .i64 k.s, .int .i64 k.b, .int .i64 k.m.c0, .int .i64 k.m.c1, .int .i64 k.m.c2, .int .i64 k.m.c3, .int .i64 k.m.c4, .int .i64 k.m.c5, .int .i64 k.m.c6, .int .i64 k.m.c7, .int .i64 k.m.c8, .int .i64 k.m.c9] : Array Value)) := a1.trans (r8.below a1.size (fun j h => by omega))
  have N1 : Hid ((w.drew.alloc (.cells #[.int .i64 0, .int .i64 0, .int .i64 0, .int .i64 0, .int .i64 0, .int .i64 0, .int .i64 0, .int .i64 0, .int .i64 0, .int .i64 0, .int .i64 0, .int .i64 0] 37)).heap[w.heap.size]? = some (.cells #[.int .i64 0, .int .i64 0, .int .i64 0, .int .i64 0, .int .i64 0, .int .i64 0, .int .i64 0, .int .i64 0, .int .i64 0, .int .i64 0, .int .i64 0, .int .i64 0] 37 (0, 0))) := heap_alloc_new w.drew _
  have N2 := hide (setRow_heap _ _ _ (#[.int .i64 k.s, .int .i64 k.b, .int .i64 k.m.c0, .int .i64 k.m.c1, .int .i64 k.m.c2, .int .i64 k.m.c3, .int .i64 k.m.c4, .int .i64 k.m.c5, .int .i64 k.m.c6, .int .i64 k.m.c7, .int .i64 k.m.c8, .int .i64 k.m.c9] : Array Value) _ _ N1.out)
  refine wp_region_noPanic ?_
  refine wp_region_held_drew (S := (fun w' => w'.heap[g]? = some (.cells (skarr k (.slice yo k.ys.length yc)) 39 (0, 0)) ∧ w'.cell? ⟨g, 0, none⟩ = some (.int .i64 k.s) ∧ w'.cell? ⟨g, 1, none⟩ = some (.int .i64 k.b))) (by kernel_rfl) ?_ (fun hHeld => ?_)
  · exact fS.out _ dd
  refine wpAnyH_take (i := 0) (v := ?v1) rfl (by kernel_rfl) (by kernel_rfl) (by kernel_rfl) (fun _ _ _ h => h) (Or.inl ⟨by rfl, ?hy1⟩) (by assumption) ?rest1
  case hy1 => ((intro w hSw; (try dsimp only at hSw); (try simp only [List.getElem_toArray, List.getElem_cons_zero]); go_simp; first | done | (with_reducible rfl)))
  simp only [Act.put, List.getElem_toArray, List.getElem_cons_zero, List.setIfInBounds_toArray, List.set_cons_zero, List.set_cons_succ]
  refine wpAnyH_take (i := 1) (v := ?v2) rfl (by kernel_rfl) (by kernel_rfl) (by kernel_rfl) (fun _ _ _ h => h) (Or.inl ⟨by rfl, ?hy2⟩) (by assumption) ?rest2
  case hy2 => ((intro w hSw; (try dsimp only at hSw); (try simp only [List.getElem_toArray, List.getElem_cons_zero, List.getElem_cons_succ]); go_simp; first | done | (with_reducible rfl)))
  simp only [Act.put, List.getElem_toArray, List.getElem_cons_zero, List.getElem_cons_succ, List.setIfInBounds_toArray, List.set_cons_zero, List.set_cons_succ]
  refine wpAnyH_take (i := 2) (v := ?v3) rfl (by kernel_rfl) (by kernel_rfl) (by kernel_rfl) (fun _ _ _ h => h) (Or.inl ⟨by rfl, ?hy3⟩) (by assumption) ?rest3
  case hy3 => ((intro w hSw; (try dsimp only at hSw); (try simp only [List.getElem_toArray, List.getElem_cons_zero, List.getElem_cons_succ]); go_simp; first | done | (with_reducible rfl)))
  simp only [Act.put, List.getElem_toArray, List.getElem_cons_zero, List.getElem_cons_succ, List.setIfInBounds_toArray, List.set_cons_zero, List.set_cons_succ]
  refine wpAnyH_take (i := 3) (v := ?v4) rfl (by kernel_rfl) (by kernel_rfl) (by kernel_rfl) (fun _ _ _ h => h) (Or.inl ⟨by rfl, ?hy4⟩) (by assumption) ?rest4
  case hy4 => ((intro w hSw; (try dsimp only at hSw); (try simp only [List.getElem_toArray, List.getElem_cons_zero, List.getElem_cons_succ]); go_simp; first | done | (with_reducible rfl)))
  simp only [Act.put, List.getElem_toArray, List.getElem_cons_zero, List.getElem_cons_succ, List.setIfInBounds_toArray, List.set_cons_zero, List.set_cons_succ]
  refine wpAnyH_take (i := 4) (v := ?v5) rfl (by kernel_rfl) (by kernel_rfl) (by kernel_rfl) (fun _ _ _ h => h) (Or.inl ⟨by rfl, ?hy5⟩) (by assumption) ?rest5
  case hy5 => ((intro w hSw; (try dsimp only at hSw); (try simp only [List.getElem_toArray, List.getElem_cons_zero, List.getElem_cons_succ]); go_simp; first | done | (with_reducible rfl)))
  simp only [Act.put, List.getElem_toArray, List.getElem_cons_zero, List.getElem_cons_succ, List.setIfInBounds_toArray, List.set_cons_zero, List.set_cons_succ]
  refine wpAnyH_take (i := 5) (v := ?v6) rfl (by kernel_rfl) (by kernel_rfl) (by kernel_rfl) (fun _ _ _ h => h) (Or.inl ⟨by rfl, ?hy6⟩) (by assumption) ?rest6
  case hy6 => ((intro w hSw; (try dsimp only at hSw); (try simp only [List.getElem_toArray, List.getElem_cons_zero, List.getElem_cons_succ]); go_simp; first | done | (with_reducible rfl)))
  simp only [Act.put, List.getElem_toArray, List.getElem_cons_zero, List.getElem_cons_succ, List.setIfInBounds_toArray, List.set_cons_zero, List.set_cons_succ]
  refine wpAnyH_take (i := 6) (v := ?v7) rfl (by kernel_rfl) (by kernel_rfl) (by kernel_rfl) (fun _ _ _ h => h) (Or.inl ⟨by rfl, ?hy7⟩) (by assumption) ?rest7
  case hy7 => ((intro w hSw; (try dsimp only at hSw); (try simp only [List.getElem_toArray, List.getElem_cons_zero, List.getElem_cons_succ]); go_simp; first | done | (with_reducible rfl)))
  simp only [Act.put, List.getElem_toArray, List.getElem_cons_zero, List.getElem_cons_succ, List.setIfInBounds_toArray, List.set_cons_zero, List.set_cons_succ]
  refine wpAnyH_take (i := 7) (v := ?v8) rfl (by kernel_rfl) (by kernel_rfl) (by kernel_rfl) (fun _ _ _ h => h) (Or.inl ⟨by rfl, ?hy8⟩) (by assumption) ?rest8
  case hy8 => ((intro w hSw; (try dsimp only at hSw); (try simp only [List.getElem_toArray, List.getElem_cons_zero, List.getElem_cons_succ]); go_simp; first | done | (with_reducible rfl)))
  simp only [Act.put, List.getElem_toArray, List.getElem_cons_zero, List.getElem_cons_succ, List.setIfInBounds_toArray, List.set_cons_zero, List.set_cons_succ]
  refine wpAnyH_take (i := 8) (v := ?v9) rfl (by kernel_rfl) (by kernel_rfl) (by kernel_rfl) (fun _ _ _ h => h) (Or.inl ⟨by rfl, ?hy9⟩) (by assumption) ?rest9
  case hy9 => ((intro w hSw; (try dsimp only at hSw); (try simp only [List.getElem_toArray, List.getElem_cons_zero, List.getElem_cons_succ]); go_simp; first | done | (with_reducible rfl)))
  simp only [Act.put, List.getElem_toArray, List.getElem_cons_zero, List.getElem_cons_succ, List.setIfInBounds_toArray, List.set_cons_zero, List.set_cons_succ]
  refine wpAnyH_take (i := 9) (v := ?v10) rfl (by kernel_rfl) (by kernel_rfl) (by kernel_rfl) (fun _ _ _ h => h) (Or.inl ⟨by rfl, ?hy10⟩) (by assumption) ?rest10
  case hy10 => ((intro w hSw; (try dsimp only at hSw); (try simp only [List.getElem_toArray, List.getElem_cons_zero, List.getElem_cons_succ]); go_simp; first | done | (with_reducible rfl)))
  simp only [Act.put, List.getElem_toArray, List.getElem_cons_zero, List.getElem_cons_succ, List.setIfInBounds_toArray, List.set_cons_zero, List.set_cons_succ]
  refine wpAnyH_take (i := 10) (v := ?v11) rfl (by kernel_rfl) (by kernel_rfl) (by kernel_rfl) (fun _ _ _ h => h) (Or.inl ⟨by rfl, ?hy11⟩) (by assumption) ?rest11
  case hy11 => ((intro w hSw; (try dsimp only at hSw); (try simp only [List.getElem_toArray, List.getElem_cons_zero, List.getElem_cons_succ]); go_simp; first | done | (with_reducible rfl)))
  simp only [Act.put, List.getElem_toArray, List.getElem_cons_zero, List.getElem_cons_succ, List.setIfInBounds_toArray, List.set_cons_zero, List.set_cons_succ]
  refine wpAnyH_take (i := 11) (v := .agg #[.int .i64 k.m.c0, .int .i64 k.m.c1, .int .i64 k.m.c2, .int .i64 k.m.c3, .int .i64 k.m.c4, .int .i64 k.m.c5, .int .i64 k.m.c6, .int .i64 k.m.c7, .int .i64 k.m.c8, .int .i64 k.m.c9]) rfl (by kernel_rfl) (by kernel_rfl) (by kernel_rfl) (fun _ _ _ h => h) (yields_at rfl 35 (.tmp 14) rfl (g) (3) rfl #[.int .i64 k.m.c0, .int .i64 k.m.c1, .int .i64 k.m.c2, .int .i64 k.m.c3, .int .i64 k.m.c4, .int .i64 k.m.c5, .int .i64 k.m.c6, .int .i64 k.m.c7, .int .i64 k.m.c8, .int .i64 k.m.c9] _ (fun w' h => (sk_cells h.1).2.2.2.1) Try.underlying35 rfl infoCm10) (by assumption) ?_
  simp only [Act.put, List.getElem_toArray, List.getElem_cons_zero, List.getElem_cons_succ, List.setIfInBounds_toArray, List.set_cons_zero, List.set_cons_succ]
  refine wpAnyH_take (i := 12) (v := .agg (#[.int .i64 k.s, .int .i64 k.b, .int .i64 k.m.c0, .int .i64 k.m.c1, .int .i64 k.m.c2, .int .i64 k.m.c3, .int .i64 k.m.c4, .int .i64 k.m.c5, .int .i64 k.m.c6, .int .i64 k.m.c7, .int .i64 k.m.c8, .int .i64 k.m.c9] : Array Value)) rfl (by kernel_rfl) (by kernel_rfl) (by kernel_rfl) (fun _ _ _ h => h) (yields_build rfl 37 _ rfl [(0, .int .i64 k.s), (1, .int .i64 k.b), (2, .agg #[.int .i64 k.m.c0, .int .i64 k.m.c1, .int .i64 k.m.c2, .int .i64 k.m.c3, .int .i64 k.m.c4, .int .i64 k.m.c5, .int .i64 k.m.c6, .int .i64 k.m.c7, .int .i64 k.m.c8, .int .i64 k.m.c9])] _ ((by (conv => lhs; simp only [List.map_toArray, List.map_cons, List.map_nil]); rfl)) (builtPaper k.s k.b k.m)) (by assumption) ?_
  simp only [Act.put, List.getElem_toArray, List.getElem_cons_zero, List.getElem_cons_succ, List.setIfInBounds_toArray, List.set_cons_zero, List.set_cons_succ]
  refine wpAnyH_ready (rs := [13]) (by kernel_rfl) (by simp) ?_
  refine AllReadyH.cons rfl (fun K hK => ?_) AllReadyH.nil
  go_simp
  (skip)
  refine hK.out _ _ ?_ (fun hHeld => ?_)
  · exact fS.out _ a1
  clear hK K
  refine wpAnyH_ready (rs := [14]) (by kernel_rfl) (by simp) ?_
  refine AllReadyH.cons rfl (fun K hK => ?_) AllReadyH.nil
  (refine wp_store_row 37 (.tmp 3) (.tmp 16) rfl w.heap.size (#[.int .i64 k.s, .int .i64 k.b, .int .i64 k.m.c0, .int .i64 k.m.c1, .int .i64 k.m.c2, .int .i64 k.m.c3, .int .i64 k.m.c4, .int .i64 k.m.c5, .int .i64 k.m.c6, .int .i64 k.m.c7, .int .i64 k.m.c8, .int .i64 k.m.c9] : Array Value) rfl rfl _ _ N1.out infoPpS (show (12 : Nat) = 12 from rfl) (all_of_list rfl) ?_)
  refine hK.out _ _ ?_ (fun hHeld => ?_)
  · exact fS.out _ b8
  clear hK K
  refine wpAnyH_done (by kernel_rfl) ?_ _
  refine NoPanic.normal ?_
  clear hHeld
  have b8' : Below w.heap.size w ((w.alloc (.cells #[.int .i64 0, .int .i64 0, .int .i64 0, .int .i64 0, .int .i64 0, .int .i64 0, .int .i64 0, .int .i64 0, .int .i64 0, .int .i64 0, .int .i64 0, .int .i64 0] 37)).drew.setRow w.heap.size (#[.int .i64 k.s, .int .i64 k.b, .int .i64 k.m.c0, .int .i64 k.m.c1, .int .i64 k.m.c2, .int .i64 k.m.c3, .int .i64 k.m.c4, .int .i64 k.m.c5, .int .i64 k.m.c6, .int .i64 k.m.c7, .int .i64 k.m.c8, .int .i64 k.m.c9] : Array Value)) := b8
  have N2' : Hid (((w.alloc (.cells #[.int .i64 0, .int .i64 0, .int .i64 0, .int .i64 0, .int .i64 0, .int .i64 0, .int .i64 0, .int .i64 0, .int .i64 0, .int .i64 0, .int .i64 0, .int .i64 0] 37)).drew.setRow w.heap.size (#[.int .i64 k.s, .int .i64 k.b, .int .i64 k.m.c0, .int .i64 k.m.c1, .int .i64 k.m.c2, .int .i64 k.m.c3, .int .i64 k.m.c4, .int .i64 k.m.c5, .int .i64 k.m.c6, .int .i64 k.m.c7, .int .i64 k.m.c8, .int .i64 k.m.c9] : Array Value)).heap[w.heap.size]? = some (.cells (#[.int .i64 k.s, .int .i64 k.b, .int .i64 k.m.c0, .int .i64 k.m.c1, .int .i64 k.m.c2, .int .i64 k.m.c3, .int .i64 k.m.c4, .int .i64 k.m.c5, .int .i64 k.m.c6, .int .i64 k.m.c7, .int .i64 k.m.c8, .int .i64 k.m.c9] : Array Value) 37 (0, 0))) := N2.out
  clear b8 N2 r8 N1 a1 dd
  generalize ((w.alloc (.cells #[.int .i64 0, .int .i64 0, .int .i64 0, .int .i64 0, .int .i64 0, .int .i64 0, .int .i64 0, .int .i64 0, .int .i64 0, .int .i64 0, .int .i64 0, .int .i64 0] 37)).drew.setRow w.heap.size (#[.int .i64 k.s, .int .i64 k.b, .int .i64 k.m.c0, .int .i64 k.m.c1, .int .i64 k.m.c2, .int .i64 k.m.c3, .int .i64 k.m.c4, .int .i64 k.m.c5, .int .i64 k.m.c6, .int .i64 k.m.c7, .int .i64 k.m.c8, .int .i64 k.m.c9] : Array Value)) = V at b8' N2' ⊢
  have b8 := b8'
  have N2 := N2'
  go_wp2_with (refine wpList_load_row rfl 37 (.tmp 3) rfl w.heap.size rfl _ _ (0, 0) _ N2.out Try.underlying37 rfl infoPpS ?_)
  refine (cF _).mono ?_
  rintro e V1 ⟨rfl, b1⟩
  have c1 := bAll b8 b1
  obtain ⟨-, -, x2, -, -, -, -, -⟩ := sk_cells (bKeeps c1 HG.out)
  cases j1
  · go_wp2
    go_ret
    exact ⟨by rw [hF.out]; rfl, c1⟩
  go_wp2_with fail
  refine (cW _).mono ?_
  rintro e V2 ⟨rfl, rfl⟩
  cases j2
  · go_wp2
    go_ret
    exact ⟨by rw [hF.out]; rfl, c1⟩
  go_wp2_with fail
  refine (cY _ (bKeeps c1 HG.out) (HR.out.keep c1)).mono ?_
  rintro e V3 ⟨rfl, rfl⟩
  cases j3
  · go_wp2
    go_ret
    exact ⟨by rw [hF.out]; rfl, c1⟩
  go_wp2_with fail
  refine (cB _ (bKeeps c1 HG.out)).mono ?_
  rintro e V4 ⟨rfl, b4⟩
  go_wp2
  go_ret
  exact ⟨by rw [hF.out]; rfl, bAll c1 b4⟩

set_option maxRecDepth 100000 in
set_option maxHeartbeats 8000000 in
theorem implSynSeekerOk_any (v : Value) (k : Sk) (w : World) (h : SkR w v k) :
    Calls Try.prog 25 #[v] w fun e w' => e = .returned (.bool (okS k)) ∧ Below w.heap.size w w' := by
  obtain ⟨yo, yc, rfl, hr⟩ := h
  obtain ⟨j1, hj1⟩ : ∃ j, noS k = j := ⟨_, rfl⟩
  have cN := fun g V h => isNothing_any g k yo yc V h
  rw [hj1] at cN
  have hF : Hid (okS k = (j1 || mayS k)) := by show _ = _; rw [okS, hj1]
  have HR := hide hr
  clear hj1 hr
  go_enter Try.func25, Try.ntmps25
  go_upto_region 1 with fail
  generalize hW : World.alloc _ _ = W
  have al : Below w.heap.size w W := by rw [← hW]; exact bal (Below.refl _ _) _
  have A0 : Hid (W.heap[w.heap.size]? = some (.cells (skarr k (.slice yo k.ys.length yc)) 39 (0, 0))) := by show _ = _; rw [← hW]; exact al1_0 w _
  clear hW
  go_wp2_with fail
  refine (cN _ _ A0.out).mono ?_
  rintro e V1 ⟨rfl, rfl⟩
  cases j1
  · go_wp2_with fail
    refine (maySeek_any _ k yo yc _ A0.out (HR.out.keep al)).mono ?_
    rintro e V2 ⟨rfl, b2⟩
    go_wp2
    go_ret
    exact ⟨by rw [hF.out]; rfl, bAll al b2⟩
  · go_wp2
    go_ret
    exact ⟨by rw [hF.out]; rfl, al⟩

end Go.Proofs.Yteddhdbglciahaa

/- What both sides' SynHear leans on: contracts; no statement of the seat is proved here. -/
namespace Go.Proofs.Yteddhdbglciahaa
open Go.RowKit

theorem ints_one (xs : List Int) : ∀ u ∈ ints xs, u.oneCell' = true := by
  intro u hu
  obtain ⟨a, -, rfl⟩ := List.mem_map.1 hu
  rfl
theorem ints_at {w : World} {so : Option Addr} {n sc k : Nat} {ys : List Int} {y : Int} (h : RowR w 1 (.slice so n sc) n (ints ys)) (hy : ys[k]? = some y) :
    ∃ b o, so = some ⟨b, o, none⟩ ∧ k < n ∧ ∀ V : World, Below w.heap.size w V → V.cell? ⟨b, o + k, none⟩ = some (.int .i64 y) := by
  obtain ⟨ao, ca, e, -, hl, hc⟩ := h
  injection e with e1 _ e2
  subst e1 e2
  have hk := (List.getElem?_eq_some_iff.1 hy).1
  have hl2 : ys.length = n := by simpa [ints] using hl
  obtain ⟨b, o, e, hc⟩ := hc (by omega)
  refine ⟨b, o, e, by omega, fun V hV => ?_⟩
  have q := hc k (.int .i64 y) (by rw [ints, List.getElem?_map, hy]; rfl)
  exact (hV.cell (p := ⟨b, o + k, none⟩) (World.block_lt_of_cell? w _ q)).trans q

set_option maxRecDepth 100000 in
set_option maxHeartbeats 4000000 in
theorem l22Has_any (v : Value) (ys : List Int) (x : Int) (w : World) (hr : RowR w 1 v ys.length (ints ys)) :
    Calls Try.prog 41 #[v, .int .i64 x] w fun e w' => e = .returned (.bool (decide (x ∈ ys))) ∧ Below w.heap.size w w' := by
  obtain ⟨D, hD⟩ : ∃ D, decide (x ∈ ys) = D := ⟨_, rfl⟩
  rw [hD]
  have HD := hide hD
  obtain ⟨n, hn⟩ : ∃ n, ys.length = n := ⟨_, rfl⟩
  have HN := hide hn
  rw [hn] at hr
  have hn0 : n ≤ 9223372036854775807 := by obtain ⟨_, _, _, h, _⟩ := hr; exact h
  obtain ⟨so, sc, rfl⟩ : ∃ so sc, v = .slice so n sc := by obtain ⟨so, sc, e, -⟩ := hr; exact ⟨so, sc, e⟩
  clear hD hn
  go_enter Try.func41, Try.ntmps41
  go_wp2
  go_loopw [5] (fun i wr => ∃ k : Nat, k ≤ n ∧ i = .int .i64 k ∧ (∀ y ∈ ys.take k, y ≠ x) ∧ Below w.heap.size w wr) (fun i _ => n - (intOf i).toNat)
  case atStart => exact ⟨0, Nat.zero_le _, rfl, by simp, Below.refl _ _⟩
  case round =>
    obtain ⟨k, hk, rfl, hno, hbel⟩ := hrel
    have HNO := hide hno
    clear hno
    by_cases hlt : k < n
    · obtain ⟨y, hy⟩ := getAt ys k (by have := HN.out; omega)
      obtain ⟨b, o, rfl, -, hc⟩ := ints_at hr hy
      have f0 := hc wr hbel
      have HYY := hide hy
      have hi : (k : Int) < (n : Int) := by omega
      clear hr hc hy
      by_cases hyx : y = x
      · have e1 : (y == x) = true := by simpa using hyx
        have ht : Hid (D = true) := by show _ = _; rw [← HD.out, decide_eq_true_eq, ← hyx]; exact List.mem_of_getElem? HYY.out
        clear hyx
        go_wp2
        go_ret
        exact ⟨by rw [ht.out]; rfl, hbel⟩
      · have e1 : (y == x) = false := by simpa using hyx
        have HYX := hide hyx
        clear hyx
        go_wp2
        go_roundw
        case rel =>
          refine ⟨k + 1, by omega, by go_num, fun z hz => ?_, hbel⟩
          have hm := (List.getElem?_eq_some_iff.1 HYY.out).1
          rw [List.take_succ_eq_append_getElem hm, List.mem_append] at hz
          rcases hz with hz | hz
          · exact HNO.out z hz
          · have e := HYY.out
            rw [List.getElem?_eq_getElem hm] at e
            rw [List.mem_singleton.1 hz, Option.some.inj e]
            exact HYX.out
        case measure => simp [intOf]; omega
    · go_wp2
      go_ret
      obtain rfl : k = n := by omega
      refine ⟨?_, hbel⟩
      have hf : D = false := by
        rw [← HD.out, decide_eq_false_iff_not]
        intro hx
        refine HNO.out x ?_ rfl
        rw [List.take_of_length_le (by have := HN.out; omega)]
        exact hx
      rw [hf]
      rfl

set_option maxRecDepth 100000 in
set_option maxHeartbeats 4000000 in
theorem index_any (v : Value) (ys : List Int) (x : Int) (w : World) (hr : RowR w 1 v ys.length (ints ys)) :
    Calls Try.prog 134 #[v, .int .i64 x] w fun e w' => ∃ r : Int, e = .returned (.int .i64 r) ∧ decide (r ≥ 0) = decide (x ∈ ys) ∧ Below w.heap.size w w' := by
  obtain ⟨D, hD⟩ : ∃ D, decide (x ∈ ys) = D := ⟨_, rfl⟩
  rw [hD]
  have HD := hide hD
  obtain ⟨n, hn⟩ : ∃ n, ys.length = n := ⟨_, rfl⟩
  have HN := hide hn
  rw [hn] at hr
  have hn0 : n ≤ 9223372036854775807 := by obtain ⟨_, _, _, h, _⟩ := hr; exact h
  obtain ⟨so, sc, rfl⟩ : ∃ so sc, v = .slice so n sc := by obtain ⟨so, sc, e, -⟩ := hr; exact ⟨so, sc, e⟩
  clear hD hn
  go_enter Try.func134, Try.ntmps134
  go_wp2
  go_loopw [8] (fun i wr => ∃ k : Nat, k ≤ n ∧ i = .int .i64 k ∧ (∀ y ∈ ys.take k, y ≠ x) ∧ Below w.heap.size w wr) (fun i _ => n - (intOf i).toNat)
  case atStart => exact ⟨0, Nat.zero_le _, rfl, by simp, Below.refl _ _⟩
  case round =>
    obtain ⟨k, hk, rfl, hno, hbel⟩ := hrel
    have HNO := hide hno
    clear hno
    by_cases hlt : k < n
    · obtain ⟨y, hy⟩ := getAt ys k (by have := HN.out; omega)
      obtain ⟨b, o, rfl, -, hc⟩ := ints_at hr hy
      have f0 := hc wr hbel
      have HYY := hide hy
      have hi : (k : Int) < (n : Int) := by omega
      clear hr hc hy
      by_cases hyx : x = y
      · have e1 : (x == y) = true := by simpa using hyx
        have ht : Hid (D = true) := by show _ = _; rw [← HD.out, decide_eq_true_eq, hyx]; exact List.mem_of_getElem? HYY.out
        clear hyx
        go_wp2
        go_ret
        exact ⟨(k : Int), rfl, by rw [ht.out]; simp, hbel⟩
      · have e1 : (x == y) = false := by simpa using hyx
        have HYX := hide hyx
        clear hyx
        go_wp2
        go_roundw
        case rel =>
          refine ⟨k + 1, by omega, by go_num, fun z hz => ?_, hbel⟩
          have hm := (List.getElem?_eq_some_iff.1 HYY.out).1
          rw [List.take_succ_eq_append_getElem hm, List.mem_append] at hz
          rcases hz with hz | hz
          · exact HNO.out z hz
          · have e := HYY.out
            rw [List.getElem?_eq_getElem hm] at e
            rw [List.mem_singleton.1 hz, Option.some.inj e]
            exact fun h => HYX.out h.symm
        case measure => simp [intOf]; omega
    · go_wp2
      go_ret
      obtain rfl : k = n := by omega
      refine ⟨-1, rfl, ?_, hbel⟩
      have hf : D = false := by
        rw [← HD.out, decide_eq_false_iff_not]
        intro hx
        refine HNO.out x ?_ rfl
        rw [List.take_of_length_le (by have := HN.out; omega)]
        exact hx
      rw [hf]
      rfl

set_option maxHeartbeats 2000000 in
theorem contains_any (v : Value) (ys : List Int) (x : Int) (w : World) (hr : RowR w 1 v ys.length (ints ys)) :
    Calls Try.prog 113 #[v, .int .i64 x] w fun e w' => e = .returned (.bool (decide (x ∈ ys))) ∧ Below w.heap.size w w' := by
  obtain ⟨D, hD⟩ : ∃ D, decide (x ∈ ys) = D := ⟨_, rfl⟩
  rw [hD]
  have cI := index_any v ys x w hr
  rw [hD] at cI
  clear hD hr
  go_enter Try.func113, Try.ntmps113
  go_wp2_with fail
  refine cI.mono ?_
  rintro e w1 ⟨r, rfl, hr, b1⟩
  go_wp2
  go_ret
  exact ⟨by rw [← hr]; rfl, b1⟩

set_option maxRecDepth 100000 in
set_option maxHeartbeats 4000000 in
theorem copyI_any (v : Value) (n : Nat) (cs : List Value) (w : World) (hr : RowR w 1 v n cs) (h1 : ∀ u ∈ cs, u.oneCell' = true) (hn : n ≤ 1048576) :
    Calls Try.prog 49 #[v] w fun e w' => ∃ v', e = .returned v' ∧ w'.ownsRow w.heap.size 3 1 v' n cs ∧ Below w.heap.size w w' := by
  obtain ⟨i1, gi, gz0, gz1, gz2⟩ := info_parts infoInt
  have Hr := hide hr
  obtain ⟨ao, ca, rfl, -⟩ := hr
  go_enter Try.func49, Try.ntmps49
  go_wp2_with (at_builtin; refine wpList_append_row _ rfl _ _ 26 rfl w.heap.size 3 i1 (.int .i64 0) 1 8 Try.underlying26 gi gz0 gz1 gz2 rfl (by decide) _ 0 [] rfl ?qown _ n cs rfl ?qrow h1 ?q63 ?qby ?qbase ?_)
  case qown => exact World.ownsRow_nil _ _ _ _
  case qrow => exact Hr.out
  case q63 => unfold maxLen; omega
  case qby => omega
  case qbase => exact Nat.le_refl _
  intro v' w4 hown hgr
  try simp only [Nat.zero_add, List.nil_append] at hown
  have b4 : Below w.heap.size w w4 := (Below.refl _ _).grown hgr (by simp) (fun k e => by simp [Value.ownBlock] at e)
  go_wp2
  go_ret
  exact ⟨_, rfl, hown, b4⟩

end Go.Proofs.Yteddhdbglciahaa

/- A law's seeker becomes a program's: a contract; no statement of the seat is proved here. -/
namespace Go.Proofs.Yteddhdbglciahaa
open Go.RowKit

theorem infoLc10 : (Try.prog.info? 23).map (·.size) = some 10 := by kernel_rfl
def zeroK : Sk := ⟨0, 0, 0, zeroW, (0, 0, zeroW), []⟩

set_option maxRecDepth 100000 in
set_option maxHeartbeats 8000000 in
theorem toSynSeeker_any (v : Value) (k : Sk) (w : World) (h : SkR w v k) (hn : k.ys.length ≤ 1048576) :
    Calls Try.prog 10 #[v] w fun e w' => ∃ v', e = .returned v' ∧ SkO w' (fun j => w.heap.size ≤ j) v' k ∧ Below w.heap.size w w' := by
  obtain ⟨yo, yc, rfl, hr⟩ := h
  have HR0 := hide hr
  clear hr
  go_enter Try.func10, Try.ntmps10
  go_upto_region 2 with fail
  generalize hW : World.alloc _ _ = W
  have al : Below w.heap.size w W := by rw [← hW]; exact bal (bal (bal (Below.refl _ _) _) _) _
  have A0 : Hid (W.heap[w.heap.size]? = some (.cells (skarr k (.slice yo k.ys.length yc)) 28 (0, 0))) := by show _ = _; rw [← hW]; exact al3_0 w _ _ _
  have A1 : Hid (W.heap[w.heap.size + 1]? = some (.cells (skarr zeroK (.slice none 0 0)) 39 (0, 0))) := by show _ = _; rw [← hW]; exact al3_1 w _ _ _
  have A2 : Hid (W.heap[w.heap.size + 1 + 1]? = some (.cells (skarr zeroK (.slice none 0 0)) 39 (0, 0))) := by show _ = _; rw [← hW]; exact al3_2 w _ _ _
  have ZW : Hid (W.heap.size = w.heap.size + 1 + 1 + 1) := by show _ = _; rw [← hW]; simp
  clear hW
  obtain ⟨x0, x1, x2, xm, xp, -, -, xy⟩ := sk_cells A0.out
  have o0 : W.cell? ⟨w.heap.size + 1 + 1, 0, none⟩ = some (.int .i64 0) := boxAt A2.out 0
  have o1 : W.cell? ⟨w.heap.size + 1 + 1, 1, none⟩ = some (.int .i64 0) := boxAt A2.out 1
  have o2 : W.cell? ⟨w.heap.size + 1 + 1, 2, none⟩ = some (.int .i64 0) := boxAt A2.out 2
  have f0 := boxFz A2.out 0
  have f1 := boxFz A2.out 1
  have f2 := boxFz A2.out 2
  go_upto_region 5 with fail
  have u3 : Upd (fun j => j = w.heap.size + 1 + 1) W (((W.setCell ⟨w.heap.size + 1 + 1, 0, none⟩ (.int .i64 k.s)).setCell ⟨w.heap.size + 1 + 1, 1, none⟩ (.int .i64 k.b)).setCell ⟨w.heap.size + 1 + 1, 2, none⟩ (.int .i64 k.ph)) := ((Upd.setCell (S := fun j => j = w.heap.size + 1 + 1) _ _ _ _ rfl).trans (Upd.setCell _ _ _ _ rfl)).trans (Upd.setCell _ _ _ _ rfl)
  have C2 : Hid ((((W.setCell ⟨w.heap.size + 1 + 1, 0, none⟩ (.int .i64 k.s)).setCell ⟨w.heap.size + 1 + 1, 1, none⟩ (.int .i64 k.b)).setCell ⟨w.heap.size + 1 + 1, 2, none⟩ (.int .i64 k.ph)).heap[w.heap.size + 1 + 1]? = some (.cells (skarr { zeroK with s := k.s, b := k.b, ph := k.ph } (.slice none 0 0)) 39 (0, 0))) := row_set _ (row_set _ (row_set _ A2.out))
  have C0 := hide (u3.keeps A0.out (by omega))
  have C1 := hide (u3.keeps A1.out (by omega))
  generalize (((W.setCell ⟨w.heap.size + 1 + 1, 0, none⟩ (.int .i64 k.s)).setCell ⟨w.heap.size + 1 + 1, 1, none⟩ (.int .i64 k.b)).setCell ⟨w.heap.size + 1 + 1, 2, none⟩ (.int .i64 k.ph)) = V at u3 C2 C0 C1 ⊢
  have zV := u3.size
  have zW := ZW.out
  clear x0 x1 x2 xm xp xy o0 o1 o2 f0 f1 f2
  obtain ⟨-, -, -, xm, -, -, -, -⟩ := sk_cells C0.out
  go_wp2_with (refine wpList_load_at rfl 23 (.tmp 13) rfl w.heap.size 3 rfl #[.int .i64 k.m.c0, .int .i64 k.m.c1, .int .i64 k.m.c2, .int .i64 k.m.c3, .int .i64 k.m.c4, .int .i64 k.m.c5, .int .i64 k.m.c6, .int .i64 k.m.c7, .int .i64 k.m.c8, .int .i64 k.m.c9] _ xm Try.underlying23 rfl infoLc10 ?_)
  refine (toCmd_any k.m V).mono ?_
  rintro e w1 ⟨rfl, hw1⟩
  have b1 : Below V.heap.size V w1 := by rw [hw1]; exact bal (bal (bal (Below.refl _ _) _) _) _
  clear hw1 xm
  have z1 := b1.size
  have D0 := hide (bKeeps b1 C0.out)
  have D1 := hide (bKeeps b1 C1.out)
  have D2 := hide (bKeeps b1 C2.out)
  have hput : putAt (skarr { zeroK with s := k.s, b := k.b, ph := k.ph } (.slice none 0 0)) 3 #[.int .i64 k.m.c0, .int .i64 k.m.c1, .int .i64 k.m.c2, .int .i64 k.m.c3, .int .i64 k.m.c4, .int .i64 k.m.c5, .int .i64 k.m.c6, .int .i64 k.m.c7, .int .i64 k.m.c8, .int .i64 k.m.c9] = skarr { zeroK with s := k.s, b := k.b, ph := k.ph, m := k.m } (.slice none 0 0) := rfl
  have E2 := hide (setRow_heap w1 (w.heap.size + 1 + 1) _ (skarr { zeroK with s := k.s, b := k.b, ph := k.ph, m := k.m } (.slice none 0 0)) _ _ D2.out)
  have u4 := updRow w1 (w.heap.size + 1 + 1) (skarr { zeroK with s := k.s, b := k.b, ph := k.ph, m := k.m } (.slice none 0 0))
  have E0 := hide (u4.keeps D0.out (by omega))
  have E1 := hide (u4.keeps D1.out (by omega))
  have w4 := (u3.trans (Upd.ofBelow b1)).trans u4
  obtain ⟨-, -, -, -, xp, -, -, -⟩ := sk_cells E0.out
  go_wp2_with (first
    | (refine wpList_store_at rfl 35 (.tmp 16) (.tmp 15) rfl (w.heap.size + 1 + 1) 3 #[.int .i64 k.m.c0, .int .i64 k.m.c1, .int .i64 k.m.c2, .int .i64 k.m.c3, .int .i64 k.m.c4, .int .i64 k.m.c5, .int .i64 k.m.c6, .int .i64 k.m.c7, .int .i64 k.m.c8, .int .i64 k.m.c9] rfl rfl _ _ D2.out infoCm10 (show (3 + 10 : Nat) ≤ 26 by omega) (all_of_list rfl) ?_; rw [hput])
    | (refine wpList_load_at rfl 25 (.tmp 17) rfl w.heap.size 13 rfl (pparr k.p) _ xp Try.underlying25 rfl infoLpS ?_))
  refine (toSynPaper_any k.p.1 k.p.2.1 k.p.2.2 _).mono ?_
  rintro e w2 ⟨rfl, b2⟩
  clear xp hput D0 D1 D2 u4 C0 C1 C2
  generalize World.setRow _ _ _ = X at b2 E0 E1 E2 w4
  have z2 := b2.size
  have zX := w4.size
  have F0 := hide (bKeeps b2 E0.out)
  have F1 := hide (bKeeps b2 E1.out)
  have F2 := hide (bKeeps b2 E2.out)
  have hput : putAt (skarr { zeroK with s := k.s, b := k.b, ph := k.ph, m := k.m } (.slice none 0 0)) 13 (pparr k.p) = skarr { zeroK with s := k.s, b := k.b, ph := k.ph, m := k.m, p := k.p } (.slice none 0 0) := rfl
  have G2 := hide (setRow_heap w2 (w.heap.size + 1 + 1) _ (skarr { zeroK with s := k.s, b := k.b, ph := k.ph, m := k.m, p := k.p } (.slice none 0 0)) _ _ F2.out)
  have u5 := updRow w2 (w.heap.size + 1 + 1) (skarr { zeroK with s := k.s, b := k.b, ph := k.ph, m := k.m, p := k.p } (.slice none 0 0))
  have G0 := hide (u5.keeps F0.out (by omega))
  have G1 := hide (u5.keeps F1.out (by omega))
  have w5 := (w4.trans (Upd.ofBelow b2)).trans u5
  have cw5 := al.trans (w5.below al.size (fun j h => by omega))
  have HRV := HR0.out.keep cw5
  obtain ⟨-, -, -, -, -, -, -, xy⟩ := sk_cells G0.out
  have hPA : (pparr k.p).all (·.oneCell') = true := pparr_one k.p
  go_wp2_with (first
    | (refine wpList_store_at rfl 37 (.tmp 20) (.tmp 19) rfl (w.heap.size + 1 + 1) 13 (pparr k.p) rfl rfl _ _ F2.out infoPpS (show (13 + 12 : Nat) ≤ 26 by omega) hPA ?_; rw [hput]))
  refine (toIntS_any _ _ k.ys _ HRV hn).mono ?_
  rintro e w3 ⟨v3, rfl, r3, b3⟩
  clear xy hput F0 F1 F2 u5 E0 E1 E2 w4 HRV
  obtain ⟨so3, sc3, rfl, hn3, hl3, hb3⟩ := r3
  have r3 : Row w3 3 1 _ (.slice so3 k.ys.length sc3) k.ys.length (k.ys.map (Value.int .i64)) := ⟨so3, sc3, rfl, hn3, hl3, hb3⟩
  have R3 := hide r3
  clear r3 hb3 hl3
  generalize World.setRow _ _ _ = Y at b3 G0 G1 G2 w5 cw5 R3
  have z3 := b3.size
  have zY := w5.size
  have J1 := hide (bKeeps b3 G1.out)
  have J2 := hide (bKeeps b3 G2.out)
  have q1 : w3.cell? ⟨w.heap.size + 1 + 1, 25, none⟩ = some (.slice none 0 0) := boxAt J2.out 25
  have q2 := boxFz J2.out 25
  have u6 := Upd.setCell (S := fun j => j = w.heap.size + 1 + 1) w3 (w.heap.size + 1 + 1) 25 (.slice so3 k.ys.length sc3) rfl
  have K2 : Hid ((w3.setCell ⟨w.heap.size + 1 + 1, 25, none⟩ (.slice so3 k.ys.length sc3)).heap[w.heap.size + 1 + 1]? = some (.cells (skarr k (.slice so3 k.ys.length sc3)) 39 (0, 0))) := row_set _ J2.out
  have K1 := hide (u6.keeps J1.out (by omega))
  have K3 := hide (R3.out.keep u6 (fun j h1 h2 => by omega))
  have u7 := updRow (w3.setCell ⟨w.heap.size + 1 + 1, 25, none⟩ (.slice so3 k.ys.length sc3)) (w.heap.size + 1) (skarr k (.slice so3 k.ys.length sc3))
  have z6 := u6.size
  have cw6 := (cw5.trans (b3.mono (by have := cw5.size; omega))).trans (u6.below (by have := cw5.size; omega) (fun j h => by omega))
  clear G0 G1 G2 w5 b3
  go_wp2_with (first
    | (refine wpList_load_row rfl 39 (.tmp 3) rfl (w.heap.size + 1 + 1) rfl _ _ (0, 0) _ K2.out Try.underlying39 rfl infoSk ?_)
    | (refine wpList_store_row rfl 39 (.tmp 2) (.tmp 25) rfl (w.heap.size + 1) (skarr k (.slice so3 k.ys.length sc3)) rfl rfl _ _ K1.out infoSk (show (26 : Nat) = 26 from rfl) (skarr_one k so3 _ sc3) ?_))
  refine bodyPost_ret (v := .agg (skarr k (.slice so3 k.ys.length sc3))) (results_cell_row Try.results10 _ _ (w.heap.size + 1) _ _ (0, 0) _ rfl (setRow_heap _ _ _ _ _ _ K1.out) Try.underlying39 rfl infoSk) rfl ?_
  exact ⟨_, rfl, ⟨so3, sc3, rfl, (K3.out.keep u7 (fun j h1 h2 => by omega)).mono (fun j _ h => by omega)⟩, cw6.trans (u7.below (by have := cw6.size; omega) (fun j h => by omega))⟩

end Go.Proofs.Yteddhdbglciahaa

/- A seeker is copied; what is put forward: contracts; no statement of the seat is proved here. -/
namespace Go.Proofs.Yteddhdbglciahaa
open Go.RowKit

/-- A command as cells. -/
def wcmd (x : Wd) : Array Value := #[.int .i64 x.c0, .int .i64 x.c1, .int .i64 x.c2, .int .i64 x.c3, .int .i64 x.c4, .int .i64 x.c5, .int .i64 x.c6, .int .i64 x.c7, .int .i64 x.c8, .int .i64 x.c9]
/-- What is to be voted for. -/
def valW (k : Sk) : Wd := if 0 < k.p.2.1 then k.p.2.2 else k.m
def fwdW (k : Sk) : Wd := if isZP k.p = true then k.m else k.p.2.2
theorem sk_ys (k : Sk) (ys : List Int) (y : Value) : skarr { k with ys := ys } y = skarr k y := rfl

set_option maxRecDepth 100000 in
set_option maxHeartbeats 8000000 in
theorem l22Copy_any (v : Value) (k : Sk) (w : World) (h : SkR w v k) (hn : k.ys.length ≤ 1048576) :
    Calls Try.prog 38 #[v] w fun e w' => ∃ yo yc, e = .returned (.agg (skarr k (.slice yo k.ys.length yc))) ∧ RowA w' w.heap.size 3 1 (.slice yo k.ys.length yc) k.ys.length (ints k.ys) ∧ Below w.heap.size w w' := by
  obtain ⟨i1, gi, gz0, gz1, gz2⟩ := info_parts infoInt
  obtain ⟨ao, ac, rfl, hr⟩ := h
  have HR := hide hr
  clear hr
  go_enter Try.func38, Try.ntmps38
  go_upto_region 1 with fail
  generalize hW : World.alloc _ _ = W
  have al : Below w.heap.size w W := by rw [← hW]; exact bal (bal (Below.refl _ _) _) _
  have A0 : Hid (W.heap[w.heap.size]? = some (.cells (skarr k (.slice ao k.ys.length ac)) 39 (0, 0))) := by show _ = _; rw [← hW]; exact al2_0 w _ _
  have A1 : Hid (W.heap[w.heap.size + 1]? = some (.cells (skarr zeroK (.slice none 0 0)) 39 (0, 0))) := by show _ = _; rw [← hW]; exact al2_1 w _ _
  have ltW := heap_lt A1.out
  clear hW
  have a2 := bal (Below.refl W.heap.size W) (.cells #[] 3)
  have x := (sk_cells (bKeeps a2 A0.out)).2.2.2.2.2.2.2
  have HR2 := hide (HR.out.keep (bAll al a2))
  have A2 := hide (bKeeps a2 A0.out)
  have A3 := hide (bKeeps a2 A1.out)
  have zX := a2.size
  go_wp2_with (at_builtin; refine wpList_copyA0 _ rfl _ _ 26 rfl W.heap.size 3 i1 (.int .i64 0) 1 8 Try.underlying26 gi gz0 gz1 gz2 rfl (by decide) (some ⟨W.heap.size, 0, none⟩) rfl _ k.ys.length (ints k.ys) rfl ?qrow (ints_one _) hn (by omega) ?qbase ?_)
  case qrow => exact HR2.out
  case qbase => exact a2.size
  intro v5 w5 r5 u5
  obtain ⟨so5, sc5, rfl, hcap5⟩ := roomA r5
  have B0 := hide (typed_keeps (by decide) u5 A2.out)
  have B1 := hide (typed_keeps (by decide) u5 A3.out)
  have c5 : Below W.heap.size W w5 := a2.trans (u5.below a2.size (fun j h => h.1))
  have R5 := hide r5
  have f0 : w5.cell? ⟨w.heap.size, 25, none⟩ = some (.slice ao k.ys.length ac) := boxAt B0.out 25
  have f1 : w5.frozen? ⟨w.heap.size, 25, none⟩ = false := boxFz B0.out 25
  clear x HR2 A2 A3 a2 u5 r5 A0 A1
  go_upto_region 2 with fail
  generalize hV : World.setCell _ _ _ = V
  have u6 : Upd (fun j => j = w.heap.size) w5 V := by rw [← hV]; exact Upd.setCell _ _ _ _ rfl
  have C0 : Hid (V.heap[w.heap.size]? = some (.cells (skarr k (.slice so5 k.ys.length sc5)) 39 (0, 0))) := by show _ = _; rw [← hV]; exact row_set _ B0.out
  have C1 := hide (u6.keeps B1.out (by omega))
  have R6 := hide (R5.out.keep u6 (fun j h1 h2 => by omega))
  clear hV f0 f1 R5 B0 B1
  have s8 := updRow V (w.heap.size + 1) (skarr k (.slice so5 k.ys.length sc5))
  go_wp2_with (first
    | (refine wpList_load_row rfl 39 (.tmp 1) rfl w.heap.size rfl _ (skarr k (.slice so5 k.ys.length sc5)) (0, 0) _ C0.out Try.underlying39 rfl infoSk ?_)
    | (refine wpList_store_row rfl 39 (.tmp 2) (.tmp 8) rfl (w.heap.size + 1) (skarr k (.slice so5 k.ys.length sc5)) rfl rfl _ _ C1.out infoSk (show (26 : Nat) = 26 from rfl) (skarr_one _ _ _ _) ?_))
  refine bodyPost_ret (v := .agg (skarr k (.slice so5 k.ys.length sc5))) (results_cell_row Try.results38 _ _ (w.heap.size + 1) _ _ (0, 0) _ rfl (setRow_heap _ _ _ _ _ _ C1.out) Try.underlying39 rfl infoSk) rfl ?_
  have cw := bAll al c5
  have cv : Below w.heap.size w V := cw.trans (u6.below cw.size (fun j h => by omega))
  exact ⟨so5, sc5, rfl, (R6.out.keep s8 (fun j h1 h2 => by omega)).mono (by omega), cv.trans (s8.below cv.size (fun j h => by omega))⟩

set_option maxRecDepth 100000 in
set_option maxHeartbeats 8000000 in
theorem l22Value_any (k : Sk) (yo : Option Addr) (n yc : Nat) (w : World) :
    Calls Try.prog 43 #[.agg (skarr k (.slice yo n yc))] w fun e w' => e = .returned (.agg (wcmd (valW k))) ∧ Below w.heap.size w w' := by
  obtain ⟨y, hy⟩ : ∃ y, valW k = y := ⟨_, rfl⟩
  rw [hy]
  have HYY := hide hy
  clear hy
  go_enter Try.func43, Try.ntmps43
  go_upto_region 1 with fail
  generalize hW : World.alloc _ _ = W
  have al : Below w.heap.size w W := by rw [← hW]; exact bal (bal (Below.refl _ _) _) _
  have A0 : Hid (W.heap[w.heap.size]? = some (.cells (skarr k (.slice yo n yc)) 39 (0, 0))) := by show _ = _; rw [← hW]; exact al2_0 w _ _
  have A1 : Hid (W.heap[w.heap.size + 1]? = some (.cells #[.int .i64 0, .int .i64 0, .int .i64 0, .int .i64 0, .int .i64 0, .int .i64 0, .int .i64 0, .int .i64 0, .int .i64 0, .int .i64 0] 35 (0, 0))) := by show _ = _; rw [← hW]; exact al2_1 w _ _
  clear hW
  obtain ⟨-, -, -, xm, xp, -, x14, -⟩ := sk_cells A0.out
  have xc : ∀ j z, (#[.int .i64 k.p.2.2.c0, .int .i64 k.p.2.2.c1, .int .i64 k.p.2.2.c2, .int .i64 k.p.2.2.c3, .int .i64 k.p.2.2.c4, .int .i64 k.p.2.2.c5, .int .i64 k.p.2.2.c6, .int .i64 k.p.2.2.c7, .int .i64 k.p.2.2.c8, .int .i64 k.p.2.2.c9] : Array Value)[j]? = some z → W.cell? ⟨w.heap.size, 15 + j, none⟩ = some z := fun j z hj => by
    have := xp (2 + j) z (pparr_cmd hj)
    rwa [← Nat.add_assoc] at this
  have XM := hide xm
  have XC := hide xc
  clear xm xp xc
  by_cases h0 : 0 < k.p.2.1
  · have e0 : decide (k.p.2.1 > 0) = true := by simpa using h0
    have ey : y = k.p.2.2 := by rw [← HYY.out, valW, if_pos h0]
    subst ey
    clear h0
    have s8 := updRow W (w.heap.size + 1) #[.int .i64 k.p.2.2.c0, .int .i64 k.p.2.2.c1, .int .i64 k.p.2.2.c2, .int .i64 k.p.2.2.c3, .int .i64 k.p.2.2.c4, .int .i64 k.p.2.2.c5, .int .i64 k.p.2.2.c6, .int .i64 k.p.2.2.c7, .int .i64 k.p.2.2.c8, .int .i64 k.p.2.2.c9]
    go_wp2_with (first
      | (refine wpList_load_at rfl 35 (.tmp 8) rfl w.heap.size 15 rfl #[.int .i64 k.p.2.2.c0, .int .i64 k.p.2.2.c1, .int .i64 k.p.2.2.c2, .int .i64 k.p.2.2.c3, .int .i64 k.p.2.2.c4, .int .i64 k.p.2.2.c5, .int .i64 k.p.2.2.c6, .int .i64 k.p.2.2.c7, .int .i64 k.p.2.2.c8, .int .i64 k.p.2.2.c9] _ XC.out Try.underlying35 rfl infoCm10 ?_)
      | (refine wpList_store_row rfl 35 (.tmp 2) (.tmp 9) rfl (w.heap.size + 1) #[.int .i64 k.p.2.2.c0, .int .i64 k.p.2.2.c1, .int .i64 k.p.2.2.c2, .int .i64 k.p.2.2.c3, .int .i64 k.p.2.2.c4, .int .i64 k.p.2.2.c5, .int .i64 k.p.2.2.c6, .int .i64 k.p.2.2.c7, .int .i64 k.p.2.2.c8, .int .i64 k.p.2.2.c9] rfl rfl _ _ A1.out infoCm10 (show (10 : Nat) = 10 from rfl) (all_of_list rfl) ?_))
    refine bodyPost_ret (v := .agg (wcmd k.p.2.2)) (results_cell_row Try.results43 _ _ (w.heap.size + 1) _ _ (0, 0) _ rfl (setRow_heap _ _ _ _ _ _ A1.out) Try.underlying35 rfl infoCm10) rfl ?_
    exact ⟨rfl, al.trans (s8.below al.size (fun j h => by omega))⟩
  · have e0 : decide (k.p.2.1 > 0) = false := by simpa using h0
    have ey : y = k.m := by rw [← HYY.out, valW, if_neg h0]
    subst ey
    clear h0
    have s8 := updRow W (w.heap.size + 1) #[.int .i64 k.m.c0, .int .i64 k.m.c1, .int .i64 k.m.c2, .int .i64 k.m.c3, .int .i64 k.m.c4, .int .i64 k.m.c5, .int .i64 k.m.c6, .int .i64 k.m.c7, .int .i64 k.m.c8, .int .i64 k.m.c9]
    go_wp2_with (first
      | (refine wpList_load_at rfl 35 (.tmp 10) rfl w.heap.size 3 rfl #[.int .i64 k.m.c0, .int .i64 k.m.c1, .int .i64 k.m.c2, .int .i64 k.m.c3, .int .i64 k.m.c4, .int .i64 k.m.c5, .int .i64 k.m.c6, .int .i64 k.m.c7, .int .i64 k.m.c8, .int .i64 k.m.c9] _ XM.out Try.underlying35 rfl infoCm10 ?_)
      | (refine wpList_store_row rfl 35 (.tmp 2) (.tmp 11) rfl (w.heap.size + 1) #[.int .i64 k.m.c0, .int .i64 k.m.c1, .int .i64 k.m.c2, .int .i64 k.m.c3, .int .i64 k.m.c4, .int .i64 k.m.c5, .int .i64 k.m.c6, .int .i64 k.m.c7, .int .i64 k.m.c8, .int .i64 k.m.c9] rfl rfl _ _ A1.out infoCm10 (show (10 : Nat) = 10 from rfl) (all_of_list rfl) ?_))
    refine bodyPost_ret (v := .agg (wcmd k.m)) (results_cell_row Try.results43 _ _ (w.heap.size + 1) _ _ (0, 0) _ rfl (setRow_heap _ _ _ _ _ _ A1.out) Try.underlying35 rfl infoCm10) rfl ?_
    exact ⟨rfl, al.trans (s8.below al.size (fun j h => by omega))⟩

end Go.Proofs.Yteddhdbglciahaa

/- What the program's SynHear leans on: contracts; no statement of the seat is proved here. -/
namespace Go.Proofs.Yteddhdbglciahaa
open Go.RowKit

set_option maxRecDepth 100000 in
set_option maxHeartbeats 4000000 in
theorem forward_any (g : Nat) (k : Sk) (y : Value) (t : TypeId) (w : World) (hg : w.heap[g]? = some (.cells (skarr k y) t (0, 0))) :
    Calls Try.prog 162 #[.pointer (some ⟨g, 0, none⟩)] w fun e w' => e = .returned (.agg (wcmd (fwdW k))) ∧ Below w.heap.size w w' := by
  obtain ⟨z, hz⟩ : ∃ z, fwdW k = z := ⟨_, rfl⟩
  rw [hz]
  have HZZ := hide hz
  obtain ⟨j, hj⟩ : ∃ j, isZP k.p = j := ⟨_, rfl⟩
  have HJ := hide hj
  have HG := hide hg
  clear hz hj hg
  go_enter Try.func162, Try.ntmps162
  go_upto_region 1 with fail
  generalize hW : World.alloc _ _ = W
  have al : Below w.heap.size w W := by rw [← hW]; exact bal (Below.refl _ _) _
  have A1 : Hid (W.heap[w.heap.size]? = some (.cells #[.int .i64 0, .int .i64 0, .int .i64 0, .int .i64 0, .int .i64 0, .int .i64 0, .int .i64 0, .int .i64 0, .int .i64 0, .int .i64 0] 35 (0, 0))) := by show _ = _; rw [← hW]; exact al1_0 w _
  have A0 := hide (bKeeps al HG.out)
  clear hW
  obtain ⟨-, -, -, xm, xp, -, -, -⟩ := sk_cells A0.out
  have xc : ∀ j z, (#[.int .i64 k.p.2.2.c0, .int .i64 k.p.2.2.c1, .int .i64 k.p.2.2.c2, .int .i64 k.p.2.2.c3, .int .i64 k.p.2.2.c4, .int .i64 k.p.2.2.c5, .int .i64 k.p.2.2.c6, .int .i64 k.p.2.2.c7, .int .i64 k.p.2.2.c8, .int .i64 k.p.2.2.c9] : Array Value)[j]? = some z → W.cell? ⟨g, 15 + j, none⟩ = some z := fun j z hj => by
    have := xp (2 + j) z (pparr_cmd hj)
    rwa [← Nat.add_assoc] at this
  have XM := hide xm
  have XP := hide xp
  have XC := hide xc
  clear xm xp xc
  cases j
  · have ey : z = k.p.2.2 := by rw [← HZZ.out, fwdW, if_neg (by rw [HJ.out]; simp)]
    subst ey
    have s8 := updRow W w.heap.size #[.int .i64 k.p.2.2.c0, .int .i64 k.p.2.2.c1, .int .i64 k.p.2.2.c2, .int .i64 k.p.2.2.c3, .int .i64 k.p.2.2.c4, .int .i64 k.p.2.2.c5, .int .i64 k.p.2.2.c6, .int .i64 k.p.2.2.c7, .int .i64 k.p.2.2.c8, .int .i64 k.p.2.2.c9]
    go_wp2_with (first
      | (refine wpList_load_at (by rfl) 37 (.tmp 5) rfl g 13 rfl (pparr k.p) _ XP.out Try.underlying37 rfl infoPpS ?_)
      | (refine wpList_buildG (by rfl) 37 _ rfl [] _ rfl builtPaper0 ?_)
      | (refine wpList_eqlPaper (by rfl) _ _ _ rfl k.p rfl rfl ?_; rw [HJ.out])
      | (refine wpList_load_at (by rfl) 35 (.tmp 16) rfl g 15 rfl #[.int .i64 k.p.2.2.c0, .int .i64 k.p.2.2.c1, .int .i64 k.p.2.2.c2, .int .i64 k.p.2.2.c3, .int .i64 k.p.2.2.c4, .int .i64 k.p.2.2.c5, .int .i64 k.p.2.2.c6, .int .i64 k.p.2.2.c7, .int .i64 k.p.2.2.c8, .int .i64 k.p.2.2.c9] _ XC.out Try.underlying35 rfl infoCm10 ?_)
      | (refine wpList_store_row rfl 35 (.tmp 2) (.tmp 17) rfl w.heap.size #[.int .i64 k.p.2.2.c0, .int .i64 k.p.2.2.c1, .int .i64 k.p.2.2.c2, .int .i64 k.p.2.2.c3, .int .i64 k.p.2.2.c4, .int .i64 k.p.2.2.c5, .int .i64 k.p.2.2.c6, .int .i64 k.p.2.2.c7, .int .i64 k.p.2.2.c8, .int .i64 k.p.2.2.c9] rfl rfl _ _ A1.out infoCm10 (show (10 : Nat) = 10 from rfl) (all_of_list rfl) ?_))
    refine bodyPost_ret (v := .agg (wcmd k.p.2.2)) (results_cell_row Try.results162 _ _ w.heap.size _ _ (0, 0) _ rfl (setRow_heap _ _ _ _ _ _ A1.out) Try.underlying35 rfl infoCm10) rfl ?_
    exact ⟨rfl, al.trans (s8.below al.size (fun j h => by omega))⟩
  · have ey : z = k.m := by rw [← HZZ.out, fwdW, if_pos HJ.out]
    subst ey
    have s8 := updRow W w.heap.size #[.int .i64 k.m.c0, .int .i64 k.m.c1, .int .i64 k.m.c2, .int .i64 k.m.c3, .int .i64 k.m.c4, .int .i64 k.m.c5, .int .i64 k.m.c6, .int .i64 k.m.c7, .int .i64 k.m.c8, .int .i64 k.m.c9]
    go_wp2_with (first
      | (refine wpList_load_at (by rfl) 37 (.tmp 5) rfl g 13 rfl (pparr k.p) _ XP.out Try.underlying37 rfl infoPpS ?_)
      | (refine wpList_buildG (by rfl) 37 _ rfl [] _ rfl builtPaper0 ?_)
      | (refine wpList_eqlPaper (by rfl) _ _ _ rfl k.p rfl rfl ?_; rw [HJ.out])
      | (refine wpList_load_at (by rfl) 35 (.tmp 11) rfl g 3 rfl #[.int .i64 k.m.c0, .int .i64 k.m.c1, .int .i64 k.m.c2, .int .i64 k.m.c3, .int .i64 k.m.c4, .int .i64 k.m.c5, .int .i64 k.m.c6, .int .i64 k.m.c7, .int .i64 k.m.c8, .int .i64 k.m.c9] _ XM.out Try.underlying35 rfl infoCm10 ?_)
      | (refine wpList_store_row rfl 35 (.tmp 2) (.tmp 12) rfl w.heap.size #[.int .i64 k.m.c0, .int .i64 k.m.c1, .int .i64 k.m.c2, .int .i64 k.m.c3, .int .i64 k.m.c4, .int .i64 k.m.c5, .int .i64 k.m.c6, .int .i64 k.m.c7, .int .i64 k.m.c8, .int .i64 k.m.c9] rfl rfl _ _ A1.out infoCm10 (show (10 : Nat) = 10 from rfl) (all_of_list rfl) ?_))
    refine bodyPost_ret (v := .agg (wcmd k.m)) (results_cell_row Try.results162 _ _ w.heap.size _ _ (0, 0) _ rfl (setRow_heap _ _ _ _ _ _ A1.out) Try.underlying35 rfl infoCm10) rfl ?_
    exact ⟨rfl, al.trans (s8.below al.size (fun j h => by omega))⟩

end Go.Proofs.Yteddhdbglciahaa
