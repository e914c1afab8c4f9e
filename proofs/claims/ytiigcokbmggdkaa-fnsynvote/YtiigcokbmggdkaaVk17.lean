/- Contracts and plain facts that this claim leans on (texts VF); no statement of the seat is proved here. -/
import Derived.Laws.StructEq
import Derived.Test.YtiigcokbmggdkaaVk13
import Derived.Test.YtiigcokbmggdkaaVk15
import Derived.Test.YtiigcokbmggdkaaVk16

/- What a voter gives, plainly; papers held against each other: plain facts, laws of one program; no statement of the seat is proved here. -/
namespace Go.Proofs.Ytiigcokbmggdkaa
open Go.RowKit

section
variable {α : Type} {ord : α → α → Int}
theorem ins_ge (ho : OrdOk ord) : ∀ {xs : List α} {x : α}, Asc ord xs → xs.length ≤ (insL ord xs x).length
  | [], x, _ => by simp [insL]
  | y :: ys, x, h => by
    have ih := ins_ge ho (xs := ys) (x := x) (List.Pairwise.of_cons h)
    simp only [insL, List.length_append, List.length_cons] at ih ⊢
    by_cases hy : ord y x < 0
    · rw [List.filter_cons_of_pos (by simpa using hy), List.filter_cons_of_neg (by simp; omega)]
      simp only [List.length_cons]
      omega
    · have ht := asc_tail_above ho h (show 0 ≤ ord y x by omega)
      have e : ys.filter (fun y => decide (0 < ord y x)) = ys := List.filter_eq_self.2 (fun z hz => by simpa using ht z hz)
      have e2 : ys.length ≤ ((y :: ys).filter (fun y => decide (0 < ord y x))).length := by
        rw [List.filter_cons]
        split
        · rw [e]; simp
        · rw [e]; exact Nat.le_refl _
      omega
end

/-- Are two commands, two papers the same? -/
def eqC (x y : Wd) : Bool := x.c0 == y.c0 && (x.c1 == y.c1 && (x.c2 == y.c2 && (x.c3 == y.c3 && (x.c4 == y.c4 && (x.c5 == y.c5 && (x.c6 == y.c6 && (x.c7 == y.c7 && (x.c8 == y.c8 && x.c9 == y.c9))))))))
def eqP (p q : Pp) : Bool := p.1 == q.1 && (p.2.1 == q.2.1 && eqC p.2.2 q.2.2)
theorem eqP_self (p : Pp) : eqP p p = true := by simp [eqP, eqC]

theorem ifB2 {a b : Int} {c : Bool} (w : World) (R : Result Value) (h : R = .ok (.bool c) w) : (if a = b then R else .ok (.bool false) w) = .ok (.bool (a == b && c)) w := by
  by_cases ha : a = b
  · rw [if_pos ha, h, ha]
    simp
  · rw [if_neg ha, show (a == b) = false by simpa using ha]
    rfl

set_option maxRecDepth 10000 in
theorem eqlPaper (s b s' b' : Int) (x x' : Wd) (w : World) : (binOp .eql 56 (.agg (#[.int .i64 s, .int .i64 b, .int .i64 x.c0, .int .i64 x.c1, .int .i64 x.c2, .int .i64 x.c3, .int .i64 x.c4, .int .i64 x.c5, .int .i64 x.c6, .int .i64 x.c7, .int .i64 x.c8, .int .i64 x.c9] : Array Value)) (.agg (#[.int .i64 s', .int .i64 b', .int .i64 x'.c0, .int .i64 x'.c1, .int .i64 x'.c2, .int .i64 x'.c3, .int .i64 x'.c4, .int .i64 x'.c5, .int .i64 x'.c6, .int .i64 x'.c7, .int .i64 x'.c8, .int .i64 x'.c9] : Array Value))).run Try.prog w = .ok (.bool (eqP (s, b, x) (s', b', x'))) w := by
  have u3 := Try.underlying3
  have a3 := Try.isAgg3
  have z3 := Try.sizeOf3
  have hS : Try.prog.underlying 56 = some (.struct (Try.prog.fieldsOf 56)) := by kernel_rfl
  rw [run_eql_struct, show (10000 : Nat) = 9999 + 1 from rfl, run_equalIn_agg w 9999 56 _ _ hS (by kernel_rfl)]
  simp only [Program.fieldsOf, Try.underlying56 ]
  go_simp
  unfold eqP eqC
  clear u3 a3 z3 hS
  iterate 11 refine ifB2 w _ ?_
  by_cases h : x.c9 = x'.c9 <;> simp [h]
theorem neqPaper (s b : Int) (x : Wd) (w : World) : (binOp .neq 56 (.agg (#[.int .i64 s, .int .i64 b, .int .i64 x.c0, .int .i64 x.c1, .int .i64 x.c2, .int .i64 x.c3, .int .i64 x.c4, .int .i64 x.c5, .int .i64 x.c6, .int .i64 x.c7, .int .i64 x.c8, .int .i64 x.c9] : Array Value)) (.agg (#[.int .i64 s, .int .i64 b, .int .i64 x.c0, .int .i64 x.c1, .int .i64 x.c2, .int .i64 x.c3, .int .i64 x.c4, .int .i64 x.c5, .int .i64 x.c6, .int .i64 x.c7, .int .i64 x.c8, .int .i64 x.c9] : Array Value))).run Try.prog w = .ok (.bool false) w := by
  have e := eqlPaper s b s b x x w
  rw [run_eql_struct] at e
  rw [run_neq_struct]
  cases h : (Op.equalIn 10000 56 (.agg (#[.int .i64 s, .int .i64 b, .int .i64 x.c0, .int .i64 x.c1, .int .i64 x.c2, .int .i64 x.c3, .int .i64 x.c4, .int .i64 x.c5, .int .i64 x.c6, .int .i64 x.c7, .int .i64 x.c8, .int .i64 x.c9] : Array Value)) (.agg (#[.int .i64 s, .int .i64 b, .int .i64 x.c0, .int .i64 x.c1, .int .i64 x.c2, .int .i64 x.c3, .int .i64 x.c4, .int .i64 x.c5, .int .i64 x.c6, .int .i64 x.c7, .int .i64 x.c8, .int .i64 x.c9] : Array Value))).run Try.prog w with
  | ok a w1 =>
    rw [h] at e
    simp only [Result.andThen, Result.ok.injEq, Value.bool.injEq] at e ⊢
    rw [e.1, eqP_self]
    exact ⟨rfl, e.2⟩
  | halt a w1 => rw [h] at e; simp [Result.andThen] at e
theorem guardPaperN (w : World) (x y : Operand) (xs ys : Array Value) : (eqGuard .neq 56 x y (.agg xs) (.agg ys)).run Try.prog w = .ok () w := run_eqGuard_agg w _ _ _ _ _ _ (by kernel_rfl)
theorem yields_eqlPp {ops : Array Oper} {S : World → Prop} {op : Oper} {a : Act} (hw : Region.wanted op (yielded ops a.tmps) = true) (yt : TypeId) (x y : Operand) (ho : op.op = .binOp .eql 56 x y yt)
    (p q : Pp) (hx : a.eval x = .agg (pparr p)) (hy : a.eval y = .agg (pparr q)) (j : Bool) (hj : eqP p q = j) : YieldsIf Try.prog ops S op (.bool j) a :=
  .inl ⟨hw, fun w _ => by
    have hx' : a.eval x = .agg (#[.int .i64 p.1, .int .i64 p.2.1, .int .i64 p.2.2.c0, .int .i64 p.2.2.c1, .int .i64 p.2.2.c2, .int .i64 p.2.2.c3, .int .i64 p.2.2.c4, .int .i64 p.2.2.c5, .int .i64 p.2.2.c6, .int .i64 p.2.2.c7, .int .i64 p.2.2.c8, .int .i64 p.2.2.c9] : Array Value) := hx
    have hy' : a.eval y = .agg (#[.int .i64 q.1, .int .i64 q.2.1, .int .i64 q.2.2.c0, .int .i64 q.2.2.c1, .int .i64 q.2.2.c2, .int .i64 q.2.2.c3, .int .i64 q.2.2.c4, .int .i64 q.2.2.c5, .int .i64 q.2.2.c6, .int .i64 q.2.2.c7, .int .i64 q.2.2.c8, .int .i64 q.2.2.c9] : Array Value) := hy
    subst hj
    unfold execOp
    simp only [ho, hx', hy', Sem.run_bind, guardPaper, Result.andThen_ok, eqlPaper]
    rfl⟩
theorem yields_neqPp {ops : Array Oper} {S : World → Prop} {op : Oper} {a : Act} (hw : Region.wanted op (yielded ops a.tmps) = true) (yt : TypeId) (x y : Operand) (ho : op.op = .binOp .neq 56 x y yt)
    (p : Pp) (hx : a.eval x = .agg (pparr p)) (hy : a.eval y = .agg (pparr p)) : YieldsIf Try.prog ops S op (.bool false) a :=
  .inl ⟨hw, fun w _ => by
    have hx' : a.eval x = .agg (#[.int .i64 p.1, .int .i64 p.2.1, .int .i64 p.2.2.c0, .int .i64 p.2.2.c1, .int .i64 p.2.2.c2, .int .i64 p.2.2.c3, .int .i64 p.2.2.c4, .int .i64 p.2.2.c5, .int .i64 p.2.2.c6, .int .i64 p.2.2.c7, .int .i64 p.2.2.c8, .int .i64 p.2.2.c9] : Array Value) := hx
    have hy' : a.eval y = .agg (#[.int .i64 p.1, .int .i64 p.2.1, .int .i64 p.2.2.c0, .int .i64 p.2.2.c1, .int .i64 p.2.2.c2, .int .i64 p.2.2.c3, .int .i64 p.2.2.c4, .int .i64 p.2.2.c5, .int .i64 p.2.2.c6, .int .i64 p.2.2.c7, .int .i64 p.2.2.c8, .int .i64 p.2.2.c9] : Array Value) := hy
    unfold execOp
    simp only [ho, hx', hy', Sem.run_bind, guardPaperN, Result.andThen_ok, neqPaper]
    rfl⟩

/-- Is a paper kept, or voted for anew? -/
def hit (P : Int) (x : Wd) (p q : Pp) : Bool := eqP q p || (((q.1 == p.1 && decide (q.2.1 ≥ p.2.1)) && x.a0 == 3) && decide (x.a3 ≥ P))

theorem voteR_not {P : Int} {xs : List Pp} {me : Int} {x : Wd} (h : (voteR P xs me x).2.2.2 = false) : voteR P xs me x = (P, xs, zeroW, false) := by
  unfold voteR at h ⊢
  split at h
  · exfalso
    split at h
    · split at h <;> simp at h
    · split at h <;> simp at h
  · rename_i hc
    rw [if_neg hc]

theorem asks_paper {x : Wd} (h : asksW x = true) : ppI (x.a4, x.a3, x) = true := by
  simp only [asksW, Bool.and_eq_true, decide_eq_true_eq] at h
  obtain ⟨h1, h2, h3⟩ := h
  have hn := okW_nums h1 x.a3 (by simp [Wd.nums])
  simp only [okW, Bool.and_eq_true] at h1
  simp only [ppI, Bool.and_eq_true]
  refine ⟨h2, ?_, h1.2.2.2.2.1⟩
  simp only [inI, Bool.and_eq_true, decide_eq_true_eq]
  omega

theorem vote_fact {P : Int} {xs : List Pp} {me : Int} {x : Wd} {P' : Int} {xs' : List Pp} {b : Wd} (h : voteR P xs me x = (P', xs', b, true)) :
    okV P xs = true ∧ okV P' xs' = true ∧ P ≤ P' ∧ xs.length ≤ xs'.length ∧ (∀ p ∈ xs, ∃ q ∈ xs', hit P x p q = true) ∧ (b.a0 = 4 → P ≤ x.a3) := by
  have hself : ∀ p ∈ xs, ∃ q ∈ xs, hit P x p q = true := fun p hp => ⟨p, hp, by rw [hit, eqP_self]; rfl⟩
  unfold voteR at h
  split at h
  · rename_i hc
    simp only [Bool.and_eq_true, Bool.or_eq_true, decide_eq_true_eq] at hc
    obtain ⟨hok, -, hask, hk⟩ := hc
    have hpp := asks_paper hask
    split at h
    · split at h
      · rename_i h1 hlt
        simp only [Prod.mk.injEq, and_true] at h
        obtain ⟨rfl, rfl, hb⟩ := h
        refine ⟨hok, (vote_ok hok hpp (show P ≤ x.a3 by omega)).2, by omega, Nat.le_refl _, hself, fun h4 => ?_⟩
        omega
      · simp only [Prod.mk.injEq, and_true] at h
        obtain ⟨rfl, rfl, rfl⟩ := h
        exact ⟨hok, hok, Int.le_refl _, Nat.le_refl _, hself, fun h4 => by simp [backW] at h4⟩
    · rename_i h1
      have h3 : x.a0 = 3 := by omega
      split at h
      · rename_i hle
        simp only [Prod.mk.injEq, and_true] at h
        obtain ⟨rfl, rfl, rfl⟩ := h
        have hasc : Asc ordV xs ∧ ∀ p ∈ xs, p.2.1 ≤ P := by
          simp only [okV, Bool.and_eq_true] at hok
          obtain ⟨-, l2, l3⟩ := (ok_iff ordOkV).1 hok.2
          refine ⟨l3, fun p hp => ?_⟩
          have := l2 p hp
          simp only [fitV, Bool.and_eq_true, decide_eq_true_eq] at this
          exact this.2
        refine ⟨hok, (vote_ok hok hpp hle).1, hle, ins_ge ordOkV hasc.1, fun p hp => ?_, fun _ => hle⟩
        by_cases hz : ordV p (x.a4, x.a3, x) = 0
        · refine ⟨(x.a4, x.a3, x), ins_mem.2 (.inl rfl), ?_⟩
          have e : p.1 = x.a4 := cmpI_zero.1 hz
          have := hasc.2 p hp
          simp only [hit, Bool.or_eq_true, Bool.and_eq_true, beq_iff_eq, decide_eq_true_eq]
          exact .inr ⟨⟨⟨e.symm, by omega⟩, h3⟩, by omega⟩
        · exact ⟨p, ins_mem.2 (.inr ⟨hp, hz⟩), by rw [hit, eqP_self]; rfl⟩
      · simp only [Prod.mk.injEq, and_true] at h
        obtain ⟨rfl, rfl, rfl⟩ := h
        exact ⟨hok, hok, Int.le_refl _, Nat.le_refl _, hself, fun h4 => by simp [backW] at h4⟩
  · simp at h

end Go.Proofs.Ytiigcokbmggdkaa
