/- Contracts and plain facts that this claim leans on (texts XLw, HP1, SK4, SH1, SK2, SH2, FW3); no statement of the seat is proved here. -/
import Derived.Test.YteddhdbglciahaaLk10
import Derived.Test.YteddhdbglciahaaLk8
import Derived.Laws.StructEq
import Derived.Test.YteddhdbglciahaaLk9

/- How the laws compare words: contracts; no statement of the seat is proved here. -/
namespace Go.Proofs.Yteddhdbglciahaa
open Go.RowKit

set_option maxHeartbeats 1000000 in
theorem lpInts_true (va vb : Value) (n : Nat) (ss : List Int) (w : World) (ha : RowR w 1 va n (ss.map (Value.int .i64))) (hb : RowR w 1 vb n (ss.map (Value.int .i64))) :
    Calls Try.prog 72 #[va, vb] w fun e w' => e = .returned (.bool true) ∧ Below w.heap.size w w' := by
  obtain ⟨ao, ca, rfl, hn, hl, ha⟩ := ha
  obtain ⟨bo, cb, rfl, _, _, hb⟩ := hb
  go_enter Try.func72, Try.ntmps72
  go_wp2
  go_loopw [5] (fun i wr => ∃ k : Nat, k ≤ n ∧ i = .int .i64 k ∧ Below w.heap.size w wr) (fun i _ => n - (intOf i).toNat)
  case atStart => exact ⟨0, Nat.zero_le _, rfl, Below.refl _ _⟩
  case round =>
    obtain ⟨k, hk, rfl, hbel⟩ := hrel
    by_cases hlt : k < n
    · obtain ⟨b1, o1, rfl, hc1⟩ := ha (by omega)
      obtain ⟨b2, o2, rfl, hc2⟩ := hb (by omega)
      obtain ⟨s, hs⟩ : ∃ s, (ss.map (Value.int .i64))[k]? = some (.int .i64 s) := by
        simp only [List.length_map, Nat.mul_one] at hl
        exact ⟨ss[k]'(by omega), by simp [show k < ss.length by omega]⟩
      have g1 := hc1 k _ hs
      have g2 := hc2 k _ hs
      have f1 : wr.cell? ⟨b1, o1 + k, none⟩ = some (.int .i64 s) := (hbel.cell (p := ⟨b1, o1 + k, none⟩) (World.block_lt_of_cell? w _ g1)).trans g1
      have f2 : wr.cell? ⟨b2, o2 + k, none⟩ = some (.int .i64 s) := (hbel.cell (p := ⟨b2, o2 + k, none⟩) (World.block_lt_of_cell? w _ g2)).trans g2
      have hi : (k : Int) < (n : Int) := by omega
      clear ha hb hc1 hc2 hs g1 g2 hl
      go_wp2
      go_quiet (fail)
      go_wp2
      go_roundw
      case rel => exact ⟨k + 1, by omega, by go_num, below_drewN hbel _⟩
      case measure => simp [intOf]; omega
    · go_wp2
      go_ret
      exact ⟨rfl, hbel⟩

theorem rowOfInts {w : World} {g : Nat} {xs : List Int} {t : TypeId} {n : Nat} (h : w.heap[g]? = some (.cells (intsV xs).toArray t (0, 0))) (hn : xs.length = n) (hn' : n ≤ 1000) : RowR w 1 (.slice (some ⟨g, 0, none⟩) n n) n (xs.map (Value.int .i64)) := by
  refine ⟨_, _, rfl, by omega, by simp [hn], fun _ => ⟨g, 0, rfl, fun j u hj => ?_⟩⟩
  rw [Nat.zero_add, boxAt h j]
  simpa [intsV] using hj

def nums14 (x : Wd) : List Int := [x.a0, x.a1, x.a2, x.a3, x.a4, x.a5, x.b0, x.b1, x.b2, x.b3, x.b4, x.b5, x.b6, x.b7]

set_option maxRecDepth 100000 in
set_option maxHeartbeats 8000000 in
theorem lpWord_true (va vb : Value) (x : Wd) (w : World) (ha : WdR w va x) (hb : WdR w vb x) :
    Calls Try.prog 73 #[va, vb] w fun e w' => e = .returned (.bool true) ∧ Below w.heap.size w w' := by
  obtain ⟨po, pc, lo, lc, rfl, a1, a2⟩ := ha
  obtain ⟨po', pc', lo', lc', rfl, d1, d2⟩ := hb
  have A1 := hide a1
  have A2 := hide a2
  have D1 := hide d1
  have D2 := hide d2
  clear a1 a2 d1 d2
  go_enter Try.func73, Try.ntmps73
  go_wp2_with fail
  generalize hW : World.alloc _ _ = W
  have hal : Below w.heap.size w W := by rw [← hW]; exact bal (bal (bal (bal (Below.refl _ _) _) _) _) _
  have B0 : W.heap[w.heap.size]? = some (.cells (#[.int .i64 x.a0, .int .i64 x.a1, .int .i64 x.a2, .int .i64 x.a3, .int .i64 x.a4, .int .i64 x.a5, .int .i64 x.c0, .int .i64 x.c1, .int .i64 x.c2, .int .i64 x.c3, .int .i64 x.c4, .int .i64 x.c5, .int .i64 x.c6, .int .i64 x.c7, .int .i64 x.c8, .int .i64 x.c9, .int .i64 x.b0, .int .i64 x.b1, .int .i64 x.b2, .int .i64 x.b3, .int .i64 x.b4, .int .i64 x.b5, .int .i64 x.b6, .int .i64 x.b7, .slice po x.ps.length pc, .slice lo x.ls.length lc] : Array Value) 47 (0, 0)) := by rw [← hW]; exact heap_up _ (heap_up _ (al2_0 w _ _))
  have B1 : W.heap[w.heap.size + 1]? = some (.cells (#[.int .i64 x.a0, .int .i64 x.a1, .int .i64 x.a2, .int .i64 x.a3, .int .i64 x.a4, .int .i64 x.a5, .int .i64 x.c0, .int .i64 x.c1, .int .i64 x.c2, .int .i64 x.c3, .int .i64 x.c4, .int .i64 x.c5, .int .i64 x.c6, .int .i64 x.c7, .int .i64 x.c8, .int .i64 x.c9, .int .i64 x.b0, .int .i64 x.b1, .int .i64 x.b2, .int .i64 x.b3, .int .i64 x.b4, .int .i64 x.b5, .int .i64 x.b6, .int .i64 x.b7, .slice po' x.ps.length pc', .slice lo' x.ls.length lc'] : Array Value) 47 (0, 0)) := by rw [← hW]; exact heap_up _ (heap_up _ (al2_1 w _ _))
  have B2 : W.heap[w.heap.size + 1 + 1]? = some (.cells (intsV (nums14 x)).toArray 3 (0, 0)) := by rw [← hW]; exact heap_up _ (al3_2 w _ _ _)
  have B3 : W.heap[w.heap.size + 1 + 1 + 1]? = some (.cells (intsV (nums14 x)).toArray 3 (0, 0)) := by
    rw [← hW]
    have := al1_0 (((w.alloc (.cells (#[.int .i64 x.a0, .int .i64 x.a1, .int .i64 x.a2, .int .i64 x.a3, .int .i64 x.a4, .int .i64 x.a5, .int .i64 x.c0, .int .i64 x.c1, .int .i64 x.c2, .int .i64 x.c3, .int .i64 x.c4, .int .i64 x.c5, .int .i64 x.c6, .int .i64 x.c7, .int .i64 x.c8, .int .i64 x.c9, .int .i64 x.b0, .int .i64 x.b1, .int .i64 x.b2, .int .i64 x.b3, .int .i64 x.b4, .int .i64 x.b5, .int .i64 x.b6, .int .i64 x.b7, .slice po x.ps.length pc, .slice lo x.ls.length lc] : Array Value) 47)).alloc (.cells (#[.int .i64 x.a0, .int .i64 x.a1, .int .i64 x.a2, .int .i64 x.a3, .int .i64 x.a4, .int .i64 x.a5, .int .i64 x.c0, .int .i64 x.c1, .int .i64 x.c2, .int .i64 x.c3, .int .i64 x.c4, .int .i64 x.c5, .int .i64 x.c6, .int .i64 x.c7, .int .i64 x.c8, .int .i64 x.c9, .int .i64 x.b0, .int .i64 x.b1, .int .i64 x.b2, .int .i64 x.b3, .int .i64 x.b4, .int .i64 x.b5, .int .i64 x.b6, .int .i64 x.b7, .slice po' x.ps.length pc', .slice lo' x.ls.length lc'] : Array Value) 47)).alloc (.cells (intsV (nums14 x)).toArray 3)) (.cells (intsV (nums14 x)).toArray 3)
    rwa [World.size_alloc, World.size_alloc, World.size_alloc] at this
  clear hW
  have hli := lpInts_true _ _ 14 (nums14 x) W (rowOfInts B2 rfl (by omega)) (rowOfInts B3 rfl (by omega))
  have H0 := hide B0
  have H1 := hide B1
  clear B0 B1 B2 B3
  refine hli.mono ?_
  rintro e w1 ⟨rfl, b1⟩
  have c1 := bAll hal b1
  have C0 := hide (bKeeps b1 H0.out)
  have C1 := hide (bKeeps b1 H1.out)
  have hc0 := boxAt C0.out
  have hc1 := boxAt C1.out
  clear hli b1 hal H0 H1
  go_wp2_with fail
  clear hc0 hc1
  refine (lpPieces_true _ _ _ x.ps _ (A1.out.keep c1) (D1.out.keep c1)).mono ?_
  rintro e w2 ⟨rfl, b2⟩
  have hc0 := boxAt (bKeeps b2 C0.out)
  have hc1 := boxAt (bKeeps b2 C1.out)
  have c2 := bAll c1 b2
  go_wp2_with fail
  refine (lpLast_true _ _ _ x.ls _ (A2.out.keep c2) (D2.out.keep c2)).mono ?_
  rintro e w3 ⟨rfl, b3⟩
  go_wp2
  go_ret
  exact ⟨rfl, bAll c2 b3⟩

end Go.Proofs.Yteddhdbglciahaa

/- How the laws compare seekers and rows of words; commands and papers held against themselves: contracts; no statement of the seat is proved here. -/
namespace Go.Proofs.Yteddhdbglciahaa
open Go.RowKit

set_option maxRecDepth 10000 in
theorem eqlCmdX (x : Wd) (w : World) : (binOp .eql 35 (.agg #[.int .i64 x.c0, .int .i64 x.c1, .int .i64 x.c2, .int .i64 x.c3, .int .i64 x.c4, .int .i64 x.c5, .int .i64 x.c6, .int .i64 x.c7, .int .i64 x.c8, .int .i64 x.c9]) (.agg #[.int .i64 x.c0, .int .i64 x.c1, .int .i64 x.c2, .int .i64 x.c3, .int .i64 x.c4, .int .i64 x.c5, .int .i64 x.c6, .int .i64 x.c7, .int .i64 x.c8, .int .i64 x.c9])).run Try.prog w = .ok (.bool true) w := by
  have u3 := Try.underlying3
  have a3 := Try.isAgg3
  have z3 := Try.sizeOf3
  have hS : Try.prog.underlying 35 = some (.struct (Try.prog.fieldsOf 35)) := by kernel_rfl
  rw [run_eql_struct, show (10000 : Nat) = 9999 + 1 from rfl, run_equalIn_agg w 9999 35 _ _ hS (by kernel_rfl)]
  simp only [Program.fieldsOf, Try.underlying35 ]
  go_simp
set_option maxRecDepth 10000 in
theorem eqlPaperX (s b : Int) (x : Wd) (w : World) : (binOp .eql 37 (.agg (#[.int .i64 s, .int .i64 b, .int .i64 x.c0, .int .i64 x.c1, .int .i64 x.c2, .int .i64 x.c3, .int .i64 x.c4, .int .i64 x.c5, .int .i64 x.c6, .int .i64 x.c7, .int .i64 x.c8, .int .i64 x.c9] : Array Value)) (.agg (#[.int .i64 s, .int .i64 b, .int .i64 x.c0, .int .i64 x.c1, .int .i64 x.c2, .int .i64 x.c3, .int .i64 x.c4, .int .i64 x.c5, .int .i64 x.c6, .int .i64 x.c7, .int .i64 x.c8, .int .i64 x.c9] : Array Value))).run Try.prog w = .ok (.bool true) w := by
  have u3 := Try.underlying3
  have a3 := Try.isAgg3
  have z3 := Try.sizeOf3
  have hS : Try.prog.underlying 37 = some (.struct (Try.prog.fieldsOf 37)) := by kernel_rfl
  rw [run_eql_struct, show (10000 : Nat) = 9999 + 1 from rfl, run_equalIn_agg w 9999 37 _ _ hS (by kernel_rfl)]
  simp only [Program.fieldsOf, Try.underlying37 ]
  go_simp
theorem neqCmdX (x : Wd) (w : World) : (binOp .neq 35 (.agg #[.int .i64 x.c0, .int .i64 x.c1, .int .i64 x.c2, .int .i64 x.c3, .int .i64 x.c4, .int .i64 x.c5, .int .i64 x.c6, .int .i64 x.c7, .int .i64 x.c8, .int .i64 x.c9]) (.agg #[.int .i64 x.c0, .int .i64 x.c1, .int .i64 x.c2, .int .i64 x.c3, .int .i64 x.c4, .int .i64 x.c5, .int .i64 x.c6, .int .i64 x.c7, .int .i64 x.c8, .int .i64 x.c9])).run Try.prog w = .ok (.bool false) w := by
  have e := eqlCmdX x w
  rw [run_eql_struct] at e
  rw [run_neq_struct]
  cases h : (Op.equalIn 10000 35 (.agg #[.int .i64 x.c0, .int .i64 x.c1, .int .i64 x.c2, .int .i64 x.c3, .int .i64 x.c4, .int .i64 x.c5, .int .i64 x.c6, .int .i64 x.c7, .int .i64 x.c8, .int .i64 x.c9]) (.agg #[.int .i64 x.c0, .int .i64 x.c1, .int .i64 x.c2, .int .i64 x.c3, .int .i64 x.c4, .int .i64 x.c5, .int .i64 x.c6, .int .i64 x.c7, .int .i64 x.c8, .int .i64 x.c9])).run Try.prog w with
  | ok a w1 =>
    rw [h] at e
    simp only [Result.andThen, Result.ok.injEq, Value.bool.injEq] at e ⊢
    rw [e.1]
    exact ⟨rfl, e.2⟩
  | halt a w1 => rw [h] at e; simp [Result.andThen] at e
theorem guardCmdN (w : World) (x y : Operand) (xs ys : Array Value) : (eqGuard .neq 35 x y (.agg xs) (.agg ys)).run Try.prog w = .ok () w := run_eqGuard_agg w _ _ _ _ _ _ (by kernel_rfl)
theorem wpList_eqlCmdX {ops : Array Oper} {rest : List Oper} {o : Oper} {a : Act} {w : World} {Q : Exit → Act → World → Prop} (hgd : Region.wanted o (yielded ops a.tmps) = true) (yt : TypeId) (x y : Operand) (ho : o.op = .binOp .eql 35 x y yt)
    (c : Wd) (hx : a.eval x = .agg #[.int .i64 c.c0, .int .i64 c.c1, .int .i64 c.c2, .int .i64 c.c3, .int .i64 c.c4, .int .i64 c.c5, .int .i64 c.c6, .int .i64 c.c7, .int .i64 c.c8, .int .i64 c.c9]) (hy : a.eval y = .agg #[.int .i64 c.c0, .int .i64 c.c1, .int .i64 c.c2, .int .i64 c.c3, .int .i64 c.c4, .int .i64 c.c5, .int .i64 c.c6, .int .i64 c.c7, .int .i64 c.c8, .int .i64 c.c9])
    (h : wpList Try.prog ops Q rest (a.put o.dst (.bool true)) w) : wpList Try.prog ops Q (o :: rest) a w :=
  wpList_step fun _ hK => by
    rw [if_pos hgd]
    unfold Oper.wp execOp
    simp only [ho, hx, hy, Sem.run_bind, guardCmd, Result.andThen_ok, eqlCmdX]
    exact hK _ _ h
theorem wpList_eqlPaperX {ops : Array Oper} {rest : List Oper} {o : Oper} {a : Act} {w : World} {Q : Exit → Act → World → Prop} (hgd : Region.wanted o (yielded ops a.tmps) = true) (yt : TypeId) (x y : Operand) (ho : o.op = .binOp .eql 37 x y yt)
    (p : Pp) (hx : a.eval x = .agg (pparr p)) (hy : a.eval y = .agg (pparr p))
    (h : wpList Try.prog ops Q rest (a.put o.dst (.bool true)) w) : wpList Try.prog ops Q (o :: rest) a w :=
  wpList_step fun _ hK => by
    rw [if_pos hgd]
    have hx' : a.eval x = .agg (#[.int .i64 p.1, .int .i64 p.2.1, .int .i64 p.2.2.c0, .int .i64 p.2.2.c1, .int .i64 p.2.2.c2, .int .i64 p.2.2.c3, .int .i64 p.2.2.c4, .int .i64 p.2.2.c5, .int .i64 p.2.2.c6, .int .i64 p.2.2.c7, .int .i64 p.2.2.c8, .int .i64 p.2.2.c9] : Array Value) := hx
    have hy' : a.eval y = .agg (#[.int .i64 p.1, .int .i64 p.2.1, .int .i64 p.2.2.c0, .int .i64 p.2.2.c1, .int .i64 p.2.2.c2, .int .i64 p.2.2.c3, .int .i64 p.2.2.c4, .int .i64 p.2.2.c5, .int .i64 p.2.2.c6, .int .i64 p.2.2.c7, .int .i64 p.2.2.c8, .int .i64 p.2.2.c9] : Array Value) := hy
    unfold Oper.wp execOp
    simp only [ho, hx', hy', Sem.run_bind, guardPaper, Result.andThen_ok, eqlPaperX]
    exact hK _ _ h
theorem yields_neqCmdX {ops : Array Oper} {S : World → Prop} {op : Oper} {a : Act} (hw : Region.wanted op (yielded ops a.tmps) = true) (yt : TypeId) (x y : Operand) (ho : op.op = .binOp .neq 35 x y yt)
    (c : Wd) (hx : a.eval x = .agg #[.int .i64 c.c0, .int .i64 c.c1, .int .i64 c.c2, .int .i64 c.c3, .int .i64 c.c4, .int .i64 c.c5, .int .i64 c.c6, .int .i64 c.c7, .int .i64 c.c8, .int .i64 c.c9]) (hy : a.eval y = .agg #[.int .i64 c.c0, .int .i64 c.c1, .int .i64 c.c2, .int .i64 c.c3, .int .i64 c.c4, .int .i64 c.c5, .int .i64 c.c6, .int .i64 c.c7, .int .i64 c.c8, .int .i64 c.c9]) : YieldsIf Try.prog ops S op (.bool false) a :=
  .inl ⟨hw, fun w _ => by
    unfold execOp
    simp only [ho, hx, hy, Sem.run_bind, guardCmdN, Result.andThen_ok, neqCmdX]
    rfl⟩

set_option maxRecDepth 100000 in
set_option maxHeartbeats 4000000 in
theorem lpSeeker_true (va vb : Value) (k : Sk) (w : World) (ha : SkR w va k) (hb : SkR w vb k) :
    Calls Try.prog 23 #[va, vb] w fun e w' => e = .returned (.bool true) ∧ Below w.heap.size w w' := by
  obtain ⟨ao, ca, rfl, ha⟩ := ha
  obtain ⟨bo, cb, rfl, hb⟩ := hb
  have al := bal (bal (Below.refl w.heap.size w) (.cells (skarr k (.slice ao k.ys.length ca)) 39)) (.cells (skarr k (.slice bo k.ys.length cb)) 39)
  have A0 := hide (al2_0 w (.cells (skarr k (.slice ao k.ys.length ca)) 39) (.cells (skarr k (.slice bo k.ys.length cb)) 39))
  have B0 := hide (al2_1 w (.cells (skarr k (.slice ao k.ys.length ca)) 39) (.cells (skarr k (.slice bo k.ys.length cb)) 39))
  have HA := hide (ha.keep al)
  have HB := hide (hb.keep al)
  clear ha hb
  go_enter Try.func23, Try.ntmps23
  go_upto_region 1 with fail
  generalize World.alloc _ _ = W at al A0 B0 HA HB ⊢
  obtain ⟨x0, x1, x2, xm, xp, -, -, x3⟩ := sk_cells A0.out
  obtain ⟨y0, y1, y2, ym, yp, -, -, y3⟩ := sk_cells B0.out
  go_wp2_with (first
    | (refine wpList_load_at (by rfl) 35 (.tmp 25) rfl w.heap.size 3 rfl #[.int .i64 k.m.c0, .int .i64 k.m.c1, .int .i64 k.m.c2, .int .i64 k.m.c3, .int .i64 k.m.c4, .int .i64 k.m.c5, .int .i64 k.m.c6, .int .i64 k.m.c7, .int .i64 k.m.c8, .int .i64 k.m.c9] _ xm Try.underlying35 rfl infoCm10 ?_)
    | (refine wpList_load_at (by rfl) 35 (.tmp 27) rfl (w.heap.size + 1) 3 rfl #[.int .i64 k.m.c0, .int .i64 k.m.c1, .int .i64 k.m.c2, .int .i64 k.m.c3, .int .i64 k.m.c4, .int .i64 k.m.c5, .int .i64 k.m.c6, .int .i64 k.m.c7, .int .i64 k.m.c8, .int .i64 k.m.c9] _ ym Try.underlying35 rfl infoCm10 ?_)
    | (refine wpList_load_at (by rfl) 37 (.tmp 32) rfl w.heap.size 13 rfl (pparr k.p) _ xp Try.underlying37 rfl infoPpS ?_)
    | (refine wpList_load_at (by rfl) 37 (.tmp 34) rfl (w.heap.size + 1) 13 rfl (pparr k.p) _ yp Try.underlying37 rfl infoPpS ?_)
    | (refine wpList_eqlCmdX (by rfl) _ _ _ rfl k.m rfl rfl ?_)
    | (refine wpList_eqlPaperX (by rfl) _ _ _ rfl k.p rfl rfl ?_))
  refine (lpInts_true _ _ _ k.ys _ HA.out HB.out).mono ?_
  rintro e w3 ⟨rfl, b3⟩
  go_wp2
  go_ret
  exact ⟨rfl, bAll al b3⟩

set_option maxRecDepth 100000 in
set_option maxHeartbeats 4000000 in
theorem lpWords_true (va vb : Value) (n : Nat) (xs : List Wd) (w : World) (hf : ∀ x ∈ xs, Flat x) (ha : RowR w 26 va n (fwcells xs)) (hb : RowR w 26 vb n (fwcells xs)) :
    Calls Try.prog 24 #[va, vb] w fun e w' => e = .returned (.bool true) ∧ Below w.heap.size w w' := by
  obtain ⟨ao, ca, rfl, hn, hl, ha⟩ := ha
  obtain ⟨bo, cb, rfl, _, _, hb⟩ := hb
  rw [fwcells_len] at hl
  have Hl := hide hl
  clear hl
  go_enter Try.func24, Try.ntmps24
  go_wp2
  go_loopw [5] (fun i wr => ∃ k : Nat, k ≤ n ∧ i = .int .i64 k ∧ Below w.heap.size w wr) (fun i _ => n - (intOf i).toNat)
  case atStart => exact ⟨0, Nat.zero_le _, rfl, Below.refl _ _⟩
  case round =>
    obtain ⟨k, hk, rfl, hbel⟩ := hrel
    by_cases hlt : k < n
    · obtain ⟨b1, o1, rfl, hc1⟩ := ha (by omega)
      obtain ⟨b2, o2, rfl, hc2⟩ := hb (by omega)
      obtain ⟨x, hs⟩ := getAt xs k (by have := Hl.out; omega)
      have hx := hide (hf x (List.mem_of_getElem? hs))
      have K1 := hide (fun W (hW : Below w.heap.size w W) => fw_at hc1 hs hW)
      have K2 := hide (fun W (hW : Below w.heap.size w W) => fw_at hc2 hs hW)
      have hi : (k : Int) < (n : Int) := by omega
      clear ha hb hc1 hc2 hs
      have d1 := bDrewB hbel
      go_wp2
      refine wp_region_noPanic ?_
      refine wp_region_held_drew (S := (fun w' => (∀ j u, (fwarr x)[j]? = some u → w'.cell? ⟨b1, o1 + k * 26 + j, none⟩ = some u) ∧ (∀ j u, (fwarr x)[j]? = some u → w'.cell? ⟨b2, o2 + k * 26 + j, none⟩ = some u))) (by kernel_rfl) ?_ (fun hHeld => ?_)
      · exact ⟨K1.out _ d1, K2.out _ d1⟩
      refine wpAnyH_take (i := 0) (v := ?v1) rfl (by kernel_rfl) (by kernel_rfl) (by kernel_rfl) (fun _ _ _ h => h) (Or.inl ⟨by rfl, ?hy1⟩) (by assumption) ?rest1
      case hy1 => ((intro w hSw; (try dsimp only at hSw); (try simp only [List.getElem_toArray, List.getElem_cons_zero]); go_simp; first | done | (with_reducible rfl)))
      simp only [Act.put, List.getElem_toArray, List.getElem_cons_zero, List.setIfInBounds_toArray, List.set_cons_zero, List.set_cons_succ]
      refine wpAnyH_take (i := 1) (v := ?v2) rfl (by kernel_rfl) (by kernel_rfl) (by kernel_rfl) (fun _ _ _ h => h) (Or.inl ⟨by rfl, ?hy2⟩) (by assumption) ?rest2
      case hy2 => ((intro w hSw; (try dsimp only at hSw); (try simp only [List.getElem_toArray, List.getElem_cons_zero, List.getElem_cons_succ]); go_simp; first | done | (with_reducible rfl)))
      simp only [Act.put, List.getElem_toArray, List.getElem_cons_zero, List.getElem_cons_succ, List.setIfInBounds_toArray, List.set_cons_zero, List.set_cons_succ]
      refine wpAnyH_take (i := 2) (v := ?v3) rfl (by kernel_rfl) (by kernel_rfl) (by kernel_rfl) (fun _ _ _ h => h) (Or.inl ⟨by rfl, ?hy3⟩) (by assumption) ?rest3
      case hy3 => ((intro w hSw; (try dsimp only at hSw); (try simp only [List.getElem_toArray, List.getElem_cons_zero, List.getElem_cons_succ]); go_simp; first | done | (with_reducible rfl)))
      simp only [Act.put, List.getElem_toArray, List.getElem_cons_zero, List.getElem_cons_succ, List.setIfInBounds_toArray, List.set_cons_zero, List.set_cons_succ]
      refine wpAnyH_take (i := 3) (v := .agg (fwarr x)) rfl (by kernel_rfl) (by kernel_rfl) (by kernel_rfl) (fun _ _ _ h => h) (yields_at rfl 47 (.tmp 19) rfl (b1) (o1 + k * 26) rfl (fwarr x) _ (fun _ h => h.1) Try.underlying47 rfl infoWd) (by assumption) ?_
      simp only [Act.put, List.getElem_toArray, List.getElem_cons_zero, List.getElem_cons_succ, List.setIfInBounds_toArray, List.set_cons_zero, List.set_cons_succ]
      refine wpAnyH_take (i := 4) (v := ?v4) rfl (by kernel_rfl) (by kernel_rfl) (by kernel_rfl) (fun _ _ _ h => h) (Or.inl ⟨by rfl, ?hy4⟩) (by assumption) ?rest4
      case hy4 => ((intro w hSw; (try dsimp only at hSw); (try simp only [List.getElem_toArray, List.getElem_cons_zero, List.getElem_cons_succ]); go_simp; first | done | (with_reducible rfl)))
      simp only [Act.put, List.getElem_toArray, List.getElem_cons_zero, List.getElem_cons_succ, List.setIfInBounds_toArray, List.set_cons_zero, List.set_cons_succ]
      refine wpAnyH_take (i := 5) (v := ?v5) rfl (by kernel_rfl) (by kernel_rfl) (by kernel_rfl) (fun _ _ _ h => h) (Or.inl ⟨by rfl, ?hy5⟩) (by assumption) ?rest5
      case hy5 => ((intro w hSw; (try dsimp only at hSw); (try simp only [List.getElem_toArray, List.getElem_cons_zero, List.getElem_cons_succ]); go_simp; first | done | (with_reducible rfl)))
      simp only [Act.put, List.getElem_toArray, List.getElem_cons_zero, List.getElem_cons_succ, List.setIfInBounds_toArray, List.set_cons_zero, List.set_cons_succ]
      refine wpAnyH_take (i := 6) (v := ?v6) rfl (by kernel_rfl) (by kernel_rfl) (by kernel_rfl) (fun _ _ _ h => h) (Or.inl ⟨by rfl, ?hy6⟩) (by assumption) ?rest6
      case hy6 => ((intro w hSw; (try dsimp only at hSw); (try simp only [List.getElem_toArray, List.getElem_cons_zero, List.getElem_cons_succ]); go_simp; first | done | (with_reducible rfl)))
      simp only [Act.put, List.getElem_toArray, List.getElem_cons_zero, List.getElem_cons_succ, List.setIfInBounds_toArray, List.set_cons_zero, List.set_cons_succ]
      refine wpAnyH_take (i := 7) (v := .agg (fwarr x)) rfl (by kernel_rfl) (by kernel_rfl) (by kernel_rfl) (fun _ _ _ h => h) (yields_at rfl 47 (.tmp 23) rfl (b2) (o2 + k * 26) rfl (fwarr x) _ (fun _ h => h.2) Try.underlying47 rfl infoWd) (by assumption) ?_
      simp only [Act.put, List.getElem_toArray, List.getElem_cons_zero, List.getElem_cons_succ, List.setIfInBounds_toArray, List.set_cons_zero, List.set_cons_succ]
      refine wpAnyH_ready (rs := [8]) (by kernel_rfl) (by simp) ?_
      refine AllReadyH.cons rfl (fun K hK => ?_) AllReadyH.nil
      go_simp
      (go_at_call 73; refine (lpWord_true _ _ x _ (fwR _ hx.out) (fwR _ hx.out)).mono ?_; rintro e w3 ⟨rfl, b3⟩; have b3' := bAll d1 b3)
      refine hK.out _ _ ?_ (fun hHeld => ?_)
      · exact ⟨K1.out _ b3', K2.out _ b3'⟩
      clear hK K
      refine wpAnyH_take (i := 9) (v := ?v7) rfl (by kernel_rfl) (by kernel_rfl) (by kernel_rfl) (fun _ _ _ h => h) (Or.inl ⟨by rfl, ?hy7⟩) (by assumption) ?rest7
      case hy7 => ((intro w hSw; (try dsimp only at hSw); (try simp only [List.getElem_toArray, List.getElem_cons_zero, List.getElem_cons_succ]); go_simp; first | done | (with_reducible rfl)))
      simp only [Act.put, List.getElem_toArray, List.getElem_cons_zero, List.getElem_cons_succ, List.setIfInBounds_toArray, List.set_cons_zero, List.set_cons_succ]
      refine wpAnyH_done (by kernel_rfl) ?_ _
      refine NoPanic.normal ?_
      clear hHeld
      go_wp2
      go_roundw
      case rel => exact ⟨k + 1, by omega, by go_num, b3'⟩
      case measure => simp [intOf]; omega
    · go_wp2
      go_ret
      exact ⟨rfl, hbel⟩

end Go.Proofs.Yteddhdbglciahaa

/- SynSeekerOk of the program, whole: contracts; no statement of the seat is proved here. -/
namespace Go.Proofs.Yteddhdbglciahaa
open Go.RowKit

set_option maxRecDepth 100000 in
set_option maxHeartbeats 8000000 in
theorem maySeek_any (g : Nat) (k : Sk) (yo : Option Addr) (yc : Nat) (w : World) (hg : w.heap[g]? = some (.cells (skarr k (.slice yo k.ys.length yc)) 39 (0, 0))) (hr : RowR w 1 (.slice yo k.ys.length yc) k.ys.length (ints k.ys)) :
    Calls Try.prog 75 #[.pointer (some ⟨g, 0, none⟩)] w fun e w' => e = .returned (.bool (mayS k)) ∧ Below w.heap.size w w' := by
  have HG := hide hg
  have HR := hide hr
  obtain ⟨j1, hj1⟩ : ∃ j, ppI (k.s, k.b, k.m) = j := ⟨_, rfl⟩
  obtain ⟨j2, hj2⟩ : ∃ j, inI k.ph 1 2 = j := ⟨_, rfl⟩
  obtain ⟨j3, hj3⟩ : ∃ j, yesI k.ys = j := ⟨_, rfl⟩
  obtain ⟨j4, hj4⟩ : ∃ j, bestI k = j := ⟨_, rfl⟩
  have cF := fun V => synInForm_any k.s k.b k.m V
  have cW := fun V => blkWithin_any k.ph 1 2 V
  have cY := fun V h1 h2 => yesFits_any g k yo yc V h1 h2
  have cB := fun V h => bestFits_any g k (.slice yo k.ys.length yc) V h
  rw [hj1] at cF
  rw [hj2] at cW
  rw [hj3] at cY
  rw [hj4] at cB
  have hF : Hid (mayS k = (j1 && (j2 && (j3 && j4)))) := by show _ = _; rw [mayS, hj1, hj2, hj3, hj4]
  clear hj1 hj2 hj3 hj4 hg hr
  go_enter Try.func75, Try.ntmps75
  go_upto_region 1 with fail
  have dd := bDrewB (Below.refl w.heap.size w)
  have a1 : Below w.heap.size w (w.drew.alloc (.cells #[.int .i64 0, .int .i64 0, .int .i64 0, .int .i64 0, .int .i64 0, .int .i64 0, .int .i64 0, .int .i64 0, .int .i64 0, .int .i64 0, .int .i64 0, .int .i64 0] 37)) := bal dd _
  have fS : Hid (∀ V : World, Below w.heap.size w V → V.heap[g]? = some (.cells (skarr k (.slice yo k.ys.length yc)) 39 (0, 0)) ∧ V.cell? ⟨g, 0, none⟩ = some (.int .i64 k.s) ∧ V.cell? ⟨g, 1, none⟩ = some (.int .i64 k.b)) := fun V h => by
    have hh := bKeeps h HG.out
    obtain ⟨a0, a1, -, -, -, -, -, -⟩ := sk_cells hh
    exact ⟨hh, a0, a1⟩
  have r8 := updRow (w.drew.alloc (.cells #[.int .i64 0, .int .i64 0, .int .i64 0, .int .i64 0, .int .i64 0, .int .i64 0, .int .i64 0, .int .i64 0, .int .i64 0, .int .i64 0, .int .i64 0, .int .i64 0] 37)) w.heap.size (#[.int .i64 k.s, .int .i64 k.b, .int .i64 k.m.c0, .int .i64 k.m.c1, .int .i64 k.m.c2, .int .i64 k.m.c3, .int .i64 k.m.c4, .int .i64 k.m.c5, .int .i64 k.m.c6, .int .i64 k.m.c7, .int .i64 k.m.c8, .int .i64 k.m.c9] : Array Value)
  have b8 : Below w.heap.size w ((w.drew.alloc (.cells #[.int .i64 0, .int .i64 0, .int .i64 0, .int .i64 0, .int .i64 0, .int .i64 0, .int .i64 0, .int .i64 0, .int .i64 0, .int .i64 0, .int .i64 0, .int .i64 0] 37)).setRow w.heap.size (#[.int .i64 k.s, .int .i64 k.b, .int .i64 k.m.c0, .int .i64 k.m.c1, .int .i64 k.m.c2, .int .i64 k.m.c3, .int .i64 k.m.c4, .int .i64 k.m.c5, .int .i64 k.m.c6, .int .i64 k.m.c7, .int .i64 k.m.c8, .int .i64 k.m.c9] : Array Value)) := a1.trans (r8.below a1.size (fun j h => by omega))
  have N1 : Hid ((w.drew.alloc (.cells #[.int .i64 0, .int .i64 0, .int .i64 0, .int .i64 0, .int .i64 0, .int .i64 0, .int .i64 0, .int .i64 0, .int .i64 0, .int .i64 0, .int .i64 0, .int .i64 0] 37)).heap[w.heap.size]? = some (.cells #[.int .i64 0, .int .i64 0, .int .i64 0, .int .i64 0, .int .i64 0, .int .i64 0, .int .i64 0, .int .i64 0, .int .i64 0, .int .i64 0, .int .i64 0, .int .i64 0] 37 (0, 0))) := heap_alloc_new w.drew _
  have N2 := hide (setRow_heap _ _ _ (#[.int .i64 k.s, .int .i64 k.b, .int .i64 k.m.c0, .int .i64 k.m.c1, .int .i64 k.m.c2, .int .i64 k.m.c3, .int .i64 k.m.c4, .int .i64 k.m.c5, .int .i64 k.m.c6, .int .i64 k.m.c7, .int .i64 k.m.c8, .int .i64 k.m.c9] : Array Value) _ _ N1.out)
  refine wp_region_noPanic ?_
  refine wp_region_held_drew (S := (fun w' => w'.heap[g]? = some (.cells (skarr k (.slice yo k.ys.length yc)) 39 (0, 0)) ∧ w'.cell? ⟨g, 0, none⟩ = some (.int .i64 k.s) ∧ w'.cell? ⟨g, 1, none⟩ = some (.int .i64 k.b))) (by kernel_rfl) ?_ (fun hHeld => ?_)
  · exact fS.out _ dd
  refine wpAnyH_take (i := 0) (v := ?v1) rfl (by kernel_rfl) (by kernel_rfl) (by kernel_rfl) (fun _ _ _ h => h) (Or.inl ⟨by rfl, ?hy1⟩) (by assumption) ?rest1
  case hy1 => ((intro w hSw; (try dsimp only at hSw); (try simp only [List.getElem_toArray, List.getElem_cons_zero]); go_simp; first | done | (with_reducible rfl)))
  simp only [Act.put, List.getElem_toArray, List.getElem_cons_zero, List.setIfInBounds_toArray, List.set_cons_zero, List.set_cons_succ]
  refine wpAnyH_take (i := 1) (v := ?v2) rfl (by kernel_rfl) (by kernel_rfl) (by kernel_rfl) (fun _ _ _ h => h) (Or.inl ⟨by rfl, ?hy2⟩) (by assumption) ?rest2
  case hy2 => ((intro w hSw; (try dsimp only at hSw); (try simp only [List.getElem_toArray, List.getElem_cons_zero, List.getElem_cons_succ]); go_simp; first | done | (with_reducible rfl)))
  simp only [Act.put, List.getElem_toArray, List.getElem_cons_zero, List.getElem_cons_succ, List.setIfInBounds_toArray, List.set_cons_zero, List.set_cons_succ]
  refine wpAnyH_take (i := 2) (v := ?v3) rfl (by kernel_rfl) (by kernel_rfl) (by kernel_rfl) (fun _ _ _ h => h) (Or.inl ⟨by rfl, ?hy3⟩) (by assumption) ?rest3
  case hy3 => ((intro w hSw; (try dsimp only at hSw); (try simp only [List.getElem_toArray, List.getElem_cons_zero, List.getElem_cons_succ]); go_simp; first | done | (with_reducible rfl)))
  simp only [Act.put, List.getElem_toArray, List.getElem_cons_zero, List.getElem_cons_succ, List.setIfInBounds_toArray, List.set_cons_zero, List.set_cons_succ]
  refine wpAnyH_take (i := 3) (v := ?v4) rfl (by kernel_rfl) (by kernel_rfl) (by kernel_rfl) (fun _ _ _ h => h) (Or.inl ⟨by rfl, ?hy4⟩) (by assumption) ?rest4
  case hy4 => ((intro w hSw; (try dsimp only at hSw); (try simp only [List.getElem_toArray, List.getElem_cons_zero, List.getElem_cons_succ]); go_simp; first | done | (with_reducible rfl)))
  simp only [Act.put, List.getElem_toArray, List.getElem_cons_zero, List.getElem_cons_succ, List.setIfInBounds_toArray, List.set_cons_zero, List.set_cons_succ]
  refine wpAnyH_take (i := 4) (v := ?v5) rfl (by kernel_rfl) (by kernel_rfl) (by kernel_rfl) (fun _ _ _ h => h) (Or.inl ⟨by rfl, ?hy5⟩) (by assumption) ?rest5
  case hy5 => ((intro w hSw; (try dsimp only at hSw); (try simp only [List.getElem_toArray, List.getElem_cons_zero, List.getElem_cons_succ]); go_simp; first | done | (with_reducible rfl)))
  simp only [Act.put, List.getElem_toArray, List.getElem_cons_zero, List.getElem_cons_succ, List.setIfInBounds_toArray, List.set_cons_zero, List.set_cons_succ]
  refine wpAnyH_take (i := 5) (v := ?v6) rfl (by kernel_rfl) (by kernel_rfl) (by kernel_rfl) (fun _ _ _ h => h) (Or.inl ⟨by rfl, ?hy6⟩) (by assumption) ?rest6
  case hy6 => ((intro w hSw; (try dsimp only at hSw); (try simp only [List.getElem_toArray, List.getElem_cons_zero, List.getElem_cons_succ]); go_simp; first | done | (with_reducible rfl)))
  simp only [Act.put, List.getElem_toArray, List.getElem_cons_zero, List.getElem_cons_succ, List.setIfInBounds_toArray, List.set_cons_zero, List.set_cons_succ]
  refine wpAnyH_take (i := 6) (v := ?v7) rfl (by kernel_rfl) (by kernel_rfl) (by kernel_rfl) (fun _ _ _ h => h) (Or.inl ⟨by rfl, ?hy7⟩) (by assumption) ?rest7
  case hy7 => ((intro w hSw; (try dsimp only at hSw); (try simp only [List.getElem_toArray, List.getElem_cons_zero, List.getElem_cons_succ]); go_simp; first | done | (with_reducible rfl)))
  simp only [Act.put, List.getElem_toArray, List.getElem_cons_zero, List.getElem_cons_succ, List.setIfInBounds_toArray, List.set_cons_zero, List.set_cons_succ]
  refine wpAnyH_take (i := 7) (v := ?v8) rfl (by kernel_rfl) (by kernel_rfl) (by kernel_rfl) (fun _ _ _ h => h) (Or.inl ⟨by rfl, ?hy8⟩) (by assumption) ?rest8
  case hy8 => ((intro w hSw; (try dsimp only at hSw); (try simp only [List.getElem_toArray, List.getElem_cons_zero, List.getElem_cons_succ]); go_simp; first | done | (with_reducible rfl)))
  simp only [Act.put, List.getElem_toArray, List.getElem_cons_zero, List.getElem_cons_succ, List.setIfInBounds_toArray, List.set_cons_zero, List.set_cons_succ]
  refine wpAnyH_take (i := 8) (v := ?v9) rfl (by kernel_rfl) (by kernel_rfl) (by kernel_rfl) (fun _ _ _ h => h) (Or.inl ⟨by rfl, ?hy9⟩) (by assumption) ?rest9
  case hy9 => ((intro w hSw; (try dsimp only at hSw); (try simp only [List.getElem_toArray, List.getElem_cons_zero, List.getElem_cons_succ]); go_simp; first | done | (with_reducible rfl)))
  simp only [Act.put, List.getElem_toArray, List.getElem_cons_zero, List.getElem_cons_succ, List.setIfInBounds_toArray, List.set_cons_zero, List.set_cons_succ]
  refine wpAnyH_take (i := 9) (v := ?v10) rfl (by kernel_rfl) (by kernel_rfl) (by kernel_rfl) (fun _ _ _ h => h) (Or.inl ⟨by rfl, ?hy10⟩) (by assumption) ?rest10
  case hy10 => ((intro w hSw; (try dsimp only at hSw); (try simp only [List.getElem_toArray, List.getElem_cons_zero, List.getElem_cons_succ]); go_simp; first | done | (with_reducible rfl)))
  simp only [Act.put, List.getElem_toArray, List.getElem_cons_zero, List.getElem_cons_succ, List.setIfInBounds_toArray, List.set_cons_zero, List.set_cons_succ]
  refine wpAnyH_take (i := 10) (v := ?v11) rfl (by kernel_rfl) (by kernel_rfl) (by kernel_rfl) (fun _ _ _ h => h) (Or.inl ⟨by rfl, ?hy11⟩) (by assumption) ?rest11
  case hy11 => ((intro w hSw; (try dsimp only at hSw); (try simp only [List.getElem_toArray, List.getElem_cons_zero, List.getElem_cons_succ]); go_simp; first | done | (with_reducible rfl)))
  simp only [Act.put, List.getElem_toArray, List.getElem_cons_zero, List.getElem_cons_succ, List.setIfInBounds_toArray, List.set_cons_zero, List.set_cons_succ]
  refine wpAnyH_take (i := 11) (v := .agg #[.int .i64 k.m.c0, .int .i64 k.m.c1, .int .i64 k.m.c2, .int .i64 k.m.c3, .int .i64 k.m.c4, .int .i64 k.m.c5, .int .i64 k.m.c6, .int .i64 k.m.c7, .int .i64 k.m.c8, .int .i64 k.m.c9]) rfl (by kernel_rfl) (by kernel_rfl) (by kernel_rfl) (fun _ _ _ h => h) (yields_at rfl 35 (.tmp 14) rfl (g) (3) rfl #[.int .i64 k.m.c0, .int .i64 k.m.c1, .int .i64 k.m.c2, .int .i64 k.m.c3, .int .i64 k.m.c4, .int .i64 k.m.c5, .int .i64 k.m.c6, .int .i64 k.m.c7, .int .i64 k.m.c8, .int .i64 k.m.c9] _ (fun w' h => (sk_cells h.1).2.2.2.1) Try.underlying35 rfl infoCm10) (by assumption) ?_
  simp only [Act.put, List.getElem_toArray, List.getElem_cons_zero, List.getElem_cons_succ, List.setIfInBounds_toArray, List.set_cons_zero, List.set_cons_succ]
  refine wpAnyH_take (i := 12) (v := .agg (#[.int .i64 k.s, .int .i64 k.b, .int .i64 k.m.c0, .int .i64 k.m.c1, .int .i64 k.m.c2, .int .i64 k.m.c3, .int .i64 k.m.c4, .int .i64 k.m.c5, .int .i64 k.m.c6, .int .i64 k.m.c7, .int .i64 k.m.c8, .int .i64 k.m.c9] : Array Value)) rfl (by kernel_rfl) (by kernel_rfl) (by kernel_rfl) (fun _ _ _ h => h) (yields_build rfl 37 _ rfl [(0, .int .i64 k.s), (1, .int .i64 k.b), (2, .agg #[.int .i64 k.m.c0, .int .i64 k.m.c1, .int .i64 k.m.c2, .int .i64 k.m.c3, .int .i64 k.m.c4, .int .i64 k.m.c5, .int .i64 k.m.c6, .int .i64 k.m.c7, .int .i64 k.m.c8, .int .i64 k.m.c9])] _ ((by (conv => lhs; simp only [List.map_toArray, List.map_cons, List.map_nil]); rfl)) (builtPaper k.s k.b k.m)) (by assumption) ?_
  simp only [Act.put, List.getElem_toArray, List.getElem_cons_zero, List.getElem_cons_succ, List.setIfInBounds_toArray, List.set_cons_zero, List.set_cons_succ]
  refine wpAnyH_ready (rs := [13]) (by kernel_rfl) (by simp) ?_
  refine AllReadyH.cons rfl (fun K hK => ?_) AllReadyH.nil
  go_simp
  (skip)
  refine hK.out _ _ ?_ (fun hHeld => ?_)
  · exact fS.out _ a1
  clear hK K
  refine wpAnyH_ready (rs := [14]) (by kernel_rfl) (by simp) ?_
  refine AllReadyH.cons rfl (fun K hK => ?_) AllReadyH.nil
  (refine wp_store_row 37 (.tmp 3) (.tmp 16) rfl w.heap.size (#[.int .i64 k.s, .int .i64 k.b, .int .i64 k.m.c0, .int .i64 k.m.c1, .int .i64 k.m.c2, .int .i64 k.m.c3, .int .i64 k.m.c4, .int .i64 k.m.c5, .int .i64 k.m.c6, .int .i64 k.m.c7, .int .i64 k.m.c8, .int .i64 k.m.c9] : Array Value) rfl rfl _ _ N1.out infoPpS (show (12 : Nat) = 12 from rfl) (all_of_list rfl) ?_)
  refine hK.out _ _ ?_ (fun hHeld => ?_)
  · exact fS.out _ b8
  clear hK K
  refine wpAnyH_done (by kernel_rfl) ?_ _
  refine NoPanic.normal ?_
  clear hHeld
  have b8' : Below w.heap.size w ((w.alloc (.cells #[.int .i64 0, .int .i64 0, .int .i64 0, .int .i64 0, .int .i64 0, .int .i64 0, .int .i64 0, .int .i64 0, .int .i64 0, .int .i64 0, .int .i64 0, .int .i64 0] 37)).drew.setRow w.heap.size (#[.int .i64 k.s, .int .i64 k.b, .int .i64 k.m.c0, .int .i64 k.m.c1, .int .i64 k.m.c2, .int .i64 k.m.c3, .int .i64 k.m.c4, .int .i64 k.m.c5, .int .i64 k.m.c6, .int .i64 k.m.c7, .int .i64 k.m.c8, .int .i64 k.m.c9] : Array Value)) := b8
  have N2' : Hid (((w.alloc (.cells #[.int .i64 0, .int .i64 0, .int .i64 0, .int .i64 0, .int .i64 0, .int .i64 0, .int .i64 0, .int .i64 0, .int .i64 0, .int .i64 0, .int .i64 0, .int .i64 0] 37)).drew.setRow w.heap.size (#[.int .i64 k.s, .int .i64 k.b, .int .i64 k.m.c0, .int .i64 k.m.c1, .int .i64 k.m.c2, .int .i64 k.m.c3, .int .i64 k.m.c4, .int .i64 k.m.c5, .int .i64 k.m.c6, .int .i64 k.m.c7, .int .i64 k.m.c8, .int .i64 k.m.c9] : Array Value)).heap[w.heap.size]? = some (.cells (#[.int .i64 k.s, .int .i64 k.b, .int .i64 k.m.c0, .int .i64 k.m.c1, .int .i64 k.m.c2, .int .i64 k.m.c3, .int .i64 k.m.c4, .int .i64 k.m.c5, .int .i64 k.m.c6, .int .i64 k.m.c7, .int .i64 k.m.c8, .int .i64 k.m.c9] : Array Value) 37 (0, 0))) := N2.out
  clear b8 N2 r8 N1 a1 dd
  generalize ((w.alloc (.cells #[.int .i64 0, .int .i64 0, .int .i64 0, .int .i64 0, .int .i64 0, .int .i64 0, .int .i64 0, .int .i64 0, .int .i64 0, .int .i64 0, .int .i64 0, .int .i64 0] 37)).drew.setRow w.heap.size (#[.int .i64 k.s, .int .i64 k.b, .int .i64 k.m.c0, .int .i64 k.m.c1, .int .i64 k.m.c2, .int .i64 k.m.c3, .int .i64 k.m.c4, .int .i64 k.m.c5, .int .i64 k.m.c6, .int .i64 k.m.c7, .int .i64 k.m.c8, .int .i64 k.m.c9] : Array Value)) = V at b8' N2' ⊢
  have b8 := b8'
  have N2 := N2'
  go_wp2_with (refine wpList_load_row rfl 37 (.tmp 3) rfl w.heap.size rfl _ _ (0, 0) _ N2.out Try.underlying37 rfl infoPpS ?_)
  refine (cF _).mono ?_
  rintro e V1 ⟨rfl, b1⟩
  have c1 := bAll b8 b1
  obtain ⟨-, -, x2, -, -, -, -, -⟩ := sk_cells (bKeeps c1 HG.out)
  cases j1
  · go_wp2
    go_ret
    exact ⟨by rw [hF.out]; rfl, c1⟩
  go_wp2_with fail
  refine (cW _).mono ?_
  rintro e V2 ⟨rfl, rfl⟩
  cases j2
  · go_wp2
    go_ret
    exact ⟨by rw [hF.out]; rfl, c1⟩
  go_wp2_with fail
  refine (cY _ (bKeeps c1 HG.out) (HR.out.keep c1)).mono ?_
  rintro e V3 ⟨rfl, rfl⟩
  cases j3
  · go_wp2
    go_ret
    exact ⟨by rw [hF.out]; rfl, c1⟩
  go_wp2_with fail
  refine (cB _ (bKeeps c1 HG.out)).mono ?_
  rintro e V4 ⟨rfl, b4⟩
  go_wp2
  go_ret
  exact ⟨by rw [hF.out]; rfl, bAll c1 b4⟩

set_option maxRecDepth 100000 in
set_option maxHeartbeats 8000000 in
theorem implSynSeekerOk_any (v : Value) (k : Sk) (w : World) (h : SkR w v k) :
    Calls Try.prog 25 #[v] w fun e w' => e = .returned (.bool (okS k)) ∧ Below w.heap.size w w' := by
  obtain ⟨yo, yc, rfl, hr⟩ := h
  obtain ⟨j1, hj1⟩ : ∃ j, noS k = j := ⟨_, rfl⟩
  have cN := fun g V h => isNothing_any g k yo yc V h
  rw [hj1] at cN
  have hF : Hid (okS k = (j1 || mayS k)) := by show _ = _; rw [okS, hj1]
  have HR := hide hr
  clear hj1 hr
  go_enter Try.func25, Try.ntmps25
  go_upto_region 1 with fail
  generalize hW : World.alloc _ _ = W
  have al : Below w.heap.size w W := by rw [← hW]; exact bal (Below.refl _ _) _
  have A0 : Hid (W.heap[w.heap.size]? = some (.cells (skarr k (.slice yo k.ys.length yc)) 39 (0, 0))) := by show _ = _; rw [← hW]; exact al1_0 w _
  clear hW
  go_wp2_with fail
  refine (cN _ _ A0.out).mono ?_
  rintro e V1 ⟨rfl, rfl⟩
  cases j1
  · go_wp2_with fail
    refine (maySeek_any _ k yo yc _ A0.out (HR.out.keep al)).mono ?_
    rintro e V2 ⟨rfl, b2⟩
    go_wp2
    go_ret
    exact ⟨by rw [hF.out]; rfl, bAll al b2⟩
  · go_wp2
    go_ret
    exact ⟨by rw [hF.out]; rfl, al⟩

end Go.Proofs.Yteddhdbglciahaa

/- What both sides' SynHear leans on: contracts; no statement of the seat is proved here. -/
namespace Go.Proofs.Yteddhdbglciahaa
open Go.RowKit

theorem ints_one (xs : List Int) : ∀ u ∈ ints xs, u.oneCell' = true := by
  intro u hu
  obtain ⟨a, -, rfl⟩ := List.mem_map.1 hu
  rfl
theorem ints_at {w : World} {so : Option Addr} {n sc k : Nat} {ys : List Int} {y : Int} (h : RowR w 1 (.slice so n sc) n (ints ys)) (hy : ys[k]? = some y) :
    ∃ b o, so = some ⟨b, o, none⟩ ∧ k < n ∧ ∀ V : World, Below w.heap.size w V → V.cell? ⟨b, o + k, none⟩ = some (.int .i64 y) := by
  obtain ⟨ao, ca, e, -, hl, hc⟩ := h
  injection e with e1 _ e2
  subst e1 e2
  have hk := (List.getElem?_eq_some_iff.1 hy).1
  have hl2 : ys.length = n := by simpa [ints] using hl
  obtain ⟨b, o, e, hc⟩ := hc (by omega)
  refine ⟨b, o, e, by omega, fun V hV => ?_⟩
  have q := hc k (.int .i64 y) (by rw [ints, List.getElem?_map, hy]; rfl)
  exact (hV.cell (p := ⟨b, o + k, none⟩) (World.block_lt_of_cell? w _ q)).trans q

set_option maxRecDepth 100000 in
set_option maxHeartbeats 4000000 in
theorem l22Has_any (v : Value) (ys : List Int) (x : Int) (w : World) (hr : RowR w 1 v ys.length (ints ys)) :
    Calls Try.prog 41 #[v, .int .i64 x] w fun e w' => e = .returned (.bool (decide (x ∈ ys))) ∧ Below w.heap.size w w' := by
  obtain ⟨D, hD⟩ : ∃ D, decide (x ∈ ys) = D := ⟨_, rfl⟩
  rw [hD]
  have HD := hide hD
  obtain ⟨n, hn⟩ : ∃ n, ys.length = n := ⟨_, rfl⟩
  have HN := hide hn
  rw [hn] at hr
  have hn0 : n ≤ 9223372036854775807 := by obtain ⟨_, _, _, h, _⟩ := hr; exact h
  obtain ⟨so, sc, rfl⟩ : ∃ so sc, v = .slice so n sc := by obtain ⟨so, sc, e, -⟩ := hr; exact ⟨so, sc, e⟩
  clear hD hn
  go_enter Try.func41, Try.ntmps41
  go_wp2
  go_loopw [5] (fun i wr => ∃ k : Nat, k ≤ n ∧ i = .int .i64 k ∧ (∀ y ∈ ys.take k, y ≠ x) ∧ Below w.heap.size w wr) (fun i _ => n - (intOf i).toNat)
  case atStart => exact ⟨0, Nat.zero_le _, rfl, by simp, Below.refl _ _⟩
  case round =>
    obtain ⟨k, hk, rfl, hno, hbel⟩ := hrel
    have HNO := hide hno
    clear hno
    by_cases hlt : k < n
    · obtain ⟨y, hy⟩ := getAt ys k (by have := HN.out; omega)
      obtain ⟨b, o, rfl, -, hc⟩ := ints_at hr hy
      have f0 := hc wr hbel
      have HYY := hide hy
      have hi : (k : Int) < (n : Int) := by omega
      clear hr hc hy
      by_cases hyx : y = x
      · have e1 : (y == x) = true := by simpa using hyx
        have ht : Hid (D = true) := by show _ = _; rw [← HD.out, decide_eq_true_eq, ← hyx]; exact List.mem_of_getElem? HYY.out
        clear hyx
        go_wp2
        go_ret
        exact ⟨by rw [ht.out]; rfl, hbel⟩
      · have e1 : (y == x) = false := by simpa using hyx
        have HYX := hide hyx
        clear hyx
        go_wp2
        go_roundw
        case rel =>
          refine ⟨k + 1, by omega, by go_num, fun z hz => ?_, hbel⟩
          have hm := (List.getElem?_eq_some_iff.1 HYY.out).1
          rw [List.take_succ_eq_append_getElem hm, List.mem_append] at hz
          rcases hz with hz | hz
          · exact HNO.out z hz
          · have e := HYY.out
            rw [List.getElem?_eq_getElem hm] at e
            rw [List.mem_singleton.1 hz, Option.some.inj e]
            exact HYX.out
        case measure => simp [intOf]; omega
    · go_wp2
      go_ret
      obtain rfl : k = n := by omega
      refine ⟨?_, hbel⟩
      have hf : D = false := by
        rw [← HD.out, decide_eq_false_iff_not]
        intro hx
        refine HNO.out x ?_ rfl
        rw [List.take_of_length_le (by have := HN.out; omega)]
        exact hx
      rw [hf]
      rfl

set_option maxRecDepth 100000 in
set_option maxHeartbeats 4000000 in
theorem index_any (v : Value) (ys : List Int) (x : Int) (w : World) (hr : RowR w 1 v ys.length (ints ys)) :
    Calls Try.prog 134 #[v, .int .i64 x] w fun e w' => ∃ r : Int, e = .returned (.int .i64 r) ∧ decide (r ≥ 0) = decide (x ∈ ys) ∧ Below w.heap.size w w' := by
  obtain ⟨D, hD⟩ : ∃ D, decide (x ∈ ys) = D := ⟨_, rfl⟩
  rw [hD]
  have HD := hide hD
  obtain ⟨n, hn⟩ : ∃ n, ys.length = n := ⟨_, rfl⟩
  have HN := hide hn
  rw [hn] at hr
  have hn0 : n ≤ 9223372036854775807 := by obtain ⟨_, _, _, h, _⟩ := hr; exact h
  obtain ⟨so, sc, rfl⟩ : ∃ so sc, v = .slice so n sc := by obtain ⟨so, sc, e, -⟩ := hr; exact ⟨so, sc, e⟩
  clear hD hn
  go_enter Try.func134, Try.ntmps134
  go_wp2
  go_loopw [8] (fun i wr => ∃ k : Nat, k ≤ n ∧ i = .int .i64 k ∧ (∀ y ∈ ys.take k, y ≠ x) ∧ Below w.heap.size w wr) (fun i _ => n - (intOf i).toNat)
  case atStart => exact ⟨0, Nat.zero_le _, rfl, by simp, Below.refl _ _⟩
  case round =>
    obtain ⟨k, hk, rfl, hno, hbel⟩ := hrel
    have HNO := hide hno
    clear hno
    by_cases hlt : k < n
    · obtain ⟨y, hy⟩ := getAt ys k (by have := HN.out; omega)
      obtain ⟨b, o, rfl, -, hc⟩ := ints_at hr hy
      have f0 := hc wr hbel
      have HYY := hide hy
      have hi : (k : Int) < (n : Int) := by omega
      clear hr hc hy
      by_cases hyx : x = y
      · have e1 : (x == y) = true := by simpa using hyx
        have ht : Hid (D = true) := by show _ = _; rw [← HD.out, decide_eq_true_eq, hyx]; exact List.mem_of_getElem? HYY.out
        clear hyx
        go_wp2
        go_ret
        exact ⟨(k : Int), rfl, by rw [ht.out]; simp, hbel⟩
      · have e1 : (x == y) = false := by simpa using hyx
        have HYX := hide hyx
        clear hyx
        go_wp2
        go_roundw
        case rel =>
          refine ⟨k + 1, by omega, by go_num, fun z hz => ?_, hbel⟩
          have hm := (List.getElem?_eq_some_iff.1 HYY.out).1
          rw [List.take_succ_eq_append_getElem hm, List.mem_append] at hz
          rcases hz with hz | hz
          · exact HNO.out z hz
          · have e := HYY.out
            rw [List.getElem?_eq_getElem hm] at e
            rw [List.mem_singleton.1 hz, Option.some.inj e]
            exact fun h => HYX.out h.symm
        case measure => simp [intOf]; omega
    · go_wp2
      go_ret
      obtain rfl : k = n := by omega
      refine ⟨-1, rfl, ?_, hbel⟩
      have hf : D = false := by
        rw [← HD.out, decide_eq_false_iff_not]
        intro hx
        refine HNO.out x ?_ rfl
        rw [List.take_of_length_le (by have := HN.out; omega)]
        exact hx
      rw [hf]
      rfl

set_option maxHeartbeats 2000000 in
theorem contains_any (v : Value) (ys : List Int) (x : Int) (w : World) (hr : RowR w 1 v ys.length (ints ys)) :
    Calls Try.prog 113 #[v, .int .i64 x] w fun e w' => e = .returned (.bool (decide (x ∈ ys))) ∧ Below w.heap.size w w' := by
  obtain ⟨D, hD⟩ : ∃ D, decide (x ∈ ys) = D := ⟨_, rfl⟩
  rw [hD]
  have cI := index_any v ys x w hr
  rw [hD] at cI
  clear hD hr
  go_enter Try.func113, Try.ntmps113
  go_wp2_with fail
  refine cI.mono ?_
  rintro e w1 ⟨r, rfl, hr, b1⟩
  go_wp2
  go_ret
  exact ⟨by rw [← hr]; rfl, b1⟩

set_option maxRecDepth 100000 in
set_option maxHeartbeats 4000000 in
theorem copyI_any (v : Value) (n : Nat) (cs : List Value) (w : World) (hr : RowR w 1 v n cs) (h1 : ∀ u ∈ cs, u.oneCell' = true) (hn : n ≤ 1048576) :
    Calls Try.prog 49 #[v] w fun e w' => ∃ v', e = .returned v' ∧ w'.ownsRow w.heap.size 3 1 v' n cs ∧ Below w.heap.size w w' := by
  obtain ⟨i1, gi, gz0, gz1, gz2⟩ := info_parts infoInt
  have Hr := hide hr
  obtain ⟨ao, ca, rfl, -⟩ := hr
  go_enter Try.func49, Try.ntmps49
  go_wp2_with (at_builtin; refine wpList_append_row _ rfl _ _ 26 rfl w.heap.size 3 i1 (.int .i64 0) 1 8 Try.underlying26 gi gz0 gz1 gz2 rfl (by decide) _ 0 [] rfl ?qown _ n cs rfl ?qrow h1 ?q63 ?qby ?qbase ?_)
  case qown => exact World.ownsRow_nil _ _ _ _
  case qrow => exact Hr.out
  case q63 => unfold maxLen; omega
  case qby => omega
  case qbase => exact Nat.le_refl _
  intro v' w4 hown hgr
  try simp only [Nat.zero_add, List.nil_append] at hown
  have b4 : Below w.heap.size w w4 := (Below.refl _ _).grown hgr (by simp) (fun k e => by simp [Value.ownBlock] at e)
  go_wp2
  go_ret
  exact ⟨_, rfl, hown, b4⟩

end Go.Proofs.Yteddhdbglciahaa

/- A law's seeker becomes a program's: a contract; no statement of the seat is proved here. -/
namespace Go.Proofs.Yteddhdbglciahaa
open Go.RowKit

def zeroK : Sk := ⟨0, 0, 0, zeroW, (0, 0, zeroW), []⟩

end Go.Proofs.Yteddhdbglciahaa

/- A seeker is copied; what is put forward: contracts; no statement of the seat is proved here. -/
namespace Go.Proofs.Yteddhdbglciahaa
open Go.RowKit

/-- A command as cells. -/
def wcmd (x : Wd) : Array Value := #[.int .i64 x.c0, .int .i64 x.c1, .int .i64 x.c2, .int .i64 x.c3, .int .i64 x.c4, .int .i64 x.c5, .int .i64 x.c6, .int .i64 x.c7, .int .i64 x.c8, .int .i64 x.c9]
/-- What is to be voted for. -/
def valW (k : Sk) : Wd := if 0 < k.p.2.1 then k.p.2.2 else k.m
def fwdW (k : Sk) : Wd := if isZP k.p = true then k.m else k.p.2.2
theorem sk_ys (k : Sk) (ys : List Int) (y : Value) : skarr { k with ys := ys } y = skarr k y := rfl

set_option maxRecDepth 100000 in
set_option maxHeartbeats 8000000 in
theorem l22Copy_any (v : Value) (k : Sk) (w : World) (h : SkR w v k) (hn : k.ys.length ≤ 1048576) :
    Calls Try.prog 38 #[v] w fun e w' => ∃ yo yc, e = .returned (.agg (skarr k (.slice yo k.ys.length yc))) ∧ RowA w' w.heap.size 3 1 (.slice yo k.ys.length yc) k.ys.length (ints k.ys) ∧ Below w.heap.size w w' := by
  obtain ⟨i1, gi, gz0, gz1, gz2⟩ := info_parts infoInt
  obtain ⟨ao, ac, rfl, hr⟩ := h
  have HR := hide hr
  clear hr
  go_enter Try.func38, Try.ntmps38
  go_upto_region 1 with fail
  generalize hW : World.alloc _ _ = W
  have al : Below w.heap.size w W := by rw [← hW]; exact bal (bal (Below.refl _ _) _) _
  have A0 : Hid (W.heap[w.heap.size]? = some (.cells (skarr k (.slice ao k.ys.length ac)) 39 (0, 0))) := by show _ = _; rw [← hW]; exact al2_0 w _ _
  have A1 : Hid (W.heap[w.heap.size + 1]? = some (.cells (skarr zeroK (.slice none 0 0)) 39 (0, 0))) := by show _ = _; rw [← hW]; exact al2_1 w _ _
  have ltW := heap_lt A1.out
  clear hW
  have a2 := bal (Below.refl W.heap.size W) (.cells #[] 3)
  have x := (sk_cells (bKeeps a2 A0.out)).2.2.2.2.2.2.2
  have HR2 := hide (HR.out.keep (bAll al a2))
  have A2 := hide (bKeeps a2 A0.out)
  have A3 := hide (bKeeps a2 A1.out)
  have zX := a2.size
  go_wp2_with (at_builtin; refine wpList_copyA0 _ rfl _ _ 26 rfl W.heap.size 3 i1 (.int .i64 0) 1 8 Try.underlying26 gi gz0 gz1 gz2 rfl (by decide) (some ⟨W.heap.size, 0, none⟩) rfl _ k.ys.length (ints k.ys) rfl ?qrow (ints_one _) hn (by omega) ?qbase ?_)
  case qrow => exact HR2.out
  case qbase => exact a2.size
  intro v5 w5 r5 u5
  obtain ⟨so5, sc5, rfl, hcap5⟩ := roomA r5
  have B0 := hide (typed_keeps (by decide) u5 A2.out)
  have B1 := hide (typed_keeps (by decide) u5 A3.out)
  have c5 : Below W.heap.size W w5 := a2.trans (u5.below a2.size (fun j h => h.1))
  have R5 := hide r5
  have f0 : w5.cell? ⟨w.heap.size, 25, none⟩ = some (.slice ao k.ys.length ac) := boxAt B0.out 25
  have f1 : w5.frozen? ⟨w.heap.size, 25, none⟩ = false := boxFz B0.out 25
  clear x HR2 A2 A3 a2 u5 r5 A0 A1
  go_upto_region 2 with fail
  generalize hV : World.setCell _ _ _ = V
  have u6 : Upd (fun j => j = w.heap.size) w5 V := by rw [← hV]; exact Upd.setCell _ _ _ _ rfl
  have C0 : Hid (V.heap[w.heap.size]? = some (.cells (skarr k (.slice so5 k.ys.length sc5)) 39 (0, 0))) := by show _ = _; rw [← hV]; exact row_set _ B0.out
  have C1 := hide (u6.keeps B1.out (by omega))
  have R6 := hide (R5.out.keep u6 (fun j h1 h2 => by omega))
  clear hV f0 f1 R5 B0 B1
  have s8 := updRow V (w.heap.size + 1) (skarr k (.slice so5 k.ys.length sc5))
  go_wp2_with (first
    | (refine wpList_load_row rfl 39 (.tmp 1) rfl w.heap.size rfl _ (skarr k (.slice so5 k.ys.length sc5)) (0, 0) _ C0.out Try.underlying39 rfl infoSk ?_)
    | (refine wpList_store_row rfl 39 (.tmp 2) (.tmp 8) rfl (w.heap.size + 1) (skarr k (.slice so5 k.ys.length sc5)) rfl rfl _ _ C1.out infoSk (show (26 : Nat) = 26 from rfl) (skarr_one _ _ _ _) ?_))
  refine bodyPost_ret (v := .agg (skarr k (.slice so5 k.ys.length sc5))) (results_cell_row Try.results38 _ _ (w.heap.size + 1) _ _ (0, 0) _ rfl (setRow_heap _ _ _ _ _ _ C1.out) Try.underlying39 rfl infoSk) rfl ?_
  have cw := bAll al c5
  have cv : Below w.heap.size w V := cw.trans (u6.below cw.size (fun j h => by omega))
  exact ⟨so5, sc5, rfl, (R6.out.keep s8 (fun j h1 h2 => by omega)).mono (by omega), cv.trans (s8.below cv.size (fun j h => by omega))⟩

set_option maxRecDepth 100000 in
set_option maxHeartbeats 8000000 in
theorem l22Value_any (k : Sk) (yo : Option Addr) (n yc : Nat) (w : World) :
    Calls Try.prog 43 #[.agg (skarr k (.slice yo n yc))] w fun e w' => e = .returned (.agg (wcmd (valW k))) ∧ Below w.heap.size w w' := by
  obtain ⟨y, hy⟩ : ∃ y, valW k = y := ⟨_, rfl⟩
  rw [hy]
  have HYY := hide hy
  clear hy
  go_enter Try.func43, Try.ntmps43
  go_upto_region 1 with fail
  generalize hW : World.alloc _ _ = W
  have al : Below w.heap.size w W := by rw [← hW]; exact bal (bal (Below.refl _ _) _) _
  have A0 : Hid (W.heap[w.heap.size]? = some (.cells (skarr k (.slice yo n yc)) 39 (0, 0))) := by show _ = _; rw [← hW]; exact al2_0 w _ _
  have A1 : Hid (W.heap[w.heap.size + 1]? = some (.cells #[.int .i64 0, .int .i64 0, .int .i64 0, .int .i64 0, .int .i64 0, .int .i64 0, .int .i64 0, .int .i64 0, .int .i64 0, .int .i64 0] 35 (0, 0))) := by show _ = _; rw [← hW]; exact al2_1 w _ _
  clear hW
  obtain ⟨-, -, -, xm, xp, -, x14, -⟩ := sk_cells A0.out
  have xc : ∀ j z, (#[.int .i64 k.p.2.2.c0, .int .i64 k.p.2.2.c1, .int .i64 k.p.2.2.c2, .int .i64 k.p.2.2.c3, .int .i64 k.p.2.2.c4, .int .i64 k.p.2.2.c5, .int .i64 k.p.2.2.c6, .int .i64 k.p.2.2.c7, .int .i64 k.p.2.2.c8, .int .i64 k.p.2.2.c9] : Array Value)[j]? = some z → W.cell? ⟨w.heap.size, 15 + j, none⟩ = some z := fun j z hj => by
    have := xp (2 + j) z (pparr_cmd hj)
    rwa [← Nat.add_assoc] at this
  have XM := hide xm
  have XC := hide xc
  clear xm xp xc
  by_cases h0 : 0 < k.p.2.1
  · have e0 : decide (k.p.2.1 > 0) = true := by simpa using h0
    have ey : y = k.p.2.2 := by rw [← HYY.out, valW, if_pos h0]
    subst ey
    clear h0
    have s8 := updRow W (w.heap.size + 1) #[.int .i64 k.p.2.2.c0, .int .i64 k.p.2.2.c1, .int .i64 k.p.2.2.c2, .int .i64 k.p.2.2.c3, .int .i64 k.p.2.2.c4, .int .i64 k.p.2.2.c5, .int .i64 k.p.2.2.c6, .int .i64 k.p.2.2.c7, .int .i64 k.p.2.2.c8, .int .i64 k.p.2.2.c9]
    go_wp2_with (first
      | (refine wpList_load_at rfl 35 (.tmp 8) rfl w.heap.size 15 rfl #[.int .i64 k.p.2.2.c0, .int .i64 k.p.2.2.c1, .int .i64 k.p.2.2.c2, .int .i64 k.p.2.2.c3, .int .i64 k.p.2.2.c4, .int .i64 k.p.2.2.c5, .int .i64 k.p.2.2.c6, .int .i64 k.p.2.2.c7, .int .i64 k.p.2.2.c8, .int .i64 k.p.2.2.c9] _ XC.out Try.underlying35 rfl infoCm10 ?_)
      | (refine wpList_store_row rfl 35 (.tmp 2) (.tmp 9) rfl (w.heap.size + 1) #[.int .i64 k.p.2.2.c0, .int .i64 k.p.2.2.c1, .int .i64 k.p.2.2.c2, .int .i64 k.p.2.2.c3, .int .i64 k.p.2.2.c4, .int .i64 k.p.2.2.c5, .int .i64 k.p.2.2.c6, .int .i64 k.p.2.2.c7, .int .i64 k.p.2.2.c8, .int .i64 k.p.2.2.c9] rfl rfl _ _ A1.out infoCm10 (show (10 : Nat) = 10 from rfl) (all_of_list rfl) ?_))
    refine bodyPost_ret (v := .agg (wcmd k.p.2.2)) (results_cell_row Try.results43 _ _ (w.heap.size + 1) _ _ (0, 0) _ rfl (setRow_heap _ _ _ _ _ _ A1.out) Try.underlying35 rfl infoCm10) rfl ?_
    exact ⟨rfl, al.trans (s8.below al.size (fun j h => by omega))⟩
  · have e0 : decide (k.p.2.1 > 0) = false := by simpa using h0
    have ey : y = k.m := by rw [← HYY.out, valW, if_neg h0]
    subst ey
    clear h0
    have s8 := updRow W (w.heap.size + 1) #[.int .i64 k.m.c0, .int .i64 k.m.c1, .int .i64 k.m.c2, .int .i64 k.m.c3, .int .i64 k.m.c4, .int .i64 k.m.c5, .int .i64 k.m.c6, .int .i64 k.m.c7, .int .i64 k.m.c8, .int .i64 k.m.c9]
    go_wp2_with (first
      | (refine wpList_load_at rfl 35 (.tmp 10) rfl w.heap.size 3 rfl #[.int .i64 k.m.c0, .int .i64 k.m.c1, .int .i64 k.m.c2, .int .i64 k.m.c3, .int .i64 k.m.c4, .int .i64 k.m.c5, .int .i64 k.m.c6, .int .i64 k.m.c7, .int .i64 k.m.c8, .int .i64 k.m.c9] _ XM.out Try.underlying35 rfl infoCm10 ?_)
      | (refine wpList_store_row rfl 35 (.tmp 2) (.tmp 11) rfl (w.heap.size + 1) #[.int .i64 k.m.c0, .int .i64 k.m.c1, .int .i64 k.m.c2, .int .i64 k.m.c3, .int .i64 k.m.c4, .int .i64 k.m.c5, .int .i64 k.m.c6, .int .i64 k.m.c7, .int .i64 k.m.c8, .int .i64 k.m.c9] rfl rfl _ _ A1.out infoCm10 (show (10 : Nat) = 10 from rfl) (all_of_list rfl) ?_))
    refine bodyPost_ret (v := .agg (wcmd k.m)) (results_cell_row Try.results43 _ _ (w.heap.size + 1) _ _ (0, 0) _ rfl (setRow_heap _ _ _ _ _ _ A1.out) Try.underlying35 rfl infoCm10) rfl ?_
    exact ⟨rfl, al.trans (s8.below al.size (fun j h => by omega))⟩

end Go.Proofs.Yteddhdbglciahaa

/- A word is sent to all: contracts; no statement of the seat is proved here. -/
namespace Go.Proofs.Yteddhdbglciahaa
open Go.RowKit

/-- A word to each voter. -/
def allTo (x : Wd) (n : Nat) : List Wd := (List.range n).map fun (i : Nat) => { x with a2 := (i : Int) }
theorem allTo_len (x : Wd) (n : Nat) : (allTo x n).length = n := by simp [allTo]
theorem allTo_succ (x : Wd) (n : Nat) : allTo x (n + 1) = allTo x n ++ [{ x with a2 := (n : Int) }] := by simp [allTo, List.range_succ]
theorem allTo_flat {x : Wd} (h : Flat x) (n : Nat) : ∀ y ∈ allTo x n, Flat y := by
  intro y hy
  simp only [allTo, List.mem_map] at hy
  obtain ⟨i, -, rfl⟩ := hy
  exact h
theorem infoWdF : (Try.prog.info? 47).map (fun i => (i.zero, i.size, i.bytes)) = some (some (.agg #[.int .i64 0, .int .i64 0, .int .i64 0, .int .i64 0, .int .i64 0, .int .i64 0, .int .i64 0, .int .i64 0, .int .i64 0, .int .i64 0, .int .i64 0, .int .i64 0, .int .i64 0, .int .i64 0, .int .i64 0, .int .i64 0, .int .i64 0, .int .i64 0, .int .i64 0, .int .i64 0, .int .i64 0, .int .i64 0, .int .i64 0, .int .i64 0, .slice none 0 0, .slice none 0 0]), 26, 240) := by kernel_rfl
theorem newW_cells (w : World) (p : Wd) (e : TypeId) : ∀ j u, (fwcell p)[j]? = some u → (w.alloc (.cells (fwarr p) e)).cell? ((⟨w.heap.size, 0, none⟩ : Addr).add j) = some u := by
  intro j u h
  rw [Addr.add_lit, Nat.zero_add, boxAt (al1_0 w _)]
  simpa [fwcell] using h
theorem fwcell_one (p : Wd) : ∀ u ∈ fwcell p, u.oneCell' = true := by
  intro u hu
  exact (Array.all_eq_true_iff_forall_mem.1 (fw_one p)) u (by simpa [fwcell] using hu)

set_option maxRecDepth 100000 in
set_option maxHeartbeats 8000000 in
theorem l22All_any (x : Wd) (w : World) :
    Calls Try.prog 42 #[.agg (fwarr x)] w fun e w' => ∃ v', e = .returned v' ∧ RowA w' w.heap.size 47 26 v' 3 (fwcells (allTo x 3)) ∧ Below w.heap.size w w' := by
  obtain ⟨i1, gi, gz0, gz1, gz2⟩ := info_parts infoWdF
  go_enter Try.func42, Try.ntmps42
  go_upto_region 2 with fail
  generalize hW : World.alloc _ _ = W
  have al : Below w.heap.size w W := by rw [← hW]; exact bal (bal (Below.refl _ _) _) _
  have B0 : Hid (W.heap[w.heap.size]? = some (.cells (fwarr x) 47 (0, 0))) := by show _ = _; rw [← hW]; exact al2_0 w _ _
  have zW : w.heap.size + 1 ≤ W.heap.size := by rw [← hW]; simp
  clear hW
  go_wp2
  go_loopw [3, 4] (fun o i wr => ∃ (k : Nat) (z : Int), k ≤ 3 ∧ i = .int .i64 k ∧ RowA wr W.heap.size 47 26 o k (fwcells (allTo x k)) ∧ wr.heap[w.heap.size]? = some (.cells (fwarr { x with a2 := z }) 47 (0, 0)) ∧ Upd (fun j => j = w.heap.size) W wr) (fun _ i _ => 3 - (intOf i).toNat)
  case atStart => exact ⟨0, x.a2, Nat.zero_le _, rfl, .inr ⟨rfl, rfl, _, rfl⟩, B0.out, Upd.refl _ _⟩
  case round =>
    obtain ⟨k, z, hk, rfl, hrow, hbox, hup⟩ := hrel
    have HW := hide hrow
    obtain ⟨po, pc, rfl⟩ := hrow.shape
    have zr := hup.size
    by_cases hlt : k < 3
    · have hi : (k : Int) < 3 := by omega
      have c2 : wr.cell? ⟨w.heap.size, 2, none⟩ = some (.int .i64 z) := boxAt hbox 2
      have f2 := boxFz hbox 2
      have HB := hide hbox
      clear hrow hbox
      go_upto_region 6 with fail
      generalize hV : World.setCell _ _ _ = V
      have uV : Upd (fun j => j = w.heap.size) wr V := by rw [← hV]; exact Upd.setCell _ _ _ _ rfl
      have bV : Hid (V.heap[w.heap.size]? = some (.cells (fwarr { x with a2 := (k : Int) }) 47 (0, 0))) := by show _ = _; rw [← hV]; exact row_set _ HB.out
      have RV : RowA V W.heap.size 47 26 (.slice po k pc) k (fwcells (allTo x k)) := HW.out.keep uV (fun j h1 h2 => by omega)
      have cV := hup.trans uV
      have zV := cV.size
      clear hV c2 f2 HB HW
      obtain ⟨y, hy⟩ : ∃ y : Wd, { x with a2 := (k : Int) } = y := ⟨_, rfl⟩
      rw [hy] at bV
      have HY := hide hy
      clear hy
      have alV := bal (Below.refl V.heap.size V) (.cells (#[.int .i64 y.a0, .int .i64 y.a1, .int .i64 y.a2, .int .i64 y.a3, .int .i64 y.a4, .int .i64 y.a5, .int .i64 y.c0, .int .i64 y.c1, .int .i64 y.c2, .int .i64 y.c3, .int .i64 y.c4, .int .i64 y.c5, .int .i64 y.c6, .int .i64 y.c7, .int .i64 y.c8, .int .i64 y.c9, .int .i64 y.b0, .int .i64 y.b1, .int .i64 y.b2, .int .i64 y.b3, .int .i64 y.b4, .int .i64 y.b5, .int .i64 y.b6, .int .i64 y.b7, .slice none 0 0, .slice none 0 0] : Array Value) 47)
      have rowV := RV.keepB alV
      have NV : Hid (∀ j u, (fwcell y)[j]? = some u → (V.alloc (.cells (#[.int .i64 y.a0, .int .i64 y.a1, .int .i64 y.a2, .int .i64 y.a3, .int .i64 y.a4, .int .i64 y.a5, .int .i64 y.c0, .int .i64 y.c1, .int .i64 y.c2, .int .i64 y.c3, .int .i64 y.c4, .int .i64 y.c5, .int .i64 y.c6, .int .i64 y.c7, .int .i64 y.c8, .int .i64 y.c9, .int .i64 y.b0, .int .i64 y.b1, .int .i64 y.b2, .int .i64 y.b3, .int .i64 y.b4, .int .i64 y.b5, .int .i64 y.b6, .int .i64 y.b7, .slice none 0 0, .slice none 0 0] : Array Value) 47)).cell? ((⟨V.heap.size, 0, none⟩ : Addr).add j) = some u) := newW_cells V y 47
      have bV1 : Hid ((V.alloc (.cells (#[.int .i64 y.a0, .int .i64 y.a1, .int .i64 y.a2, .int .i64 y.a3, .int .i64 y.a4, .int .i64 y.a5, .int .i64 y.c0, .int .i64 y.c1, .int .i64 y.c2, .int .i64 y.c3, .int .i64 y.c4, .int .i64 y.c5, .int .i64 y.c6, .int .i64 y.c7, .int .i64 y.c8, .int .i64 y.c9, .int .i64 y.b0, .int .i64 y.b1, .int .i64 y.b2, .int .i64 y.b3, .int .i64 y.b4, .int .i64 y.b5, .int .i64 y.b6, .int .i64 y.b7, .slice none 0 0, .slice none 0 0] : Array Value) 47)).heap[w.heap.size]? = some (.cells (fwarr y) 47 (0, 0))) := bKeeps alV bV.out
      clear RV
      go_wp2_with (first
        | (refine wpList_load_row rfl 47 (.tmp 1) rfl w.heap.size rfl _ (#[.int .i64 y.a0, .int .i64 y.a1, .int .i64 y.a2, .int .i64 y.a3, .int .i64 y.a4, .int .i64 y.a5, .int .i64 y.c0, .int .i64 y.c1, .int .i64 y.c2, .int .i64 y.c3, .int .i64 y.c4, .int .i64 y.c5, .int .i64 y.c6, .int .i64 y.c7, .int .i64 y.c8, .int .i64 y.c9, .int .i64 y.b0, .int .i64 y.b1, .int .i64 y.b2, .int .i64 y.b3, .int .i64 y.b4, .int .i64 y.b5, .int .i64 y.b6, .int .i64 y.b7, .slice none 0 0, .slice none 0 0] : Array Value) (0, 0) _ bV.out Try.underlying47 rfl infoWd ?_)
        | (at_builtin; refine wpList_appendA _ rfl _ _ 40 rfl W.heap.size 47 i1 (.agg #[.int .i64 0, .int .i64 0, .int .i64 0, .int .i64 0, .int .i64 0, .int .i64 0, .int .i64 0, .int .i64 0, .int .i64 0, .int .i64 0, .int .i64 0, .int .i64 0, .int .i64 0, .int .i64 0, .int .i64 0, .int .i64 0, .int .i64 0, .int .i64 0, .int .i64 0, .int .i64 0, .int .i64 0, .int .i64 0, .int .i64 0, .int .i64 0, .slice none 0 0, .slice none 0 0]) 26 240 Try.underlying40 gi gz0 gz1 gz2 rfl (by decide) _ k (fwcells (allTo x k)) rfl rowV ⟨V.heap.size, 0, none⟩ 1 1 (fwcell y) rfl rfl NV.out (fwcell_one _) (by decide) ?q63 ?qby ?qbase ?_))
      case q63 => unfold maxLen; omega
      case qby => omega
      case qbase => first | omega | (simp; omega)
      intro v4 w4 r4 u4
      obtain ⟨so4, sc4, rfl, -⟩ := owns_shape r4
      have hb4 : Hid (w4.heap[w.heap.size]? = some (.cells (fwarr y) 47 (0, 0))) := u4.keeps bV1.out (fun h => by have := h.1; omega)
      have R4 := hide (show RowA w4 W.heap.size 47 26 _ _ _ from .inl r4)
      have c4 : Upd (fun j => j = w.heap.size) W w4 := upd_late (cV.trans (Upd.ofBelow alV)) u4 (fun j h => h.1)
      clear r4 u4 rowV NV bV1 bV alV cV uV
      go_wp2
      go_roundw
      case rel =>
        refine ⟨k + 1, (k : Int), by omega, by go_num, ?_, by rw [HY.out]; exact hb4.out, c4⟩
        have := R4.out
        rw [← HY.out] at this
        rw [allTo_succ]
        simpa [fwcells, List.flatMap_append] using this
      case measure => simp [intOf]; omega
    · go_wp2
      go_ret
      obtain rfl : k = 3 := by omega
      exact ⟨_, rfl, HW.out.base (by omega), al.trans (hup.below al.size (fun j h => by omega))⟩

/-- What the program sends to all: nothing, if there is nothing to ask. -/
def AskR (w' : World) (b : Nat) (me : Int) (x : Wd) (v' : Value) : Prop :=
  (x.a0 = 0 ∧ v' = .slice none 0 0) ∨ (x.a0 ≠ 0 ∧ RowA w' b 47 26 v' 3 (fwcells (allTo { x with a1 := me } 3)))

set_option maxRecDepth 100000 in
set_option maxHeartbeats 8000000 in
theorem synAskAll_any (me : Int) (x : Wd) (w : World) :
    Calls Try.prog 53 #[.int .i64 me, .agg (fwarr x)] w fun e w' => ∃ v', e = .returned v' ∧ AskR w' w.heap.size me x v' ∧ Below w.heap.size w w' := by
  obtain ⟨i1, gi, gz0, gz1, gz2⟩ := info_parts infoWdF
  go_enter Try.func53, Try.ntmps53
  go_upto_region 1 with fail
  generalize hW : World.alloc _ _ = W
  have al : Below w.heap.size w W := by rw [← hW]; exact bal (Below.refl _ _) _
  have B0 : Hid (W.heap[w.heap.size]? = some (.cells (fwarr x) 47 (0, 0))) := by show _ = _; rw [← hW]; exact al1_0 w _
  have zW : w.heap.size + 1 ≤ W.heap.size := by rw [← hW]; simp
  clear hW
  have c0 : W.cell? ⟨w.heap.size, 0, none⟩ = some (.int .i64 x.a0) := boxAt B0.out 0
  by_cases h0 : x.a0 = 0
  · have h1 : (x.a0 == 0) = true := by simpa using h0
    go_wp2
    go_ret
    exact ⟨_, rfl, .inl ⟨h0, rfl⟩, al⟩
  have h1 : (x.a0 == 0) = false := by simpa using h0
  have H0 := hide h0
  clear h0
  go_upto_region 3 with fail
  clear c0 h1
  go_wp2
  go_loopw [5, 10] (fun o i wr => ∃ (k : Nat) (q z : Int), k ≤ 3 ∧ i = .int .i64 k ∧ RowA wr W.heap.size 47 26 o k (fwcells (allTo { x with a1 := me } k)) ∧ wr.heap[w.heap.size]? = some (.cells (fwarr { x with a1 := q, a2 := z }) 47 (0, 0)) ∧ Upd (fun j => j = w.heap.size) W wr) (fun _ i _ => 3 - (intOf i).toNat)
  case atStart => exact ⟨0, x.a1, x.a2, Nat.zero_le _, rfl, .inr ⟨rfl, rfl, _, rfl⟩, B0.out, Upd.refl _ _⟩
  case round =>
    obtain ⟨k, q, z, hk, rfl, hrow, hbox, hup⟩ := hrel
    have HW := hide hrow
    obtain ⟨po, pc, rfl⟩ := hrow.shape
    have zr := hup.size
    by_cases hlt : k < 3
    · have hi : (k : Int) < 3 := by omega
      have c1 : wr.cell? ⟨w.heap.size, 1, none⟩ = some (.int .i64 q) := boxAt hbox 1
      have c2 : wr.cell? ⟨w.heap.size, 2, none⟩ = some (.int .i64 z) := boxAt hbox 2
      have f1 := boxFz hbox 1
      have f2 := boxFz hbox 2
      have HB := hide hbox
      clear hrow hbox
      go_upto_region 8 with fail
      generalize hV : World.setCell _ _ _ = V
      have uV : Upd (fun j => j = w.heap.size) wr V := by rw [← hV]; exact (Upd.setCell (S := fun j => j = w.heap.size) _ _ _ _ rfl).trans (Upd.setCell _ _ _ _ rfl)
      have bV : Hid (V.heap[w.heap.size]? = some (.cells (fwarr { x with a1 := me, a2 := (k : Int) }) 47 (0, 0))) := by show _ = _; rw [← hV]; exact row_set _ (row_set _ HB.out)
      have RV : RowA V W.heap.size 47 26 (.slice po k pc) k (fwcells (allTo { x with a1 := me } k)) := HW.out.keep uV (fun j h1 h2 => by omega)
      have cV := hup.trans uV
      have zV := cV.size
      clear hV c1 c2 f1 f2 HB HW
      obtain ⟨y, hy⟩ : ∃ y : Wd, { x with a1 := me, a2 := (k : Int) } = y := ⟨_, rfl⟩
      rw [hy] at bV
      have HY := hide hy
      clear hy
      have alV := bal (Below.refl V.heap.size V) (.cells (#[.int .i64 y.a0, .int .i64 y.a1, .int .i64 y.a2, .int .i64 y.a3, .int .i64 y.a4, .int .i64 y.a5, .int .i64 y.c0, .int .i64 y.c1, .int .i64 y.c2, .int .i64 y.c3, .int .i64 y.c4, .int .i64 y.c5, .int .i64 y.c6, .int .i64 y.c7, .int .i64 y.c8, .int .i64 y.c9, .int .i64 y.b0, .int .i64 y.b1, .int .i64 y.b2, .int .i64 y.b3, .int .i64 y.b4, .int .i64 y.b5, .int .i64 y.b6, .int .i64 y.b7, .slice none 0 0, .slice none 0 0] : Array Value) 47)
      have rowV := RV.keepB alV
      have NV : Hid (∀ j u, (fwcell y)[j]? = some u → (V.alloc (.cells (#[.int .i64 y.a0, .int .i64 y.a1, .int .i64 y.a2, .int .i64 y.a3, .int .i64 y.a4, .int .i64 y.a5, .int .i64 y.c0, .int .i64 y.c1, .int .i64 y.c2, .int .i64 y.c3, .int .i64 y.c4, .int .i64 y.c5, .int .i64 y.c6, .int .i64 y.c7, .int .i64 y.c8, .int .i64 y.c9, .int .i64 y.b0, .int .i64 y.b1, .int .i64 y.b2, .int .i64 y.b3, .int .i64 y.b4, .int .i64 y.b5, .int .i64 y.b6, .int .i64 y.b7, .slice none 0 0, .slice none 0 0] : Array Value) 47)).cell? ((⟨V.heap.size, 0, none⟩ : Addr).add j) = some u) := newW_cells V y 47
      have bV1 : Hid ((V.alloc (.cells (#[.int .i64 y.a0, .int .i64 y.a1, .int .i64 y.a2, .int .i64 y.a3, .int .i64 y.a4, .int .i64 y.a5, .int .i64 y.c0, .int .i64 y.c1, .int .i64 y.c2, .int .i64 y.c3, .int .i64 y.c4, .int .i64 y.c5, .int .i64 y.c6, .int .i64 y.c7, .int .i64 y.c8, .int .i64 y.c9, .int .i64 y.b0, .int .i64 y.b1, .int .i64 y.b2, .int .i64 y.b3, .int .i64 y.b4, .int .i64 y.b5, .int .i64 y.b6, .int .i64 y.b7, .slice none 0 0, .slice none 0 0] : Array Value) 47)).heap[w.heap.size]? = some (.cells (fwarr y) 47 (0, 0))) := bKeeps alV bV.out
      clear RV
      go_wp2_with (first
        | (refine wpList_load_row rfl 47 (.tmp 3) rfl w.heap.size rfl _ (#[.int .i64 y.a0, .int .i64 y.a1, .int .i64 y.a2, .int .i64 y.a3, .int .i64 y.a4, .int .i64 y.a5, .int .i64 y.c0, .int .i64 y.c1, .int .i64 y.c2, .int .i64 y.c3, .int .i64 y.c4, .int .i64 y.c5, .int .i64 y.c6, .int .i64 y.c7, .int .i64 y.c8, .int .i64 y.c9, .int .i64 y.b0, .int .i64 y.b1, .int .i64 y.b2, .int .i64 y.b3, .int .i64 y.b4, .int .i64 y.b5, .int .i64 y.b6, .int .i64 y.b7, .slice none 0 0, .slice none 0 0] : Array Value) (0, 0) _ bV.out Try.underlying47 rfl infoWd ?_)
        | (at_builtin; refine wpList_appendA _ rfl _ _ 40 rfl W.heap.size 47 i1 (.agg #[.int .i64 0, .int .i64 0, .int .i64 0, .int .i64 0, .int .i64 0, .int .i64 0, .int .i64 0, .int .i64 0, .int .i64 0, .int .i64 0, .int .i64 0, .int .i64 0, .int .i64 0, .int .i64 0, .int .i64 0, .int .i64 0, .int .i64 0, .int .i64 0, .int .i64 0, .int .i64 0, .int .i64 0, .int .i64 0, .int .i64 0, .int .i64 0, .slice none 0 0, .slice none 0 0]) 26 240 Try.underlying40 gi gz0 gz1 gz2 rfl (by decide) _ k (fwcells (allTo { x with a1 := me } k)) rfl rowV ⟨V.heap.size, 0, none⟩ 1 1 (fwcell y) rfl rfl NV.out (fwcell_one _) (by decide) ?q63 ?qby ?qbase ?_))
      case q63 => unfold maxLen; omega
      case qby => omega
      case qbase => first | omega | (simp; omega)
      intro v4 w4 r4 u4
      obtain ⟨so4, sc4, rfl, -⟩ := owns_shape r4
      have hb4 : Hid (w4.heap[w.heap.size]? = some (.cells (fwarr y) 47 (0, 0))) := u4.keeps bV1.out (fun h => by have := h.1; omega)
      have R4 := hide (show RowA w4 W.heap.size 47 26 _ _ _ from .inl r4)
      have c4 : Upd (fun j => j = w.heap.size) W w4 := upd_late (cV.trans (Upd.ofBelow alV)) u4 (fun j h => h.1)
      clear r4 u4 rowV NV bV1 bV alV cV uV
      go_wp2
      go_roundw
      case rel =>
        refine ⟨k + 1, me, (k : Int), by omega, by go_num, ?_, by rw [HY.out]; exact hb4.out, c4⟩
        have := R4.out
        rw [← HY.out] at this
        rw [allTo_succ]
        simpa [fwcells, List.flatMap_append] using this
      case measure => simp [intOf]; omega
    · go_wp2
      go_ret
      obtain rfl : k = 3 := by omega
      exact ⟨_, rfl, .inr ⟨H0.out, HW.out.base (by omega)⟩, al.trans (hup.below al.size (fun j h => by omega))⟩

end Go.Proofs.Yteddhdbglciahaa
