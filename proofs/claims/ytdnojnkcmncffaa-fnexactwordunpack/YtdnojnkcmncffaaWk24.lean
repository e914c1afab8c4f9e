/- Contracts and plain facts that this claim leans on (texts XH3, XL); no statement of the seat is proved here. -/
import Derived.Test.YtdnojnkcmncffaaWk5
import Derived.Test.YtdnojnkcmncffaaWk18
import Derived.Test.YtdnojnkcmncffaaWk22
import Derived.Test.YtdnojnkcmncffaaWk23

/- Words held against each other, marked, and looked at for their marks: contracts; no statement of the seat is proved here. -/
namespace Go.Proofs.Ytdnojnkcmncffaa
open Go.RowKit

set_option maxHeartbeats 4000000 in
theorem eqCmd_true (x : Wd) (w : World) :
    Calls Try.prog 40 #[ .agg #[.int .i64 x.c0, .int .i64 x.c1, .int .i64 x.c2, .int .i64 x.c3, .int .i64 x.c4, .int .i64 x.c5, .int .i64 x.c6, .int .i64 x.c7, .int .i64 x.c8, .int .i64 x.c9], .agg #[.int .i64 x.c0, .int .i64 x.c1, .int .i64 x.c2, .int .i64 x.c3, .int .i64 x.c4, .int .i64 x.c5, .int .i64 x.c6, .int .i64 x.c7, .int .i64 x.c8, .int .i64 x.c9] ] w fun e w' => e = .returned (.bool true) ∧ Below w.heap.size w w' := by
  go_enter Try.func40, Try.ntmps40
  go_wp2
  go_ret
  exact ⟨rfl, bal (bal (Below.refl _ _) _) _⟩

set_option maxRecDepth 100000 in
set_option maxHeartbeats 8000000 in
theorem eqWord_true (va vb : Value) (x : Wd) (w : World) (ha : WdR w va x) (hb : WdR w vb x) :
    Calls Try.prog 13 #[va, vb] w fun e w' => e = .returned (.bool true) ∧ Below w.heap.size w w' := by
  obtain ⟨po, pc, lo, lc, rfl, a1, a2⟩ := ha
  obtain ⟨po', pc', lo', lc', rfl, d1, d2⟩ := hb
  go_enter Try.func13, Try.ntmps13
  go_wp2_with fail
  generalize hW : World.alloc _ _ = W
  have hal : Below w.heap.size w W := by rw [← hW]; exact bal (bal (Below.refl _ _) _) _
  have B0 : W.heap[w.heap.size]? = some (.cells (#[.int .i64 x.a0, .int .i64 x.a1, .int .i64 x.a2, .int .i64 x.a3, .int .i64 x.a4, .int .i64 x.a5, .int .i64 x.c0, .int .i64 x.c1, .int .i64 x.c2, .int .i64 x.c3, .int .i64 x.c4, .int .i64 x.c5, .int .i64 x.c6, .int .i64 x.c7, .int .i64 x.c8, .int .i64 x.c9, .int .i64 x.b0, .int .i64 x.b1, .int .i64 x.b2, .int .i64 x.b3, .int .i64 x.b4, .int .i64 x.b5, .int .i64 x.b6, .int .i64 x.b7, .slice po x.ps.length pc, .slice lo x.ls.length lc] : Array Value) 34 (0, 0)) := by rw [← hW]; exact al2_0 w _ _
  have B1 : W.heap[w.heap.size + 1]? = some (.cells (#[.int .i64 x.a0, .int .i64 x.a1, .int .i64 x.a2, .int .i64 x.a3, .int .i64 x.a4, .int .i64 x.a5, .int .i64 x.c0, .int .i64 x.c1, .int .i64 x.c2, .int .i64 x.c3, .int .i64 x.c4, .int .i64 x.c5, .int .i64 x.c6, .int .i64 x.c7, .int .i64 x.c8, .int .i64 x.c9, .int .i64 x.b0, .int .i64 x.b1, .int .i64 x.b2, .int .i64 x.b3, .int .i64 x.b4, .int .i64 x.b5, .int .i64 x.b6, .int .i64 x.b7, .slice po' x.ps.length pc', .slice lo' x.ls.length lc'] : Array Value) 34 (0, 0)) := by rw [← hW]; exact al2_1 w _ _
  clear hW
  refine (eqCmd_true x _).mono ?_
  rintro e w1 ⟨rfl, b1⟩
  have C0 := bKeeps b1 B0
  have C1 := bKeeps b1 B1
  have hc0 := boxAt C0
  have hc1 := boxAt C1
  have H0 := hide C0
  have H1 := hide C1
  have c1 := bAll hal b1
  clear B0 B1 C0 C1
  go_wp2_with fail
  clear hc0 hc1
  refine (eqBlkPieceS_true _ _ _ x.ps _ (a1.keep c1) (d1.keep c1)).mono ?_
  rintro e w2 ⟨rfl, b2⟩
  have hc0 := boxAt (bKeeps b2 H0.out)
  have hc1 := boxAt (bKeeps b2 H1.out)
  have c2 := bAll c1 b2
  go_wp2_with fail
  refine (eqBlkLastS_true _ _ _ x.ls _ (a2.keep c2) (d2.keep c2)).mono ?_
  rintro e w3 ⟨rfl, b3⟩
  go_wp2
  go_ret
  exact ⟨rfl, bAll c2 b3⟩

/-- The marks of a word's lists. -/
def mkWd (x : Wd) (k : Nat) : Wd := { x with ps := mkP k x.ps.length, ls := mkL (k + x.ps.length * 4) x.ls.length }

set_option maxRecDepth 100000 in
set_option maxHeartbeats 4000000 in
theorem markWord_any (S : Nat → Prop) (v : Value) (x : Wd) (k0 : Nat) (w : World) (h : WdO w S v x) (h1 : 1 ≤ k0) (h2 : k0 + x.ps.length * 4 + x.ls.length * 2 ≤ 1099511627776) :
    Calls Try.prog 17 #[v, .int .i64 k0] w fun e w' => e = .returned (.int .i64 (k0 + x.ps.length * 4 + x.ls.length * 2 : Nat)) ∧ WdO w' S v (mkWd x k0) ∧ Upd S w w' := by
  obtain ⟨po, pc, lo, lc, rfl, a1, a2⟩ := h
  go_enter Try.func17, Try.ntmps17
  go_wp2_with fail
  generalize hW : World.alloc _ _ = W
  have hal : Below w.heap.size w W := by rw [← hW]; exact bal (Below.refl _ _) _
  have hbox : W.heap[w.heap.size]? = some (.cells (#[.int .i64 x.a0, .int .i64 x.a1, .int .i64 x.a2, .int .i64 x.a3, .int .i64 x.a4, .int .i64 x.a5, .int .i64 x.c0, .int .i64 x.c1, .int .i64 x.c2, .int .i64 x.c3, .int .i64 x.c4, .int .i64 x.c5, .int .i64 x.c6, .int .i64 x.c7, .int .i64 x.c8, .int .i64 x.c9, .int .i64 x.b0, .int .i64 x.b1, .int .i64 x.b2, .int .i64 x.b3, .int .i64 x.b4, .int .i64 x.b5, .int .i64 x.b6, .int .i64 x.b7, .slice po x.ps.length pc, .slice lo x.ls.length lc] : Array Value) 34 (0, 0)) := by rw [← hW]; exact heap_alloc_new w _
  clear hW
  have k1 := (a1.keepB hal).typed
  have k2 := (a2.keepB hal).typed
  refine (markBlkPieceS_any _ _ _ _ k0 _ k1 h1 (by omega)).mono ?_
  rintro e w1 ⟨rfl, r1, u1⟩
  have hbox1 := u1.keeps hbox (by rintro ⟨_, c, hc⟩; rw [hbox] at hc; simp at hc)
  have hc1 := boxAt hbox1
  have q2 := ((k2.keep u1 (fun k => typed_apart (by decide) k)).mono (fun _ _ h => h.1)).typed
  have q1 := (r1.mono (T := S) (fun _ _ h => h.1)).typed
  clear hbox hbox1
  go_wp2_with fail
  refine (markBlkLastS_any _ _ _ _ (k0 + x.ps.length * 4) _ q2 (by omega) (by omega)).mono ?_
  rintro e w2 ⟨rfl, r2, u2⟩
  go_wp2
  go_ret
  refine ⟨rfl, ⟨po, pc, lo, lc, ?_, ?_, ?_⟩, ?_⟩
  · simp only [mkWd, mkP_len, mkL_len]
  · simp only [mkWd, mkP_len]
    exact (q1.keep u2 (fun k => typed_apart (by decide) k)).mono (fun _ _ h => h.1)
  · simp only [mkWd, mkL_len]
    exact r2.mono (fun _ _ h => h.1)
  · exact ((Upd.ofBelow hal).trans (u1.mono fun _ h => h.1)).trans (u2.mono fun _ h => h.1)

set_option maxRecDepth 100000 in
set_option maxHeartbeats 4000000 in
theorem heldWord_ok (v : Value) (x : Wd) (k0 : Nat) (w : World) (h : WdR w v (mkWd x k0)) (h1 : 1 ≤ k0) (h2 : k0 + x.ps.length * 4 + x.ls.length * 2 ≤ 1099511627776) :
    Calls Try.prog 23 #[v, .int .i64 k0] w fun e w' => e = .returned (.int .i64 (k0 + x.ps.length * 4 + x.ls.length * 2 : Nat)) ∧ Below w.heap.size w w' := by
  obtain ⟨po, pc, lo, lc, rfl, a1, a2⟩ := h
  simp only [mkWd, mkP_len, mkL_len] at a1 a2 ⊢
  go_enter Try.func23, Try.ntmps23
  go_wp2_with fail
  generalize hW : World.alloc _ _ = W
  have hal : Below w.heap.size w W := by rw [← hW]; exact bal (Below.refl _ _) _
  have hbox : W.heap[w.heap.size]? = some (.cells (#[.int .i64 x.a0, .int .i64 x.a1, .int .i64 x.a2, .int .i64 x.a3, .int .i64 x.a4, .int .i64 x.a5, .int .i64 x.c0, .int .i64 x.c1, .int .i64 x.c2, .int .i64 x.c3, .int .i64 x.c4, .int .i64 x.c5, .int .i64 x.c6, .int .i64 x.c7, .int .i64 x.c8, .int .i64 x.c9, .int .i64 x.b0, .int .i64 x.b1, .int .i64 x.b2, .int .i64 x.b3, .int .i64 x.b4, .int .i64 x.b5, .int .i64 x.b6, .int .i64 x.b7, .slice po x.ps.length pc, .slice lo x.ls.length lc] : Array Value) 34 (0, 0)) := by rw [← hW]; exact heap_alloc_new w _
  clear hW
  refine (heldBlkPieceS_ok _ _ k0 _ (a1.keep hal) h1 (by omega)).mono ?_
  rintro e w1 ⟨rfl, b1⟩
  have hc1 := boxAt (bKeeps b1 hbox)
  have c1 := bAll hal b1
  obtain ⟨m, hm⟩ : ∃ m, m = k0 + x.ps.length * 4 := ⟨_, rfl⟩
  rw [← hm] at a2 h2 ⊢
  have hm2 : (m : Int) ≤ 1099511627776 := by omega
  have Hm := hide hm
  clear hm hbox
  go_wp2_with fail
  refine (heldBlkLastS_ok _ _ m _ (a2.keep c1) (by have := Hm.out; omega) (by omega)).mono ?_
  rintro e w2 ⟨rfl, b2⟩
  obtain ⟨q, hq⟩ : ∃ q, q = m + x.ls.length * 2 := ⟨_, rfl⟩
  rw [← hq] at h2 ⊢
  have Hq := hide hq
  clear hq
  go_wp2
  go_ret
  exact ⟨by rw [← Hm.out, ← Hq.out]; rfl, bAll c1 b2⟩

end Go.Proofs.Ytdnojnkcmncffaa

/- What the laws of words have in common: contracts; no statement of the seat is proved here. -/
namespace Go.Proofs.Ytdnojnkcmncffaa
open Go.RowKit

theorem WdR.agg {w : World} {v : Value} {x : Wd} (h : WdR w v x) : ∃ cs : Array Value, v = .agg cs ∧ cs.size = 26 ∧ cs.all (·.oneCell') = true := by
  obtain ⟨po, pc, lo, lc, rfl, -, -⟩ := h
  exact ⟨_, rfl, rfl, all_of_list (List.all_eq_true.2 (wd_one x po lo _ pc _ lc))⟩
theorem WdR.lens {w : World} {v : Value} {x : Wd} (h : WdR w v x) : x.ps.length ≤ 9223372036854775807 ∧ x.ls.length ≤ 9223372036854775807 := by
  obtain ⟨po, pc, lo, lc, -, a1, a2⟩ := h
  exact ⟨by obtain ⟨_, _, _, h, _⟩ := a1; exact h, by obtain ⟨_, _, _, h, _⟩ := a2; exact h⟩

theorem szWord_at (v : Value) (x : Wd) (w u : World) (h : WdR u v x) :
    Calls Try.prog 9 #[v, .int .i64 1048576] w fun e w' => ∃ r, e = .returned (.int .i64 r) ∧ (r < 0 ∨ (0 ≤ r ∧ x.ps.length ≤ 1048576 ∧ x.ls.length ≤ 1048576)) ∧ Below w.heap.size w w' := by
  obtain ⟨hp, hl⟩ := h.lens
  obtain ⟨po, pc, lo, lc, rfl, -, -⟩ := h
  exact szWord_any x po lo _ pc _ lc w hp hl

/-- A whole block is loaded, in a region that draws its order. -/
theorem yields_row {P : Program} {ops : Array Oper} {S : World → Prop} {op : Oper} {a : Act} (hw : Region.wanted op (yielded ops a.tmps) = true) (ty : TypeId) (x : Operand) (ho : op.op = .load ty x)
    (g : Nat) (hx : a.eval x = .pointer (some ⟨g, 0, none⟩)) (t : TypeId) (cs : Array Value) (d : TypeDesc) (hS : ∀ w, S w → w.heap[g]? = some (.cells cs t (0, 0)))
    (hu : P.underlying ty = some d) (hd : (match d with | .struct _ | .array _ _ => true | _ => false) = true) (hi : (P.info? ty).map (·.size) = some cs.size) : YieldsIf P ops S op (.agg cs) a :=
  .inl ⟨hw, fun w hw' => by
    unfold execOp
    simp only [ho, hx, Instr.loadAt, Instr.sureAddr, Sem.run_bind, Sem.run_pure, Result.andThen_ok, run_loadVar_row w g t ty cs (0, 0) d (hS w hw') hu hd hi]⟩

theorem infoLw : (Try.prog.info? 27).map (·.size) = some 26 := by kernel_rfl
theorem infoAt {t : TypeId} {n m : Nat} (h : (Try.prog.info? t).map (·.size) = some n) (hm : m = n) : (Try.prog.info? t).map (·.size) = some m := by rw [hm]; exact h
theorem zero26 : (#[Value.int .i64 0, .int .i64 0, .int .i64 0, .int .i64 0, .int .i64 0, .int .i64 0, .int .i64 0, .int .i64 0, .int .i64 0, .int .i64 0, .int .i64 0, .int .i64 0, .int .i64 0, .int .i64 0, .int .i64 0, .int .i64 0, .int .i64 0, .int .i64 0, .int .i64 0, .int .i64 0, .int .i64 0, .int .i64 0, .int .i64 0, .int .i64 0, .slice none 0 0, .slice none 0 0] : Array Value).size = 26 := rfl

end Go.Proofs.Ytdnojnkcmncffaa
