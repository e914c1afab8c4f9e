/- Contracts and plain facts that this claim leans on (texts SK1, VR, SK2, VI); no statement of the seat is proved here. -/
import Derived.Deep.DeepCutAuto
import Derived.Test.YtkinbednlmfnnaaSk2
import Derived.Test.YtkinbednlmfnnaaSk1
import Derived.Laws.ResultCell

/- Seekers: what they read, and what the laws' own helpers do with them: contracts; no statement of the seat is proved here. -/
namespace Go.Proofs.Ytkinbednlmfnnaa
open Go.RowKit

/-- A seeker: slot, ballot, phase, its own command (that of a word), the best paper, who said yes. -/
structure Sk where
  s : Int
  b : Int
  ph : Int
  m : Wd
  p : Pp
  ys : List Int
def skarr (k : Sk) (y : Value) : Array Value := (#[.int .i64 k.s, .int .i64 k.b, .int .i64 k.ph, .int .i64 k.m.c0, .int .i64 k.m.c1, .int .i64 k.m.c2, .int .i64 k.m.c3, .int .i64 k.m.c4, .int .i64 k.m.c5, .int .i64 k.m.c6, .int .i64 k.m.c7, .int .i64 k.m.c8, .int .i64 k.m.c9, .int .i64 k.p.1, .int .i64 k.p.2.1, .int .i64 k.p.2.2.c0, .int .i64 k.p.2.2.c1, .int .i64 k.p.2.2.c2, .int .i64 k.p.2.2.c3, .int .i64 k.p.2.2.c4, .int .i64 k.p.2.2.c5, .int .i64 k.p.2.2.c6, .int .i64 k.p.2.2.c7, .int .i64 k.p.2.2.c8, .int .i64 k.p.2.2.c9, y] : Array Value)
def ints (xs : List Int) : List Value := xs.map (Value.int .i64)
/-- What a seeker reads. -/
def SkR (w : World) (v : Value) (k : Sk) : Prop := ∃ yo yc, v = .agg (skarr k (.slice yo k.ys.length yc)) ∧ RowR w 1 (.slice yo k.ys.length yc) k.ys.length (ints k.ys)
def SkO (w : World) (S : Nat → Prop) (v : Value) (k : Sk) : Prop := ∃ yo yc, v = .agg (skarr k (.slice yo k.ys.length yc)) ∧ Row w 3 1 S (.slice yo k.ys.length yc) k.ys.length (ints k.ys)
theorem SkR.keep {w w' : World} {v : Value} {k : Sk} (h : SkR w v k) (hb : Below w.heap.size w w') : SkR w' v k := by
  obtain ⟨yo, yc, e, h⟩ := h
  exact ⟨yo, yc, e, h.keep hb⟩
theorem SkO.reads {w : World} {S : Nat → Prop} {v : Value} {k : Sk} (h : SkO w S v k) : SkR w v k := by
  obtain ⟨yo, yc, e, h⟩ := h
  exact ⟨yo, yc, e, h.reads⟩
theorem SkO.keep {w w' : World} {S T : Nat → Prop} {v : Value} {k : Sk} (h : SkO w S v k) (u : Upd T w w') (hT : ∀ j, S j → ¬ T j) : SkO w' S v k := by
  obtain ⟨yo, yc, e, h⟩ := h
  exact ⟨yo, yc, e, h.keep u hT⟩
theorem SkO.mono {w : World} {S T : Nat → Prop} {v : Value} {k : Sk} (h : SkO w S v k) (hST : ∀ j, j < w.heap.size → S j → T j) : SkO w T v k := by
  obtain ⟨yo, yc, e, h⟩ := h
  exact ⟨yo, yc, e, h.mono hST⟩
theorem skarr_one (k : Sk) (yo : Option Addr) (n yc : Nat) : (skarr k (.slice yo n yc)).all (·.oneCell') = true := all_of_list rfl
theorem infoSk : (Try.prog.info? 66).map (·.size) = some 26 := by kernel_rfl
theorem infoLk : (Try.prog.info? 62).map (·.size) = some 26 := by kernel_rfl

/-- The cells of a seeker in a block. -/
theorem sk_cells {V : World} {g : Nat} {k : Sk} {y : Value} {t : TypeId} (h : V.heap[g]? = some (.cells (skarr k y) t (0, 0))) :
    V.cell? ⟨g, 0, none⟩ = some (.int .i64 k.s) ∧ V.cell? ⟨g, 1, none⟩ = some (.int .i64 k.b) ∧ V.cell? ⟨g, 2, none⟩ = some (.int .i64 k.ph) ∧ (∀ j z, (#[.int .i64 k.m.c0, .int .i64 k.m.c1, .int .i64 k.m.c2, .int .i64 k.m.c3, .int .i64 k.m.c4, .int .i64 k.m.c5, .int .i64 k.m.c6, .int .i64 k.m.c7, .int .i64 k.m.c8, .int .i64 k.m.c9] : Array Value)[j]? = some z → V.cell? ⟨g, 3 + j, none⟩ = some z) ∧
    (∀ j z, (pparr k.p)[j]? = some z → V.cell? ⟨g, 13 + j, none⟩ = some z) ∧ V.cell? ⟨g, 13, none⟩ = some (.int .i64 k.p.1) ∧ V.cell? ⟨g, 14, none⟩ = some (.int .i64 k.p.2.1) ∧ V.cell? ⟨g, 25, none⟩ = some y := by
  refine ⟨boxAt h 0, boxAt h 1, boxAt h 2, fun j z hj => ?_, fun j z hj => ?_, boxAt h 13, boxAt h 14, boxAt h 25⟩
  · have hj' : j < 10 := (Array.getElem?_eq_some_iff.1 hj).1
    refine (boxAt h (3 + j)).trans ?_
    rcases (by omega : j = 0 ∨ j = 1 ∨ j = 2 ∨ j = 3 ∨ j = 4 ∨ j = 5 ∨ j = 6 ∨ j = 7 ∨ j = 8 ∨ j = 9) with rfl | rfl | rfl | rfl | rfl | rfl | rfl | rfl | rfl | rfl <;> exact hj
  · have hj' : j < 12 := (Array.getElem?_eq_some_iff.1 hj).1
    refine (boxAt h (13 + j)).trans ?_
    rcases (by omega : j = 0 ∨ j = 1 ∨ j = 2 ∨ j = 3 ∨ j = 4 ∨ j = 5 ∨ j = 6 ∨ j = 7 ∨ j = 8 ∨ j = 9 ∨ j = 10 ∨ j = 11) with rfl | rfl | rfl | rfl | rfl | rfl | rfl | rfl | rfl | rfl | rfl | rfl <;> exact hj

set_option maxHeartbeats 400000 in
theorem szIntS_any (so : Option Addr) (n sc : Nat) (left : Int) (w : World) (hn : n ≤ 9223372036854775807) (h1 : 0 ≤ left) (h2 : left ≤ 1048576) :
    Calls Try.prog 81 #[.slice so n sc, .int .i64 left] w fun e w' => ∃ r, e = .returned (.int .i64 r) ∧ Sized left r n ∧ Below w.heap.size w w' := by
  by_cases hneg : left - n < 0
  · go_enter Try.func81, Try.ntmps81
    go_wp2
    go_ret
    exact ⟨_, rfl, .inl (by omega), Below.refl _ _⟩
  · have hge : 0 ≤ left - n := by omega
    clear hneg
    go_enter Try.func81, Try.ntmps81
    go_wp2
    go_ret
    exact ⟨_, rfl, .inr ⟨rfl, hge⟩, Below.refl _ _⟩

set_option maxRecDepth 100000 in
theorem szSynSeeker_any (v : Value) (k : Sk) (left : Int) (w : World) (h : SkR w v k) (h1 : 0 ≤ left) (h2 : left ≤ 1048576) :
    Calls Try.prog 26 #[v, .int .i64 left] w fun e w' => ∃ r, e = .returned (.int .i64 r) ∧ Sized left r k.ys.length ∧ Below w.heap.size w w' := by
  obtain ⟨yo, yc, rfl, hr⟩ := h
  have hn : k.ys.length ≤ 9223372036854775807 := by obtain ⟨_, _, _, h, _⟩ := hr; exact h
  have al := bal (Below.refl w.heap.size w) (.cells (skarr k (.slice yo k.ys.length yc)) 62)
  have B0 := hide (heap_alloc_new w (.cells (skarr k (.slice yo k.ys.length yc)) 62))
  go_enter Try.func26, Try.ntmps26
  go_upto_region 1 with fail
  generalize World.alloc _ _ = W at al B0 ⊢
  have g := (sk_cells B0.out).2.2.2.2.2.2.2
  go_wp2_with fail
  refine (szIntS_any _ _ _ left _ hn h1 h2).mono ?_
  rintro e w1 ⟨r, rfl, hs, b1⟩
  rcases hs with hneg | ⟨hr2, hp⟩
  · go_wp2
    go_ret
    exact ⟨_, rfl, .inl (by omega), bAll al b1⟩
  · have hge : ¬ r < 0 := by omega
    have HR2 := hide hr2
    clear hr2
    go_wp2
    go_ret
    exact ⟨_, rfl, .inr ⟨by have := HR2.out; omega, by omega⟩, bAll al b1⟩

set_option maxRecDepth 100000 in
set_option maxHeartbeats 4000000 in
theorem eqSynSeeker_true (va vb : Value) (k : Sk) (w : World) (ha : SkR w va k) (hb : SkR w vb k) :
    Calls Try.prog 30 #[va, vb] w fun e w' => e = .returned (.bool true) ∧ Below w.heap.size w w' := by
  obtain ⟨ao, ca, rfl, ha⟩ := ha
  obtain ⟨bo, cb, rfl, hb⟩ := hb
  have al := bal (bal (Below.refl w.heap.size w) (.cells (skarr k (.slice ao k.ys.length ca)) 66)) (.cells (skarr k (.slice bo k.ys.length cb)) 66)
  have A0 := hide (al2_0 w (.cells (skarr k (.slice ao k.ys.length ca)) 66) (.cells (skarr k (.slice bo k.ys.length cb)) 66))
  have B0 := hide (al2_1 w (.cells (skarr k (.slice ao k.ys.length ca)) 66) (.cells (skarr k (.slice bo k.ys.length cb)) 66))
  have HA := hide (ha.keep al)
  have HB := hide (hb.keep al)
  clear ha hb
  go_enter Try.func30, Try.ntmps30
  go_upto_region 1 with fail
  generalize World.alloc _ _ = W at al A0 B0 HA HB ⊢
  have r0 := Below.refl W.heap.size W
  obtain ⟨x0, x1, x2, xm, -, -, -, -⟩ := sk_cells A0.out
  obtain ⟨y0, y1, y2, ym, -, -, -, -⟩ := sk_cells B0.out
  go_wp2_with (first
    | (refine wpList_load_at rfl 36 (.tmp 20) rfl w.heap.size 3 rfl #[.int .i64 k.m.c0, .int .i64 k.m.c1, .int .i64 k.m.c2, .int .i64 k.m.c3, .int .i64 k.m.c4, .int .i64 k.m.c5, .int .i64 k.m.c6, .int .i64 k.m.c7, .int .i64 k.m.c8, .int .i64 k.m.c9] _ xm Try.underlying36 rfl infoCm10 ?_)
    | (refine wpList_load_at rfl 36 (.tmp 22) rfl (w.heap.size + 1) 3 rfl #[.int .i64 k.m.c0, .int .i64 k.m.c1, .int .i64 k.m.c2, .int .i64 k.m.c3, .int .i64 k.m.c4, .int .i64 k.m.c5, .int .i64 k.m.c6, .int .i64 k.m.c7, .int .i64 k.m.c8, .int .i64 k.m.c9] _ ym Try.underlying36 rfl infoCm10 ?_))
  refine (eqCmd_true k.m _).mono ?_
  rintro e w1 ⟨rfl, b1⟩
  have xp := (sk_cells (bKeeps b1 A0.out)).2.2.2.2.1
  have yp := (sk_cells (bKeeps b1 B0.out)).2.2.2.2.1
  clear x0 x1 x2 y0 y1 y2 xm ym
  go_wp2_with (first
    | (refine wpList_load_at rfl 56 (.tmp 26) rfl w.heap.size 13 rfl (pparr k.p) _ xp Try.underlying56 rfl infoPpS ?_)
    | (refine wpList_load_at rfl 56 (.tmp 28) rfl (w.heap.size + 1) 13 rfl (pparr k.p) _ yp Try.underlying56 rfl infoPpS ?_))
  refine (eqSynPaper_true k.p.1 k.p.2.1 k.p.2.2 _).mono ?_
  rintro e w2 ⟨rfl, b2⟩
  have c2 := bAll b1 b2
  have x3 := (sk_cells (bKeeps c2 A0.out)).2.2.2.2.2.2.2
  have y3 := (sk_cells (bKeeps c2 B0.out)).2.2.2.2.2.2.2
  clear xp yp
  go_wp2_with fail
  refine (eqIntS_true _ _ _ k.ys _ (HA.out.keep c2) (HB.out.keep c2)).mono ?_
  rintro e w3 ⟨rfl, b3⟩
  go_wp2
  go_ret
  exact ⟨rfl, bAll al (bAll c2 b3)⟩

end Go.Proofs.Ytkinbednlmfnnaa

/- Laws for functions that give two structs and a truth; what a voter's answer is; no statement of the seat is proved here. -/
namespace Go.Proofs.Ytkinbednlmfnnaa
open Go.RowKit

theorem yields_build {P : Program} {ops : Array Oper} {S : World → Prop} {op : Oper} {a : Act} (hw : Region.wanted op (yielded ops a.tmps) = true) (ty : TypeId) (parts : Array (Nat × Operand)) (ho : op.op = .build ty parts)
    (ps : List (Nat × Value)) (cells : Array Value) (hp : (parts.map fun (i, x) => (i, a.eval x)).toList = ps) (hb : P.built ty ps = some cells) : YieldsIf P ops S op (.agg cells) a :=
  .inl ⟨hw, fun w _ => by
    unfold execOp
    simp only [ho, Sem.run_bind, run_build w ty _ cells (by rw [hp]; exact hb), Result.andThen_ok]
    rfl⟩

theorem updRow (w : World) (g : Nat) (cs : Array Value) : Upd (fun j => j = g) w (w.setRow g cs) := ⟨rfl, rfl, rfl, by simp, fun _ _ h => setRow_other _ _ _ _ h⟩

/-- What is read of a word, of its numbers and its command. -/
theorem WdR.cells {w : World} {cs : Array Value} {x : Wd} (h : WdR w (.agg cs) x) : cs[0]? = some (.int .i64 x.a0) ∧ cs[1]? = some (.int .i64 x.a1) ∧ cs[3]? = some (.int .i64 x.a3) ∧ cs[4]? = some (.int .i64 x.a4) ∧ cs[5]? = some (.int .i64 x.a5) ∧ ∀ j z, (#[.int .i64 x.c0, .int .i64 x.c1, .int .i64 x.c2, .int .i64 x.c3, .int .i64 x.c4, .int .i64 x.c5, .int .i64 x.c6, .int .i64 x.c7, .int .i64 x.c8, .int .i64 x.c9] : Array Value)[j]? = some z → cs[6 + j]? = some z := by
  obtain ⟨po, pc, lo, lc, e, -, -⟩ := h
  injection e with e
  subst e
  refine ⟨rfl, rfl, rfl, rfl, rfl, fun j z hj => ?_⟩
  have hj' : j < 10 := (Array.getElem?_eq_some_iff.1 hj).1
  rcases (by omega : j = 0 ∨ j = 1 ∨ j = 2 ∨ j = 3 ∨ j = 4 ∨ j = 5 ∨ j = 6 ∨ j = 7 ∨ j = 8 ∨ j = 9) with rfl | rfl | rfl | rfl | rfl | rfl | rfl | rfl | rfl | rfl <;> exact hj

theorem builtPaper (s b : Int) (x : Wd) : Try.prog.built 56 [(0, .int .i64 s), (1, .int .i64 b), (2, .agg #[.int .i64 x.c0, .int .i64 x.c1, .int .i64 x.c2, .int .i64 x.c3, .int .i64 x.c4, .int .i64 x.c5, .int .i64 x.c6, .int .i64 x.c7, .int .i64 x.c8, .int .i64 x.c9])] = some (#[.int .i64 s, .int .i64 b, .int .i64 x.c0, .int .i64 x.c1, .int .i64 x.c2, .int .i64 x.c3, .int .i64 x.c4, .int .i64 x.c5, .int .i64 x.c6, .int .i64 x.c7, .int .i64 x.c8, .int .i64 x.c9] : Array Value) := by kernel_rfl
end Go.Proofs.Ytkinbednlmfnnaa

/- A law's seeker becomes a program's: a contract; no statement of the seat is proved here. -/
namespace Go.Proofs.Ytkinbednlmfnnaa
open Go.RowKit

theorem infoLc10 : (Try.prog.info? 26).map (·.size) = some 10 := by kernel_rfl
def zeroK : Sk := ⟨0, 0, 0, zeroW, (0, 0, zeroW), []⟩

set_option maxRecDepth 100000 in
set_option maxHeartbeats 8000000 in
theorem toSynSeeker_any (v : Value) (k : Sk) (w : World) (h : SkR w v k) (hn : k.ys.length ≤ 1048576) :
    Calls Try.prog 28 #[v] w fun e w' => ∃ v', e = .returned v' ∧ SkO w' (fun j => w.heap.size ≤ j) v' k ∧ Below w.heap.size w w' := by
  obtain ⟨yo, yc, rfl, hr⟩ := h
  have HR0 := hide hr
  clear hr
  go_enter Try.func28, Try.ntmps28
  go_upto_region 2 with fail
  generalize hW : World.alloc _ _ = W
  have al : Below w.heap.size w W := by rw [← hW]; exact bal (bal (bal (Below.refl _ _) _) _) _
  have A0 : Hid (W.heap[w.heap.size]? = some (.cells (skarr k (.slice yo k.ys.length yc)) 62 (0, 0))) := by show _ = _; rw [← hW]; exact al3_0 w _ _ _
  have A1 : Hid (W.heap[w.heap.size + 1]? = some (.cells (skarr zeroK (.slice none 0 0)) 66 (0, 0))) := by show _ = _; rw [← hW]; exact al3_1 w _ _ _
  have A2 : Hid (W.heap[w.heap.size + 1 + 1]? = some (.cells (skarr zeroK (.slice none 0 0)) 66 (0, 0))) := by show _ = _; rw [← hW]; exact al3_2 w _ _ _
  have ZW : Hid (W.heap.size = w.heap.size + 1 + 1 + 1) := by show _ = _; rw [← hW]; simp
  clear hW
  obtain ⟨x0, x1, x2, xm, xp, -, -, xy⟩ := sk_cells A0.out
  have o0 : W.cell? ⟨w.heap.size + 1 + 1, 0, none⟩ = some (.int .i64 0) := boxAt A2.out 0
  have o1 : W.cell? ⟨w.heap.size + 1 + 1, 1, none⟩ = some (.int .i64 0) := boxAt A2.out 1
  have o2 : W.cell? ⟨w.heap.size + 1 + 1, 2, none⟩ = some (.int .i64 0) := boxAt A2.out 2
  have f0 := boxFz A2.out 0
  have f1 := boxFz A2.out 1
  have f2 := boxFz A2.out 2
  go_upto_region 5 with fail
  have u3 : Upd (fun j => j = w.heap.size + 1 + 1) W (((W.setCell ⟨w.heap.size + 1 + 1, 0, none⟩ (.int .i64 k.s)).setCell ⟨w.heap.size + 1 + 1, 1, none⟩ (.int .i64 k.b)).setCell ⟨w.heap.size + 1 + 1, 2, none⟩ (.int .i64 k.ph)) := ((Upd.setCell (S := fun j => j = w.heap.size + 1 + 1) _ _ _ _ rfl).trans (Upd.setCell _ _ _ _ rfl)).trans (Upd.setCell _ _ _ _ rfl)
  have C2 : Hid ((((W.setCell ⟨w.heap.size + 1 + 1, 0, none⟩ (.int .i64 k.s)).setCell ⟨w.heap.size + 1 + 1, 1, none⟩ (.int .i64 k.b)).setCell ⟨w.heap.size + 1 + 1, 2, none⟩ (.int .i64 k.ph)).heap[w.heap.size + 1 + 1]? = some (.cells (skarr { zeroK with s := k.s, b := k.b, ph := k.ph } (.slice none 0 0)) 66 (0, 0))) := row_set _ (row_set _ (row_set _ A2.out))
  have C0 := hide (u3.keeps A0.out (by omega))
  have C1 := hide (u3.keeps A1.out (by omega))
  generalize (((W.setCell ⟨w.heap.size + 1 + 1, 0, none⟩ (.int .i64 k.s)).setCell ⟨w.heap.size + 1 + 1, 1, none⟩ (.int .i64 k.b)).setCell ⟨w.heap.size + 1 + 1, 2, none⟩ (.int .i64 k.ph)) = V at u3 C2 C0 C1 ⊢
  have zV := u3.size
  have zW := ZW.out
  clear x0 x1 x2 xm xp xy o0 o1 o2 f0 f1 f2
  obtain ⟨-, -, -, xm, -, -, -, -⟩ := sk_cells C0.out
  go_wp2_with (refine wpList_load_at rfl 26 (.tmp 13) rfl w.heap.size 3 rfl #[.int .i64 k.m.c0, .int .i64 k.m.c1, .int .i64 k.m.c2, .int .i64 k.m.c3, .int .i64 k.m.c4, .int .i64 k.m.c5, .int .i64 k.m.c6, .int .i64 k.m.c7, .int .i64 k.m.c8, .int .i64 k.m.c9] _ xm Try.underlying26 rfl infoLc10 ?_)
  refine (toCmd_any k.m V).mono ?_
  rintro e w1 ⟨rfl, hw1⟩
  have b1 : Below V.heap.size V w1 := by rw [hw1]; exact bal (bal (bal (Below.refl _ _) _) _) _
  clear hw1 xm
  have z1 := b1.size
  have D0 := hide (bKeeps b1 C0.out)
  have D1 := hide (bKeeps b1 C1.out)
  have D2 := hide (bKeeps b1 C2.out)
  have hput : putAt (skarr { zeroK with s := k.s, b := k.b, ph := k.ph } (.slice none 0 0)) 3 #[.int .i64 k.m.c0, .int .i64 k.m.c1, .int .i64 k.m.c2, .int .i64 k.m.c3, .int .i64 k.m.c4, .int .i64 k.m.c5, .int .i64 k.m.c6, .int .i64 k.m.c7, .int .i64 k.m.c8, .int .i64 k.m.c9] = skarr { zeroK with s := k.s, b := k.b, ph := k.ph, m := k.m } (.slice none 0 0) := rfl
  have E2 := hide (setRow_heap w1 (w.heap.size + 1 + 1) _ (skarr { zeroK with s := k.s, b := k.b, ph := k.ph, m := k.m } (.slice none 0 0)) _ _ D2.out)
  have u4 := updRow w1 (w.heap.size + 1 + 1) (skarr { zeroK with s := k.s, b := k.b, ph := k.ph, m := k.m } (.slice none 0 0))
  have E0 := hide (u4.keeps D0.out (by omega))
  have E1 := hide (u4.keeps D1.out (by omega))
  have w4 := (u3.trans (Upd.ofBelow b1)).trans u4
  obtain ⟨-, -, -, -, xp, -, -, -⟩ := sk_cells E0.out
  go_wp2_with (first
    | (refine wpList_store_at rfl 36 (.tmp 16) (.tmp 15) rfl (w.heap.size + 1 + 1) 3 #[.int .i64 k.m.c0, .int .i64 k.m.c1, .int .i64 k.m.c2, .int .i64 k.m.c3, .int .i64 k.m.c4, .int .i64 k.m.c5, .int .i64 k.m.c6, .int .i64 k.m.c7, .int .i64 k.m.c8, .int .i64 k.m.c9] rfl rfl _ _ D2.out infoCm10 (show (3 + 10 : Nat) ≤ 26 by omega) (all_of_list rfl) ?_; rw [hput])
    | (refine wpList_load_at rfl 59 (.tmp 17) rfl w.heap.size 13 rfl (pparr k.p) _ xp Try.underlying59 rfl infoLpS ?_))
  refine (toSynPaper_any k.p.1 k.p.2.1 k.p.2.2 _).mono ?_
  rintro e w2 ⟨rfl, b2⟩
  clear xp hput D0 D1 D2 u4 C0 C1 C2
  generalize World.setRow _ _ _ = X at b2 E0 E1 E2 w4
  have z2 := b2.size
  have zX := w4.size
  have F0 := hide (bKeeps b2 E0.out)
  have F1 := hide (bKeeps b2 E1.out)
  have F2 := hide (bKeeps b2 E2.out)
  have hput : putAt (skarr { zeroK with s := k.s, b := k.b, ph := k.ph, m := k.m } (.slice none 0 0)) 13 (pparr k.p) = skarr { zeroK with s := k.s, b := k.b, ph := k.ph, m := k.m, p := k.p } (.slice none 0 0) := rfl
  have G2 := hide (setRow_heap w2 (w.heap.size + 1 + 1) _ (skarr { zeroK with s := k.s, b := k.b, ph := k.ph, m := k.m, p := k.p } (.slice none 0 0)) _ _ F2.out)
  have u5 := updRow w2 (w.heap.size + 1 + 1) (skarr { zeroK with s := k.s, b := k.b, ph := k.ph, m := k.m, p := k.p } (.slice none 0 0))
  have G0 := hide (u5.keeps F0.out (by omega))
  have G1 := hide (u5.keeps F1.out (by omega))
  have w5 := (w4.trans (Upd.ofBelow b2)).trans u5
  have cw5 := al.trans (w5.below al.size (fun j h => by omega))
  have HRV := HR0.out.keep cw5
  obtain ⟨-, -, -, -, -, -, -, xy⟩ := sk_cells G0.out
  have hPA : (pparr k.p).all (·.oneCell') = true := pparr_one k.p
  go_wp2_with (first
    | (refine wpList_store_at rfl 56 (.tmp 20) (.tmp 19) rfl (w.heap.size + 1 + 1) 13 (pparr k.p) rfl rfl _ _ F2.out infoPpS (show (13 + 12 : Nat) ≤ 26 by omega) hPA ?_; rw [hput]))
  refine (toIntS_any _ _ k.ys _ HRV hn).mono ?_
  rintro e w3 ⟨v3, rfl, r3, b3⟩
  clear xy hput F0 F1 F2 u5 E0 E1 E2 w4 HRV
  obtain ⟨so3, sc3, rfl, hn3, hl3, hb3⟩ := r3
  have r3 : Row w3 3 1 _ (.slice so3 k.ys.length sc3) k.ys.length (k.ys.map (Value.int .i64)) := ⟨so3, sc3, rfl, hn3, hl3, hb3⟩
  have R3 := hide r3
  clear r3 hb3 hl3
  generalize World.setRow _ _ _ = Y at b3 G0 G1 G2 w5 cw5 R3
  have z3 := b3.size
  have zY := w5.size
  have J1 := hide (bKeeps b3 G1.out)
  have J2 := hide (bKeeps b3 G2.out)
  have q1 : w3.cell? ⟨w.heap.size + 1 + 1, 25, none⟩ = some (.slice none 0 0) := boxAt J2.out 25
  have q2 := boxFz J2.out 25
  have u6 := Upd.setCell (S := fun j => j = w.heap.size + 1 + 1) w3 (w.heap.size + 1 + 1) 25 (.slice so3 k.ys.length sc3) rfl
  have K2 : Hid ((w3.setCell ⟨w.heap.size + 1 + 1, 25, none⟩ (.slice so3 k.ys.length sc3)).heap[w.heap.size + 1 + 1]? = some (.cells (skarr k (.slice so3 k.ys.length sc3)) 66 (0, 0))) := row_set _ J2.out
  have K1 := hide (u6.keeps J1.out (by omega))
  have K3 := hide (R3.out.keep u6 (fun j h1 h2 => by omega))
  have u7 := updRow (w3.setCell ⟨w.heap.size + 1 + 1, 25, none⟩ (.slice so3 k.ys.length sc3)) (w.heap.size + 1) (skarr k (.slice so3 k.ys.length sc3))
  have z6 := u6.size
  have cw6 := (cw5.trans (b3.mono (by have := cw5.size; omega))).trans (u6.below (by have := cw5.size; omega) (fun j h => by omega))
  clear G0 G1 G2 w5 b3
  go_wp2_with (first
    | (refine wpList_load_row rfl 66 (.tmp 3) rfl (w.heap.size + 1 + 1) rfl _ _ (0, 0) _ K2.out Try.underlying66 rfl infoSk ?_)
    | (refine wpList_store_row rfl 66 (.tmp 2) (.tmp 25) rfl (w.heap.size + 1) (skarr k (.slice so3 k.ys.length sc3)) rfl rfl _ _ K1.out infoSk (show (26 : Nat) = 26 from rfl) (skarr_one k so3 _ sc3) ?_))
  refine bodyPost_ret (v := .agg (skarr k (.slice so3 k.ys.length sc3))) (results_cell_row Try.results28 _ _ (w.heap.size + 1) _ _ (0, 0) _ rfl (setRow_heap _ _ _ _ _ _ K1.out) Try.underlying66 rfl infoSk) rfl ?_
  exact ⟨_, rfl, ⟨so3, sc3, rfl, (K3.out.keep u7 (fun j h1 h2 => by omega)).mono (fun j _ h => by omega)⟩, cw6.trans (u7.below (by have := cw6.size; omega) (fun j h => by omega))⟩

end Go.Proofs.Ytkinbednlmfnnaa

/- What a voter does with a word, by the program: contracts; no statement of the seat is proved here. -/
namespace Go.Proofs.Ytkinbednlmfnnaa
open Go.RowKit

set_option maxHeartbeats 400000 in
theorem synIsVoter_any (n : Int) (w : World) :
    Calls Try.prog 55 #[.int .i64 n] w fun e w' => e = .returned (.bool (inI n 0 2)) ∧ w' = w := by
  go_enter Try.func55, Try.ntmps55
  go_wp2_with fail
  refine (blkWithin_any n 0 2 _).mono ?_
  rintro e w1 ⟨rfl, rfl⟩
  go_wp2
  go_ret
  exact ⟨rfl, rfl⟩

end Go.Proofs.Ytkinbednlmfnnaa
