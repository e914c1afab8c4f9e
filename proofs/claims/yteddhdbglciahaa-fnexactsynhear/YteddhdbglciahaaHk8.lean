/- Contracts and plain facts that this claim leans on (texts XH2, XH3, XL, RA, VP, VP2); no statement of the seat is proved here. -/
import Derived.Test.YteddhdbglciahaaHk1
import Derived.Test.YteddhdbglciahaaHk6
import Derived.Test.YteddhdbglciahaaHk7
import Derived.Laws.CopyRow

/- A word of the laws as one of the program: a contract; no statement of the seat is proved here. -/
namespace Go.Proofs.Yteddhdbglciahaa
open Go.RowKit

set_option maxRecDepth 100000 in
set_option maxHeartbeats 8000000 in
theorem toWord_any (v : Value) (x : Wd) (w : World) (hr : WdR w v x) (hp : x.ps.length ≤ 1048576) (hl : x.ls.length ≤ 1048576) :
    Calls Try.prog 11 #[v] w fun e w' => ∃ v', e = .returned v' ∧ WdO w' (fun k => w.heap.size ≤ k) v' x ∧ Below w.heap.size w w' := by
  obtain ⟨po, pc, lo, lc, rfl, a1, a2⟩ := hr
  go_enter Try.func11, Try.ntmps11
  go_wp2_with fail
  refine (toCmd_any x _).mono ?_
  rintro e w1 ⟨rfl, rfl⟩
  go_wp2_with fail
  generalize hW : World.alloc _ _ = W
  have hal : Below w.heap.size w W := by rw [← hW]; exact bal (bal (bal (bal (bal (bal (Below.refl _ _) _) _) _) _) _) _
  have B0 : W.heap[w.heap.size]? = some (.cells (#[.int .i64 x.a0, .int .i64 x.a1, .int .i64 x.a2, .int .i64 x.a3, .int .i64 x.a4, .int .i64 x.a5, .int .i64 x.c0, .int .i64 x.c1, .int .i64 x.c2, .int .i64 x.c3, .int .i64 x.c4, .int .i64 x.c5, .int .i64 x.c6, .int .i64 x.c7, .int .i64 x.c8, .int .i64 x.c9, .int .i64 x.b0, .int .i64 x.b1, .int .i64 x.b2, .int .i64 x.b3, .int .i64 x.b4, .int .i64 x.b5, .int .i64 x.b6, .int .i64 x.b7, .slice po x.ps.length pc, .slice lo x.ls.length lc] : Array Value) 32 (0, 0)) := by rw [← hW]; exact heap_up _ (heap_up _ (heap_up _ (al3_0 w _ _ _)))
  have B1 : W.heap[w.heap.size + 1]? = some (.cells (#[.int .i64 zeroW.a0, .int .i64 zeroW.a1, .int .i64 zeroW.a2, .int .i64 zeroW.a3, .int .i64 zeroW.a4, .int .i64 zeroW.a5, .int .i64 zeroW.c0, .int .i64 zeroW.c1, .int .i64 zeroW.c2, .int .i64 zeroW.c3, .int .i64 zeroW.c4, .int .i64 zeroW.c5, .int .i64 zeroW.c6, .int .i64 zeroW.c7, .int .i64 zeroW.c8, .int .i64 zeroW.c9, .int .i64 zeroW.b0, .int .i64 zeroW.b1, .int .i64 zeroW.b2, .int .i64 zeroW.b3, .int .i64 zeroW.b4, .int .i64 zeroW.b5, .int .i64 zeroW.b6, .int .i64 zeroW.b7, .slice none 0 0, .slice none 0 0] : Array Value) 47 (0, 0)) := by rw [← hW]; exact heap_up _ (heap_up _ (heap_up _ (al3_1 w _ _ _)))
  have B2 : W.heap[w.heap.size + 1 + 1]? = some (.cells (#[.int .i64 x.a0, .int .i64 x.a1, .int .i64 x.a2, .int .i64 x.a3, .int .i64 x.a4, .int .i64 x.a5, .int .i64 x.c0, .int .i64 x.c1, .int .i64 x.c2, .int .i64 x.c3, .int .i64 x.c4, .int .i64 x.c5, .int .i64 x.c6, .int .i64 x.c7, .int .i64 x.c8, .int .i64 x.c9, .int .i64 x.b0, .int .i64 x.b1, .int .i64 x.b2, .int .i64 x.b3, .int .i64 x.b4, .int .i64 x.b5, .int .i64 x.b6, .int .i64 x.b7, .slice none 0 0, .slice none 0 0] : Array Value) 47 (0, 0)) := by rw [← hW]; exact heap_up _ (heap_up _ (heap_up _ (al3_2 w _ _ _)))
  have hsz : w.heap.size + 1 + 1 < W.heap.size := heap_lt B2
  have k1 := a1.keep hal
  clear hW
  refine (toBlkPieceS_any _ _ x.ps _ k1 hp).mono ?_
  rintro e w2 ⟨so2, rfl, r2, b2⟩
  have C0 := bKeeps b2 B0
  have C1 := bKeeps b2 B1
  have C2 := bKeeps b2 B2
  have hc0 := boxAt C0
  have hc2 := boxAt C2
  have hf2 := boxFz C2
  have H1 := hide C1
  have H2 := hide C2
  have hb2 := b2.size
  clear B0 B1 B2 C0 C1 C2 a1 k1
  go_wp2_with fail
  clear hc0 hc2 hf2
  have u2 := Upd.setCell (S := fun j => j = w.heap.size + 1 + 1) w2 (w.heap.size + 1 + 1) 24 (.slice so2 x.ps.length x.ps.length) rfl
  have c2 : Below w.heap.size w (w2.setCell ⟨w.heap.size + 1 + 1, 24, none⟩ (.slice so2 x.ps.length x.ps.length)) := (bAll hal b2).setCell (p := ⟨w.heap.size + 1 + 1, 24, none⟩) (by show _ ≤ w.heap.size + 1 + 1; omega) _
  have q2 := (r2.mono (T := fun k => W.heap.size ≤ k) (fun _ _ h => h)).keep u2 (fun k h => by omega)
  have D1 := u2.keeps H1.out (by omega)
  have D2 := row_set (.slice so2 x.ps.length x.ps.length) (j := 24) H2.out
  generalize w2.setCell ⟨w.heap.size + 1 + 1, 24, none⟩ (.slice so2 x.ps.length x.ps.length) = V at c2 q2 D1 D2 ⊢
  clear u2 H1 H2 r2 b2
  refine (toBlkLastS_any _ _ x.ls _ (a2.keep c2) hl).mono ?_
  rintro e w3 ⟨so3, rfl, r3, b3⟩
  have E1 : w3.heap[w.heap.size + 1]? = some (.cells (#[.int .i64 zeroW.a0, .int .i64 zeroW.a1, .int .i64 zeroW.a2, .int .i64 zeroW.a3, .int .i64 zeroW.a4, .int .i64 zeroW.a5, .int .i64 zeroW.c0, .int .i64 zeroW.c1, .int .i64 zeroW.c2, .int .i64 zeroW.c3, .int .i64 zeroW.c4, .int .i64 zeroW.c5, .int .i64 zeroW.c6, .int .i64 zeroW.c7, .int .i64 zeroW.c8, .int .i64 zeroW.c9, .int .i64 zeroW.b0, .int .i64 zeroW.b1, .int .i64 zeroW.b2, .int .i64 zeroW.b3, .int .i64 zeroW.b4, .int .i64 zeroW.b5, .int .i64 zeroW.b6, .int .i64 zeroW.b7, .slice none 0 0, .slice none 0 0] : Array Value) 47 (0, 0)) := bKeeps b3 D1
  have E2 : w3.heap[w.heap.size + 1 + 1]? = some (.cells (#[.int .i64 x.a0, .int .i64 x.a1, .int .i64 x.a2, .int .i64 x.a3, .int .i64 x.a4, .int .i64 x.a5, .int .i64 x.c0, .int .i64 x.c1, .int .i64 x.c2, .int .i64 x.c3, .int .i64 x.c4, .int .i64 x.c5, .int .i64 x.c6, .int .i64 x.c7, .int .i64 x.c8, .int .i64 x.c9, .int .i64 x.b0, .int .i64 x.b1, .int .i64 x.b2, .int .i64 x.b3, .int .i64 x.b4, .int .i64 x.b5, .int .i64 x.b6, .int .i64 x.b7, .slice so2 x.ps.length x.ps.length, .slice none 0 0] : Array Value) 47 (0, 0)) := bKeeps b3 D2
  have hc2 := boxAt E2
  have hf2 := boxFz E2
  have c3 := bAll c2 b3
  have q3 := q2.keepB b3
  have hvs := b3.size
  have hvw := heap_lt D2
  clear D1 D2 q2 a2
  have u3 := Upd.setCell (S := fun j => j = w.heap.size + 1 + 1) w3 (w.heap.size + 1 + 1) 25 (.slice so3 x.ls.length x.ls.length) rfl
  have F1 := u3.keeps E1 (by omega)
  have F2 : (w3.setCell ⟨w.heap.size + 1 + 1, 25, none⟩ (.slice so3 x.ls.length x.ls.length)).heap[w.heap.size + 1 + 1]? = some (.cells (#[.int .i64 x.a0, .int .i64 x.a1, .int .i64 x.a2, .int .i64 x.a3, .int .i64 x.a4, .int .i64 x.a5, .int .i64 x.c0, .int .i64 x.c1, .int .i64 x.c2, .int .i64 x.c3, .int .i64 x.c4, .int .i64 x.c5, .int .i64 x.c6, .int .i64 x.c7, .int .i64 x.c8, .int .i64 x.c9, .int .i64 x.b0, .int .i64 x.b1, .int .i64 x.b2, .int .i64 x.b3, .int .i64 x.b4, .int .i64 x.b5, .int .i64 x.b6, .int .i64 x.b7, .slice so2 x.ps.length x.ps.length, .slice so3 x.ls.length x.ls.length] : Array Value) 47 (0, 0)) := row_set _ E2
  have h1s := wd_one x so2 so3 x.ps.length x.ps.length x.ls.length x.ls.length
  have HF1 := hide F1
  have HF2 := hide F2
  have H1s := hide (Array.all_eq_true_iff_forall_mem.2 (fun v hv => h1s v (by simpa using hv)) : (#[.int .i64 x.a0, .int .i64 x.a1, .int .i64 x.a2, .int .i64 x.a3, .int .i64 x.a4, .int .i64 x.a5, .int .i64 x.c0, .int .i64 x.c1, .int .i64 x.c2, .int .i64 x.c3, .int .i64 x.c4, .int .i64 x.c5, .int .i64 x.c6, .int .i64 x.c7, .int .i64 x.c8, .int .i64 x.c9, .int .i64 x.b0, .int .i64 x.b1, .int .i64 x.b2, .int .i64 x.b3, .int .i64 x.b4, .int .i64 x.b5, .int .i64 x.b6, .int .i64 x.b7, .slice so2 x.ps.length x.ps.length, .slice so3 x.ls.length x.ls.length] : Array Value).all (·.oneCell') = true)
  clear E1 E2 F1 F2 h1s
  go_wp2_with (first
    | (refine wpList_load_row rfl 47 (.tmp 3) rfl (w.heap.size + 1 + 1) rfl _ _ (0, 0) _ HF2.out Try.underlying47 rfl infoWd ?_)
    | (refine wpList_store_row rfl 47 (.tmp 2) (.tmp 58) rfl (w.heap.size + 1) _ rfl rfl _ _ HF1.out infoWd rfl H1s.out ?_))
  refine bodyPost_ret (v := .agg #[.int .i64 x.a0, .int .i64 x.a1, .int .i64 x.a2, .int .i64 x.a3, .int .i64 x.a4, .int .i64 x.a5, .int .i64 x.c0, .int .i64 x.c1, .int .i64 x.c2, .int .i64 x.c3, .int .i64 x.c4, .int .i64 x.c5, .int .i64 x.c6, .int .i64 x.c7, .int .i64 x.c8, .int .i64 x.c9, .int .i64 x.b0, .int .i64 x.b1, .int .i64 x.b2, .int .i64 x.b3, .int .i64 x.b4, .int .i64 x.b5, .int .i64 x.b6, .int .i64 x.b7, .slice so2 x.ps.length x.ps.length, .slice so3 x.ls.length x.ls.length]) (results_cell_row Try.results11 _ _ (w.heap.size + 1) _ _ (0, 0) _ rfl (setRow_heap _ _ _ _ _ _ HF1.out) Try.underlying47 rfl infoWd) rfl ?_
  have u4 : Upd (fun j => j = w.heap.size + 1) (w3.setCell ⟨w.heap.size + 1 + 1, 25, none⟩ (.slice so3 x.ls.length x.ls.length)) ((w3.setCell ⟨w.heap.size + 1 + 1, 25, none⟩ (.slice so3 x.ls.length x.ls.length)).setRow (w.heap.size + 1) (#[.int .i64 x.a0, .int .i64 x.a1, .int .i64 x.a2, .int .i64 x.a3, .int .i64 x.a4, .int .i64 x.a5, .int .i64 x.c0, .int .i64 x.c1, .int .i64 x.c2, .int .i64 x.c3, .int .i64 x.c4, .int .i64 x.c5, .int .i64 x.c6, .int .i64 x.c7, .int .i64 x.c8, .int .i64 x.c9, .int .i64 x.b0, .int .i64 x.b1, .int .i64 x.b2, .int .i64 x.b3, .int .i64 x.b4, .int .i64 x.b5, .int .i64 x.b6, .int .i64 x.b7, .slice so2 x.ps.length x.ps.length, .slice so3 x.ls.length x.ls.length] : Array Value)) :=
    ⟨rfl, rfl, rfl, by simp, fun k _ h => setRow_other _ _ _ _ h⟩
  refine ⟨_, rfl, ⟨_, _, _, _, rfl, ?_, ?_⟩, ?_⟩
  · exact ((q3.keep u3 (fun k h => by omega)).keep u4 (fun k h => by omega)).mono (fun k _ h => by omega)
  · exact ((r3.keep u3 (fun k h => by omega)).keep u4 (fun k h => by omega)).mono (fun k _ h => by have := c2.size; omega)
  · have c4 := c3.setCell (p := ⟨w.heap.size + 1 + 1, 25, none⟩) (by show _ ≤ w.heap.size + 1 + 1; omega) (.slice so3 x.ls.length x.ls.length)
    exact c4.trans (u4.below c4.size (fun k h => by omega))

end Go.Proofs.Yteddhdbglciahaa

/- Words held against each other, marked, and looked at for their marks: contracts; no statement of the seat is proved here. -/
namespace Go.Proofs.Yteddhdbglciahaa
open Go.RowKit

set_option maxHeartbeats 4000000 in
theorem eqCmd_true (x : Wd) (w : World) :
    Calls Try.prog 54 #[ .agg #[.int .i64 x.c0, .int .i64 x.c1, .int .i64 x.c2, .int .i64 x.c3, .int .i64 x.c4, .int .i64 x.c5, .int .i64 x.c6, .int .i64 x.c7, .int .i64 x.c8, .int .i64 x.c9], .agg #[.int .i64 x.c0, .int .i64 x.c1, .int .i64 x.c2, .int .i64 x.c3, .int .i64 x.c4, .int .i64 x.c5, .int .i64 x.c6, .int .i64 x.c7, .int .i64 x.c8, .int .i64 x.c9] ] w fun e w' => e = .returned (.bool true) ∧ Below w.heap.size w w' := by
  go_enter Try.func54, Try.ntmps54
  go_wp2
  go_ret
  exact ⟨rfl, bal (bal (Below.refl _ _) _) _⟩

set_option maxRecDepth 100000 in
set_option maxHeartbeats 8000000 in
theorem eqWord_true (va vb : Value) (x : Wd) (w : World) (ha : WdR w va x) (hb : WdR w vb x) :
    Calls Try.prog 15 #[va, vb] w fun e w' => e = .returned (.bool true) ∧ Below w.heap.size w w' := by
  obtain ⟨po, pc, lo, lc, rfl, a1, a2⟩ := ha
  obtain ⟨po', pc', lo', lc', rfl, d1, d2⟩ := hb
  go_enter Try.func15, Try.ntmps15
  go_wp2_with fail
  generalize hW : World.alloc _ _ = W
  have hal : Below w.heap.size w W := by rw [← hW]; exact bal (bal (Below.refl _ _) _) _
  have B0 : W.heap[w.heap.size]? = some (.cells (#[.int .i64 x.a0, .int .i64 x.a1, .int .i64 x.a2, .int .i64 x.a3, .int .i64 x.a4, .int .i64 x.a5, .int .i64 x.c0, .int .i64 x.c1, .int .i64 x.c2, .int .i64 x.c3, .int .i64 x.c4, .int .i64 x.c5, .int .i64 x.c6, .int .i64 x.c7, .int .i64 x.c8, .int .i64 x.c9, .int .i64 x.b0, .int .i64 x.b1, .int .i64 x.b2, .int .i64 x.b3, .int .i64 x.b4, .int .i64 x.b5, .int .i64 x.b6, .int .i64 x.b7, .slice po x.ps.length pc, .slice lo x.ls.length lc] : Array Value) 47 (0, 0)) := by rw [← hW]; exact al2_0 w _ _
  have B1 : W.heap[w.heap.size + 1]? = some (.cells (#[.int .i64 x.a0, .int .i64 x.a1, .int .i64 x.a2, .int .i64 x.a3, .int .i64 x.a4, .int .i64 x.a5, .int .i64 x.c0, .int .i64 x.c1, .int .i64 x.c2, .int .i64 x.c3, .int .i64 x.c4, .int .i64 x.c5, .int .i64 x.c6, .int .i64 x.c7, .int .i64 x.c8, .int .i64 x.c9, .int .i64 x.b0, .int .i64 x.b1, .int .i64 x.b2, .int .i64 x.b3, .int .i64 x.b4, .int .i64 x.b5, .int .i64 x.b6, .int .i64 x.b7, .slice po' x.ps.length pc', .slice lo' x.ls.length lc'] : Array Value) 47 (0, 0)) := by rw [← hW]; exact al2_1 w _ _
  clear hW
  refine (eqCmd_true x _).mono ?_
  rintro e w1 ⟨rfl, b1⟩
  have C0 := bKeeps b1 B0
  have C1 := bKeeps b1 B1
  have hc0 := boxAt C0
  have hc1 := boxAt C1
  have H0 := hide C0
  have H1 := hide C1
  have c1 := bAll hal b1
  clear B0 B1 C0 C1
  go_wp2_with fail
  clear hc0 hc1
  refine (eqBlkPieceS_true _ _ _ x.ps _ (a1.keep c1) (d1.keep c1)).mono ?_
  rintro e w2 ⟨rfl, b2⟩
  have hc0 := boxAt (bKeeps b2 H0.out)
  have hc1 := boxAt (bKeeps b2 H1.out)
  have c2 := bAll c1 b2
  go_wp2_with fail
  refine (eqBlkLastS_true _ _ _ x.ls _ (a2.keep c2) (d2.keep c2)).mono ?_
  rintro e w3 ⟨rfl, b3⟩
  go_wp2
  go_ret
  exact ⟨rfl, bAll c2 b3⟩

/-- The marks of a word's lists. -/
def mkWd (x : Wd) (k : Nat) : Wd := { x with ps := mkP k x.ps.length, ls := mkL (k + x.ps.length * 4) x.ls.length }

set_option maxRecDepth 100000 in
set_option maxHeartbeats 4000000 in
theorem markWord_any (S : Nat → Prop) (v : Value) (x : Wd) (k0 : Nat) (w : World) (h : WdO w S v x) (h1 : 1 ≤ k0) (h2 : k0 + x.ps.length * 4 + x.ls.length * 2 ≤ 1099511627776) :
    Calls Try.prog 17 #[v, .int .i64 k0] w fun e w' => e = .returned (.int .i64 (k0 + x.ps.length * 4 + x.ls.length * 2 : Nat)) ∧ WdO w' S v (mkWd x k0) ∧ Upd S w w' := by
  obtain ⟨po, pc, lo, lc, rfl, a1, a2⟩ := h
  go_enter Try.func17, Try.ntmps17
  go_wp2_with fail
  generalize hW : World.alloc _ _ = W
  have hal : Below w.heap.size w W := by rw [← hW]; exact bal (Below.refl _ _) _
  have hbox : W.heap[w.heap.size]? = some (.cells (#[.int .i64 x.a0, .int .i64 x.a1, .int .i64 x.a2, .int .i64 x.a3, .int .i64 x.a4, .int .i64 x.a5, .int .i64 x.c0, .int .i64 x.c1, .int .i64 x.c2, .int .i64 x.c3, .int .i64 x.c4, .int .i64 x.c5, .int .i64 x.c6, .int .i64 x.c7, .int .i64 x.c8, .int .i64 x.c9, .int .i64 x.b0, .int .i64 x.b1, .int .i64 x.b2, .int .i64 x.b3, .int .i64 x.b4, .int .i64 x.b5, .int .i64 x.b6, .int .i64 x.b7, .slice po x.ps.length pc, .slice lo x.ls.length lc] : Array Value) 47 (0, 0)) := by rw [← hW]; exact heap_alloc_new w _
  clear hW
  have k1 := (a1.keepB hal).typed
  have k2 := (a2.keepB hal).typed
  refine (markBlkPieceS_any _ _ _ _ k0 _ k1 h1 (by omega)).mono ?_
  rintro e w1 ⟨rfl, r1, u1⟩
  have hbox1 := u1.keeps hbox (by rintro ⟨_, c, hc⟩; rw [hbox] at hc; simp at hc)
  have hc1 := boxAt hbox1
  have q2 := ((k2.keep u1 (fun k => typed_apart (by decide) k)).mono (fun _ _ h => h.1)).typed
  have q1 := (r1.mono (T := S) (fun _ _ h => h.1)).typed
  clear hbox hbox1
  go_wp2_with fail
  refine (markBlkLastS_any _ _ _ _ (k0 + x.ps.length * 4) _ q2 (by omega) (by omega)).mono ?_
  rintro e w2 ⟨rfl, r2, u2⟩
  go_wp2
  go_ret
  refine ⟨rfl, ⟨po, pc, lo, lc, ?_, ?_, ?_⟩, ?_⟩
  · simp only [mkWd, mkP_len, mkL_len]
  · simp only [mkWd, mkP_len]
    exact (q1.keep u2 (fun k => typed_apart (by decide) k)).mono (fun _ _ h => h.1)
  · simp only [mkWd, mkL_len]
    exact r2.mono (fun _ _ h => h.1)
  · exact ((Upd.ofBelow hal).trans (u1.mono fun _ h => h.1)).trans (u2.mono fun _ h => h.1)

end Go.Proofs.Yteddhdbglciahaa

/- What the laws of words have in common: contracts; no statement of the seat is proved here. -/
namespace Go.Proofs.Yteddhdbglciahaa
open Go.RowKit

theorem WdR.agg {w : World} {v : Value} {x : Wd} (h : WdR w v x) : ∃ cs : Array Value, v = .agg cs ∧ cs.size = 26 ∧ cs.all (·.oneCell') = true := by
  obtain ⟨po, pc, lo, lc, rfl, -, -⟩ := h
  exact ⟨_, rfl, rfl, all_of_list (List.all_eq_true.2 (wd_one x po lo _ pc _ lc))⟩
theorem WdR.lens {w : World} {v : Value} {x : Wd} (h : WdR w v x) : x.ps.length ≤ 9223372036854775807 ∧ x.ls.length ≤ 9223372036854775807 := by
  obtain ⟨po, pc, lo, lc, -, a1, a2⟩ := h
  exact ⟨by obtain ⟨_, _, _, h, _⟩ := a1; exact h, by obtain ⟨_, _, _, h, _⟩ := a2; exact h⟩

/-- A whole block is loaded, in a region that draws its order. -/
theorem yields_row {P : Program} {ops : Array Oper} {S : World → Prop} {op : Oper} {a : Act} (hw : Region.wanted op (yielded ops a.tmps) = true) (ty : TypeId) (x : Operand) (ho : op.op = .load ty x)
    (g : Nat) (hx : a.eval x = .pointer (some ⟨g, 0, none⟩)) (t : TypeId) (cs : Array Value) (d : TypeDesc) (hS : ∀ w, S w → w.heap[g]? = some (.cells cs t (0, 0)))
    (hu : P.underlying ty = some d) (hd : (match d with | .struct _ | .array _ _ => true | _ => false) = true) (hi : (P.info? ty).map (·.size) = some cs.size) : YieldsIf P ops S op (.agg cs) a :=
  .inl ⟨hw, fun w hw' => by
    unfold execOp
    simp only [ho, hx, Instr.loadAt, Instr.sureAddr, Sem.run_bind, Sem.run_pure, Result.andThen_ok, run_loadVar_row w g t ty cs (0, 0) d (hS w hw') hu hd hi]⟩

theorem infoLw : (Try.prog.info? 32).map (·.size) = some 26 := by kernel_rfl
theorem infoAt {t : TypeId} {n m : Nat} (h : (Try.prog.info? t).map (·.size) = some n) (hm : m = n) : (Try.prog.info? t).map (·.size) = some m := by rw [hm]; exact h
theorem zero26 : (#[Value.int .i64 0, .int .i64 0, .int .i64 0, .int .i64 0, .int .i64 0, .int .i64 0, .int .i64 0, .int .i64 0, .int .i64 0, .int .i64 0, .int .i64 0, .int .i64 0, .int .i64 0, .int .i64 0, .int .i64 0, .int .i64 0, .int .i64 0, .int .i64 0, .int .i64 0, .int .i64 0, .int .i64 0, .int .i64 0, .int .i64 0, .int .i64 0, .slice none 0 0, .slice none 0 0] : Array Value).size = 26 := rfl

end Go.Proofs.Yteddhdbglciahaa

/- A struct in a row of others, loaded and stored whole: laws; no statement of the seat is proved here. -/
namespace Go.Proofs.Yteddhdbglciahaa
open Go.RowKit

theorem run_loadVar_at {P : Program} (w : World) (g off : Nat) (ty : TypeId) (cs : Array Value) (d : TypeDesc) (hc : ∀ j u, cs[j]? = some u → w.cell? ⟨g, off + j, none⟩ = some u)
    (hu : P.underlying ty = some d) (hd : (match d with | .struct _ | .array _ _ => true | _ => false) = true) (hi : (P.info? ty).map (·.size) = some cs.size) :
    (loadVar ty ⟨g, off, none⟩).run P w = .ok (.agg cs) w := by
  have hl : (loadCells ⟨g, off, none⟩ cs.toList.length).run P w = .ok cs.toList.toArray w :=
    run_loadCells_list (P := P) w ⟨g, off, none⟩ cs.toList (fun j v hv => by
      rw [Addr.add_lit]
      exact hc j v (by simpa using hv))
  cases hq : P.info? ty with
  | none => simp [hq] at hi
  | some i =>
    have hs : i.size = cs.size := by simpa [hq] using hi
    have hagg : (isAgg ty).run P w = .ok true w := by
      unfold isAgg
      rw [Sem.run_bind, run_underlying hu w]
      cases d <;> simp_all
    simp only [Array.length_toList, Array.toArray_toList] at hl
    simp [loadVar, Sem.run_bind, hagg, sizeOf, typeInfo, hq, hs, hl]

theorem wp_load_at {P : Program} {o : Oper} {a : Act} {w : World} {K : Act → World → Prop} {Q : Exit → Act → World → Prop} (ty : TypeId) (x : Operand) (ho : o.op = .load ty x)
    (g off : Nat) (hx : a.eval x = .pointer (some ⟨g, off, none⟩)) (cs : Array Value) (d : TypeDesc) (hc : ∀ j u, cs[j]? = some u → w.cell? ⟨g, off + j, none⟩ = some u)
    (hu : P.underlying ty = some d) (hd : (match d with | .struct _ | .array _ _ => true | _ => false) = true) (hi : (P.info? ty).map (·.size) = some cs.size)
    (h : K (a.put o.dst (.agg cs)) w) : o.wp P a w K Q := by
  unfold Oper.wp execOp
  simp only [ho, hx, Instr.loadAt, Instr.sureAddr, Sem.run_bind, Sem.run_pure, Result.andThen_ok, run_loadVar_at w g off ty cs d hc hu hd hi]
  exact h

theorem wpList_load_at {P : Program} {ops : Array Oper} {rest : List Oper} {o : Oper} {a : Act} {w : World} {Q : Exit → Act → World → Prop} (hgd : Region.wanted o (yielded ops a.tmps) = true) (ty : TypeId) (x : Operand) (ho : o.op = .load ty x)
    (g off : Nat) (hx : a.eval x = .pointer (some ⟨g, off, none⟩)) (cs : Array Value) (d : TypeDesc) (hc : ∀ j u, cs[j]? = some u → w.cell? ⟨g, off + j, none⟩ = some u)
    (hu : P.underlying ty = some d) (hd : (match d with | .struct _ | .array _ _ => true | _ => false) = true) (hi : (P.info? ty).map (·.size) = some cs.size)
    (h : wpList P ops Q rest (a.put o.dst (.agg cs)) w) : wpList P ops Q (o :: rest) a w :=
  wpList_step fun _ hK => by rw [if_pos hgd]; exact wp_load_at ty x ho g off hx cs d hc hu hd hi (hK _ _ h)

theorem yields_at {P : Program} {ops : Array Oper} {S : World → Prop} {op : Oper} {a : Act} (hw : Region.wanted op (yielded ops a.tmps) = true) (ty : TypeId) (x : Operand) (ho : op.op = .load ty x)
    (g off : Nat) (hx : a.eval x = .pointer (some ⟨g, off, none⟩)) (cs : Array Value) (d : TypeDesc) (hS : ∀ w, S w → ∀ j u, cs[j]? = some u → w.cell? ⟨g, off + j, none⟩ = some u)
    (hu : P.underlying ty = some d) (hd : (match d with | .struct _ | .array _ _ => true | _ => false) = true) (hi : (P.info? ty).map (·.size) = some cs.size) : YieldsIf P ops S op (.agg cs) a :=
  .inl ⟨hw, fun w hw' => by
    unfold execOp
    simp only [ho, hx, Instr.loadAt, Instr.sureAddr, Sem.run_bind, Sem.run_pure, Result.andThen_ok, run_loadVar_at w g off ty cs d (hS w hw') hu hd hi]⟩

/-- Cells written into a row, from a place on. -/
def putAt (cur : Array Value) (off : Nat) (cs : Array Value) : Array Value := (cur.toList.take off ++ cs.toList ++ cur.toList.drop (off + cs.size)).toArray

theorem run_storeVar_at {P : Program} (w : World) (g off : Nat) (t ty : TypeId) (old cells : Array Value) (hg : w.heap[g]? = some (.cells old t (0, 0))) (hi : (P.info? ty).map (·.size) = some cells.size)
    (ho : off + cells.size ≤ old.size) (h1 : cells.all (·.oneCell') = true) :
    (storeVar ty ⟨g, off, none⟩ (.agg cells)).run P w = .ok () (w.setRow g (putAt old off cells)) := by
  have := run_storeCells_at (P := P) g off t cells.toList 0 old w hg (by simp; omega) (fun v hv => (Array.all_eq_true_iff_forall_mem.1 h1) v (by simpa using hv))
  cases hq : P.info? ty with
  | none => simp [hq] at hi
  | some i =>
    have hs : cells.size = i.size := by simp [hq] at hi; omega
    simp [storeVar, sizeOf, typeInfo, hq, Value.cells, hs, this, putAt]

theorem wpList_store_at {P : Program} {ops : Array Oper} {rest : List Oper} {o : Oper} {a : Act} {w : World} {Q : Exit → Act → World → Prop} (hgd : o.guard = none) (ty : TypeId) (x y : Operand) (ho : o.op = .store ty x y)
    (g off : Nat) (cells : Array Value) (hx : a.eval x = .pointer (some ⟨g, off, none⟩)) (hy : a.eval y = .agg cells)
    (t : TypeId) (old : Array Value) (hg : w.heap[g]? = some (.cells old t (0, 0))) (hi : (P.info? ty).map (·.size) = some cells.size)
    (hold : off + cells.size ≤ old.size) (h1 : cells.all (·.oneCell') = true)
    (h : wpList P ops Q rest (a.put o.dst undef) (w.setRow g (putAt old off cells))) : wpList P ops Q (o :: rest) a w :=
  wpList_plain hgd fun _ hK => by
    unfold Oper.wp execOp
    simp only [ho, hx, hy, Instr.storeAt, Instr.sureAddr, Sem.run_bind, Sem.run_pure, Result.andThen_ok, run_storeVar_at w g off t ty old cells hg hi hold h1]
    exact hK _ _ h

end Go.Proofs.Yteddhdbglciahaa

/- What the laws' own helpers do with papers and voters: contracts; no statement of the seat is proved here. -/
namespace Go.Proofs.Yteddhdbglciahaa
open Go.RowKit

/-- A paper: its slot, its ballot, and its command (that of a word). -/
abbrev Pp := Int × Int × Wd
def pparr (p : Pp) : Array Value := (#[.int .i64 p.1, .int .i64 p.2.1, .int .i64 p.2.2.c0, .int .i64 p.2.2.c1, .int .i64 p.2.2.c2, .int .i64 p.2.2.c3, .int .i64 p.2.2.c4, .int .i64 p.2.2.c5, .int .i64 p.2.2.c6, .int .i64 p.2.2.c7, .int .i64 p.2.2.c8, .int .i64 p.2.2.c9] : Array Value)
def ppcell (p : Pp) : List Value := (pparr p).toList
def ppcells (xs : List Pp) : List Value := xs.flatMap ppcell
theorem ppcell_len (p : Pp) : (ppcell p).length = 12 := rfl
theorem pparr_one (p : Pp) : (pparr p).all (·.oneCell') = true := all_of_list rfl
theorem infoPpS : (Try.prog.info? 37).map (·.size) = some 12 := by kernel_rfl
theorem infoLpS : (Try.prog.info? 25).map (·.size) = some 12 := by kernel_rfl
theorem infoCm10 : (Try.prog.info? 35).map (·.size) = some 10 := by kernel_rfl

set_option maxRecDepth 100000 in
set_option maxHeartbeats 4000000 in
theorem toSynPaper_any (s b : Int) (x : Wd) (w : World) :
    Calls Try.prog 45 #[.agg (#[.int .i64 s, .int .i64 b, .int .i64 x.c0, .int .i64 x.c1, .int .i64 x.c2, .int .i64 x.c3, .int .i64 x.c4, .int .i64 x.c5, .int .i64 x.c6, .int .i64 x.c7, .int .i64 x.c8, .int .i64 x.c9] : Array Value) ] w fun e w' => e = .returned (.agg (#[.int .i64 s, .int .i64 b, .int .i64 x.c0, .int .i64 x.c1, .int .i64 x.c2, .int .i64 x.c3, .int .i64 x.c4, .int .i64 x.c5, .int .i64 x.c6, .int .i64 x.c7, .int .i64 x.c8, .int .i64 x.c9] : Array Value)) ∧ Below w.heap.size w w' := by
  have al := bal (bal (bal (Below.refl w.heap.size w) (.cells (#[.int .i64 s, .int .i64 b, .int .i64 x.c0, .int .i64 x.c1, .int .i64 x.c2, .int .i64 x.c3, .int .i64 x.c4, .int .i64 x.c5, .int .i64 x.c6, .int .i64 x.c7, .int .i64 x.c8, .int .i64 x.c9] : Array Value) 25)) (.cells #[.int .i64 0, .int .i64 0, .int .i64 0, .int .i64 0, .int .i64 0, .int .i64 0, .int .i64 0, .int .i64 0, .int .i64 0, .int .i64 0, .int .i64 0, .int .i64 0] 37)) (.cells #[.int .i64 s, .int .i64 b, .int .i64 0, .int .i64 0, .int .i64 0, .int .i64 0, .int .i64 0, .int .i64 0, .int .i64 0, .int .i64 0, .int .i64 0, .int .i64 0] 37)
  have N2 := hide (al3_1 w (.cells (#[.int .i64 s, .int .i64 b, .int .i64 x.c0, .int .i64 x.c1, .int .i64 x.c2, .int .i64 x.c3, .int .i64 x.c4, .int .i64 x.c5, .int .i64 x.c6, .int .i64 x.c7, .int .i64 x.c8, .int .i64 x.c9] : Array Value) 25) (.cells #[.int .i64 0, .int .i64 0, .int .i64 0, .int .i64 0, .int .i64 0, .int .i64 0, .int .i64 0, .int .i64 0, .int .i64 0, .int .i64 0, .int .i64 0, .int .i64 0] 37) (.cells #[.int .i64 s, .int .i64 b, .int .i64 0, .int .i64 0, .int .i64 0, .int .i64 0, .int .i64 0, .int .i64 0, .int .i64 0, .int .i64 0, .int .i64 0, .int .i64 0] 37))
  have N3 := hide (al3_2 w (.cells (#[.int .i64 s, .int .i64 b, .int .i64 x.c0, .int .i64 x.c1, .int .i64 x.c2, .int .i64 x.c3, .int .i64 x.c4, .int .i64 x.c5, .int .i64 x.c6, .int .i64 x.c7, .int .i64 x.c8, .int .i64 x.c9] : Array Value) 25) (.cells #[.int .i64 0, .int .i64 0, .int .i64 0, .int .i64 0, .int .i64 0, .int .i64 0, .int .i64 0, .int .i64 0, .int .i64 0, .int .i64 0, .int .i64 0, .int .i64 0] 37) (.cells #[.int .i64 s, .int .i64 b, .int .i64 0, .int .i64 0, .int .i64 0, .int .i64 0, .int .i64 0, .int .i64 0, .int .i64 0, .int .i64 0, .int .i64 0, .int .i64 0] 37))
  go_enter Try.func45, Try.ntmps45
  go_wp2_with fail
  generalize World.alloc _ _ = W at al N2 N3 ⊢
  refine (toCmd_any x W).mono ?_
  rintro e w1 ⟨rfl, hw1⟩
  have b1 : Below W.heap.size W w1 := by rw [hw1]; exact bal (bal (bal (Below.refl _ _) _) _) _
  have M2 := hide (bKeeps b1 N2.out)
  have M3 := hide (bKeeps b1 N3.out)
  have c1 := bAll al b1
  have hput : putAt #[.int .i64 s, .int .i64 b, .int .i64 0, .int .i64 0, .int .i64 0, .int .i64 0, .int .i64 0, .int .i64 0, .int .i64 0, .int .i64 0, .int .i64 0, .int .i64 0] 2 #[.int .i64 x.c0, .int .i64 x.c1, .int .i64 x.c2, .int .i64 x.c3, .int .i64 x.c4, .int .i64 x.c5, .int .i64 x.c6, .int .i64 x.c7, .int .i64 x.c8, .int .i64 x.c9] = (#[.int .i64 s, .int .i64 b, .int .i64 x.c0, .int .i64 x.c1, .int .i64 x.c2, .int .i64 x.c3, .int .i64 x.c4, .int .i64 x.c5, .int .i64 x.c6, .int .i64 x.c7, .int .i64 x.c8, .int .i64 x.c9] : Array Value) := rfl
  have M4 := hide (setRow_heap w1 (w.heap.size + 1 + 1) _ (#[.int .i64 s, .int .i64 b, .int .i64 x.c0, .int .i64 x.c1, .int .i64 x.c2, .int .i64 x.c3, .int .i64 x.c4, .int .i64 x.c5, .int .i64 x.c6, .int .i64 x.c7, .int .i64 x.c8, .int .i64 x.c9] : Array Value) _ _ M3.out)
  have us : Upd (fun j => j = w.heap.size + 1 + 1) w1 (w1.setRow (w.heap.size + 1 + 1) (#[.int .i64 s, .int .i64 b, .int .i64 x.c0, .int .i64 x.c1, .int .i64 x.c2, .int .i64 x.c3, .int .i64 x.c4, .int .i64 x.c5, .int .i64 x.c6, .int .i64 x.c7, .int .i64 x.c8, .int .i64 x.c9] : Array Value)) := ⟨rfl, rfl, rfl, by simp, fun k _ h => setRow_other _ _ _ _ h⟩
  have M5 := hide (us.keeps M2.out (by omega))
  clear hw1 N2 N3 al b1
  go_wp2_with (first
    | (refine wpList_store_at rfl 35 (.tmp 13) (.tmp 12) rfl (w.heap.size + 1 + 1) 2 #[.int .i64 x.c0, .int .i64 x.c1, .int .i64 x.c2, .int .i64 x.c3, .int .i64 x.c4, .int .i64 x.c5, .int .i64 x.c6, .int .i64 x.c7, .int .i64 x.c8, .int .i64 x.c9] rfl rfl _ _ M3.out infoCm10 (show (2 + 10 : Nat) ≤ 12 by omega) (all_of_list rfl) ?_; rw [hput])
    | (refine wpList_load_row rfl 37 (.tmp 3) rfl (w.heap.size + 1 + 1) rfl _ _ (0, 0) _ M4.out Try.underlying37 rfl infoPpS ?_)
    | (refine wpList_store_row rfl 37 (.tmp 2) (.tmp 14) rfl (w.heap.size + 1) _ rfl rfl _ _ M5.out infoPpS (show (12 : Nat) = 12 from rfl) (all_of_list rfl) ?_))
  refine bodyPost_ret (v := .agg (#[.int .i64 s, .int .i64 b, .int .i64 x.c0, .int .i64 x.c1, .int .i64 x.c2, .int .i64 x.c3, .int .i64 x.c4, .int .i64 x.c5, .int .i64 x.c6, .int .i64 x.c7, .int .i64 x.c8, .int .i64 x.c9] : Array Value)) (results_cell_row Try.results45 _ _ (w.heap.size + 1) _ _ (0, 0) _ rfl (setRow_heap _ _ _ _ _ _ M5.out) Try.underlying37 rfl infoPpS) rfl ?_
  have u6 : Upd (fun j => j = w.heap.size + 1) (w1.setRow (w.heap.size + 1 + 1) (#[.int .i64 s, .int .i64 b, .int .i64 x.c0, .int .i64 x.c1, .int .i64 x.c2, .int .i64 x.c3, .int .i64 x.c4, .int .i64 x.c5, .int .i64 x.c6, .int .i64 x.c7, .int .i64 x.c8, .int .i64 x.c9] : Array Value)) ((w1.setRow (w.heap.size + 1 + 1) (#[.int .i64 s, .int .i64 b, .int .i64 x.c0, .int .i64 x.c1, .int .i64 x.c2, .int .i64 x.c3, .int .i64 x.c4, .int .i64 x.c5, .int .i64 x.c6, .int .i64 x.c7, .int .i64 x.c8, .int .i64 x.c9] : Array Value)).setRow (w.heap.size + 1) (#[.int .i64 s, .int .i64 b, .int .i64 x.c0, .int .i64 x.c1, .int .i64 x.c2, .int .i64 x.c3, .int .i64 x.c4, .int .i64 x.c5, .int .i64 x.c6, .int .i64 x.c7, .int .i64 x.c8, .int .i64 x.c9] : Array Value)) := ⟨rfl, rfl, rfl, by simp, fun k _ h => setRow_other _ _ _ _ h⟩
  have c2 := c1.trans (us.below c1.size (fun k h => by omega))
  exact ⟨rfl, c2.trans (u6.below c2.size (fun k h => by omega))⟩

end Go.Proofs.Yteddhdbglciahaa

/- What the laws' own helpers do with papers and voters: contracts; no statement of the seat is proved here. -/
namespace Go.Proofs.Yteddhdbglciahaa
open Go.RowKit

/-- What a voter reads: what it promised, its papers. -/
def VtR (w : World) (v : Value) (P : Int) (xs : List Pp) : Prop := ∃ ao cap, v = .agg #[.int .i64 P, .slice ao xs.length cap] ∧ RowR w 12 (.slice ao xs.length cap) xs.length (ppcells xs)
theorem VtR.keep {w w' : World} {v : Value} {P : Int} {xs : List Pp} (h : VtR w v P xs) (hb : Below w.heap.size w w') : VtR w' v P xs := by
  obtain ⟨ao, cap, e, h⟩ := h
  exact ⟨ao, cap, e, h.keep hb⟩
/-- A voter in a row of its own. -/
def VtO (w : World) (S : Nat → Prop) (v : Value) (P : Int) (xs : List Pp) : Prop := ∃ ao cap, v = .agg #[.int .i64 P, .slice ao xs.length cap] ∧ xs.length ≤ cap ∧ Row w 37 12 S (.slice ao xs.length cap) xs.length (ppcells xs)
theorem VtO.reads {w : World} {S : Nat → Prop} {v : Value} {P : Int} {xs : List Pp} (h : VtO w S v P xs) : VtR w v P xs := by
  obtain ⟨ao, cap, e, -, h⟩ := h
  exact ⟨ao, cap, e, h.reads⟩

set_option maxRecDepth 100000 in
set_option maxHeartbeats 4000000 in
theorem eqSynPaper_true (s b : Int) (x : Wd) (w : World) :
    Calls Try.prog 55 #[.agg (#[.int .i64 s, .int .i64 b, .int .i64 x.c0, .int .i64 x.c1, .int .i64 x.c2, .int .i64 x.c3, .int .i64 x.c4, .int .i64 x.c5, .int .i64 x.c6, .int .i64 x.c7, .int .i64 x.c8, .int .i64 x.c9] : Array Value), .agg (#[.int .i64 s, .int .i64 b, .int .i64 x.c0, .int .i64 x.c1, .int .i64 x.c2, .int .i64 x.c3, .int .i64 x.c4, .int .i64 x.c5, .int .i64 x.c6, .int .i64 x.c7, .int .i64 x.c8, .int .i64 x.c9] : Array Value) ] w fun e w' => e = .returned (.bool true) ∧ Below w.heap.size w w' := by
  have al := bal (bal (Below.refl w.heap.size w) (.cells (#[.int .i64 s, .int .i64 b, .int .i64 x.c0, .int .i64 x.c1, .int .i64 x.c2, .int .i64 x.c3, .int .i64 x.c4, .int .i64 x.c5, .int .i64 x.c6, .int .i64 x.c7, .int .i64 x.c8, .int .i64 x.c9] : Array Value) 37)) (.cells (#[.int .i64 s, .int .i64 b, .int .i64 x.c0, .int .i64 x.c1, .int .i64 x.c2, .int .i64 x.c3, .int .i64 x.c4, .int .i64 x.c5, .int .i64 x.c6, .int .i64 x.c7, .int .i64 x.c8, .int .i64 x.c9] : Array Value) 37)
  go_enter Try.func55, Try.ntmps55
  go_wp2_with fail
  refine (eqCmd_true x _).mono ?_
  rintro e w1 ⟨rfl, b1⟩
  go_wp2
  go_ret
  exact ⟨rfl, bAll al b1⟩

end Go.Proofs.Yteddhdbglciahaa
