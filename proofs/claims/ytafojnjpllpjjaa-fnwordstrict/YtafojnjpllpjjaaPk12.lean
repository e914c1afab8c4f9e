/- Contracts and plain facts that the claims of this seat lean on (texts XH2, XH3, XL, XB, SPut, XA, XQ); no statement of the seat is proved here. -/
import Derived.Test.YtafojnjpllpjjaaPk4
import Derived.Test.YtafojnjpllpjjaaPk10
import Derived.Test.YtafojnjpllpjjaaPk11
import Derived.Test.YtafojnjpllpjjaaPk2

/- A word of the laws as one of the program: a contract; no statement of the seat is proved here. -/
namespace Go.Proofs.Ytafojnjpllpjjaa
open Go.RowKit

set_option maxRecDepth 100000 in
set_option maxHeartbeats 8000000 in
theorem toWord_any (v : Value) (x : Wd) (w : World) (hr : WdR w v x) (hp : x.ps.length ≤ 1048576) (hl : x.ls.length ≤ 1048576) :
    Calls Try.prog 11 #[v] w fun e w' => ∃ v', e = .returned v' ∧ WdO w' (fun k => w.heap.size ≤ k) v' x ∧ Below w.heap.size w w' := by
  obtain ⟨po, pc, lo, lc, rfl, a1, a2⟩ := hr
  go_enter Try.func11, Try.ntmps11
  go_wp2_with fail
  refine (toCmd_any x _).mono ?_
  rintro e w1 ⟨rfl, rfl⟩
  go_wp2_with fail
  generalize hW : World.alloc _ _ = W
  have hal : Below w.heap.size w W := by rw [← hW]; exact bal (bal (bal (bal (bal (bal (Below.refl _ _) _) _) _) _) _) _
  have B0 : W.heap[w.heap.size]? = some (.cells (#[.int .i64 x.a0, .int .i64 x.a1, .int .i64 x.a2, .int .i64 x.a3, .int .i64 x.a4, .int .i64 x.a5, .int .i64 x.c0, .int .i64 x.c1, .int .i64 x.c2, .int .i64 x.c3, .int .i64 x.c4, .int .i64 x.c5, .int .i64 x.c6, .int .i64 x.c7, .int .i64 x.c8, .int .i64 x.c9, .int .i64 x.b0, .int .i64 x.b1, .int .i64 x.b2, .int .i64 x.b3, .int .i64 x.b4, .int .i64 x.b5, .int .i64 x.b6, .int .i64 x.b7, .slice po x.ps.length pc, .slice lo x.ls.length lc] : Array Value) 27 (0, 0)) := by rw [← hW]; exact heap_up _ (heap_up _ (heap_up _ (al3_0 w _ _ _)))
  have B1 : W.heap[w.heap.size + 1]? = some (.cells (#[.int .i64 zeroW.a0, .int .i64 zeroW.a1, .int .i64 zeroW.a2, .int .i64 zeroW.a3, .int .i64 zeroW.a4, .int .i64 zeroW.a5, .int .i64 zeroW.c0, .int .i64 zeroW.c1, .int .i64 zeroW.c2, .int .i64 zeroW.c3, .int .i64 zeroW.c4, .int .i64 zeroW.c5, .int .i64 zeroW.c6, .int .i64 zeroW.c7, .int .i64 zeroW.c8, .int .i64 zeroW.c9, .int .i64 zeroW.b0, .int .i64 zeroW.b1, .int .i64 zeroW.b2, .int .i64 zeroW.b3, .int .i64 zeroW.b4, .int .i64 zeroW.b5, .int .i64 zeroW.b6, .int .i64 zeroW.b7, .slice none 0 0, .slice none 0 0] : Array Value) 34 (0, 0)) := by rw [← hW]; exact heap_up _ (heap_up _ (heap_up _ (al3_1 w _ _ _)))
  have B2 : W.heap[w.heap.size + 1 + 1]? = some (.cells (#[.int .i64 x.a0, .int .i64 x.a1, .int .i64 x.a2, .int .i64 x.a3, .int .i64 x.a4, .int .i64 x.a5, .int .i64 x.c0, .int .i64 x.c1, .int .i64 x.c2, .int .i64 x.c3, .int .i64 x.c4, .int .i64 x.c5, .int .i64 x.c6, .int .i64 x.c7, .int .i64 x.c8, .int .i64 x.c9, .int .i64 x.b0, .int .i64 x.b1, .int .i64 x.b2, .int .i64 x.b3, .int .i64 x.b4, .int .i64 x.b5, .int .i64 x.b6, .int .i64 x.b7, .slice none 0 0, .slice none 0 0] : Array Value) 34 (0, 0)) := by rw [← hW]; exact heap_up _ (heap_up _ (heap_up _ (al3_2 w _ _ _)))
  have hsz : w.heap.size + 1 + 1 < W.heap.size := heap_lt B2
  have k1 := a1.keep hal
  clear hW
  refine (toBlkPieceS_any _ _ x.ps _ k1 hp).mono ?_
  rintro e w2 ⟨so2, rfl, r2, b2⟩
  have C0 := bKeeps b2 B0
  have C1 := bKeeps b2 B1
  have C2 := bKeeps b2 B2
  have hc0 := boxAt C0
  have hc2 := boxAt C2
  have hf2 := boxFz C2
  have H1 := hide C1
  have H2 := hide C2
  have hb2 := b2.size
  clear B0 B1 B2 C0 C1 C2 a1 k1
  go_wp2_with fail
  clear hc0 hc2 hf2
  have u2 := Upd.setCell (S := fun j => j = w.heap.size + 1 + 1) w2 (w.heap.size + 1 + 1) 24 (.slice so2 x.ps.length x.ps.length) rfl
  have c2 : Below w.heap.size w (w2.setCell ⟨w.heap.size + 1 + 1, 24, none⟩ (.slice so2 x.ps.length x.ps.length)) := (bAll hal b2).setCell (p := ⟨w.heap.size + 1 + 1, 24, none⟩) (by show _ ≤ w.heap.size + 1 + 1; omega) _
  have q2 := (r2.mono (T := fun k => W.heap.size ≤ k) (fun _ _ h => h)).keep u2 (fun k h => by omega)
  have D1 := u2.keeps H1.out (by omega)
  have D2 := row_set (.slice so2 x.ps.length x.ps.length) (j := 24) H2.out
  generalize w2.setCell ⟨w.heap.size + 1 + 1, 24, none⟩ (.slice so2 x.ps.length x.ps.length) = V at c2 q2 D1 D2 ⊢
  clear u2 H1 H2 r2 b2
  refine (toBlkLastS_any _ _ x.ls _ (a2.keep c2) hl).mono ?_
  rintro e w3 ⟨so3, rfl, r3, b3⟩
  have E1 : w3.heap[w.heap.size + 1]? = some (.cells (#[.int .i64 zeroW.a0, .int .i64 zeroW.a1, .int .i64 zeroW.a2, .int .i64 zeroW.a3, .int .i64 zeroW.a4, .int .i64 zeroW.a5, .int .i64 zeroW.c0, .int .i64 zeroW.c1, .int .i64 zeroW.c2, .int .i64 zeroW.c3, .int .i64 zeroW.c4, .int .i64 zeroW.c5, .int .i64 zeroW.c6, .int .i64 zeroW.c7, .int .i64 zeroW.c8, .int .i64 zeroW.c9, .int .i64 zeroW.b0, .int .i64 zeroW.b1, .int .i64 zeroW.b2, .int .i64 zeroW.b3, .int .i64 zeroW.b4, .int .i64 zeroW.b5, .int .i64 zeroW.b6, .int .i64 zeroW.b7, .slice none 0 0, .slice none 0 0] : Array Value) 34 (0, 0)) := bKeeps b3 D1
  have E2 : w3.heap[w.heap.size + 1 + 1]? = some (.cells (#[.int .i64 x.a0, .int .i64 x.a1, .int .i64 x.a2, .int .i64 x.a3, .int .i64 x.a4, .int .i64 x.a5, .int .i64 x.c0, .int .i64 x.c1, .int .i64 x.c2, .int .i64 x.c3, .int .i64 x.c4, .int .i64 x.c5, .int .i64 x.c6, .int .i64 x.c7, .int .i64 x.c8, .int .i64 x.c9, .int .i64 x.b0, .int .i64 x.b1, .int .i64 x.b2, .int .i64 x.b3, .int .i64 x.b4, .int .i64 x.b5, .int .i64 x.b6, .int .i64 x.b7, .slice so2 x.ps.length x.ps.length, .slice none 0 0] : Array Value) 34 (0, 0)) := bKeeps b3 D2
  have hc2 := boxAt E2
  have hf2 := boxFz E2
  have c3 := bAll c2 b3
  have q3 := q2.keepB b3
  have hvs := b3.size
  have hvw := heap_lt D2
  clear D1 D2 q2 a2
  have u3 := Upd.setCell (S := fun j => j = w.heap.size + 1 + 1) w3 (w.heap.size + 1 + 1) 25 (.slice so3 x.ls.length x.ls.length) rfl
  have F1 := u3.keeps E1 (by omega)
  have F2 : (w3.setCell ⟨w.heap.size + 1 + 1, 25, none⟩ (.slice so3 x.ls.length x.ls.length)).heap[w.heap.size + 1 + 1]? = some (.cells (#[.int .i64 x.a0, .int .i64 x.a1, .int .i64 x.a2, .int .i64 x.a3, .int .i64 x.a4, .int .i64 x.a5, .int .i64 x.c0, .int .i64 x.c1, .int .i64 x.c2, .int .i64 x.c3, .int .i64 x.c4, .int .i64 x.c5, .int .i64 x.c6, .int .i64 x.c7, .int .i64 x.c8, .int .i64 x.c9, .int .i64 x.b0, .int .i64 x.b1, .int .i64 x.b2, .int .i64 x.b3, .int .i64 x.b4, .int .i64 x.b5, .int .i64 x.b6, .int .i64 x.b7, .slice so2 x.ps.length x.ps.length, .slice so3 x.ls.length x.ls.length] : Array Value) 34 (0, 0)) := row_set _ E2
  have h1s := wd_one x so2 so3 x.ps.length x.ps.length x.ls.length x.ls.length
  have HF1 := hide F1
  have HF2 := hide F2
  have H1s := hide (Array.all_eq_true_iff_forall_mem.2 (fun v hv => h1s v (by simpa using hv)) : (#[.int .i64 x.a0, .int .i64 x.a1, .int .i64 x.a2, .int .i64 x.a3, .int .i64 x.a4, .int .i64 x.a5, .int .i64 x.c0, .int .i64 x.c1, .int .i64 x.c2, .int .i64 x.c3, .int .i64 x.c4, .int .i64 x.c5, .int .i64 x.c6, .int .i64 x.c7, .int .i64 x.c8, .int .i64 x.c9, .int .i64 x.b0, .int .i64 x.b1, .int .i64 x.b2, .int .i64 x.b3, .int .i64 x.b4, .int .i64 x.b5, .int .i64 x.b6, .int .i64 x.b7, .slice so2 x.ps.length x.ps.length, .slice so3 x.ls.length x.ls.length] : Array Value).all (·.oneCell') = true)
  clear E1 E2 F1 F2 h1s
  go_wp2_with (first
    | (refine wpList_load_row rfl 34 (.tmp 3) rfl (w.heap.size + 1 + 1) rfl _ _ (0, 0) _ HF2.out Try.underlying34 rfl infoWd ?_)
    | (refine wpList_store_row rfl 34 (.tmp 2) (.tmp 58) rfl (w.heap.size + 1) _ rfl rfl _ _ HF1.out infoWd rfl H1s.out ?_))
  refine bodyPost_ret (v := .agg #[.int .i64 x.a0, .int .i64 x.a1, .int .i64 x.a2, .int .i64 x.a3, .int .i64 x.a4, .int .i64 x.a5, .int .i64 x.c0, .int .i64 x.c1, .int .i64 x.c2, .int .i64 x.c3, .int .i64 x.c4, .int .i64 x.c5, .int .i64 x.c6, .int .i64 x.c7, .int .i64 x.c8, .int .i64 x.c9, .int .i64 x.b0, .int .i64 x.b1, .int .i64 x.b2, .int .i64 x.b3, .int .i64 x.b4, .int .i64 x.b5, .int .i64 x.b6, .int .i64 x.b7, .slice so2 x.ps.length x.ps.length, .slice so3 x.ls.length x.ls.length]) (results_cell_row Try.results11 _ _ (w.heap.size + 1) _ _ (0, 0) _ rfl (setRow_heap _ _ _ _ _ _ HF1.out) Try.underlying34 rfl infoWd) rfl ?_
  have u4 : Upd (fun j => j = w.heap.size + 1) (w3.setCell ⟨w.heap.size + 1 + 1, 25, none⟩ (.slice so3 x.ls.length x.ls.length)) ((w3.setCell ⟨w.heap.size + 1 + 1, 25, none⟩ (.slice so3 x.ls.length x.ls.length)).setRow (w.heap.size + 1) (#[.int .i64 x.a0, .int .i64 x.a1, .int .i64 x.a2, .int .i64 x.a3, .int .i64 x.a4, .int .i64 x.a5, .int .i64 x.c0, .int .i64 x.c1, .int .i64 x.c2, .int .i64 x.c3, .int .i64 x.c4, .int .i64 x.c5, .int .i64 x.c6, .int .i64 x.c7, .int .i64 x.c8, .int .i64 x.c9, .int .i64 x.b0, .int .i64 x.b1, .int .i64 x.b2, .int .i64 x.b3, .int .i64 x.b4, .int .i64 x.b5, .int .i64 x.b6, .int .i64 x.b7, .slice so2 x.ps.length x.ps.length, .slice so3 x.ls.length x.ls.length] : Array Value)) :=
    ⟨rfl, rfl, rfl, by simp, fun k _ h => setRow_other _ _ _ _ h⟩
  refine ⟨_, rfl, ⟨_, _, _, _, rfl, ?_, ?_⟩, ?_⟩
  · exact ((q3.keep u3 (fun k h => by omega)).keep u4 (fun k h => by omega)).mono (fun k _ h => by omega)
  · exact ((r3.keep u3 (fun k h => by omega)).keep u4 (fun k h => by omega)).mono (fun k _ h => by have := c2.size; omega)
  · have c4 := c3.setCell (p := ⟨w.heap.size + 1 + 1, 25, none⟩) (by show _ ≤ w.heap.size + 1 + 1; omega) (.slice so3 x.ls.length x.ls.length)
    exact c4.trans (u4.below c4.size (fun k h => by omega))

end Go.Proofs.Ytafojnjpllpjjaa

/- Words held against each other, marked, and looked at for their marks: contracts; no statement of the seat is proved here. -/
namespace Go.Proofs.Ytafojnjpllpjjaa
open Go.RowKit

set_option maxHeartbeats 4000000 in
theorem eqCmd_true (x : Wd) (w : World) :
    Calls Try.prog 40 #[ .agg #[.int .i64 x.c0, .int .i64 x.c1, .int .i64 x.c2, .int .i64 x.c3, .int .i64 x.c4, .int .i64 x.c5, .int .i64 x.c6, .int .i64 x.c7, .int .i64 x.c8, .int .i64 x.c9], .agg #[.int .i64 x.c0, .int .i64 x.c1, .int .i64 x.c2, .int .i64 x.c3, .int .i64 x.c4, .int .i64 x.c5, .int .i64 x.c6, .int .i64 x.c7, .int .i64 x.c8, .int .i64 x.c9] ] w fun e w' => e = .returned (.bool true) ∧ Below w.heap.size w w' := by
  go_enter Try.func40, Try.ntmps40
  go_wp2
  go_ret
  exact ⟨rfl, bal (bal (Below.refl _ _) _) _⟩

set_option maxRecDepth 100000 in
set_option maxHeartbeats 8000000 in
theorem eqWord_true (va vb : Value) (x : Wd) (w : World) (ha : WdR w va x) (hb : WdR w vb x) :
    Calls Try.prog 13 #[va, vb] w fun e w' => e = .returned (.bool true) ∧ Below w.heap.size w w' := by
  obtain ⟨po, pc, lo, lc, rfl, a1, a2⟩ := ha
  obtain ⟨po', pc', lo', lc', rfl, d1, d2⟩ := hb
  go_enter Try.func13, Try.ntmps13
  go_wp2_with fail
  generalize hW : World.alloc _ _ = W
  have hal : Below w.heap.size w W := by rw [← hW]; exact bal (bal (Below.refl _ _) _) _
  have B0 : W.heap[w.heap.size]? = some (.cells (#[.int .i64 x.a0, .int .i64 x.a1, .int .i64 x.a2, .int .i64 x.a3, .int .i64 x.a4, .int .i64 x.a5, .int .i64 x.c0, .int .i64 x.c1, .int .i64 x.c2, .int .i64 x.c3, .int .i64 x.c4, .int .i64 x.c5, .int .i64 x.c6, .int .i64 x.c7, .int .i64 x.c8, .int .i64 x.c9, .int .i64 x.b0, .int .i64 x.b1, .int .i64 x.b2, .int .i64 x.b3, .int .i64 x.b4, .int .i64 x.b5, .int .i64 x.b6, .int .i64 x.b7, .slice po x.ps.length pc, .slice lo x.ls.length lc] : Array Value) 34 (0, 0)) := by rw [← hW]; exact al2_0 w _ _
  have B1 : W.heap[w.heap.size + 1]? = some (.cells (#[.int .i64 x.a0, .int .i64 x.a1, .int .i64 x.a2, .int .i64 x.a3, .int .i64 x.a4, .int .i64 x.a5, .int .i64 x.c0, .int .i64 x.c1, .int .i64 x.c2, .int .i64 x.c3, .int .i64 x.c4, .int .i64 x.c5, .int .i64 x.c6, .int .i64 x.c7, .int .i64 x.c8, .int .i64 x.c9, .int .i64 x.b0, .int .i64 x.b1, .int .i64 x.b2, .int .i64 x.b3, .int .i64 x.b4, .int .i64 x.b5, .int .i64 x.b6, .int .i64 x.b7, .slice po' x.ps.length pc', .slice lo' x.ls.length lc'] : Array Value) 34 (0, 0)) := by rw [← hW]; exact al2_1 w _ _
  clear hW
  refine (eqCmd_true x _).mono ?_
  rintro e w1 ⟨rfl, b1⟩
  have C0 := bKeeps b1 B0
  have C1 := bKeeps b1 B1
  have hc0 := boxAt C0
  have hc1 := boxAt C1
  have H0 := hide C0
  have H1 := hide C1
  have c1 := bAll hal b1
  clear B0 B1 C0 C1
  go_wp2_with fail
  clear hc0 hc1
  refine (eqBlkPieceS_true _ _ _ x.ps _ (a1.keep c1) (d1.keep c1)).mono ?_
  rintro e w2 ⟨rfl, b2⟩
  have hc0 := boxAt (bKeeps b2 H0.out)
  have hc1 := boxAt (bKeeps b2 H1.out)
  have c2 := bAll c1 b2
  go_wp2_with fail
  refine (eqBlkLastS_true _ _ _ x.ls _ (a2.keep c2) (d2.keep c2)).mono ?_
  rintro e w3 ⟨rfl, b3⟩
  go_wp2
  go_ret
  exact ⟨rfl, bAll c2 b3⟩

/-- The marks of a word's lists. -/
def mkWd (x : Wd) (k : Nat) : Wd := { x with ps := mkP k x.ps.length, ls := mkL (k + x.ps.length * 4) x.ls.length }

set_option maxRecDepth 100000 in
set_option maxHeartbeats 4000000 in
theorem markWord_any (S : Nat → Prop) (v : Value) (x : Wd) (k0 : Nat) (w : World) (h : WdO w S v x) (h1 : 1 ≤ k0) (h2 : k0 + x.ps.length * 4 + x.ls.length * 2 ≤ 1099511627776) :
    Calls Try.prog 17 #[v, .int .i64 k0] w fun e w' => e = .returned (.int .i64 (k0 + x.ps.length * 4 + x.ls.length * 2 : Nat)) ∧ WdO w' S v (mkWd x k0) ∧ Upd S w w' := by
  obtain ⟨po, pc, lo, lc, rfl, a1, a2⟩ := h
  go_enter Try.func17, Try.ntmps17
  go_wp2_with fail
  generalize hW : World.alloc _ _ = W
  have hal : Below w.heap.size w W := by rw [← hW]; exact bal (Below.refl _ _) _
  have hbox : W.heap[w.heap.size]? = some (.cells (#[.int .i64 x.a0, .int .i64 x.a1, .int .i64 x.a2, .int .i64 x.a3, .int .i64 x.a4, .int .i64 x.a5, .int .i64 x.c0, .int .i64 x.c1, .int .i64 x.c2, .int .i64 x.c3, .int .i64 x.c4, .int .i64 x.c5, .int .i64 x.c6, .int .i64 x.c7, .int .i64 x.c8, .int .i64 x.c9, .int .i64 x.b0, .int .i64 x.b1, .int .i64 x.b2, .int .i64 x.b3, .int .i64 x.b4, .int .i64 x.b5, .int .i64 x.b6, .int .i64 x.b7, .slice po x.ps.length pc, .slice lo x.ls.length lc] : Array Value) 34 (0, 0)) := by rw [← hW]; exact heap_alloc_new w _
  clear hW
  have k1 := (a1.keepB hal).typed
  have k2 := (a2.keepB hal).typed
  refine (markBlkPieceS_any _ _ _ _ k0 _ k1 h1 (by omega)).mono ?_
  rintro e w1 ⟨rfl, r1, u1⟩
  have hbox1 := u1.keeps hbox (by rintro ⟨_, c, hc⟩; rw [hbox] at hc; simp at hc)
  have hc1 := boxAt hbox1
  have q2 := ((k2.keep u1 (fun k => typed_apart (by decide) k)).mono (fun _ _ h => h.1)).typed
  have q1 := (r1.mono (T := S) (fun _ _ h => h.1)).typed
  clear hbox hbox1
  go_wp2_with fail
  refine (markBlkLastS_any _ _ _ _ (k0 + x.ps.length * 4) _ q2 (by omega) (by omega)).mono ?_
  rintro e w2 ⟨rfl, r2, u2⟩
  go_wp2
  go_ret
  refine ⟨rfl, ⟨po, pc, lo, lc, ?_, ?_, ?_⟩, ?_⟩
  · simp only [mkWd, mkP_len, mkL_len]
  · simp only [mkWd, mkP_len]
    exact (q1.keep u2 (fun k => typed_apart (by decide) k)).mono (fun _ _ h => h.1)
  · simp only [mkWd, mkL_len]
    exact r2.mono (fun _ _ h => h.1)
  · exact ((Upd.ofBelow hal).trans (u1.mono fun _ h => h.1)).trans (u2.mono fun _ h => h.1)

set_option maxRecDepth 100000 in
set_option maxHeartbeats 4000000 in
theorem heldWord_ok (v : Value) (x : Wd) (k0 : Nat) (w : World) (h : WdR w v (mkWd x k0)) (h1 : 1 ≤ k0) (h2 : k0 + x.ps.length * 4 + x.ls.length * 2 ≤ 1099511627776) :
    Calls Try.prog 23 #[v, .int .i64 k0] w fun e w' => e = .returned (.int .i64 (k0 + x.ps.length * 4 + x.ls.length * 2 : Nat)) ∧ Below w.heap.size w w' := by
  obtain ⟨po, pc, lo, lc, rfl, a1, a2⟩ := h
  simp only [mkWd, mkP_len, mkL_len] at a1 a2 ⊢
  go_enter Try.func23, Try.ntmps23
  go_wp2_with fail
  generalize hW : World.alloc _ _ = W
  have hal : Below w.heap.size w W := by rw [← hW]; exact bal (Below.refl _ _) _
  have hbox : W.heap[w.heap.size]? = some (.cells (#[.int .i64 x.a0, .int .i64 x.a1, .int .i64 x.a2, .int .i64 x.a3, .int .i64 x.a4, .int .i64 x.a5, .int .i64 x.c0, .int .i64 x.c1, .int .i64 x.c2, .int .i64 x.c3, .int .i64 x.c4, .int .i64 x.c5, .int .i64 x.c6, .int .i64 x.c7, .int .i64 x.c8, .int .i64 x.c9, .int .i64 x.b0, .int .i64 x.b1, .int .i64 x.b2, .int .i64 x.b3, .int .i64 x.b4, .int .i64 x.b5, .int .i64 x.b6, .int .i64 x.b7, .slice po x.ps.length pc, .slice lo x.ls.length lc] : Array Value) 34 (0, 0)) := by rw [← hW]; exact heap_alloc_new w _
  clear hW
  refine (heldBlkPieceS_ok _ _ k0 _ (a1.keep hal) h1 (by omega)).mono ?_
  rintro e w1 ⟨rfl, b1⟩
  have hc1 := boxAt (bKeeps b1 hbox)
  have c1 := bAll hal b1
  obtain ⟨m, hm⟩ : ∃ m, m = k0 + x.ps.length * 4 := ⟨_, rfl⟩
  rw [← hm] at a2 h2 ⊢
  have hm2 : (m : Int) ≤ 1099511627776 := by omega
  have Hm := hide hm
  clear hm hbox
  go_wp2_with fail
  refine (heldBlkLastS_ok _ _ m _ (a2.keep c1) (by have := Hm.out; omega) (by omega)).mono ?_
  rintro e w2 ⟨rfl, b2⟩
  obtain ⟨q, hq⟩ : ∃ q, q = m + x.ls.length * 2 := ⟨_, rfl⟩
  rw [← hq] at h2 ⊢
  have Hq := hide hq
  clear hq
  go_wp2
  go_ret
  exact ⟨by rw [← Hm.out, ← Hq.out]; rfl, bAll c1 b2⟩

end Go.Proofs.Ytafojnjpllpjjaa

/- What the laws of words have in common: contracts; no statement of the seat is proved here. -/
namespace Go.Proofs.Ytafojnjpllpjjaa
open Go.RowKit

theorem WdR.agg {w : World} {v : Value} {x : Wd} (h : WdR w v x) : ∃ cs : Array Value, v = .agg cs ∧ cs.size = 26 ∧ cs.all (·.oneCell') = true := by
  obtain ⟨po, pc, lo, lc, rfl, -, -⟩ := h
  exact ⟨_, rfl, rfl, all_of_list (List.all_eq_true.2 (wd_one x po lo _ pc _ lc))⟩
theorem WdR.lens {w : World} {v : Value} {x : Wd} (h : WdR w v x) : x.ps.length ≤ 9223372036854775807 ∧ x.ls.length ≤ 9223372036854775807 := by
  obtain ⟨po, pc, lo, lc, -, a1, a2⟩ := h
  exact ⟨by obtain ⟨_, _, _, h, _⟩ := a1; exact h, by obtain ⟨_, _, _, h, _⟩ := a2; exact h⟩

theorem szWord_at (v : Value) (x : Wd) (w u : World) (h : WdR u v x) :
    Calls Try.prog 9 #[v, .int .i64 1048576] w fun e w' => ∃ r, e = .returned (.int .i64 r) ∧ (r < 0 ∨ (0 ≤ r ∧ x.ps.length ≤ 1048576 ∧ x.ls.length ≤ 1048576)) ∧ Below w.heap.size w w' := by
  obtain ⟨hp, hl⟩ := h.lens
  obtain ⟨po, pc, lo, lc, rfl, -, -⟩ := h
  exact szWord_any x po lo _ pc _ lc w hp hl

/-- A whole block is loaded, in a region that draws its order. -/
theorem yields_row {P : Program} {ops : Array Oper} {S : World → Prop} {op : Oper} {a : Act} (hw : Region.wanted op (yielded ops a.tmps) = true) (ty : TypeId) (x : Operand) (ho : op.op = .load ty x)
    (g : Nat) (hx : a.eval x = .pointer (some ⟨g, 0, none⟩)) (t : TypeId) (cs : Array Value) (d : TypeDesc) (hS : ∀ w, S w → w.heap[g]? = some (.cells cs t (0, 0)))
    (hu : P.underlying ty = some d) (hd : (match d with | .struct _ | .array _ _ => true | _ => false) = true) (hi : (P.info? ty).map (·.size) = some cs.size) : YieldsIf P ops S op (.agg cs) a :=
  .inl ⟨hw, fun w hw' => by
    unfold execOp
    simp only [ho, hx, Instr.loadAt, Instr.sureAddr, Sem.run_bind, Sem.run_pure, Result.andThen_ok, run_loadVar_row w g t ty cs (0, 0) d (hS w hw') hu hd hi]⟩

theorem infoLw : (Try.prog.info? 27).map (·.size) = some 26 := by kernel_rfl
theorem infoAt {t : TypeId} {n m : Nat} (h : (Try.prog.info? t).map (·.size) = some n) (hm : m = n) : (Try.prog.info? t).map (·.size) = some m := by rw [hm]; exact h
theorem zero26 : (#[Value.int .i64 0, .int .i64 0, .int .i64 0, .int .i64 0, .int .i64 0, .int .i64 0, .int .i64 0, .int .i64 0, .int .i64 0, .int .i64 0, .int .i64 0, .int .i64 0, .int .i64 0, .int .i64 0, .int .i64 0, .int .i64 0, .int .i64 0, .int .i64 0, .int .i64 0, .int .i64 0, .int .i64 0, .int .i64 0, .int .i64 0, .int .i64 0, .slice none 0 0, .slice none 0 0] : Array Value).size = 26 := rfl

end Go.Proofs.Ytafojnjpllpjjaa

/- The bytes of numbers, as the specification writes them: a contract; no statement of the seat is proved here. -/
namespace Go.Proofs.Ytafojnjpllpjjaa
open Go.RowKit

def byts (bs : List Nat) : List Value := bs.map fun b : Nat => Value.int .u8 (b : Int)
theorem byts_len (bs : List Nat) : (byts bs).length = bs.length := by simp [byts]
theorem byts_append (cs bs : List Nat) : byts (cs ++ bs) = byts cs ++ byts bs := by simp [byts]
theorem infoU8 : (Try.prog.info? 5).map (fun i => (i.zero, i.size, i.bytes)) = some (some (.int .u8 0), 1, 1) := by kernel_rfl
theorem new_byte (w : World) (a : Int) (e : TypeId) : ∀ j u, [Value.int .u8 a][j]? = some u → (w.alloc (.cells #[.int .u8 a] e)).cell? ((⟨w.heap.size, 0, none⟩ : Addr).add j) = some u := by
  intro j u h
  cases j with
  | zero =>
    rw [Addr.add_lit, cell_of_row _ _ _ _ _ (0, 0) (al1_0 w _)]
    simpa using h
  | succ j => simp at h
theorem byte_one (a : Int) : ∀ u ∈ [Value.int .u8 a], u.oneCell' = true := by
  intro u hu
  rw [List.mem_singleton] at hu
  subst hu
  rfl
theorem take_enc (xs : List Int) (k : Nat) (a : Int) (h : xs[k]? = some a) : enc (xs.take (k + 1)) = enc (xs.take k) ++ encI a := by
  rw [List.take_add_one, h]
  simp [enc]

set_option maxRecDepth 100000 in
set_option maxHeartbeats 4000000 in
theorem l11Byte_any (v : Value) (n : Nat) (xs : List Int) (w : World) (hr : RowR w 1 v n (xs.map (Value.int .i64))) (hn : n ≤ 1000) (hb : ∀ a ∈ xs, -1 ≤ a ∧ a ≤ 99999) :
    Calls Try.prog 43 #[v] w fun e w' => ∃ vo m co, e = .returned (.slice vo m co) ∧ RowA w' w.heap.size 5 1 (.slice vo m co) m (byts (enc xs)) ∧ m = (enc xs).length ∧ Below w.heap.size w w' := by
  obtain ⟨so, sc, rfl, hn', hl, hr⟩ := hr
  have Hl := hide (show xs.length = n by simpa using hl)
  have HB := hide hb
  have HR := hide hr
  obtain ⟨i1, gi, gz0, gz1, gz2⟩ := info_parts infoU8
  clear hl hb hr hn'
  go_enter Try.func43, Try.ntmps43
  go_wp2
  go_loopw [3, 4] (fun ov i wr => ∃ (k m : Nat) (ao : Option Addr) (ca : Nat), k ≤ n ∧ i = .int .i64 k ∧ ov = .slice ao m ca ∧ m = (enc (xs.take k)).length ∧ RowA wr w.heap.size 5 1 (.slice ao m ca) m (byts (enc (xs.take k))) ∧ Below w.heap.size w wr) (fun _ i _ => n - (intOf i).toNat)
  case atStart => exact ⟨0, 0, _, 0, Nat.zero_le _, rfl, rfl, by simp [enc], .inr ⟨rfl, by simp [enc, byts], _, rfl⟩, by first | exact Below.refl _ _ | exact (Below.refl _ _).alloc (Nat.le_refl _) _⟩
  case round =>
    obtain ⟨k, m, ao, ca, hk, rfl, rfl, hm, hrow, hbel⟩ := hrel
    by_cases hlt : k < n
    · obtain ⟨b1, o1, rfl, hc1⟩ := HR.out (by omega)
      obtain ⟨a, ha⟩ := getAt xs k (by have := Hl.out; omega)
      have f0 : wr.cell? ⟨b1, o1 + k, none⟩ = some (.int .i64 a) := by
        have g := hc1 k (.int .i64 a) (by simp [ha])
        exact (hbel.cell (p := ⟨b1, o1 + k, none⟩) (World.block_lt_of_cell? w _ g)).trans g
      obtain ⟨h1, h2⟩ := HB.out a (List.mem_of_getElem? ha)
      obtain ⟨q, hq⟩ : ∃ q : Nat, a = (q : Int) - 1 := ⟨(a + 1).toNat, by omega⟩
      have hq2 : q ≤ 100000 := by omega
      have hi : (k : Int) < (n : Int) := by omega
      have HT := hide (take_enc xs k a ha)
      have HE := hide (show encI a = encN q by rw [hq]; unfold encI; congr 1; omega)
      have HL3 := hide (enc_len (xs.take k) (fun b hb => (HB.out b (List.mem_of_mem_take hb)).2)).2
      have HM := hide hm
      have HQ := hide hq
      have hq3 : (q : Int) - 1 + 1 = (q : Int) := by omega
      rw [hq] at f0
      clear ha hc1 h1 h2 hm hq
      go_wp2
      go_loopw [3, 5] (fun ov rv wr => ∃ (r m : Nat) (pre : List Nat) (ao : Option Addr) (ca : Nat), r ≤ 100000 ∧ rv = .int .i64 r ∧ ov = .slice ao m ca ∧ m = pre.length ∧ pre ++ encN r = enc (xs.take k) ++ encN q ∧ RowA wr w.heap.size 5 1 (.slice ao m ca) m (byts pre) ∧ Below w.heap.size w wr) (fun _ rv _ => (intOf rv).toNat)
      case atStart => exact ⟨q, m, enc (xs.take k), ao, ca, hq2, by first | rfl | (congr 1), rfl, HM.out, rfl, hrow, hbel⟩
      case round =>
        obtain ⟨r, m', pre, ao', ca', hr2, rfl, rfl, hm', hpre, hrow', hbel'⟩ := hrel
        have hlen : pre.length + (encN r).length ≤ 3 * k + 3 := by
          have h1 := congrArg List.length hpre
          rw [List.length_append, List.length_append] at h1
          have h2 := HL3.out
          rw [List.length_take] at h2
          have h3 := (encN_len q hq2).2
          omega
        have hz := hbel'.size
        have HP := hide hpre
        have HM' := hide hm'
        have hmb : m' ≤ 3003 := by omega
        clear hpre hm' hlen hrow hbel f0
        by_cases hbig : 127 < r
        · have hbig' : (127 : Int) < (r : Int) := by omega
          have al3 : Below wr.heap.size wr (wr.alloc (.cells #[.int .u8 (128 + (r : Int) % 128)] 5)) := (Below.refl _ _).alloc (Nat.le_refl _) _
          have row3 := hrow'.keepB al3
          have N3 := hide (new_byte wr (128 + (r : Int) % 128) 5)
          go_wp2_with (at_builtin; refine wpList_appendA _ rfl _ _ 38 rfl w.heap.size 5 i1 (.int .u8 0) 1 1 Try.underlying38 gi gz0 gz1 gz2 rfl (by decide) _ m' (byts pre) rfl row3 ⟨wr.heap.size, 0, none⟩ 1 1 [.int .u8 (128 + (r : Int) % 128)] rfl rfl N3.out (byte_one _) (by decide) ?q63 ?qby ?qbase ?_)
          case q63 => unfold maxLen; omega
          case qby => omega
          case qbase => first | omega | (simp; omega)
          intro v4 w4 hown u4
          obtain ⟨mo, cm, rfl⟩ := (Row.ofOwns hown (by omega)).shape
          go_wp2
          go_roundw
          case rel =>
            refine ⟨r / 128, m' + 1, pre ++ [128 + r % 128], mo, cm, by omega, by first | rfl | go_num | (congr 1; omega), rfl, by rw [HM'.out]; simp, ?_, ?_, ?_⟩
            · rw [List.append_assoc, List.singleton_append, ← encN_ge (by omega)]
              exact HP.out
            · rw [byts_append]
              have : byts [128 + r % 128] = [.int .u8 (128 + (r : Int) % 128)] := by simp [byts]
              rw [this]
              exact .inl hown
            · exact (bAll hbel' al3).trans (u4.below (by simp; omega) (fun k h => h.1))
          case measure => simp [intOf]; omega
        · have hbig' : ¬ (127 : Int) < (r : Int) := by omega
          have al3 : Below wr.heap.size wr (wr.alloc (.cells #[.int .u8 (r : Int)] 5)) := (Below.refl _ _).alloc (Nat.le_refl _) _
          have row3 := hrow'.keepB al3
          have N3 := hide (new_byte wr (r : Int) 5)
          have hr256 : (r : Int) < 256 := by omega
          go_wp2_with (at_builtin; refine wpList_appendA _ rfl _ _ 38 rfl w.heap.size 5 i1 (.int .u8 0) 1 1 Try.underlying38 gi gz0 gz1 gz2 rfl (by decide) _ m' (byts pre) rfl row3 ⟨wr.heap.size, 0, none⟩ 1 1 [.int .u8 (r : Int)] rfl rfl N3.out (byte_one _) (by decide) ?q63 ?qby ?qbase ?_)
          case q63 => unfold maxLen; omega
          case qby => omega
          case qbase => first | omega | (simp; omega)
          intro v4 w4 hown u4
          obtain ⟨mo, cm, rfl⟩ := (Row.ofOwns hown (by omega)).shape
          go_wp2
          go_roundw
          case rel =>
            have e1 : enc (xs.take (k + 1)) = pre ++ [r] := by rw [HT.out, HE.out, ← HP.out, encN_lt (by omega)]
            refine ⟨k + 1, m' + 1, mo, cm, by omega, by go_num, rfl, by rw [e1, HM'.out]; simp, ?_, ?_⟩
            · rw [e1, byts_append]
              exact .inl hown
            · exact (bAll hbel' al3).trans (u4.below (by simp; omega) (fun k h => h.1))
          case measure => simp [intOf]; omega
    · have hge : ¬ (k : Int) < (n : Int) := by omega
      have hm2 := hm
      have HM := hide hm
      have e1 : xs.take k = xs := List.take_of_length_le (by have := Hl.out; omega)
      rw [e1] at hrow hm2
      have HMM := hide hm2
      clear hm hm2 e1
      go_wp2
      go_ret
      exact ⟨_, _, _, rfl, hrow, HMM.out, hbel⟩

end Go.Proofs.Ytafojnjpllpjjaa

/- What SecPut of the specification does: a contract; no statement of the seat is proved here. -/
namespace Go.Proofs.Ytafojnjpllpjjaa
open Go.RowKit

/-- Whether a write may wait. -/
def putB (kept : List ByteArray) (wait : List (Int × ByteArray)) (a : Int) (s : ByteArray) : Bool := okB kept wait && (writeOkB kept.length (a, s) && decide (wait.length < 600))
/-- What is kept, and what waits, behind a write. -/
def putK (kept : List ByteArray) (wait : List (Int × ByteArray)) : List ByteArray := if okB kept wait = true then kept else []
def putW (kept : List ByteArray) (wait : List (Int × ByteArray)) (a : Int) (s : ByteArray) : List (Int × ByteArray) :=
  if okB kept wait = true then (if putB kept wait a s = true then wait ++ [(a, s)] else wait) else []

theorem wcells_snoc (xs : List (Int × ByteArray)) (a : Int) (s : ByteArray) : wcells (xs ++ [(a, s)]) = wcells xs ++ [.int .i64 a, .string s] := by simp [wcells, wcell]

theorem new_cells (w : World) (a : Int) (s : ByteArray) (e : TypeId) : ∀ j u, [Value.int .i64 a, .string s][j]? = some u → (w.alloc (.cells #[.int .i64 a, .string s] e)).cell? ((⟨w.heap.size, 0, none⟩ : Addr).add j) = some u := by
  intro j u h
  rw [Addr.add_lit, Nat.zero_add, cell_of_row _ _ j _ _ (0, 0) (al1_0 w _)]
  simpa using h

theorem new_one (a : Int) (s : ByteArray) : ∀ u ∈ [Value.int .i64 a, .string s], u.oneCell' = true := by
  intro u hu
  simp only [List.mem_cons, List.not_mem_nil, or_false] at hu
  rcases hu with rfl | rfl <;> rfl

theorem typed_box {w W : World} {S : Nat → Prop} {e t : TypeId} {B : Nat} {xs : Array Value} (h : w.heap[B]? = some (.cells xs t (0, 0))) (he : t ≠ e) (hW : W.heap[B]? = w.heap[B]?) : ¬ typed W S e B := by
  rintro ⟨_, c, hc⟩
  rw [hW, h] at hc
  simp at hc
  exact he hc.2

end Go.Proofs.Ytafojnjpllpjjaa

/- All numbers of a word, as the specification lists them: a contract; no statement of the seat is proved here. -/
namespace Go.Proofs.Ytafojnjpllpjjaa
open Go.RowKit

theorem infoI64 : (Try.prog.info? 3).map (fun i => (i.zero, i.size, i.bytes)) = some (some (.int .i64 0), 1, 8) := by kernel_rfl
def intsV (xs : List Int) : List Value := xs.map (Value.int .i64)
theorem intsV_one (xs : List Int) : ∀ u ∈ intsV xs, u.oneCell' = true := by
  intro u hu
  obtain ⟨a, _, rfl⟩ := List.mem_map.1 hu
  rfl
theorem intsV_append (xs ys : List Int) : intsV (xs ++ ys) = intsV xs ++ intsV ys := by simp [intsV]
theorem new_ints (w : World) (xs : List Int) (e : TypeId) : ∀ j u, (intsV xs)[j]? = some u → (w.alloc (.cells (intsV xs).toArray e)).cell? ((⟨w.heap.size, 0, none⟩ : Addr).add j) = some u := by
  intro j u h
  rw [Addr.add_lit, cell_of_row _ _ _ _ _ (0, 0) (al1_0 w _)]
  simpa using h

theorem RowA.base {w : World} {b b' : Nat} {e : TypeId} {size : Nat} {v : Value} {n : Nat} {cs : List Value} (h : RowA w b e size v n cs) (hb : b' ≤ b) : RowA w b' e size v n cs := by
  rcases h with h | h
  · exact .inl ⟨h.1, h.2.imp id (fun ⟨g, cap, cur, e, hg, rest⟩ => ⟨g, cap, cur, e, Nat.le_trans hb hg, rest⟩)⟩
  · exact .inr h
theorem updCell {S : Nat → Prop} {w w' : World} {b o : Nat} {v : Value} (u : Upd S w w') (h : w.cell? ⟨b, o, none⟩ = some v) (hS : ¬ S b) : w'.cell? ⟨b, o, none⟩ = some v :=
  (World.cell?_of_block (a := ⟨b, o, none⟩) (u.block b (World.block_lt_of_cell? w _ h) hS)).trans h

theorem wp_appendA {P : Program} {o : Oper} {a : Act} {w : World} {K : Act → World → Prop} {Q : Exit → Act → World → Prop}
    (s x : Operand) (t : TypeId) (ho : o.op = Op.call { callee := Callee.builtin Builtin.append, args := #[s, x], argTypes := #[t, t] })
    (base : Nat) (e : TypeId) (i : TypeInfo) (z : Value) (size bytes : Nat) (ht : P.underlying t = some (.slice e)) (hi : P.info? e = some i) (hz : i.zero = some z)
    (hsize : i.size = size) (hby : i.bytes = bytes) (hzs : z.cells.size = size) (hsz : 0 < size)
    (v : Value) (n : Nat) (xs : List Value) (hs : a.eval s = v) (hown : RowA w base e size v n xs)
    (ad : Addr) (m c : Nat) (news : List Value) (hx : a.eval x = .slice (some ad) m c) (hl : news.length = m * size) (hnews : ∀ j u, news[j]? = some u → w.cell? (ad.add j) = some u) (h1 : ∀ u ∈ news, u.oneCell' = true)
    (hm : 0 < m) (h63 : n + m ≤ maxLen) (hbytes : (n + m) * bytes ≤ 140737488355328) (hbase : base ≤ w.heap.size)
    (hK : ∀ v' w', w'.ownsRow base e size v' (n + m) (xs ++ news) → Upd (typed w (fun k => base ≤ k) e) w w' → K (a.put o.dst v') w') : Oper.wp P o a w K Q := by
  obtain ⟨v', w', hrun, r1, r2⟩ := run_appendA (P := P) (w := w) base t o.type e i z size bytes ht hi hz hsize hby hzs hsz v n xs hown ad m c news hl hnews h1 hm h63 hbytes hbase
  unfold Oper.wp
  simp [execOp, ho, resolve, invoke, builtin, hs, hx, hrun, Result.andThen]
  exact hK v' w' r1 r2

theorem l11Nums_own (x : Wd) (po lo : Option Addr) (pn pc ln lc : Nat) (w : World) :
    Calls Try.prog 29 #[ .agg #[.int .i64 x.a0, .int .i64 x.a1, .int .i64 x.a2, .int .i64 x.a3, .int .i64 x.a4, .int .i64 x.a5, .int .i64 x.c0, .int .i64 x.c1, .int .i64 x.c2, .int .i64 x.c3, .int .i64 x.c4, .int .i64 x.c5, .int .i64 x.c6, .int .i64 x.c7, .int .i64 x.c8, .int .i64 x.c9, .int .i64 x.b0, .int .i64 x.b1, .int .i64 x.b2, .int .i64 x.b3, .int .i64 x.b4, .int .i64 x.b5, .int .i64 x.b6, .int .i64 x.b7, .slice po pn pc, .slice lo ln lc] ] w fun e w' => ∃ so, e = .returned (.slice so 24 24) ∧ w'.ownsRow w.heap.size 3 1 (.slice so 24 24) 24 (intsV x.nums) ∧ Below w.heap.size w w' := by
  refine (l11Nums_any x po lo pn pc ln lc w).mono ?_
  rintro e w' ⟨rfl, rfl⟩
  refine ⟨_, rfl, ?_, bal (bal (bal (Below.refl _ _) _) _) _⟩
  have := World.ownsRow_lit (base := w.heap.size) (e := 3) (size := 1) ((w.alloc (.cells (#[.int .i64 x.a0, .int .i64 x.a1, .int .i64 x.a2, .int .i64 x.a3, .int .i64 x.a4, .int .i64 x.a5, .int .i64 x.c0, .int .i64 x.c1, .int .i64 x.c2, .int .i64 x.c3, .int .i64 x.c4, .int .i64 x.c5, .int .i64 x.c6, .int .i64 x.c7, .int .i64 x.c8, .int .i64 x.c9, .int .i64 x.b0, .int .i64 x.b1, .int .i64 x.b2, .int .i64 x.b3, .int .i64 x.b4, .int .i64 x.b5, .int .i64 x.b6, .int .i64 x.b7, .slice po pn pc, .slice lo ln lc] : Array Value) 34)).alloc (.cells #[.int .i64 x.c0, .int .i64 x.c1, .int .i64 x.c2, .int .i64 x.c3, .int .i64 x.c4, .int .i64 x.c5, .int .i64 x.c6, .int .i64 x.c7, .int .i64 x.c8, .int .i64 x.c9] 30)) (x.nums.map (Value.int .i64)).toArray 24 (by simp; omega) (by unfold maxLen; omega) rfl
  simp only [World.size_alloc] at this
  exact this

set_option maxRecDepth 100000 in
set_option maxHeartbeats 8000000 in
theorem l11All_any (v : Value) (x : Wd) (w : World) (h : WdR w v x) (hp : x.ps.length ≤ 60) (hl : x.ls.length ≤ 4) :
    Calls Try.prog 44 #[v] w fun e w' => ∃ so n sc, e = .returned (.slice so n sc) ∧ n = (allW x).length ∧ RowR w' 1 (.slice so n sc) n ((allW x).map (Value.int .i64)) ∧ Below w.heap.size w w' := by
  obtain ⟨po, pc, lo, lc, rfl, a1, a2⟩ := h
  obtain ⟨i1, gi, gz0, gz1, gz2⟩ := info_parts infoI64
  have A1 := hide a1
  have A2 := hide a2
  clear a1 a2
  go_enter Try.func44, Try.ntmps44
  go_wp2
  generalize hW : World.alloc _ _ = W
  have hal : Below w.heap.size w W := by rw [← hW]; exact bal (Below.refl _ _) _
  have B0 : Hid (W.heap[w.heap.size]? = some (.cells (#[.int .i64 x.a0, .int .i64 x.a1, .int .i64 x.a2, .int .i64 x.a3, .int .i64 x.a4, .int .i64 x.a5, .int .i64 x.c0, .int .i64 x.c1, .int .i64 x.c2, .int .i64 x.c3, .int .i64 x.c4, .int .i64 x.c5, .int .i64 x.c6, .int .i64 x.c7, .int .i64 x.c8, .int .i64 x.c9, .int .i64 x.b0, .int .i64 x.b1, .int .i64 x.b2, .int .i64 x.b3, .int .i64 x.b4, .int .i64 x.b5, .int .i64 x.b6, .int .i64 x.b7, .slice po x.ps.length pc, .slice lo x.ls.length lc] : Array Value) 34 (0, 0))) := by rw [← hW]; exact heap_alloc_new w _
  clear hW
  have z0 := hal.size
  refine wp_region_noPanic ?_
  refine wp_region_held_drew (S := (fun w' => w'.heap[w.heap.size]? = some (.cells (#[.int .i64 x.a0, .int .i64 x.a1, .int .i64 x.a2, .int .i64 x.a3, .int .i64 x.a4, .int .i64 x.a5, .int .i64 x.c0, .int .i64 x.c1, .int .i64 x.c2, .int .i64 x.c3, .int .i64 x.c4, .int .i64 x.c5, .int .i64 x.c6, .int .i64 x.c7, .int .i64 x.c8, .int .i64 x.c9, .int .i64 x.b0, .int .i64 x.b1, .int .i64 x.b2, .int .i64 x.b3, .int .i64 x.b4, .int .i64 x.b5, .int .i64 x.b6, .int .i64 x.b7, .slice po x.ps.length pc, .slice lo x.ls.length lc] : Array Value) 34 (0, 0)) ∧ w'.cell? ⟨w.heap.size, 24, none⟩ = some (.slice po x.ps.length pc))) (by kernel_rfl) ?_ (fun hHeld => ?_)
  · exact ⟨B0.out, boxAt B0.out 24⟩
  refine wpAnyH_take (i := 0) (v := .agg (#[.int .i64 x.a0, .int .i64 x.a1, .int .i64 x.a2, .int .i64 x.a3, .int .i64 x.a4, .int .i64 x.a5, .int .i64 x.c0, .int .i64 x.c1, .int .i64 x.c2, .int .i64 x.c3, .int .i64 x.c4, .int .i64 x.c5, .int .i64 x.c6, .int .i64 x.c7, .int .i64 x.c8, .int .i64 x.c9, .int .i64 x.b0, .int .i64 x.b1, .int .i64 x.b2, .int .i64 x.b3, .int .i64 x.b4, .int .i64 x.b5, .int .i64 x.b6, .int .i64 x.b7, .slice po x.ps.length pc, .slice lo x.ls.length lc] : Array Value)) rfl (by kernel_rfl) (by kernel_rfl) (by kernel_rfl) (fun _ _ _ h => h) (yields_row rfl 34 (.tmp 1) rfl (w.heap.size) rfl _ (#[.int .i64 x.a0, .int .i64 x.a1, .int .i64 x.a2, .int .i64 x.a3, .int .i64 x.a4, .int .i64 x.a5, .int .i64 x.c0, .int .i64 x.c1, .int .i64 x.c2, .int .i64 x.c3, .int .i64 x.c4, .int .i64 x.c5, .int .i64 x.c6, .int .i64 x.c7, .int .i64 x.c8, .int .i64 x.c9, .int .i64 x.b0, .int .i64 x.b1, .int .i64 x.b2, .int .i64 x.b3, .int .i64 x.b4, .int .i64 x.b5, .int .i64 x.b6, .int .i64 x.b7, .slice po x.ps.length pc, .slice lo x.ls.length lc] : Array Value) _ (fun _ h => h.1) Try.underlying34 rfl infoWd) (by assumption) ?_
  simp only [Act.put, List.getElem_toArray, List.getElem_cons_zero, List.setIfInBounds_toArray, List.set_cons_zero, List.set_cons_succ]
  refine wpAnyH_take (i := 2) (v := ?v1) rfl (by kernel_rfl) (by kernel_rfl) (by kernel_rfl) (fun _ _ _ h => h) (Or.inl ⟨by rfl, ?hy1⟩) (by assumption) ?rest1
  case hy1 => ((intro w hSw; (try dsimp only at hSw); (try simp only [List.getElem_toArray, List.getElem_cons_zero, List.getElem_cons_succ]); go_simp; first | done | (with_reducible rfl)))
  simp only [Act.put, List.getElem_toArray, List.getElem_cons_zero, List.getElem_cons_succ, List.setIfInBounds_toArray, List.set_cons_zero, List.set_cons_succ]
  refine wpAnyH_take (i := 3) (v := ?v2) rfl (by kernel_rfl) (by kernel_rfl) (by kernel_rfl) (fun _ _ _ h => h) (Or.inl ⟨by rfl, ?hy2⟩) (by assumption) ?rest2
  case hy2 => ((intro w hSw; (try dsimp only at hSw); (try simp only [List.getElem_toArray, List.getElem_cons_zero, List.getElem_cons_succ]); go_simp; first | done | (with_reducible rfl)))
  simp only [Act.put, List.getElem_toArray, List.getElem_cons_zero, List.getElem_cons_succ, List.setIfInBounds_toArray, List.set_cons_zero, List.set_cons_succ]
  refine wpAnyH_take (i := 4) (v := ?v3) rfl (by kernel_rfl) (by kernel_rfl) (by kernel_rfl) (fun _ _ _ h => h) (Or.inl ⟨by rfl, ?hy3⟩) (by assumption) ?rest3
  case hy3 => ((intro w hSw; (try dsimp only at hSw); (try simp only [List.getElem_toArray, List.getElem_cons_zero, List.getElem_cons_succ]); go_simp; first | done | (with_reducible rfl)))
  simp only [Act.put, List.getElem_toArray, List.getElem_cons_zero, List.getElem_cons_succ, List.setIfInBounds_toArray, List.set_cons_zero, List.set_cons_succ]
  refine wpAnyH_ready (rs := [1, 5]) (by kernel_rfl) (by simp) ?_
  refine AllReadyH.cons rfl (fun K hK => ?_) (AllReadyH.cons rfl (fun K hK => ?_) AllReadyH.nil)
  · go_simp
    go_at_call 29
    refine (l11Nums_own x _ _ _ _ _ _ _).mono ?_
    rintro e w1 ⟨so1, rfl, o1, b1⟩
    have b1' : Below W.heap.size W w1 := bUndrew b1
    have B1 := hide (bKeeps b1' B0.out)
    refine hK.out _ _ ⟨B1.out, boxAt B1.out 24⟩ (fun hHeld => ?_)
    clear hK K
    have al := bal (Below.refl w1.heap.size w1) (.cells (intsV [(x.ps.length : Int)]).toArray 3)
    have B2 := hide (bKeeps al B1.out)
    have row := (RowA.base (.inl o1) (b' := w.heap.size) (by show w.heap.size ≤ W.heap.size; omega)).keepB al
    have zz := b1'.size
    refine wpAnyH_ready (rs := [5]) (by kernel_rfl) (by simp) ?_
    refine AllReadyH.cons rfl (fun K hK => ?_) AllReadyH.nil
    go_simp
    (skip)
    refine hK.out _ _ ?_ (fun hHeld => ?_)
    · exact ⟨B2.out, boxAt B2.out 24⟩
    clear hK K
    refine wpAnyH_ready (rs := [6]) (by kernel_rfl) (by simp) ?_
    refine AllReadyH.cons rfl (fun K hK => ?_) AllReadyH.nil
    (refine wp_appendA _ _ 50 rfl w.heap.size 3 i1 (.int .i64 0) 1 8 Try.underlying50 gi gz0 gz1 gz2 rfl (by decide) _ 24 (intsV x.nums) rfl row ⟨w1.heap.size, 0, none⟩ 1 1 (intsV [(x.ps.length : Int)]) rfl rfl (new_ints w1 _ _) (intsV_one _) (by decide) (by unfold maxLen; omega) (by omega) (by simp; omega) ?_; intro v4 w4 hown u4; obtain ⟨mo, cm, rfl⟩ := (Row.ofOwns hown (by omega)).shape; have B4 := hide (u4.keeps B2.out (typed_box B2.out (by decide) rfl)))
    refine hK.out _ _ ?_ (fun hHeld => ?_)
    · exact ⟨B4.out, boxAt B4.out 24⟩
    clear hK K
    refine wpAnyH_take (i := 7) (v := ?v4) rfl (by kernel_rfl) (by kernel_rfl) (by kernel_rfl) (fun _ _ _ h => h) (Or.inl ⟨by rfl, ?hy4⟩) (by assumption) ?rest4
    case hy4 => ((intro w hSw; (try dsimp only at hSw); (try simp only [List.getElem_toArray, List.getElem_cons_zero, List.getElem_cons_succ]); go_simp; first | done | (with_reducible rfl)))
    simp only [Act.put, List.getElem_toArray, List.getElem_cons_zero, List.getElem_cons_succ, List.setIfInBounds_toArray, List.set_cons_zero, List.set_cons_succ]
    refine wpAnyH_done (by kernel_rfl) ?_ _
    refine NoPanic.normal ?_
    have c4 : Below w.heap.size w w4 := (bAll (bAll hal b1') al).trans (u4.below (by simp; omega) (fun k h => h.1))
    clear o1 b1 b1' B1 al B2 row zz u4 B0 z0 hal
    revert hown B4 c4
    generalize w4 = V
    intro hown B4 c4
    clear hHeld
    simp only [Nat.reduceAdd] at hown ⊢
    go_wp2
    go_loopw [3, 4] (fun ov i wr => ∃ (k n : Nat) (ao : Option Addr) (ca : Nat), k ≤ x.ps.length ∧ i = .int .i64 k ∧ ov = .slice ao n ca ∧ n = 25 + k * 4 ∧ RowA wr w.heap.size 3 1 (.slice ao n ca) n (intsV (x.nums ++ ((x.ps.length : Int) :: (x.ps.take k).flatMap pnum))) ∧ Below w.heap.size w wr ∧ wr.heap[w.heap.size]? = some (.cells (#[.int .i64 x.a0, .int .i64 x.a1, .int .i64 x.a2, .int .i64 x.a3, .int .i64 x.a4, .int .i64 x.a5, .int .i64 x.c0, .int .i64 x.c1, .int .i64 x.c2, .int .i64 x.c3, .int .i64 x.c4, .int .i64 x.c5, .int .i64 x.c6, .int .i64 x.c7, .int .i64 x.c8, .int .i64 x.c9, .int .i64 x.b0, .int .i64 x.b1, .int .i64 x.b2, .int .i64 x.b3, .int .i64 x.b4, .int .i64 x.b5, .int .i64 x.b6, .int .i64 x.b7, .slice po x.ps.length pc, .slice lo x.ls.length lc] : Array Value) 34 (0, 0))) (fun _ i _ => x.ps.length - (intOf i).toNat)
    case atStart =>
      refine ⟨0, 25, mo, cm, Nat.zero_le _, rfl, rfl, rfl, .inl ?_, c4, B4.out⟩
      rw [show intsV (x.nums ++ ((x.ps.length : Int) :: (x.ps.take 0).flatMap pnum)) = intsV x.nums ++ intsV [(x.ps.length : Int)] by simp [intsV]]
      exact hown
    case round =>
      clear hown c4 B4
      obtain ⟨k, n, ao, ca, hk, rfl, rfl, hn, hrow, hbel, hbx⟩ := hrel
      have HN := hide hn
      have hn2 : n ≤ 300 := by omega
      have hzw := hbel.size
      clear hn
      by_cases hlt : k < x.ps.length
      · obtain ⟨b1, o1, hpo, hc1⟩ : ∃ b1 o1, po = some ⟨b1, o1, none⟩ ∧ ∀ j u, (pcells x.ps)[j]? = some u → w.cell? ⟨b1, o1 + j, none⟩ = some u := by
          obtain ⟨ao', cap', e, _, _, hr⟩ := A1.out
          obtain ⟨b1, o1, e2, hc⟩ := hr (by omega)
          simp only [Value.slice.injEq, true_and] at e
          exact ⟨b1, o1, e.1.trans e2, hc⟩
        subst hpo
        obtain ⟨⟨d, b, p, t⟩, hx⟩ := getAt x.ps k hlt
        obtain ⟨f0, f1, f2, f3, l1⟩ := pc_cells hc1 hx hbel
        have d24 : wr.cell? ⟨w.heap.size, 24, none⟩ = some (.slice (some ⟨b1, o1, none⟩) x.ps.length pc) := boxAt hbx 24
        have Hbx := hide hbx
        have Hx := hide hx
        have hi : (k : Int) < (x.ps.length : Int) := by omega
        have al3 := bal (bal (Below.refl wr.heap.size wr) (.cells #[.int .i64 d, .int .i64 b, .int .i64 p, .int .i64 t] 83)) (.cells (intsV [d, b, p, t]).toArray 3)
        have row3 := hrow.keepB al3
        have N3 := new_ints (wr.alloc (.cells #[.int .i64 d, .int .i64 b, .int .i64 p, .int .i64 t] 83)) [d, b, p, t] 3
        simp only [World.size_alloc] at N3
        have HN3 := hide N3
        clear hc1 hx hbx N3
        go_wp2_with (at_builtin; refine wpList_appendA _ rfl _ _ 50 rfl w.heap.size 3 i1 (.int .i64 0) 1 8 Try.underlying50 gi gz0 gz1 gz2 rfl (by decide) _ n (intsV (x.nums ++ ((x.ps.length : Int) :: (x.ps.take k).flatMap pnum))) rfl row3 ⟨wr.heap.size + 1, 0, none⟩ 4 4 (intsV [d, b, p, t]) rfl rfl HN3.out (intsV_one _) (by decide) ?q63 ?qby ?qbase ?_)
        case q63 => unfold maxLen; omega
        case qby => omega
        case qbase => first | omega | (simp; omega)
        intro v4 w4 hown u4
        obtain ⟨mo', cm', rfl⟩ := (Row.ofOwns hown (by omega)).shape
        go_wp2
        have Hb2 := bKeeps al3 Hbx.out
        go_roundw
        case rel =>
          refine ⟨k + 1, n + 4, mo', cm', by omega, by go_num, rfl, by rw [HN.out]; omega, .inl ?_, (bAll hbel al3).trans (u4.below (by first | omega | (simp; omega)) (fun k h => h.1)), u4.keeps Hb2 (typed_box Hb2 (by decide) rfl)⟩
          rw [show x.ps.take (k + 1) = x.ps.take k ++ [(d, b, p, t)] by rw [List.take_add_one, Hx.out]; rfl, List.flatMap_append, ← List.cons_append, ← List.append_assoc, intsV_append]
          exact hown
        case measure => simp [intOf]; omega
      · obtain rfl : k = x.ps.length := by omega
        rw [List.take_length] at hrow
        have hge : ¬ ((x.ps.length : Nat) : Int) < (x.ps.length : Int) := by omega
        have d24 : wr.cell? ⟨w.heap.size, 24, none⟩ = some (.slice po x.ps.length pc) := boxAt hbx 24
        have d25 : wr.cell? ⟨w.heap.size, 25, none⟩ = some (.slice lo x.ls.length lc) := boxAt hbx 25
        have al3 := bal (Below.refl wr.heap.size wr) (.cells (intsV [(x.ls.length : Int)]).toArray 3)
        have row3 := hrow.keepB al3
        have HN3 := hide (new_ints wr [(x.ls.length : Int)] 3)
        have Hb2 := hide (bKeeps al3 hbx)
        clear hbx hrow
        go_wp2_with (at_builtin; refine wpList_appendA _ rfl _ _ 50 rfl w.heap.size 3 i1 (.int .i64 0) 1 8 Try.underlying50 gi gz0 gz1 gz2 rfl (by decide) _ n (intsV (x.nums ++ ((x.ps.length : Int) :: x.ps.flatMap pnum))) rfl row3 ⟨wr.heap.size, 0, none⟩ 1 1 (intsV [(x.ls.length : Int)]) rfl rfl HN3.out (intsV_one _) (by decide) ?q63 ?qby ?qbase ?_)
        case q63 => unfold maxLen; omega
        case qby => omega
        case qbase => first | omega | (simp; omega)
        intro v4 w4 hown u4
        obtain ⟨mo', cm', rfl⟩ := (Row.ofOwns hown (by omega)).shape
        have c5 := (bAll hbel al3).trans (u4.below (by first | omega | (simp; omega)) (fun k h => h.1))
        have B5 := hide (u4.keeps Hb2.out (typed_box Hb2.out (by decide) rfl))
        clear d24 d25 al3 row3 HN3 Hb2 hbel u4 hzw
        go_wp2
        go_loopw [3, 6] (fun ov i wr => ∃ (k m : Nat) (ao : Option Addr) (ca : Nat), k ≤ x.ls.length ∧ i = .int .i64 k ∧ ov = .slice ao m ca ∧ m = n + 1 + k * 2 ∧ RowA wr w.heap.size 3 1 (.slice ao m ca) m (intsV (x.nums ++ ((x.ps.length : Int) :: x.ps.flatMap pnum) ++ ((x.ls.length : Int) :: (x.ls.take k).flatMap lnum))) ∧ Below w.heap.size w wr ∧ wr.heap[w.heap.size]? = some (.cells (#[.int .i64 x.a0, .int .i64 x.a1, .int .i64 x.a2, .int .i64 x.a3, .int .i64 x.a4, .int .i64 x.a5, .int .i64 x.c0, .int .i64 x.c1, .int .i64 x.c2, .int .i64 x.c3, .int .i64 x.c4, .int .i64 x.c5, .int .i64 x.c6, .int .i64 x.c7, .int .i64 x.c8, .int .i64 x.c9, .int .i64 x.b0, .int .i64 x.b1, .int .i64 x.b2, .int .i64 x.b3, .int .i64 x.b4, .int .i64 x.b5, .int .i64 x.b6, .int .i64 x.b7, .slice po x.ps.length pc, .slice lo x.ls.length lc] : Array Value) 34 (0, 0))) (fun _ i _ => x.ls.length - (intOf i).toNat)
        case atStart =>
          refine ⟨0, n + 1, mo', cm', Nat.zero_le _, rfl, rfl, rfl, .inl ?_, c5, B5.out⟩
          rw [intsV_append]
          exact hown
        case round =>
          clear hown c5 B5
          obtain ⟨k, m, ao, ca, hk, rfl, rfl, hm, hrow, hbel, hbx⟩ := hrel
          have HM := hide hm
          have hm2 : m ≤ 320 := by omega
          have hzw := hbel.size
          clear hm
          by_cases hlt : k < x.ls.length
          · obtain ⟨b1, o1, hpo, hc1⟩ : ∃ b1 o1, lo = some ⟨b1, o1, none⟩ ∧ ∀ j u, (lcells x.ls)[j]? = some u → w.cell? ⟨b1, o1 + j, none⟩ = some u := by
              obtain ⟨ao', cap', e, _, _, hr⟩ := A2.out
              obtain ⟨b1, o1, e2, hc⟩ := hr (by omega)
              simp only [Value.slice.injEq, true_and] at e
              exact ⟨b1, o1, e.1.trans e2, hc⟩
            subst hpo
            obtain ⟨⟨d, b⟩, hx⟩ := getAt x.ls k hlt
            obtain ⟨f0, f1, l1⟩ := lc_cells hc1 hx hbel
            have d25 : wr.cell? ⟨w.heap.size, 25, none⟩ = some (.slice (some ⟨b1, o1, none⟩) x.ls.length lc) := boxAt hbx 25
            have Hbx := hide hbx
            have Hx := hide hx
            have hi : (k : Int) < (x.ls.length : Int) := by omega
            have al3 := bal (Below.refl wr.heap.size wr) (.cells (intsV [d, b]).toArray 3)
            have al3d := bDrewB al3
            have row3 := hrow.keepB al3
            have HN3 := hide (new_ints wr [d, b] 3)
            have Hb2 := hide (bKeeps al3 Hbx.out)
            have F0 := hide f0
            have F1 := hide f1
            have zw := heap_lt Hbx.out
            clear hc1 hx hbx
            go_wp2
            refine wp_region_noPanic ?_
            refine wp_region_held_drew (S := (fun w' => w'.cell? ⟨w.heap.size, 25, none⟩ = some (.slice (some ⟨b1, o1, none⟩) x.ls.length lc) ∧ w'.cell? ⟨b1, o1 + k * 2, none⟩ = some (.int .i64 d) ∧ w'.cell? ⟨b1, o1 + k * 2 + 1, none⟩ = some (.int .i64 b))) (by kernel_rfl) ?_ (fun hHeld => ?_)
            · exact ⟨d25, F0.out, F1.out⟩
            clear f0 f1 d25
            refine wpAnyH_take (i := 0) (v := ?v5) rfl (by kernel_rfl) (by kernel_rfl) (by kernel_rfl) (fun _ _ _ h => h) (Or.inl ⟨by rfl, ?hy5⟩) (by assumption) ?rest5
            case hy5 => ((intro w hSw; (try dsimp only at hSw); (try simp only [List.getElem_toArray, List.getElem_cons_zero]); go_simp; first | done | (with_reducible rfl)))
            simp only [Act.put, List.getElem_toArray, List.getElem_cons_zero, List.setIfInBounds_toArray, List.set_cons_zero, List.set_cons_succ]
            refine wpAnyH_take (i := 1) (v := ?v6) rfl (by kernel_rfl) (by kernel_rfl) (by kernel_rfl) (fun _ _ _ h => h) (Or.inl ⟨by rfl, ?hy6⟩) (by assumption) ?rest6
            case hy6 => ((intro w hSw; (try dsimp only at hSw); (try simp only [List.getElem_toArray, List.getElem_cons_zero, List.getElem_cons_succ]); go_simp; first | done | (with_reducible rfl)))
            simp only [Act.put, List.getElem_toArray, List.getElem_cons_zero, List.getElem_cons_succ, List.setIfInBounds_toArray, List.set_cons_zero, List.set_cons_succ]
            refine wpAnyH_take (i := 2) (v := ?v7) rfl (by kernel_rfl) (by kernel_rfl) (by kernel_rfl) (fun _ _ _ h => h) (Or.inl ⟨by rfl, ?hy7⟩) (by assumption) ?rest7
            case hy7 => ((intro w hSw; (try dsimp only at hSw); (try simp only [List.getElem_toArray, List.getElem_cons_zero, List.getElem_cons_succ]); go_simp; first | done | (with_reducible rfl)))
            simp only [Act.put, List.getElem_toArray, List.getElem_cons_zero, List.getElem_cons_succ, List.setIfInBounds_toArray, List.set_cons_zero, List.set_cons_succ]
            refine wpAnyH_take (i := 3) (v := ?v8) rfl (by kernel_rfl) (by kernel_rfl) (by kernel_rfl) (fun _ _ _ h => h) (Or.inl ⟨by rfl, ?hy8⟩) (by assumption) ?rest8
            case hy8 => ((intro w hSw; (try dsimp only at hSw); (try simp only [List.getElem_toArray, List.getElem_cons_zero, List.getElem_cons_succ]); go_simp; first | done | (with_reducible rfl)))
            simp only [Act.put, List.getElem_toArray, List.getElem_cons_zero, List.getElem_cons_succ, List.setIfInBounds_toArray, List.set_cons_zero, List.set_cons_succ]
            refine wpAnyH_take (i := 4) (v := ?v9) rfl (by kernel_rfl) (by kernel_rfl) (by kernel_rfl) (fun _ _ _ h => h) (Or.inl ⟨by rfl, ?hy9⟩) (by assumption) ?rest9
            case hy9 => ((intro w hSw; (try dsimp only at hSw); (try simp only [List.getElem_toArray, List.getElem_cons_zero, List.getElem_cons_succ]); go_simp; first | done | (with_reducible rfl)))
            simp only [Act.put, List.getElem_toArray, List.getElem_cons_zero, List.getElem_cons_succ, List.setIfInBounds_toArray, List.set_cons_zero, List.set_cons_succ]
            refine wpAnyH_take (i := 5) (v := ?v10) rfl (by kernel_rfl) (by kernel_rfl) (by kernel_rfl) (fun _ _ _ h => h) (Or.inl ⟨by rfl, ?hy10⟩) (by assumption) ?rest10
            case hy10 => ((intro w hSw; (try dsimp only at hSw); (try simp only [List.getElem_toArray, List.getElem_cons_zero, List.getElem_cons_succ]); go_simp; first | done | (with_reducible rfl)))
            simp only [Act.put, List.getElem_toArray, List.getElem_cons_zero, List.getElem_cons_succ, List.setIfInBounds_toArray, List.set_cons_zero, List.set_cons_succ]
            refine wpAnyH_take (i := 6) (v := ?v11) rfl (by kernel_rfl) (by kernel_rfl) (by kernel_rfl) (fun _ _ _ h => h) (Or.inl ⟨by rfl, ?hy11⟩) (by assumption) ?rest11
            case hy11 => ((intro w hSw; (try dsimp only at hSw); (try simp only [List.getElem_toArray, List.getElem_cons_zero, List.getElem_cons_succ]); go_simp; first | done | (with_reducible rfl)))
            simp only [Act.put, List.getElem_toArray, List.getElem_cons_zero, List.getElem_cons_succ, List.setIfInBounds_toArray, List.set_cons_zero, List.set_cons_succ]
            refine wpAnyH_take (i := 7) (v := ?v12) rfl (by kernel_rfl) (by kernel_rfl) (by kernel_rfl) (fun _ _ _ h => h) (Or.inl ⟨by rfl, ?hy12⟩) (by assumption) ?rest12
            case hy12 => ((intro w hSw; (try dsimp only at hSw); (try simp only [List.getElem_toArray, List.getElem_cons_zero, List.getElem_cons_succ]); go_simp; first | done | (with_reducible rfl)))
            simp only [Act.put, List.getElem_toArray, List.getElem_cons_zero, List.getElem_cons_succ, List.setIfInBounds_toArray, List.set_cons_zero, List.set_cons_succ]
            refine wpAnyH_take (i := 8) (v := ?v13) rfl (by kernel_rfl) (by kernel_rfl) (by kernel_rfl) (fun _ _ _ h => h) (Or.inl ⟨by rfl, ?hy13⟩) (by assumption) ?rest13
            case hy13 => ((intro w hSw; (try dsimp only at hSw); (try simp only [List.getElem_toArray, List.getElem_cons_zero, List.getElem_cons_succ]); go_simp; first | done | (with_reducible rfl)))
            simp only [Act.put, List.getElem_toArray, List.getElem_cons_zero, List.getElem_cons_succ, List.setIfInBounds_toArray, List.set_cons_zero, List.set_cons_succ]
            refine wpAnyH_take (i := 9) (v := ?v14) rfl (by kernel_rfl) (by kernel_rfl) (by kernel_rfl) (fun _ _ _ h => h) (Or.inl ⟨by rfl, ?hy14⟩) (by assumption) ?rest14
            case hy14 => ((intro w hSw; (try dsimp only at hSw); (try simp only [List.getElem_toArray, List.getElem_cons_zero, List.getElem_cons_succ]); go_simp; first | done | (with_reducible rfl)))
            simp only [Act.put, List.getElem_toArray, List.getElem_cons_zero, List.getElem_cons_succ, List.setIfInBounds_toArray, List.set_cons_zero, List.set_cons_succ]
            refine wpAnyH_take (i := 10) (v := ?v15) rfl (by kernel_rfl) (by kernel_rfl) (by kernel_rfl) (fun _ _ _ h => h) (Or.inl ⟨by rfl, ?hy15⟩) (by assumption) ?rest15
            case hy15 => ((intro w hSw; (try dsimp only at hSw); (try simp only [List.getElem_toArray, List.getElem_cons_zero, List.getElem_cons_succ]); go_simp; first | done | (with_reducible rfl)))
            simp only [Act.put, List.getElem_toArray, List.getElem_cons_zero, List.getElem_cons_succ, List.setIfInBounds_toArray, List.set_cons_zero, List.set_cons_succ]
            refine wpAnyH_take (i := 11) (v := ?v16) rfl (by kernel_rfl) (by kernel_rfl) (by kernel_rfl) (fun _ _ _ h => h) (Or.inl ⟨by rfl, ?hy16⟩) (by assumption) ?rest16
            case hy16 => ((intro w hSw; (try dsimp only at hSw); (try simp only [List.getElem_toArray, List.getElem_cons_zero, List.getElem_cons_succ]); go_simp; first | done | (with_reducible rfl)))
            simp only [Act.put, List.getElem_toArray, List.getElem_cons_zero, List.getElem_cons_succ, List.setIfInBounds_toArray, List.set_cons_zero, List.set_cons_succ]
            refine wpAnyH_take (i := 12) (v := ?v17) rfl (by kernel_rfl) (by kernel_rfl) (by kernel_rfl) (fun _ _ _ h => h) (Or.inl ⟨by rfl, ?hy17⟩) (by assumption) ?rest17
            case hy17 => ((intro w hSw; (try dsimp only at hSw); (try simp only [List.getElem_toArray, List.getElem_cons_zero, List.getElem_cons_succ]); go_simp; first | done | (with_reducible rfl)))
            simp only [Act.put, List.getElem_toArray, List.getElem_cons_zero, List.getElem_cons_succ, List.setIfInBounds_toArray, List.set_cons_zero, List.set_cons_succ]
            refine wpAnyH_ready (rs := [13]) (by kernel_rfl) (by simp) ?_
            refine AllReadyH.cons rfl (fun K hK => ?_) AllReadyH.nil
            go_simp
            (skip)
            refine hK.out _ _ ?_ (fun hHeld => ?_)
            · exact ⟨boxAt Hb2.out 25, updCell (Upd.ofBelow al3d (S := fun _ => False)) F0.out (fun h => h), updCell (Upd.ofBelow al3d (S := fun _ => False)) F1.out (fun h => h)⟩
            clear hK K
            refine wpAnyH_ready (rs := [14]) (by kernel_rfl) (by simp) ?_
            refine AllReadyH.cons rfl (fun K hK => ?_) AllReadyH.nil
            (refine wp_appendA _ _ 50 rfl w.heap.size 3 i1 (.int .i64 0) 1 8 Try.underlying50 gi gz0 gz1 gz2 rfl (by decide) _ m _ rfl row3 ⟨wr.heap.size, 0, none⟩ 2 2 (intsV [d, b]) rfl rfl HN3.out (intsV_one _) (by decide) (by unfold maxLen; omega) (by omega) (by show _ ≤ (wr.alloc _).heap.size; simp; omega) ?_; intro v4 w4 hown u4; obtain ⟨mo2, cm2, rfl⟩ := (Row.ofOwns hown (by omega)).shape)
            refine hK.out _ _ ?_ (fun hHeld => ?_)
            · exact ⟨boxAt (u4.keeps Hb2.out (typed_box Hb2.out (by decide) rfl)) 25, updCell u4 (updCell (Upd.ofBelow al3d (S := fun _ => False)) F0.out (fun h => h)) (fun h => by have := h.1; omega), updCell u4 (updCell (Upd.ofBelow al3d (S := fun _ => False)) F1.out (fun h => h)) (fun h => by have := h.1; omega)⟩
            clear hK K
            refine wpAnyH_take (i := 15) (v := ?v18) rfl (by kernel_rfl) (by kernel_rfl) (by kernel_rfl) (fun _ _ _ h => h) (Or.inl ⟨by rfl, ?hy18⟩) (by assumption) ?rest18
            case hy18 => ((intro w hSw; (try dsimp only at hSw); (try simp only [List.getElem_toArray, List.getElem_cons_zero, List.getElem_cons_succ]); go_simp; first | done | (with_reducible rfl)))
            simp only [Act.put, List.getElem_toArray, List.getElem_cons_zero, List.getElem_cons_succ, List.setIfInBounds_toArray, List.set_cons_zero, List.set_cons_succ]
            refine wpAnyH_done (by kernel_rfl) ?_ _
            refine NoPanic.normal ?_
            clear hHeld
            go_wp2
            go_roundw
            case rel =>
              refine ⟨k + 1, m + 2, mo2, cm2, by omega, by go_num, rfl, by rw [HM.out]; omega, .inl ?_, (bAll hbel al3d).trans (u4.below (by show _ ≤ (wr.alloc _).heap.size; simp; omega) (fun k h => h.1)), u4.keeps Hb2.out (typed_box Hb2.out (by decide) rfl)⟩
              rw [show x.ls.take (k + 1) = x.ls.take k ++ [(d, b)] by rw [List.take_add_one, Hx.out]; rfl, List.flatMap_append, ← List.cons_append, ← List.append_assoc, intsV_append]
              exact hown
            case measure => simp [intOf]; omega
          · obtain rfl : k = x.ls.length := by omega
            rw [List.take_length] at hrow
            have hge : ¬ ((x.ls.length : Nat) : Int) < (x.ls.length : Int) := by omega
            have d25 : wr.cell? ⟨w.heap.size, 25, none⟩ = some (.slice lo x.ls.length lc) := boxAt hbx 25
            have e1 : intsV (x.nums ++ ((x.ps.length : Int) :: x.ps.flatMap pnum) ++ ((x.ls.length : Int) :: x.ls.flatMap lnum)) = (allW x).map (Value.int .i64) := by simp only [allW, allP, allL, intsV, List.append_assoc]
            have hlen : Hid (m = (allW x).length) := by show _ = _; rw [allW_len, HM.out, HN.out]; omega
            rw [e1] at hrow
            have RR := hide (hrow.row (by omega)).reads
            clear hbx hrow e1
            go_wp2
            go_ret
            exact ⟨_, _, _, rfl, hlen.out, RR.out, hbel⟩
  · go_simp
    have al := bal (Below.refl W.heap.size W) (.cells (intsV [(x.ps.length : Int)]).toArray 3)
    have B1 := hide (bKeeps al B0.out)
    refine hK.out _ _ ⟨B1.out, boxAt B1.out 24⟩ (fun hHeld => ?_)
    clear hK K
    refine wpAnyH_ready (rs := [1]) (by kernel_rfl) (by simp) ?_
    refine AllReadyH.cons rfl (fun K hK => ?_) AllReadyH.nil
    go_simp
    (go_at_call 29; refine (l11Nums_own x _ _ _ _ _ _ _).mono ?_; rintro e w1 ⟨so1, rfl, o1, b1⟩; have b1' : Below (W.alloc (.cells (intsV [(x.ps.length : Int)]).toArray 3)).heap.size (W.alloc (.cells (intsV [(x.ps.length : Int)]).toArray 3)) w1 := bUndrew b1; have B2 := hide (bKeeps b1' B1.out))
    refine hK.out _ _ ?_ (fun hHeld => ?_)
    · exact ⟨B2.out, boxAt B2.out 24⟩
    clear hK K
    have zz := b1'.size
    simp only [World.size_alloc] at zz
    have row := RowA.base (.inl o1) (b' := w.heap.size) (by show w.heap.size ≤ (W.alloc _).heap.size; simp; omega)
    have hnew : ∀ j u, (intsV [(x.ps.length : Int)])[j]? = some u → w1.cell? ((⟨W.heap.size, 0, none⟩ : Addr).add j) = some u := by
      intro j u h
      have g := new_ints W [(x.ps.length : Int)] 3 j u h
      rw [Addr.add_lit] at g ⊢
      exact (b1'.cell (p := ⟨W.heap.size, 0 + j, none⟩) (by simp)).trans g
    refine wpAnyH_ready (rs := [6]) (by kernel_rfl) (by simp) ?_
    refine AllReadyH.cons rfl (fun K hK => ?_) AllReadyH.nil
    (refine wp_appendA _ _ 50 rfl w.heap.size 3 i1 (.int .i64 0) 1 8 Try.underlying50 gi gz0 gz1 gz2 rfl (by decide) _ 24 (intsV x.nums) rfl row ⟨W.heap.size, 0, none⟩ 1 1 (intsV [(x.ps.length : Int)]) rfl rfl hnew (intsV_one _) (by decide) (by unfold maxLen; omega) (by omega) (by omega) ?_; intro v4 w4 hown u4; obtain ⟨mo, cm, rfl⟩ := (Row.ofOwns hown (by omega)).shape; have B4 := hide (u4.keeps B2.out (typed_box B2.out (by decide) rfl)))
    refine hK.out _ _ ?_ (fun hHeld => ?_)
    · exact ⟨B4.out, boxAt B4.out 24⟩
    clear hK K
    refine wpAnyH_take (i := 7) (v := ?v19) rfl (by kernel_rfl) (by kernel_rfl) (by kernel_rfl) (fun _ _ _ h => h) (Or.inl ⟨by rfl, ?hy19⟩) (by assumption) ?rest19
    case hy19 => ((intro w hSw; (try dsimp only at hSw); (try simp only [List.getElem_toArray, List.getElem_cons_zero, List.getElem_cons_succ]); go_simp; first | done | (with_reducible rfl)))
    simp only [Act.put, List.getElem_toArray, List.getElem_cons_zero, List.getElem_cons_succ, List.setIfInBounds_toArray, List.set_cons_zero, List.set_cons_succ]
    refine wpAnyH_done (by kernel_rfl) ?_ _
    refine NoPanic.normal ?_
    have c4 : Below w.heap.size w w4 := (bAll (bAll hal al) b1').trans (u4.below (by omega) (fun k h => h.1))
    clear o1 b1 b1' B1 al B2 row zz u4 B0 z0 hal hnew
    revert hown B4 c4
    generalize w4 = V
    intro hown B4 c4
    clear hHeld
    simp only [Nat.reduceAdd] at hown ⊢
    go_wp2
    go_loopw [3, 4] (fun ov i wr => ∃ (k n : Nat) (ao : Option Addr) (ca : Nat), k ≤ x.ps.length ∧ i = .int .i64 k ∧ ov = .slice ao n ca ∧ n = 25 + k * 4 ∧ RowA wr w.heap.size 3 1 (.slice ao n ca) n (intsV (x.nums ++ ((x.ps.length : Int) :: (x.ps.take k).flatMap pnum))) ∧ Below w.heap.size w wr ∧ wr.heap[w.heap.size]? = some (.cells (#[.int .i64 x.a0, .int .i64 x.a1, .int .i64 x.a2, .int .i64 x.a3, .int .i64 x.a4, .int .i64 x.a5, .int .i64 x.c0, .int .i64 x.c1, .int .i64 x.c2, .int .i64 x.c3, .int .i64 x.c4, .int .i64 x.c5, .int .i64 x.c6, .int .i64 x.c7, .int .i64 x.c8, .int .i64 x.c9, .int .i64 x.b0, .int .i64 x.b1, .int .i64 x.b2, .int .i64 x.b3, .int .i64 x.b4, .int .i64 x.b5, .int .i64 x.b6, .int .i64 x.b7, .slice po x.ps.length pc, .slice lo x.ls.length lc] : Array Value) 34 (0, 0))) (fun _ i _ => x.ps.length - (intOf i).toNat)
    case atStart =>
      refine ⟨0, 25, mo, cm, Nat.zero_le _, rfl, rfl, rfl, .inl ?_, c4, B4.out⟩
      rw [show intsV (x.nums ++ ((x.ps.length : Int) :: (x.ps.take 0).flatMap pnum)) = intsV x.nums ++ intsV [(x.ps.length : Int)] by simp [intsV]]
      exact hown
    case round =>
      clear hown c4 B4
      obtain ⟨k, n, ao, ca, hk, rfl, rfl, hn, hrow, hbel, hbx⟩ := hrel
      have HN := hide hn
      have hn2 : n ≤ 300 := by omega
      have hzw := hbel.size
      clear hn
      by_cases hlt : k < x.ps.length
      · obtain ⟨b1, o1, hpo, hc1⟩ : ∃ b1 o1, po = some ⟨b1, o1, none⟩ ∧ ∀ j u, (pcells x.ps)[j]? = some u → w.cell? ⟨b1, o1 + j, none⟩ = some u := by
          obtain ⟨ao', cap', e, _, _, hr⟩ := A1.out
          obtain ⟨b1, o1, e2, hc⟩ := hr (by omega)
          simp only [Value.slice.injEq, true_and] at e
          exact ⟨b1, o1, e.1.trans e2, hc⟩
        subst hpo
        obtain ⟨⟨d, b, p, t⟩, hx⟩ := getAt x.ps k hlt
        obtain ⟨f0, f1, f2, f3, l1⟩ := pc_cells hc1 hx hbel
        have d24 : wr.cell? ⟨w.heap.size, 24, none⟩ = some (.slice (some ⟨b1, o1, none⟩) x.ps.length pc) := boxAt hbx 24
        have Hbx := hide hbx
        have Hx := hide hx
        have hi : (k : Int) < (x.ps.length : Int) := by omega
        have al3 := bal (bal (Below.refl wr.heap.size wr) (.cells #[.int .i64 d, .int .i64 b, .int .i64 p, .int .i64 t] 83)) (.cells (intsV [d, b, p, t]).toArray 3)
        have row3 := hrow.keepB al3
        have N3 := new_ints (wr.alloc (.cells #[.int .i64 d, .int .i64 b, .int .i64 p, .int .i64 t] 83)) [d, b, p, t] 3
        simp only [World.size_alloc] at N3
        have HN3 := hide N3
        clear hc1 hx hbx N3
        go_wp2_with (at_builtin; refine wpList_appendA _ rfl _ _ 50 rfl w.heap.size 3 i1 (.int .i64 0) 1 8 Try.underlying50 gi gz0 gz1 gz2 rfl (by decide) _ n (intsV (x.nums ++ ((x.ps.length : Int) :: (x.ps.take k).flatMap pnum))) rfl row3 ⟨wr.heap.size + 1, 0, none⟩ 4 4 (intsV [d, b, p, t]) rfl rfl HN3.out (intsV_one _) (by decide) ?q63 ?qby ?qbase ?_)
        case q63 => unfold maxLen; omega
        case qby => omega
        case qbase => first | omega | (simp; omega)
        intro v4 w4 hown u4
        obtain ⟨mo', cm', rfl⟩ := (Row.ofOwns hown (by omega)).shape
        go_wp2
        have Hb2 := bKeeps al3 Hbx.out
        go_roundw
        case rel =>
          refine ⟨k + 1, n + 4, mo', cm', by omega, by go_num, rfl, by rw [HN.out]; omega, .inl ?_, (bAll hbel al3).trans (u4.below (by first | omega | (simp; omega)) (fun k h => h.1)), u4.keeps Hb2 (typed_box Hb2 (by decide) rfl)⟩
          rw [show x.ps.take (k + 1) = x.ps.take k ++ [(d, b, p, t)] by rw [List.take_add_one, Hx.out]; rfl, List.flatMap_append, ← List.cons_append, ← List.append_assoc, intsV_append]
          exact hown
        case measure => simp [intOf]; omega
      · obtain rfl : k = x.ps.length := by omega
        rw [List.take_length] at hrow
        have hge : ¬ ((x.ps.length : Nat) : Int) < (x.ps.length : Int) := by omega
        have d24 : wr.cell? ⟨w.heap.size, 24, none⟩ = some (.slice po x.ps.length pc) := boxAt hbx 24
        have d25 : wr.cell? ⟨w.heap.size, 25, none⟩ = some (.slice lo x.ls.length lc) := boxAt hbx 25
        have al3 := bal (Below.refl wr.heap.size wr) (.cells (intsV [(x.ls.length : Int)]).toArray 3)
        have row3 := hrow.keepB al3
        have HN3 := hide (new_ints wr [(x.ls.length : Int)] 3)
        have Hb2 := hide (bKeeps al3 hbx)
        clear hbx hrow
        go_wp2_with (at_builtin; refine wpList_appendA _ rfl _ _ 50 rfl w.heap.size 3 i1 (.int .i64 0) 1 8 Try.underlying50 gi gz0 gz1 gz2 rfl (by decide) _ n (intsV (x.nums ++ ((x.ps.length : Int) :: x.ps.flatMap pnum))) rfl row3 ⟨wr.heap.size, 0, none⟩ 1 1 (intsV [(x.ls.length : Int)]) rfl rfl HN3.out (intsV_one _) (by decide) ?q63 ?qby ?qbase ?_)
        case q63 => unfold maxLen; omega
        case qby => omega
        case qbase => first | omega | (simp; omega)
        intro v4 w4 hown u4
        obtain ⟨mo', cm', rfl⟩ := (Row.ofOwns hown (by omega)).shape
        have c5 := (bAll hbel al3).trans (u4.below (by first | omega | (simp; omega)) (fun k h => h.1))
        have B5 := hide (u4.keeps Hb2.out (typed_box Hb2.out (by decide) rfl))
        clear d24 d25 al3 row3 HN3 Hb2 hbel u4 hzw
        go_wp2
        go_loopw [3, 6] (fun ov i wr => ∃ (k m : Nat) (ao : Option Addr) (ca : Nat), k ≤ x.ls.length ∧ i = .int .i64 k ∧ ov = .slice ao m ca ∧ m = n + 1 + k * 2 ∧ RowA wr w.heap.size 3 1 (.slice ao m ca) m (intsV (x.nums ++ ((x.ps.length : Int) :: x.ps.flatMap pnum) ++ ((x.ls.length : Int) :: (x.ls.take k).flatMap lnum))) ∧ Below w.heap.size w wr ∧ wr.heap[w.heap.size]? = some (.cells (#[.int .i64 x.a0, .int .i64 x.a1, .int .i64 x.a2, .int .i64 x.a3, .int .i64 x.a4, .int .i64 x.a5, .int .i64 x.c0, .int .i64 x.c1, .int .i64 x.c2, .int .i64 x.c3, .int .i64 x.c4, .int .i64 x.c5, .int .i64 x.c6, .int .i64 x.c7, .int .i64 x.c8, .int .i64 x.c9, .int .i64 x.b0, .int .i64 x.b1, .int .i64 x.b2, .int .i64 x.b3, .int .i64 x.b4, .int .i64 x.b5, .int .i64 x.b6, .int .i64 x.b7, .slice po x.ps.length pc, .slice lo x.ls.length lc] : Array Value) 34 (0, 0))) (fun _ i _ => x.ls.length - (intOf i).toNat)
        case atStart =>
          refine ⟨0, n + 1, mo', cm', Nat.zero_le _, rfl, rfl, rfl, .inl ?_, c5, B5.out⟩
          rw [intsV_append]
          exact hown
        case round =>
          clear hown c5 B5
          obtain ⟨k, m, ao, ca, hk, rfl, rfl, hm, hrow, hbel, hbx⟩ := hrel
          have HM := hide hm
          have hm2 : m ≤ 320 := by omega
          have hzw := hbel.size
          clear hm
          by_cases hlt : k < x.ls.length
          · obtain ⟨b1, o1, hpo, hc1⟩ : ∃ b1 o1, lo = some ⟨b1, o1, none⟩ ∧ ∀ j u, (lcells x.ls)[j]? = some u → w.cell? ⟨b1, o1 + j, none⟩ = some u := by
              obtain ⟨ao', cap', e, _, _, hr⟩ := A2.out
              obtain ⟨b1, o1, e2, hc⟩ := hr (by omega)
              simp only [Value.slice.injEq, true_and] at e
              exact ⟨b1, o1, e.1.trans e2, hc⟩
            subst hpo
            obtain ⟨⟨d, b⟩, hx⟩ := getAt x.ls k hlt
            obtain ⟨f0, f1, l1⟩ := lc_cells hc1 hx hbel
            have d25 : wr.cell? ⟨w.heap.size, 25, none⟩ = some (.slice (some ⟨b1, o1, none⟩) x.ls.length lc) := boxAt hbx 25
            have Hbx := hide hbx
            have Hx := hide hx
            have hi : (k : Int) < (x.ls.length : Int) := by omega
            have al3 := bal (Below.refl wr.heap.size wr) (.cells (intsV [d, b]).toArray 3)
            have al3d := bDrewB al3
            have row3 := hrow.keepB al3
            have HN3 := hide (new_ints wr [d, b] 3)
            have Hb2 := hide (bKeeps al3 Hbx.out)
            have F0 := hide f0
            have F1 := hide f1
            have zw := heap_lt Hbx.out
            clear hc1 hx hbx
            go_wp2
            refine wp_region_noPanic ?_
            refine wp_region_held_drew (S := (fun w' => w'.cell? ⟨w.heap.size, 25, none⟩ = some (.slice (some ⟨b1, o1, none⟩) x.ls.length lc) ∧ w'.cell? ⟨b1, o1 + k * 2, none⟩ = some (.int .i64 d) ∧ w'.cell? ⟨b1, o1 + k * 2 + 1, none⟩ = some (.int .i64 b))) (by kernel_rfl) ?_ (fun hHeld => ?_)
            · exact ⟨d25, F0.out, F1.out⟩
            clear f0 f1 d25
            refine wpAnyH_take (i := 0) (v := ?v20) rfl (by kernel_rfl) (by kernel_rfl) (by kernel_rfl) (fun _ _ _ h => h) (Or.inl ⟨by rfl, ?hy20⟩) (by assumption) ?rest20
            case hy20 => ((intro w hSw; (try dsimp only at hSw); (try simp only [List.getElem_toArray, List.getElem_cons_zero]); go_simp; first | done | (with_reducible rfl)))
            simp only [Act.put, List.getElem_toArray, List.getElem_cons_zero, List.setIfInBounds_toArray, List.set_cons_zero, List.set_cons_succ]
            refine wpAnyH_take (i := 1) (v := ?v21) rfl (by kernel_rfl) (by kernel_rfl) (by kernel_rfl) (fun _ _ _ h => h) (Or.inl ⟨by rfl, ?hy21⟩) (by assumption) ?rest21
            case hy21 => ((intro w hSw; (try dsimp only at hSw); (try simp only [List.getElem_toArray, List.getElem_cons_zero, List.getElem_cons_succ]); go_simp; first | done | (with_reducible rfl)))
            simp only [Act.put, List.getElem_toArray, List.getElem_cons_zero, List.getElem_cons_succ, List.setIfInBounds_toArray, List.set_cons_zero, List.set_cons_succ]
            refine wpAnyH_take (i := 2) (v := ?v22) rfl (by kernel_rfl) (by kernel_rfl) (by kernel_rfl) (fun _ _ _ h => h) (Or.inl ⟨by rfl, ?hy22⟩) (by assumption) ?rest22
            case hy22 => ((intro w hSw; (try dsimp only at hSw); (try simp only [List.getElem_toArray, List.getElem_cons_zero, List.getElem_cons_succ]); go_simp; first | done | (with_reducible rfl)))
            simp only [Act.put, List.getElem_toArray, List.getElem_cons_zero, List.getElem_cons_succ, List.setIfInBounds_toArray, List.set_cons_zero, List.set_cons_succ]
            refine wpAnyH_take (i := 3) (v := ?v23) rfl (by kernel_rfl) (by kernel_rfl) (by kernel_rfl) (fun _ _ _ h => h) (Or.inl ⟨by rfl, ?hy23⟩) (by assumption) ?rest23
            case hy23 => ((intro w hSw; (try dsimp only at hSw); (try simp only [List.getElem_toArray, List.getElem_cons_zero, List.getElem_cons_succ]); go_simp; first | done | (with_reducible rfl)))
            simp only [Act.put, List.getElem_toArray, List.getElem_cons_zero, List.getElem_cons_succ, List.setIfInBounds_toArray, List.set_cons_zero, List.set_cons_succ]
            refine wpAnyH_take (i := 4) (v := ?v24) rfl (by kernel_rfl) (by kernel_rfl) (by kernel_rfl) (fun _ _ _ h => h) (Or.inl ⟨by rfl, ?hy24⟩) (by assumption) ?rest24
            case hy24 => ((intro w hSw; (try dsimp only at hSw); (try simp only [List.getElem_toArray, List.getElem_cons_zero, List.getElem_cons_succ]); go_simp; first | done | (with_reducible rfl)))
            simp only [Act.put, List.getElem_toArray, List.getElem_cons_zero, List.getElem_cons_succ, List.setIfInBounds_toArray, List.set_cons_zero, List.set_cons_succ]
            refine wpAnyH_take (i := 5) (v := ?v25) rfl (by kernel_rfl) (by kernel_rfl) (by kernel_rfl) (fun _ _ _ h => h) (Or.inl ⟨by rfl, ?hy25⟩) (by assumption) ?rest25
            case hy25 => ((intro w hSw; (try dsimp only at hSw); (try simp only [List.getElem_toArray, List.getElem_cons_zero, List.getElem_cons_succ]); go_simp; first | done | (with_reducible rfl)))
            simp only [Act.put, List.getElem_toArray, List.getElem_cons_zero, List.getElem_cons_succ, List.setIfInBounds_toArray, List.set_cons_zero, List.set_cons_succ]
            refine wpAnyH_take (i := 6) (v := ?v26) rfl (by kernel_rfl) (by kernel_rfl) (by kernel_rfl) (fun _ _ _ h => h) (Or.inl ⟨by rfl, ?hy26⟩) (by assumption) ?rest26
            case hy26 => ((intro w hSw; (try dsimp only at hSw); (try simp only [List.getElem_toArray, List.getElem_cons_zero, List.getElem_cons_succ]); go_simp; first | done | (with_reducible rfl)))
            simp only [Act.put, List.getElem_toArray, List.getElem_cons_zero, List.getElem_cons_succ, List.setIfInBounds_toArray, List.set_cons_zero, List.set_cons_succ]
            refine wpAnyH_take (i := 7) (v := ?v27) rfl (by kernel_rfl) (by kernel_rfl) (by kernel_rfl) (fun _ _ _ h => h) (Or.inl ⟨by rfl, ?hy27⟩) (by assumption) ?rest27
            case hy27 => ((intro w hSw; (try dsimp only at hSw); (try simp only [List.getElem_toArray, List.getElem_cons_zero, List.getElem_cons_succ]); go_simp; first | done | (with_reducible rfl)))
            simp only [Act.put, List.getElem_toArray, List.getElem_cons_zero, List.getElem_cons_succ, List.setIfInBounds_toArray, List.set_cons_zero, List.set_cons_succ]
            refine wpAnyH_take (i := 8) (v := ?v28) rfl (by kernel_rfl) (by kernel_rfl) (by kernel_rfl) (fun _ _ _ h => h) (Or.inl ⟨by rfl, ?hy28⟩) (by assumption) ?rest28
            case hy28 => ((intro w hSw; (try dsimp only at hSw); (try simp only [List.getElem_toArray, List.getElem_cons_zero, List.getElem_cons_succ]); go_simp; first | done | (with_reducible rfl)))
            simp only [Act.put, List.getElem_toArray, List.getElem_cons_zero, List.getElem_cons_succ, List.setIfInBounds_toArray, List.set_cons_zero, List.set_cons_succ]
            refine wpAnyH_take (i := 9) (v := ?v29) rfl (by kernel_rfl) (by kernel_rfl) (by kernel_rfl) (fun _ _ _ h => h) (Or.inl ⟨by rfl, ?hy29⟩) (by assumption) ?rest29
            case hy29 => ((intro w hSw; (try dsimp only at hSw); (try simp only [List.getElem_toArray, List.getElem_cons_zero, List.getElem_cons_succ]); go_simp; first | done | (with_reducible rfl)))
            simp only [Act.put, List.getElem_toArray, List.getElem_cons_zero, List.getElem_cons_succ, List.setIfInBounds_toArray, List.set_cons_zero, List.set_cons_succ]
            refine wpAnyH_take (i := 10) (v := ?v30) rfl (by kernel_rfl) (by kernel_rfl) (by kernel_rfl) (fun _ _ _ h => h) (Or.inl ⟨by rfl, ?hy30⟩) (by assumption) ?rest30
            case hy30 => ((intro w hSw; (try dsimp only at hSw); (try simp only [List.getElem_toArray, List.getElem_cons_zero, List.getElem_cons_succ]); go_simp; first | done | (with_reducible rfl)))
            simp only [Act.put, List.getElem_toArray, List.getElem_cons_zero, List.getElem_cons_succ, List.setIfInBounds_toArray, List.set_cons_zero, List.set_cons_succ]
            refine wpAnyH_take (i := 11) (v := ?v31) rfl (by kernel_rfl) (by kernel_rfl) (by kernel_rfl) (fun _ _ _ h => h) (Or.inl ⟨by rfl, ?hy31⟩) (by assumption) ?rest31
            case hy31 => ((intro w hSw; (try dsimp only at hSw); (try simp only [List.getElem_toArray, List.getElem_cons_zero, List.getElem_cons_succ]); go_simp; first | done | (with_reducible rfl)))
            simp only [Act.put, List.getElem_toArray, List.getElem_cons_zero, List.getElem_cons_succ, List.setIfInBounds_toArray, List.set_cons_zero, List.set_cons_succ]
            refine wpAnyH_take (i := 12) (v := ?v32) rfl (by kernel_rfl) (by kernel_rfl) (by kernel_rfl) (fun _ _ _ h => h) (Or.inl ⟨by rfl, ?hy32⟩) (by assumption) ?rest32
            case hy32 => ((intro w hSw; (try dsimp only at hSw); (try simp only [List.getElem_toArray, List.getElem_cons_zero, List.getElem_cons_succ]); go_simp; first | done | (with_reducible rfl)))
            simp only [Act.put, List.getElem_toArray, List.getElem_cons_zero, List.getElem_cons_succ, List.setIfInBounds_toArray, List.set_cons_zero, List.set_cons_succ]
            refine wpAnyH_ready (rs := [13]) (by kernel_rfl) (by simp) ?_
            refine AllReadyH.cons rfl (fun K hK => ?_) AllReadyH.nil
            go_simp
            (skip)
            refine hK.out _ _ ?_ (fun hHeld => ?_)
            · exact ⟨boxAt Hb2.out 25, updCell (Upd.ofBelow al3d (S := fun _ => False)) F0.out (fun h => h), updCell (Upd.ofBelow al3d (S := fun _ => False)) F1.out (fun h => h)⟩
            clear hK K
            refine wpAnyH_ready (rs := [14]) (by kernel_rfl) (by simp) ?_
            refine AllReadyH.cons rfl (fun K hK => ?_) AllReadyH.nil
            (refine wp_appendA _ _ 50 rfl w.heap.size 3 i1 (.int .i64 0) 1 8 Try.underlying50 gi gz0 gz1 gz2 rfl (by decide) _ m _ rfl row3 ⟨wr.heap.size, 0, none⟩ 2 2 (intsV [d, b]) rfl rfl HN3.out (intsV_one _) (by decide) (by unfold maxLen; omega) (by omega) (by show _ ≤ (wr.alloc _).heap.size; simp; omega) ?_; intro v4 w4 hown u4; obtain ⟨mo2, cm2, rfl⟩ := (Row.ofOwns hown (by omega)).shape)
            refine hK.out _ _ ?_ (fun hHeld => ?_)
            · exact ⟨boxAt (u4.keeps Hb2.out (typed_box Hb2.out (by decide) rfl)) 25, updCell u4 (updCell (Upd.ofBelow al3d (S := fun _ => False)) F0.out (fun h => h)) (fun h => by have := h.1; omega), updCell u4 (updCell (Upd.ofBelow al3d (S := fun _ => False)) F1.out (fun h => h)) (fun h => by have := h.1; omega)⟩
            clear hK K
            refine wpAnyH_take (i := 15) (v := ?v33) rfl (by kernel_rfl) (by kernel_rfl) (by kernel_rfl) (fun _ _ _ h => h) (Or.inl ⟨by rfl, ?hy33⟩) (by assumption) ?rest33
            case hy33 => ((intro w hSw; (try dsimp only at hSw); (try simp only [List.getElem_toArray, List.getElem_cons_zero, List.getElem_cons_succ]); go_simp; first | done | (with_reducible rfl)))
            simp only [Act.put, List.getElem_toArray, List.getElem_cons_zero, List.getElem_cons_succ, List.setIfInBounds_toArray, List.set_cons_zero, List.set_cons_succ]
            refine wpAnyH_done (by kernel_rfl) ?_ _
            refine NoPanic.normal ?_
            clear hHeld
            go_wp2
            go_roundw
            case rel =>
              refine ⟨k + 1, m + 2, mo2, cm2, by omega, by go_num, rfl, by rw [HM.out]; omega, .inl ?_, (bAll hbel al3d).trans (u4.below (by show _ ≤ (wr.alloc _).heap.size; simp; omega) (fun k h => h.1)), u4.keeps Hb2.out (typed_box Hb2.out (by decide) rfl)⟩
              rw [show x.ls.take (k + 1) = x.ls.take k ++ [(d, b)] by rw [List.take_add_one, Hx.out]; rfl, List.flatMap_append, ← List.cons_append, ← List.append_assoc, intsV_append]
              exact hown
            case measure => simp [intOf]; omega
          · obtain rfl : k = x.ls.length := by omega
            rw [List.take_length] at hrow
            have hge : ¬ ((x.ls.length : Nat) : Int) < (x.ls.length : Int) := by omega
            have d25 : wr.cell? ⟨w.heap.size, 25, none⟩ = some (.slice lo x.ls.length lc) := boxAt hbx 25
            have e1 : intsV (x.nums ++ ((x.ps.length : Int) :: x.ps.flatMap pnum) ++ ((x.ls.length : Int) :: x.ls.flatMap lnum)) = (allW x).map (Value.int .i64) := by simp only [allW, allP, allL, intsV, List.append_assoc]
            have hlen : Hid (m = (allW x).length) := by show _ = _; rw [allW_len, HM.out, HN.out]; omega
            rw [e1] at hrow
            have RR := hide (hrow.row (by omega)).reads
            clear hbx hrow e1
            go_wp2
            go_ret
            exact ⟨_, _, _, rfl, hlen.out, RR.out, hbel⟩

end Go.Proofs.Ytafojnjpllpjjaa

/- Numbers written as bytes, in the program: contracts; no statement of the seat is proved here. -/
namespace Go.Proofs.Ytafojnjpllpjjaa
open Go.RowKit

/-- The slice that a block of one cell holds: bytes that were written, ready to be grown. -/
def Out (w : World) (base B : Nat) (bs : List Nat) : Prop :=
  ∃ ao ca, w.heap[B]? = some (.cells #[.slice ao bs.length ca] 69 (0, 0)) ∧ RowA w base 5 1 (.slice ao bs.length ca) bs.length (byts bs) ∧ base ≤ B

/-- What turns when bytes are written: the block of the slice, and blocks of bytes. -/
def turns (w : World) (base B : Nat) : Nat → Prop := fun k => k = B ∨ typed w (fun k => base ≤ k) 5 k

theorem RowA.keepTy8 {w w' : World} {base : Nat} {e : TypeId} {size : Nat} {T : Nat → Prop} {v : Value} {n : Nat} {cs : List Value} (h : RowA w base e size v n cs) (hb : Upd T w w') (hT : ∀ k, typed w (fun k => base ≤ k) e k → ¬ T k) : RowA w' base e size v n cs := by
  rcases h with ⟨hl, h⟩ | h
  · refine .inl ⟨hl, ?_⟩
    rcases h with h | ⟨g, cap, cur, rfl, hg, hh, h1, h2, h3, h4⟩
    · exact .inl h
    · exact .inr ⟨g, cap, cur, rfl, hg, hb.keeps hh (hT g ⟨hg, cur, hh⟩), h1, h2, h3, h4⟩
  · exact .inr h

set_option maxRecDepth 100000 in
set_option maxHeartbeats 4000000 in
theorem putNumber_any (base B : Nat) (a : Int) (bs : List Nat) (w : World) (h : Out w base B bs) (hbase : base ≤ w.heap.size) (ha : -1 ≤ a) (ha2 : a ≤ 99999) (hl : bs.length ≤ 10000) :
    Calls Try.prog 114 #[.pointer (some ⟨B, 0, none⟩), .int .i64 a] w fun e w' => e = .returned (.tuple #[]) ∧ Out w' base B (bs ++ encI a) ∧ (∀ k o, k < w.heap.size → k ≠ B → w.heap[k]? = some o → (∀ c, o ≠ .cells c 5 (0, 0)) → w'.heap[k]? = some o) ∧ Below base w w' := by
  obtain ⟨q, hq⟩ : ∃ q : Nat, a = (q : Int) - 1 := ⟨(a + 1).toNat, by omega⟩
  have hq2 : q ≤ 100000 := by omega
  have HE := hide (show encI a = encN q by rw [hq]; unfold encI; congr 1; omega)
  obtain ⟨i1, gi, gz0, gz1, gz2⟩ := info_parts infoU8
  subst hq
  have hq3 : (q : Int) - 1 + 1 = (q : Int) := by omega
  have H := hide h
  clear h ha ha2
  go_enter Try.func114, Try.ntmps114
  go_wp2
  go_loopw [4] (fun rv wr => ∃ (r : Nat) (pre : List Nat), r ≤ 100000 ∧ rv = .int .i64 r ∧ pre ++ encN r = bs ++ encN q ∧ Out wr base B pre ∧ (∀ k o, k < w.heap.size → k ≠ B → w.heap[k]? = some o → (∀ c, o ≠ .cells c 5 (0, 0)) → wr.heap[k]? = some o) ∧ Below base w wr) (fun rv _ => (intOf rv).toNat)
  case atStart => exact ⟨q, bs, hq2, rfl, rfl, H.out, fun _ _ _ _ h _ => h, Below.refl _ _⟩
  case round =>
    obtain ⟨r, pre, hr2, rfl, hpre, ho, hkeep, hbel⟩ := hrel
    have hlen : pre.length ≤ 10003 := by
      have h1 := congrArg List.length hpre
      rw [List.length_append, List.length_append] at h1
      have h3 := (encN_len q hq2).2
      omega
    have HP := hide hpre
    obtain ⟨ao, ca, hB, hrow, hbB⟩ := ho
    obtain ⟨p0, pl⟩ : wr.cell? ⟨B, 0, none⟩ = some (.slice ao pre.length ca) ∧ wr.frozen? ⟨B, 0, none⟩ = false := ⟨boxAt hB 0, boxFz hB 0⟩
    have HB := hide hB
    have HK := hide hkeep
    have hz := hbel.size
    have hBl := heap_lt hB
    clear hpre hB hkeep
    by_cases hbig : 128 ≤ r
    · have hbig' : (128 : Int) ≤ (r : Int) := by omega
      have al3 := bal (Below.refl wr.heap.size wr) (.cells #[.int .u8 ((r : Int) % 128 + 128)] 5)
      have row3 := hrow.keepB al3
      have N3 := hide (new_byte wr ((r : Int) % 128 + 128) 5)
      have HB2 := hide (bKeeps al3 HB.out)
      go_wp2_with (at_builtin; refine wpList_appendA _ rfl _ _ 69 rfl base 5 i1 (.int .u8 0) 1 1 Try.underlying69 gi gz0 gz1 gz2 rfl (by decide) _ pre.length (byts pre) rfl row3 ⟨wr.heap.size, 0, none⟩ 1 1 [.int .u8 ((r : Int) % 128 + 128)] rfl rfl N3.out (byte_one _) (by decide) ?q63 ?qby ?qbase ?_)
      case q63 => unfold maxLen; omega
      case qby => omega
      case qbase => first | omega | (simp; omega)
      intro v4 w4 hown u4
      obtain ⟨mo, cm, rfl⟩ := (Row.ofOwns hown (by omega)).shape
      have HB4 := hide (u4.keeps HB2.out (typed_box HB2.out (by decide) rfl))
      have q0 : w4.cell? ⟨B, 0, none⟩ = some (.slice ao pre.length ca) := boxAt HB4.out 0
      have q1 : w4.frozen? ⟨B, 0, none⟩ = false := boxFz HB4.out 0
      clear p0 pl
      go_wp2
      have u5 := Upd.setCell (S := fun j => j = B) w4 B 0 (.slice mo (pre.length + 1) cm) rfl
      go_roundw
      case rel =>
        refine ⟨r / 128, pre ++ [r % 128 + 128], by omega, by first | rfl | go_num | (congr 1; omega), ?_, ⟨mo, cm, ?_, ?_, hbB⟩, ?_, ?_⟩
        · rw [List.append_assoc, List.singleton_append, Nat.add_comm (r % 128) 128, ← encN_ge (by omega)]
          exact HP.out
        · rw [show (pre ++ [r % 128 + 128]).length = pre.length + 1 by simp]
          exact row_set _ HB4.out
        · rw [show (pre ++ [r % 128 + 128]).length = pre.length + 1 by simp, byts_append, show byts [r % 128 + 128] = [.int .u8 ((r : Int) % 128 + 128)] by simp [byts]]
          exact (RowA.keepTy8 (.inl hown) u5 (fun k h1 h2 => by subst h2; exact typed_box HB4.out (by decide) rfl h1))
        · intro k o hk hkB ho hno
          have g := HK.out k o hk hkB ho hno
          refine u5.keeps (u4.keeps (bKeeps al3 g) ?_) hkB
          rintro ⟨_, c, hc⟩
          rw [bKeeps al3 g] at hc
          exact hno c (Option.some.inj hc)
        · exact ((hbel.trans (al3.mono (by omega))).trans (u4.below (by first | omega | (simp; omega)) (fun k h => h.1))).trans (u5.below (by have := u4.size; simp at this; omega) (fun k h => by omega))
      case measure => simp [intOf]; omega
    · have hbig' : ¬ (128 : Int) ≤ (r : Int) := by omega
      have hr256 : (r : Int) < 256 := by omega
      have al3 := bal (Below.refl wr.heap.size wr) (.cells #[.int .u8 (r : Int)] 5)
      have row3 := hrow.keepB al3
      have N3 := hide (new_byte wr (r : Int) 5)
      have HB2 := hide (bKeeps al3 HB.out)
      go_wp2_with (at_builtin; refine wpList_appendA _ rfl _ _ 69 rfl base 5 i1 (.int .u8 0) 1 1 Try.underlying69 gi gz0 gz1 gz2 rfl (by decide) _ pre.length (byts pre) rfl row3 ⟨wr.heap.size, 0, none⟩ 1 1 [.int .u8 (r : Int)] rfl rfl N3.out (byte_one _) (by decide) ?q63 ?qby ?qbase ?_)
      case q63 => unfold maxLen; omega
      case qby => omega
      case qbase => first | omega | (simp; omega)
      intro v4 w4 hown u4
      obtain ⟨mo, cm, rfl⟩ := (Row.ofOwns hown (by omega)).shape
      have HB4 := hide (u4.keeps HB2.out (typed_box HB2.out (by decide) rfl))
      have q0 : w4.cell? ⟨B, 0, none⟩ = some (.slice ao pre.length ca) := boxAt HB4.out 0
      have q1 : w4.frozen? ⟨B, 0, none⟩ = false := boxFz HB4.out 0
      clear p0 pl
      go_wp2
      have u5 := Upd.setCell (S := fun j => j = B) w4 B 0 (.slice mo (pre.length + 1) cm) rfl
      have e1 : bs ++ encI ((q : Int) - 1) = pre ++ [r] := by rw [HE.out, ← HP.out, encN_lt (by omega)]
      go_end0
      refine ⟨rfl, ⟨mo, cm, ?_, ?_, hbB⟩, ?_, ?_⟩
      · rw [e1, show (pre ++ [r]).length = pre.length + 1 by simp]
        exact row_set _ HB4.out
      · rw [e1, show (pre ++ [r]).length = pre.length + 1 by simp, byts_append]
        exact (RowA.keepTy8 (.inl hown) u5 (fun k h1 h2 => by subst h2; exact typed_box HB4.out (by decide) rfl h1))
      · intro k o hk hkB ho hno
        have g := HK.out k o hk hkB ho hno
        refine u5.keeps (u4.keeps (bKeeps al3 g) ?_) hkB
        rintro ⟨_, c, hc⟩
        rw [bKeeps al3 g] at hc
        exact hno c (Option.some.inj hc)
      · exact ((hbel.trans (al3.mono (by omega))).trans (u4.below (by first | omega | (simp; omega)) (fun k h => h.1))).trans (u5.below (by have := u4.size; simp at this; omega) (fun k h => by omega))

/-- What writing of bytes leaves as it was: all blocks that hold no bytes, but that of the slice. -/
def Still (w w' : World) (B : Nat) : Prop := ∀ k o, k < w.heap.size → k ≠ B → w.heap[k]? = some o → (∀ c, o ≠ .cells c 5 (0, 0)) → w'.heap[k]? = some o
theorem Still.trans {w w' w'' : World} {B : Nat} (h : Still w w' B) (g : Still w' w'' B) (hs : w.heap.size ≤ w'.heap.size) : Still w w'' B := fun k o hk hB ho hno => g k o (by omega) hB (h k o hk hB ho hno) hno

set_option maxRecDepth 100000 in
set_option maxHeartbeats 4000000 in
theorem put_numbers (base B N b o n c : Nat) (xs : List Int) (bs : List Nat) (cs ds : Array Value) (t1 t2 : TypeId) (w : World) (h : Out w base B bs) (hbase : base ≤ w.heap.size) (hx : ∀ a ∈ xs, -1 ≤ a ∧ a ≤ 99999) (hl : bs.length + 3 * xs.length ≤ 10000) (hn : xs.length = n)
    (hN : w.heap[N]? = some (.cells cs t1 (0, 0))) (h1 : t1 ≠ 5) (hNB : N ≠ B) (hb : w.heap[b]? = some (.cells ds t2 (0, 0))) (h2 : t2 ≠ 5) (hbB : b ≠ B)
    (hcs : ∀ k, k < n → cs[k]? = some (.pointer (some ⟨b, o + k, none⟩))) (hds : ∀ k a, xs[k]? = some a → ds[o + k]? = some (.int .i64 a)) :
    Calls Try.prog 105 #[.pointer (some ⟨B, 0, none⟩), .slice (some ⟨N, 0, none⟩) n c] w fun e w' => e = .returned (.tuple #[]) ∧ Out w' base B (bs ++ enc xs) ∧ Still w w' B ∧ Below base w w' := by
  have H := hide h
  have HN := hide hN
  have Hb := hide hb
  have HX := hide hx
  have Hn := hide hn
  have HCS := hide hcs
  have HDS := hide hds
  have hnl : bs.length + 3 * n ≤ 10000 := by omega
  have hNl := heap_lt hN
  have hbl := heap_lt hb
  clear h hN hb hx hn hcs hds hl
  go_enter Try.func105, Try.ntmps105
  go_wp2
  go_loopw [8] (fun i wr => ∃ k : Nat, k ≤ n ∧ i = .int .i64 k ∧ Out wr base B (bs ++ enc (xs.take k)) ∧ Still w wr B ∧ Below base w wr) (fun i _ => n - (intOf i).toNat)
  case atStart => exact ⟨0, Nat.zero_le _, rfl, by simpa [enc] using H.out, fun _ _ _ _ h _ => h, Below.refl _ _⟩
  case round =>
    obtain ⟨k, hk, rfl, ho, hst, hbel⟩ := hrel
    have HO := hide ho
    have HST := hide hst
    clear ho hst
    by_cases hlt : k < n
    · obtain ⟨a, ha⟩ := getAt xs k (by have := Hn.out; omega)
      obtain ⟨a1, a2⟩ := HX.out a (List.mem_of_getElem? ha)
      have f0 : wr.cell? ⟨N, k, none⟩ = some (.pointer (some ⟨b, o + k, none⟩)) := (boxAt (HST.out N _ hNl hNB HN.out (fun c h => by cases h; exact h1 rfl)) k).trans (HCS.out k hlt)
      have f1 : wr.cell? ⟨b, o + k, none⟩ = some (.int .i64 a) := (boxAt (HST.out b _ hbl hbB Hb.out (fun c h => by cases h; exact h2 rfl)) (o + k)).trans (HDS.out k a ha)
      have hi : (k : Int) < (n : Int) := by omega
      have Ha := hide (take_enc xs k a ha)
      have hlen : (bs ++ enc (xs.take k)).length ≤ 10000 := by
        have g := (enc_len (xs.take k) (fun b hb => (HX.out b (List.mem_of_mem_take hb)).2)).2
        rw [List.length_take] at g
        rw [List.length_append]
        omega
      have hz := hbel.size
      have CP := hide (putNumber_any base B a (bs ++ enc (xs.take k)) wr HO.out (by omega) a1 a2 hlen)
      clear ha hlen
      go_wp2_with fail
      refine CP.out.mono ?_
      rintro e w1 ⟨rfl, o1, s1, b1⟩
      have s1' : Still wr w1 B := s1
      have O1 := hide o1
      have S1 := hide (HST.out.trans s1' hz)
      clear o1 s1 s1' CP f0 f1
      go_wp2
      go_roundw
      case rel => exact ⟨k + 1, by omega, by go_num, by rw [Ha.out, ← List.append_assoc]; exact O1.out, S1.out, hbel.trans b1⟩
      case measure => simp [intOf]; omega
    · have hge : ¬ (k : Int) < (n : Int) := by omega
      have e1 : xs.take k = xs := List.take_of_length_le (by have := Hn.out; omega)
      rw [e1] at HO
      clear e1
      go_wp2
      go_end0
      exact ⟨rfl, HO.out, HST.out, hbel⟩

end Go.Proofs.Ytafojnjpllpjjaa
