/- Contracts and plain facts that the claims of this seat lean on (texts XH2, XH3, XL, XLOk, OkLaw, Arg); no statement of the seat is proved here. -/
import Derived.Test.YtdlckeklhfplmaaPk4
import Derived.Test.YtdlckeklhfplmaaPk10
import Derived.Test.YtdlckeklhfplmaaPk11
import Derived.Test.YtdlckeklhfplmaaPk1
import Derived.ProofKit
import Derived.OpenShut
import Derived.ShutString
import Derived.ChangeOld
import Derived.Below
import Derived.Lib.SmallJoins
import Derived.Deep.Strs
import Derived.Deep.SlicePairs

/- A word of the laws as one of the program: a contract; no statement of the seat is proved here. -/
namespace Go.Proofs.Ytdlckeklhfplmaa
open Go.RowKit

set_option maxRecDepth 100000 in
set_option maxHeartbeats 8000000 in
theorem toWord_any (v : Value) (x : Wd) (w : World) (hr : WdR w v x) (hp : x.ps.length ≤ 1048576) (hl : x.ls.length ≤ 1048576) :
    Calls Try.prog 11 #[v] w fun e w' => ∃ v', e = .returned v' ∧ WdO w' (fun k => w.heap.size ≤ k) v' x ∧ Below w.heap.size w w' := by
  obtain ⟨po, pc, lo, lc, rfl, a1, a2⟩ := hr
  go_enter Try.func11, Try.ntmps11
  go_wp2_with fail
  refine (toCmd_any x _).mono ?_
  rintro e w1 ⟨rfl, rfl⟩
  go_wp2_with fail
  generalize hW : World.alloc _ _ = W
  have hal : Below w.heap.size w W := by rw [← hW]; exact bal (bal (bal (bal (bal (bal (Below.refl _ _) _) _) _) _) _) _
  have B0 : W.heap[w.heap.size]? = some (.cells (#[.int .i64 x.a0, .int .i64 x.a1, .int .i64 x.a2, .int .i64 x.a3, .int .i64 x.a4, .int .i64 x.a5, .int .i64 x.c0, .int .i64 x.c1, .int .i64 x.c2, .int .i64 x.c3, .int .i64 x.c4, .int .i64 x.c5, .int .i64 x.c6, .int .i64 x.c7, .int .i64 x.c8, .int .i64 x.c9, .int .i64 x.b0, .int .i64 x.b1, .int .i64 x.b2, .int .i64 x.b3, .int .i64 x.b4, .int .i64 x.b5, .int .i64 x.b6, .int .i64 x.b7, .slice po x.ps.length pc, .slice lo x.ls.length lc] : Array Value) 27 (0, 0)) := by rw [← hW]; exact heap_up _ (heap_up _ (heap_up _ (al3_0 w _ _ _)))
  have B1 : W.heap[w.heap.size + 1]? = some (.cells (#[.int .i64 zeroW.a0, .int .i64 zeroW.a1, .int .i64 zeroW.a2, .int .i64 zeroW.a3, .int .i64 zeroW.a4, .int .i64 zeroW.a5, .int .i64 zeroW.c0, .int .i64 zeroW.c1, .int .i64 zeroW.c2, .int .i64 zeroW.c3, .int .i64 zeroW.c4, .int .i64 zeroW.c5, .int .i64 zeroW.c6, .int .i64 zeroW.c7, .int .i64 zeroW.c8, .int .i64 zeroW.c9, .int .i64 zeroW.b0, .int .i64 zeroW.b1, .int .i64 zeroW.b2, .int .i64 zeroW.b3, .int .i64 zeroW.b4, .int .i64 zeroW.b5, .int .i64 zeroW.b6, .int .i64 zeroW.b7, .slice none 0 0, .slice none 0 0] : Array Value) 34 (0, 0)) := by rw [← hW]; exact heap_up _ (heap_up _ (heap_up _ (al3_1 w _ _ _)))
  have B2 : W.heap[w.heap.size + 1 + 1]? = some (.cells (#[.int .i64 x.a0, .int .i64 x.a1, .int .i64 x.a2, .int .i64 x.a3, .int .i64 x.a4, .int .i64 x.a5, .int .i64 x.c0, .int .i64 x.c1, .int .i64 x.c2, .int .i64 x.c3, .int .i64 x.c4, .int .i64 x.c5, .int .i64 x.c6, .int .i64 x.c7, .int .i64 x.c8, .int .i64 x.c9, .int .i64 x.b0, .int .i64 x.b1, .int .i64 x.b2, .int .i64 x.b3, .int .i64 x.b4, .int .i64 x.b5, .int .i64 x.b6, .int .i64 x.b7, .slice none 0 0, .slice none 0 0] : Array Value) 34 (0, 0)) := by rw [← hW]; exact heap_up _ (heap_up _ (heap_up _ (al3_2 w _ _ _)))
  have hsz : w.heap.size + 1 + 1 < W.heap.size := heap_lt B2
  have k1 := a1.keep hal
  clear hW
  refine (toBlkPieceS_any _ _ x.ps _ k1 hp).mono ?_
  rintro e w2 ⟨so2, rfl, r2, b2⟩
  have C0 := bKeeps b2 B0
  have C1 := bKeeps b2 B1
  have C2 := bKeeps b2 B2
  have hc0 := boxAt C0
  have hc2 := boxAt C2
  have hf2 := boxFz C2
  have H1 := hide C1
  have H2 := hide C2
  have hb2 := b2.size
  clear B0 B1 B2 C0 C1 C2 a1 k1
  go_wp2_with fail
  clear hc0 hc2 hf2
  have u2 := Upd.setCell (S := fun j => j = w.heap.size + 1 + 1) w2 (w.heap.size + 1 + 1) 24 (.slice so2 x.ps.length x.ps.length) rfl
  have c2 : Below w.heap.size w (w2.setCell ⟨w.heap.size + 1 + 1, 24, none⟩ (.slice so2 x.ps.length x.ps.length)) := (bAll hal b2).setCell (p := ⟨w.heap.size + 1 + 1, 24, none⟩) (by show _ ≤ w.heap.size + 1 + 1; omega) _
  have q2 := (r2.mono (T := fun k => W.heap.size ≤ k) (fun _ _ h => h)).keep u2 (fun k h => by omega)
  have D1 := u2.keeps H1.out (by omega)
  have D2 := row_set (.slice so2 x.ps.length x.ps.length) (j := 24) H2.out
  generalize w2.setCell ⟨w.heap.size + 1 + 1, 24, none⟩ (.slice so2 x.ps.length x.ps.length) = V at c2 q2 D1 D2 ⊢
  clear u2 H1 H2 r2 b2
  refine (toBlkLastS_any _ _ x.ls _ (a2.keep c2) hl).mono ?_
  rintro e w3 ⟨so3, rfl, r3, b3⟩
  have E1 : w3.heap[w.heap.size + 1]? = some (.cells (#[.int .i64 zeroW.a0, .int .i64 zeroW.a1, .int .i64 zeroW.a2, .int .i64 zeroW.a3, .int .i64 zeroW.a4, .int .i64 zeroW.a5, .int .i64 zeroW.c0, .int .i64 zeroW.c1, .int .i64 zeroW.c2, .int .i64 zeroW.c3, .int .i64 zeroW.c4, .int .i64 zeroW.c5, .int .i64 zeroW.c6, .int .i64 zeroW.c7, .int .i64 zeroW.c8, .int .i64 zeroW.c9, .int .i64 zeroW.b0, .int .i64 zeroW.b1, .int .i64 zeroW.b2, .int .i64 zeroW.b3, .int .i64 zeroW.b4, .int .i64 zeroW.b5, .int .i64 zeroW.b6, .int .i64 zeroW.b7, .slice none 0 0, .slice none 0 0] : Array Value) 34 (0, 0)) := bKeeps b3 D1
  have E2 : w3.heap[w.heap.size + 1 + 1]? = some (.cells (#[.int .i64 x.a0, .int .i64 x.a1, .int .i64 x.a2, .int .i64 x.a3, .int .i64 x.a4, .int .i64 x.a5, .int .i64 x.c0, .int .i64 x.c1, .int .i64 x.c2, .int .i64 x.c3, .int .i64 x.c4, .int .i64 x.c5, .int .i64 x.c6, .int .i64 x.c7, .int .i64 x.c8, .int .i64 x.c9, .int .i64 x.b0, .int .i64 x.b1, .int .i64 x.b2, .int .i64 x.b3, .int .i64 x.b4, .int .i64 x.b5, .int .i64 x.b6, .int .i64 x.b7, .slice so2 x.ps.length x.ps.length, .slice none 0 0] : Array Value) 34 (0, 0)) := bKeeps b3 D2
  have hc2 := boxAt E2
  have hf2 := boxFz E2
  have c3 := bAll c2 b3
  have q3 := q2.keepB b3
  have hvs := b3.size
  have hvw := heap_lt D2
  clear D1 D2 q2 a2
  have u3 := Upd.setCell (S := fun j => j = w.heap.size + 1 + 1) w3 (w.heap.size + 1 + 1) 25 (.slice so3 x.ls.length x.ls.length) rfl
  have F1 := u3.keeps E1 (by omega)
  have F2 : (w3.setCell ⟨w.heap.size + 1 + 1, 25, none⟩ (.slice so3 x.ls.length x.ls.length)).heap[w.heap.size + 1 + 1]? = some (.cells (#[.int .i64 x.a0, .int .i64 x.a1, .int .i64 x.a2, .int .i64 x.a3, .int .i64 x.a4, .int .i64 x.a5, .int .i64 x.c0, .int .i64 x.c1, .int .i64 x.c2, .int .i64 x.c3, .int .i64 x.c4, .int .i64 x.c5, .int .i64 x.c6, .int .i64 x.c7, .int .i64 x.c8, .int .i64 x.c9, .int .i64 x.b0, .int .i64 x.b1, .int .i64 x.b2, .int .i64 x.b3, .int .i64 x.b4, .int .i64 x.b5, .int .i64 x.b6, .int .i64 x.b7, .slice so2 x.ps.length x.ps.length, .slice so3 x.ls.length x.ls.length] : Array Value) 34 (0, 0)) := row_set _ E2
  have h1s := wd_one x so2 so3 x.ps.length x.ps.length x.ls.length x.ls.length
  have HF1 := hide F1
  have HF2 := hide F2
  have H1s := hide (Array.all_eq_true_iff_forall_mem.2 (fun v hv => h1s v (by simpa using hv)) : (#[.int .i64 x.a0, .int .i64 x.a1, .int .i64 x.a2, .int .i64 x.a3, .int .i64 x.a4, .int .i64 x.a5, .int .i64 x.c0, .int .i64 x.c1, .int .i64 x.c2, .int .i64 x.c3, .int .i64 x.c4, .int .i64 x.c5, .int .i64 x.c6, .int .i64 x.c7, .int .i64 x.c8, .int .i64 x.c9, .int .i64 x.b0, .int .i64 x.b1, .int .i64 x.b2, .int .i64 x.b3, .int .i64 x.b4, .int .i64 x.b5, .int .i64 x.b6, .int .i64 x.b7, .slice so2 x.ps.length x.ps.length, .slice so3 x.ls.length x.ls.length] : Array Value).all (·.oneCell') = true)
  clear E1 E2 F1 F2 h1s
  go_wp2_with (first
    | (refine wpList_load_row rfl 34 (.tmp 3) rfl (w.heap.size + 1 + 1) rfl _ _ (0, 0) _ HF2.out Try.underlying34 rfl infoWd ?_)
    | (refine wpList_store_row rfl 34 (.tmp 2) (.tmp 58) rfl (w.heap.size + 1) _ rfl rfl _ _ HF1.out infoWd rfl H1s.out ?_))
  refine bodyPost_ret (v := .agg #[.int .i64 x.a0, .int .i64 x.a1, .int .i64 x.a2, .int .i64 x.a3, .int .i64 x.a4, .int .i64 x.a5, .int .i64 x.c0, .int .i64 x.c1, .int .i64 x.c2, .int .i64 x.c3, .int .i64 x.c4, .int .i64 x.c5, .int .i64 x.c6, .int .i64 x.c7, .int .i64 x.c8, .int .i64 x.c9, .int .i64 x.b0, .int .i64 x.b1, .int .i64 x.b2, .int .i64 x.b3, .int .i64 x.b4, .int .i64 x.b5, .int .i64 x.b6, .int .i64 x.b7, .slice so2 x.ps.length x.ps.length, .slice so3 x.ls.length x.ls.length]) (results_cell_row Try.results11 _ _ (w.heap.size + 1) _ _ (0, 0) _ rfl (setRow_heap _ _ _ _ _ _ HF1.out) Try.underlying34 rfl infoWd) rfl ?_
  have u4 : Upd (fun j => j = w.heap.size + 1) (w3.setCell ⟨w.heap.size + 1 + 1, 25, none⟩ (.slice so3 x.ls.length x.ls.length)) ((w3.setCell ⟨w.heap.size + 1 + 1, 25, none⟩ (.slice so3 x.ls.length x.ls.length)).setRow (w.heap.size + 1) (#[.int .i64 x.a0, .int .i64 x.a1, .int .i64 x.a2, .int .i64 x.a3, .int .i64 x.a4, .int .i64 x.a5, .int .i64 x.c0, .int .i64 x.c1, .int .i64 x.c2, .int .i64 x.c3, .int .i64 x.c4, .int .i64 x.c5, .int .i64 x.c6, .int .i64 x.c7, .int .i64 x.c8, .int .i64 x.c9, .int .i64 x.b0, .int .i64 x.b1, .int .i64 x.b2, .int .i64 x.b3, .int .i64 x.b4, .int .i64 x.b5, .int .i64 x.b6, .int .i64 x.b7, .slice so2 x.ps.length x.ps.length, .slice so3 x.ls.length x.ls.length] : Array Value)) :=
    ⟨rfl, rfl, rfl, by simp, fun k _ h => setRow_other _ _ _ _ h⟩
  refine ⟨_, rfl, ⟨_, _, _, _, rfl, ?_, ?_⟩, ?_⟩
  · exact ((q3.keep u3 (fun k h => by omega)).keep u4 (fun k h => by omega)).mono (fun k _ h => by omega)
  · exact ((r3.keep u3 (fun k h => by omega)).keep u4 (fun k h => by omega)).mono (fun k _ h => by have := c2.size; omega)
  · have c4 := c3.setCell (p := ⟨w.heap.size + 1 + 1, 25, none⟩) (by show _ ≤ w.heap.size + 1 + 1; omega) (.slice so3 x.ls.length x.ls.length)
    exact c4.trans (u4.below c4.size (fun k h => by omega))

end Go.Proofs.Ytdlckeklhfplmaa

/- Words held against each other, marked, and looked at for their marks: contracts; no statement of the seat is proved here. -/
namespace Go.Proofs.Ytdlckeklhfplmaa
open Go.RowKit

set_option maxHeartbeats 4000000 in
theorem eqCmd_true (x : Wd) (w : World) :
    Calls Try.prog 40 #[ .agg #[.int .i64 x.c0, .int .i64 x.c1, .int .i64 x.c2, .int .i64 x.c3, .int .i64 x.c4, .int .i64 x.c5, .int .i64 x.c6, .int .i64 x.c7, .int .i64 x.c8, .int .i64 x.c9], .agg #[.int .i64 x.c0, .int .i64 x.c1, .int .i64 x.c2, .int .i64 x.c3, .int .i64 x.c4, .int .i64 x.c5, .int .i64 x.c6, .int .i64 x.c7, .int .i64 x.c8, .int .i64 x.c9] ] w fun e w' => e = .returned (.bool true) ∧ Below w.heap.size w w' := by
  go_enter Try.func40, Try.ntmps40
  go_wp2
  go_ret
  exact ⟨rfl, bal (bal (Below.refl _ _) _) _⟩

set_option maxRecDepth 100000 in
set_option maxHeartbeats 8000000 in
theorem eqWord_true (va vb : Value) (x : Wd) (w : World) (ha : WdR w va x) (hb : WdR w vb x) :
    Calls Try.prog 13 #[va, vb] w fun e w' => e = .returned (.bool true) ∧ Below w.heap.size w w' := by
  obtain ⟨po, pc, lo, lc, rfl, a1, a2⟩ := ha
  obtain ⟨po', pc', lo', lc', rfl, d1, d2⟩ := hb
  go_enter Try.func13, Try.ntmps13
  go_wp2_with fail
  generalize hW : World.alloc _ _ = W
  have hal : Below w.heap.size w W := by rw [← hW]; exact bal (bal (Below.refl _ _) _) _
  have B0 : W.heap[w.heap.size]? = some (.cells (#[.int .i64 x.a0, .int .i64 x.a1, .int .i64 x.a2, .int .i64 x.a3, .int .i64 x.a4, .int .i64 x.a5, .int .i64 x.c0, .int .i64 x.c1, .int .i64 x.c2, .int .i64 x.c3, .int .i64 x.c4, .int .i64 x.c5, .int .i64 x.c6, .int .i64 x.c7, .int .i64 x.c8, .int .i64 x.c9, .int .i64 x.b0, .int .i64 x.b1, .int .i64 x.b2, .int .i64 x.b3, .int .i64 x.b4, .int .i64 x.b5, .int .i64 x.b6, .int .i64 x.b7, .slice po x.ps.length pc, .slice lo x.ls.length lc] : Array Value) 34 (0, 0)) := by rw [← hW]; exact al2_0 w _ _
  have B1 : W.heap[w.heap.size + 1]? = some (.cells (#[.int .i64 x.a0, .int .i64 x.a1, .int .i64 x.a2, .int .i64 x.a3, .int .i64 x.a4, .int .i64 x.a5, .int .i64 x.c0, .int .i64 x.c1, .int .i64 x.c2, .int .i64 x.c3, .int .i64 x.c4, .int .i64 x.c5, .int .i64 x.c6, .int .i64 x.c7, .int .i64 x.c8, .int .i64 x.c9, .int .i64 x.b0, .int .i64 x.b1, .int .i64 x.b2, .int .i64 x.b3, .int .i64 x.b4, .int .i64 x.b5, .int .i64 x.b6, .int .i64 x.b7, .slice po' x.ps.length pc', .slice lo' x.ls.length lc'] : Array Value) 34 (0, 0)) := by rw [← hW]; exact al2_1 w _ _
  clear hW
  refine (eqCmd_true x _).mono ?_
  rintro e w1 ⟨rfl, b1⟩
  have C0 := bKeeps b1 B0
  have C1 := bKeeps b1 B1
  have hc0 := boxAt C0
  have hc1 := boxAt C1
  have H0 := hide C0
  have H1 := hide C1
  have c1 := bAll hal b1
  clear B0 B1 C0 C1
  go_wp2_with fail
  clear hc0 hc1
  refine (eqBlkPieceS_true _ _ _ x.ps _ (a1.keep c1) (d1.keep c1)).mono ?_
  rintro e w2 ⟨rfl, b2⟩
  have hc0 := boxAt (bKeeps b2 H0.out)
  have hc1 := boxAt (bKeeps b2 H1.out)
  have c2 := bAll c1 b2
  go_wp2_with fail
  refine (eqBlkLastS_true _ _ _ x.ls _ (a2.keep c2) (d2.keep c2)).mono ?_
  rintro e w3 ⟨rfl, b3⟩
  go_wp2
  go_ret
  exact ⟨rfl, bAll c2 b3⟩

/-- The marks of a word's lists. -/
def mkWd (x : Wd) (k : Nat) : Wd := { x with ps := mkP k x.ps.length, ls := mkL (k + x.ps.length * 4) x.ls.length }

set_option maxRecDepth 100000 in
set_option maxHeartbeats 4000000 in
theorem markWord_any (S : Nat → Prop) (v : Value) (x : Wd) (k0 : Nat) (w : World) (h : WdO w S v x) (h1 : 1 ≤ k0) (h2 : k0 + x.ps.length * 4 + x.ls.length * 2 ≤ 1099511627776) :
    Calls Try.prog 17 #[v, .int .i64 k0] w fun e w' => e = .returned (.int .i64 (k0 + x.ps.length * 4 + x.ls.length * 2 : Nat)) ∧ WdO w' S v (mkWd x k0) ∧ Upd S w w' := by
  obtain ⟨po, pc, lo, lc, rfl, a1, a2⟩ := h
  go_enter Try.func17, Try.ntmps17
  go_wp2_with fail
  generalize hW : World.alloc _ _ = W
  have hal : Below w.heap.size w W := by rw [← hW]; exact bal (Below.refl _ _) _
  have hbox : W.heap[w.heap.size]? = some (.cells (#[.int .i64 x.a0, .int .i64 x.a1, .int .i64 x.a2, .int .i64 x.a3, .int .i64 x.a4, .int .i64 x.a5, .int .i64 x.c0, .int .i64 x.c1, .int .i64 x.c2, .int .i64 x.c3, .int .i64 x.c4, .int .i64 x.c5, .int .i64 x.c6, .int .i64 x.c7, .int .i64 x.c8, .int .i64 x.c9, .int .i64 x.b0, .int .i64 x.b1, .int .i64 x.b2, .int .i64 x.b3, .int .i64 x.b4, .int .i64 x.b5, .int .i64 x.b6, .int .i64 x.b7, .slice po x.ps.length pc, .slice lo x.ls.length lc] : Array Value) 34 (0, 0)) := by rw [← hW]; exact heap_alloc_new w _
  clear hW
  have k1 := (a1.keepB hal).typed
  have k2 := (a2.keepB hal).typed
  refine (markBlkPieceS_any _ _ _ _ k0 _ k1 h1 (by omega)).mono ?_
  rintro e w1 ⟨rfl, r1, u1⟩
  have hbox1 := u1.keeps hbox (by rintro ⟨_, c, hc⟩; rw [hbox] at hc; simp at hc)
  have hc1 := boxAt hbox1
  have q2 := ((k2.keep u1 (fun k => typed_apart (by decide) k)).mono (fun _ _ h => h.1)).typed
  have q1 := (r1.mono (T := S) (fun _ _ h => h.1)).typed
  clear hbox hbox1
  go_wp2_with fail
  refine (markBlkLastS_any _ _ _ _ (k0 + x.ps.length * 4) _ q2 (by omega) (by omega)).mono ?_
  rintro e w2 ⟨rfl, r2, u2⟩
  go_wp2
  go_ret
  refine ⟨rfl, ⟨po, pc, lo, lc, ?_, ?_, ?_⟩, ?_⟩
  · simp only [mkWd, mkP_len, mkL_len]
  · simp only [mkWd, mkP_len]
    exact (q1.keep u2 (fun k => typed_apart (by decide) k)).mono (fun _ _ h => h.1)
  · simp only [mkWd, mkL_len]
    exact r2.mono (fun _ _ h => h.1)
  · exact ((Upd.ofBelow hal).trans (u1.mono fun _ h => h.1)).trans (u2.mono fun _ h => h.1)

set_option maxRecDepth 100000 in
set_option maxHeartbeats 4000000 in
theorem heldWord_ok (v : Value) (x : Wd) (k0 : Nat) (w : World) (h : WdR w v (mkWd x k0)) (h1 : 1 ≤ k0) (h2 : k0 + x.ps.length * 4 + x.ls.length * 2 ≤ 1099511627776) :
    Calls Try.prog 23 #[v, .int .i64 k0] w fun e w' => e = .returned (.int .i64 (k0 + x.ps.length * 4 + x.ls.length * 2 : Nat)) ∧ Below w.heap.size w w' := by
  obtain ⟨po, pc, lo, lc, rfl, a1, a2⟩ := h
  simp only [mkWd, mkP_len, mkL_len] at a1 a2 ⊢
  go_enter Try.func23, Try.ntmps23
  go_wp2_with fail
  generalize hW : World.alloc _ _ = W
  have hal : Below w.heap.size w W := by rw [← hW]; exact bal (Below.refl _ _) _
  have hbox : W.heap[w.heap.size]? = some (.cells (#[.int .i64 x.a0, .int .i64 x.a1, .int .i64 x.a2, .int .i64 x.a3, .int .i64 x.a4, .int .i64 x.a5, .int .i64 x.c0, .int .i64 x.c1, .int .i64 x.c2, .int .i64 x.c3, .int .i64 x.c4, .int .i64 x.c5, .int .i64 x.c6, .int .i64 x.c7, .int .i64 x.c8, .int .i64 x.c9, .int .i64 x.b0, .int .i64 x.b1, .int .i64 x.b2, .int .i64 x.b3, .int .i64 x.b4, .int .i64 x.b5, .int .i64 x.b6, .int .i64 x.b7, .slice po x.ps.length pc, .slice lo x.ls.length lc] : Array Value) 34 (0, 0)) := by rw [← hW]; exact heap_alloc_new w _
  clear hW
  refine (heldBlkPieceS_ok _ _ k0 _ (a1.keep hal) h1 (by omega)).mono ?_
  rintro e w1 ⟨rfl, b1⟩
  have hc1 := boxAt (bKeeps b1 hbox)
  have c1 := bAll hal b1
  obtain ⟨m, hm⟩ : ∃ m, m = k0 + x.ps.length * 4 := ⟨_, rfl⟩
  rw [← hm] at a2 h2 ⊢
  have hm2 : (m : Int) ≤ 1099511627776 := by omega
  have Hm := hide hm
  clear hm hbox
  go_wp2_with fail
  refine (heldBlkLastS_ok _ _ m _ (a2.keep c1) (by have := Hm.out; omega) (by omega)).mono ?_
  rintro e w2 ⟨rfl, b2⟩
  obtain ⟨q, hq⟩ : ∃ q, q = m + x.ls.length * 2 := ⟨_, rfl⟩
  rw [← hq] at h2 ⊢
  have Hq := hide hq
  clear hq
  go_wp2
  go_ret
  exact ⟨by rw [← Hm.out, ← Hq.out]; rfl, bAll c1 b2⟩

end Go.Proofs.Ytdlckeklhfplmaa

/- What the laws of words have in common: contracts; no statement of the seat is proved here. -/
namespace Go.Proofs.Ytdlckeklhfplmaa
open Go.RowKit

theorem WdR.agg {w : World} {v : Value} {x : Wd} (h : WdR w v x) : ∃ cs : Array Value, v = .agg cs ∧ cs.size = 26 ∧ cs.all (·.oneCell') = true := by
  obtain ⟨po, pc, lo, lc, rfl, -, -⟩ := h
  exact ⟨_, rfl, rfl, all_of_list (List.all_eq_true.2 (wd_one x po lo _ pc _ lc))⟩
theorem WdR.lens {w : World} {v : Value} {x : Wd} (h : WdR w v x) : x.ps.length ≤ 9223372036854775807 ∧ x.ls.length ≤ 9223372036854775807 := by
  obtain ⟨po, pc, lo, lc, -, a1, a2⟩ := h
  exact ⟨by obtain ⟨_, _, _, h, _⟩ := a1; exact h, by obtain ⟨_, _, _, h, _⟩ := a2; exact h⟩

theorem szWord_at (v : Value) (x : Wd) (w u : World) (h : WdR u v x) :
    Calls Try.prog 9 #[v, .int .i64 1048576] w fun e w' => ∃ r, e = .returned (.int .i64 r) ∧ (r < 0 ∨ (0 ≤ r ∧ x.ps.length ≤ 1048576 ∧ x.ls.length ≤ 1048576)) ∧ Below w.heap.size w w' := by
  obtain ⟨hp, hl⟩ := h.lens
  obtain ⟨po, pc, lo, lc, rfl, -, -⟩ := h
  exact szWord_any x po lo _ pc _ lc w hp hl

/-- A whole block is loaded, in a region that draws its order. -/
theorem yields_row {P : Program} {ops : Array Oper} {S : World → Prop} {op : Oper} {a : Act} (hw : Region.wanted op (yielded ops a.tmps) = true) (ty : TypeId) (x : Operand) (ho : op.op = .load ty x)
    (g : Nat) (hx : a.eval x = .pointer (some ⟨g, 0, none⟩)) (t : TypeId) (cs : Array Value) (d : TypeDesc) (hS : ∀ w, S w → w.heap[g]? = some (.cells cs t (0, 0)))
    (hu : P.underlying ty = some d) (hd : (match d with | .struct _ | .array _ _ => true | _ => false) = true) (hi : (P.info? ty).map (·.size) = some cs.size) : YieldsIf P ops S op (.agg cs) a :=
  .inl ⟨hw, fun w hw' => by
    unfold execOp
    simp only [ho, hx, Instr.loadAt, Instr.sureAddr, Sem.run_bind, Sem.run_pure, Result.andThen_ok, run_loadVar_row w g t ty cs (0, 0) d (hS w hw') hu hd hi]⟩

theorem infoLw : (Try.prog.info? 27).map (·.size) = some 26 := by kernel_rfl
theorem infoAt {t : TypeId} {n m : Nat} (h : (Try.prog.info? t).map (·.size) = some n) (hm : m = n) : (Try.prog.info? t).map (·.size) = some m := by rw [hm]; exact h
theorem zero26 : (#[Value.int .i64 0, .int .i64 0, .int .i64 0, .int .i64 0, .int .i64 0, .int .i64 0, .int .i64 0, .int .i64 0, .int .i64 0, .int .i64 0, .int .i64 0, .int .i64 0, .int .i64 0, .int .i64 0, .int .i64 0, .int .i64 0, .int .i64 0, .int .i64 0, .int .i64 0, .int .i64 0, .int .i64 0, .int .i64 0, .int .i64 0, .int .i64 0, .slice none 0 0, .slice none 0 0] : Array Value).size = 26 := rfl

end Go.Proofs.Ytdlckeklhfplmaa

/- What the law FnExactWordOk does: its walk; the statement itself is proved elsewhere. -/
namespace Go.Proofs.Ytdlckeklhfplmaa
open Go.RowKit

set_option maxRecDepth 100000 in
set_option maxHeartbeats 4000000 in
theorem wordOk_walk (v : Value) (x : Wd) (w : World) (h : WdR w v x) :
    Calls Try.prog 3 #[v] w fun e w' => e = .returned (.bool true) ∧ Below w.heap.size w w' := by
  obtain ⟨cs, rfl, hs, h1⟩ := h.agg
  have HX := hide h
  have HI := hide (infoAt infoLw hs)
  clear h hs h1
  have hb0 := bal (Below.refl w.heap.size w) (.cells cs 27)
  have B0 := hide (heap_alloc_new w (.cells cs 27))
  go_enter Try.func3, Try.ntmps3
  go_wp2_with (refine wpList_load_row rfl 27 (.tmp 1) rfl w.heap.size rfl _ cs (0, 0) _ B0.out Try.underlying27 rfl HI.out ?_)
  refine (szWord_at _ x _ _ HX.out).mono ?_
  rintro e w1 ⟨r, rfl, hz, b1⟩
  rcases hz with hneg | ⟨hr, hp, hl⟩
  · go_wp2
    go_ret
    exact ⟨rfl, bAll hb0 b1⟩
  have c1 := bAll hb0 b1
  have B1 := hide (bKeeps b1 B0.out)
  clear hb0 b1 B0
  go_wp2_with (refine wpList_load_row rfl 27 (.tmp 1) rfl w.heap.size rfl _ cs (0, 0) _ B1.out Try.underlying27 rfl HI.out ?_)
  refine (toWord_any _ x _ (HX.out.keep c1) hp hl).mono ?_
  rintro e w2 ⟨v2, rfl, r2, b2⟩
  have c2 := bAll c1 b2
  have B2 := hide (bKeeps b2 B1.out)
  have k2 := r2.reads
  clear r2 b2 B1
  obtain ⟨R, HR⟩ : ∃ R, Hid (okW x = R) := ⟨_, rfl⟩
  have SC := hide (specWordOk_any v2 x w2 k2)
  rw [HR.out] at SC
  go_wp2_with fail
  refine SC.out.mono ?_
  rintro e w3 ⟨rfl, b3⟩
  have c3 := bAll c2 b3
  have B3 := hide (bKeeps b3 B2.out)
  clear SC k2 b3 B2
  go_wp2_with (refine wpList_load_row rfl 27 (.tmp 1) rfl w.heap.size rfl _ cs (0, 0) _ B3.out Try.underlying27 rfl HI.out ?_)
  refine (toWord_any _ x _ (HX.out.keep c3) hp hl).mono ?_
  rintro e w4 ⟨v4, rfl, r4, b4⟩
  have c4 := bAll c3 b4
  have B4 := hide (heap_up (.cells cs 34) (bKeeps b4 B3.out))
  obtain ⟨ds, rfl, hds, hd1⟩ := r4.reads.agg
  have k4 := r4.reads.keep (bal (Below.refl _ w4) (.cells ds 34))
  have HI2 := hide (infoAt infoWd hds)
  have HZ2 := hide (zero26.trans hds.symm)
  have H12 := hide hd1
  have c5 := bal c4 (.cells ds 34)
  have E0 := hide (heap_up (.cells ds 34) (bKeeps b4 B3.out))
  have E1 := hide (heap_alloc_new w4 (.cells ds 34))
  have IC := hide (implWordOk_any _ x _ k4)
  rw [HR.out] at IC
  clear r4 b4 B3 B4 hds hd1 c4
  go_wp2_with (first
    | (refine wpList_store_row rfl 34 (.tmp 5) (.tmp 16) rfl w4.heap.size ds rfl rfl _ _ (heap_alloc_new w4 _) HI2.out HZ2.out H12.out ?_; rw [World.setRow_alloc_new])
    | (refine wpList_load_row rfl 34 (.tmp 5) rfl w4.heap.size rfl _ ds (0, 0) _ E1.out Try.underlying34 rfl HI2.out ?_))
  refine IC.out.mono ?_
  rintro e w6 ⟨rfl, b6⟩
  have c6 := bAll c5 b6
  have F0 := hide (bKeeps b6 E0.out)
  have F1 := hide (bKeeps b6 E1.out)
  have k6 := k4.keep b6
  clear IC E0 E1 k4 c5 b6
  go_wp2_with fail
  refine wp_region_noPanic ?_
  refine wp_region_held_drew (S := (fun w' => w'.heap[w.heap.size]? = some (.cells cs 27 (0, 0)) ∧ w'.heap[w4.heap.size]? = some (.cells ds 34 (0, 0)))) (by kernel_rfl) ?_ (fun hHeld => ?_)
  · exact ⟨F0.out, F1.out⟩
  refine wpAnyH_take (i := 0) (v := .agg ds) rfl (by kernel_rfl) (by kernel_rfl) (by kernel_rfl) (fun _ _ _ h => h) (yields_row rfl 34 (.tmp 5) rfl (w4.heap.size) rfl _ ds _ (fun _ h => h.2) Try.underlying34 rfl HI2.out) (by assumption) ?_
  simp only [Act.put, List.getElem_toArray, List.getElem_cons_zero, List.setIfInBounds_toArray, List.set_cons_zero, List.set_cons_succ]
  refine wpAnyH_take (i := 1) (v := .agg cs) rfl (by kernel_rfl) (by kernel_rfl) (by kernel_rfl) (fun _ _ _ h => h) (yields_row rfl 27 (.tmp 1) rfl (w.heap.size) rfl _ cs _ (fun _ h => h.1) Try.underlying27 rfl HI.out) (by assumption) ?_
  simp only [Act.put, List.getElem_toArray, List.getElem_cons_zero, List.getElem_cons_succ, List.setIfInBounds_toArray, List.set_cons_zero, List.set_cons_succ]
  refine wpAnyH_ready (rs := [2]) (by kernel_rfl) (by simp) ?_
  refine AllReadyH.cons rfl (fun K hK => ?_) AllReadyH.nil
  go_simp
  (go_at_call 11; refine (toWord_any _ x _ (HX.out.keep (bDrewB c6)) hp hl).mono ?_; rintro e w7 ⟨v7, rfl, r7, b7⟩; have b7' : Below w6.heap.size w6 w7 := bUndrew b7)
  refine hK.out _ _ ?_ (fun hHeld => ?_)
  · exact ⟨bKeeps b7 F0.out, bKeeps b7 F1.out⟩
  clear hK K
  refine wpAnyH_ready (rs := [3]) (by kernel_rfl) (by simp) ?_
  refine AllReadyH.cons rfl (fun K hK => ?_) AllReadyH.nil
  go_simp
  (go_at_call 13; refine (eqWord_true _ _ x _ (k6.keep b7') r7.reads).mono ?_; rintro e w8 ⟨rfl, b8⟩)
  refine hK.out _ _ ?_ (fun hHeld => ?_)
  · exact ⟨bKeeps b8 (bKeeps b7 F0.out), bKeeps b8 (bKeeps b7 F1.out)⟩
  clear hK K
  refine wpAnyH_take (i := 4) (v := ?v1) rfl (by kernel_rfl) (by kernel_rfl) (by kernel_rfl) (fun _ _ _ h => h) (Or.inl ⟨by rfl, ?hy1⟩) (by assumption) ?rest1
  case hy1 => ((intro w hSw; (try dsimp only at hSw); (try simp only [List.getElem_toArray, List.getElem_cons_zero, List.getElem_cons_succ]); go_simp; first | done | (with_reducible rfl)))
  simp only [Act.put, List.getElem_toArray, List.getElem_cons_zero, List.getElem_cons_succ, List.setIfInBounds_toArray, List.set_cons_zero, List.set_cons_succ]
  refine wpAnyH_done (by kernel_rfl) ?_ _
  refine NoPanic.normal ?_
  go_wp2
  go_ret
  exact ⟨rfl, bAll (bAll c6 b7') b8⟩

end Go.Proofs.Ytdlckeklhfplmaa

/- What the law FnExactSecOk does: its walk; the statement itself is proved elsewhere. -/
namespace Go.Proofs.Ytdlckeklhfplmaa
open Go.RowKit

/-- What a disk that came in is known by: it reads so, and its texts have a length. -/
structure DiskIn (w : World) (v : Value) (kept : List ByteArray) (wait : List (Int × ByteArray)) : Prop where
  reads : DiskR w v kept wait
  kept : ∀ s ∈ kept, s.size ≤ 9223372036854775807
  wait : ∀ s ∈ wait, s.2.size ≤ 9223372036854775807

theorem DiskR.shape {w : World} {v : Value} {kept : List ByteArray} {wait : List (Int × ByteArray)} (h : DiskR w v kept wait) : ∃ ao ca ao' ca', v = .agg #[.slice ao kept.length ca, .slice ao' wait.length ca'] := by
  obtain ⟨vk, vw, rfl, ⟨ao, ca, rfl, -⟩, ⟨ao', ca', rfl, -⟩⟩ := h
  exact ⟨ao, ca, ao', ca', rfl⟩

end Go.Proofs.Ytdlckeklhfplmaa

/- How an argument that is a slice of texts, or of pairs of a number and a text, is opened; no statement of the seat is proved here. -/
namespace Go.Proofs.Ytdlckeklhfplmaa
open Go.ChangeShapes Go.WideShapes Go.ChangeAt Go.RowKit Go.Deep Go.Joins

section
variable {H : Type} {enc : TypeId × Value → H} {P : Program} {w : World} {base : Nat} {spare : Nat → Bool} {held : Bool}

theorem rowR_of_strs {t e : TypeId} {fuel : Nat} {v : Value} {x : DataW H × List MemPlace} (ht : P.underlying t = some (.slice e)) (he : P.underlying e = some .string) (hc : P.cellsOf e = 1)
    (h : DataW.trod enc P w base spare held fuel t [v] = some x) : ∃ ss : List ByteArray, RowR w 1 v ss.length (ss.map Value.string) ∧ ∀ s ∈ ss, s.size ≤ 9223372036854775807 := by
  rcases open_strs ht he hc h with ⟨hcs, _⟩ | ⟨a, len, cap, m, Sx, hcs, _, hl, hm, hmm, _, hx⟩
  · obtain rfl : v = .slice none 0 0 := by simpa using hcs
    exact ⟨[], RowR.nil _ _, by simp⟩
  · obtain rfl : v = .slice (some a) len cap := by simpa using hcs
    have hlm : len ≤ m := by rw [hmm]; split <;> omega
    unfold maxLen at hm hx
    refine ⟨(List.range len).map Sx, ⟨some a, cap, by simp, by simp; omega, by simp, fun h0 => ?_⟩, ?_⟩
    · simp only [List.length_map, List.length_range] at h0
      have h1 := (hx 0 (by omega)).1
      obtain ⟨b, off, spot⟩ := a
      have hspot : spot = none := by simpa [Addr.add] using World.cell?_spot h1
      subst hspot
      refine ⟨b, off, rfl, fun j u hj => ?_⟩
      have hj' : j < len := by have := (List.getElem?_eq_some_iff.1 hj).1; simpa using this
      have := (hx j (by omega)).1
      rw [Addr.add_lit] at this
      rw [this]
      simpa [hj'] using hj
    · intro s hs
      obtain ⟨i, hi, rfl⟩ := List.mem_map.1 hs
      have := List.mem_range.1 hi
      exact (hx i (by omega)).2

theorem rowR_of_pairs {t e : TypeId} {f0 f1 : Field} {fuel : Nat} {v : Value} {x : DataW H × List MemPlace} (ht : P.underlying t = some (.slice e)) (he : P.underlying e = some (.struct #[f0, f1]))
    (ce : P.cellsOf e = 2) (o0 : f0.offset = 0) (o1 : f1.offset = 1) (c0 : P.cellsOf f0.type = 1) (c1 : P.cellsOf f1.type = 1) (t0 : P.underlying f0.type = some (.int .i64)) (t1 : P.underlying f1.type = some .string)
    (h : DataW.trod enc P w base spare held fuel t [v] = some x) : ∃ xs : List (Int × ByteArray), RowR w 2 v xs.length (wcells xs) ∧ ∀ s ∈ xs, s.2.size ≤ 9223372036854775807 := by
  rcases open_slice_pairs ht he ce o0 o1 c0 c1 h with ⟨hcs, _⟩ | ⟨a, len, cap, m, n, V0, V1, D0, D1, P0, P1, hcs, _, hl, hm, hmm, _, hx⟩
  · obtain rfl : v = .slice none 0 0 := by simpa using hcs
    exact ⟨[], RowR.nil _ _, by simp⟩
  · obtain rfl : v = .slice (some a) len cap := by simpa using hcs
    have hlm : len ≤ m := by rw [hmm]; split <;> omega
    unfold maxLen at hm
    have each : ∀ i, i < m → ∃ y : Int × ByteArray, V0 i = .int .i64 y.1 ∧ V1 i = .string y.2 ∧ y.2.size ≤ 9223372036854775807 := fun i hi => by
      obtain ⟨_, _, h0, h1⟩ := hx i hi
      obtain ⟨q, e0, _, _⟩ := DataW.trod_int t0 h0
      obtain ⟨s, e1, _, hs⟩ := DataW.trod_string t1 h1
      unfold maxLen at hs
      exact ⟨(q, s), by simpa using e0, by simpa using e1, hs⟩
    obtain ⟨Y, hY⟩ := choose_lt each
    refine ⟨(List.range len).map Y, ⟨some a, cap, by simp, by simp; omega, by rw [wcells_len], fun h0 => ?_⟩, ?_⟩
    · simp only [List.length_map, List.length_range] at h0
      have h1 := (hx 0 (by omega)).1
      obtain ⟨b, off, spot⟩ := a
      have hspot : spot = none := by simpa [Addr.add] using World.cell?_spot h1
      subst hspot
      refine ⟨b, off, rfl, fun j u hj => ?_⟩
      have hj' : j < len * 2 := by have := (List.getElem?_eq_some_iff.1 hj).1; rw [wcells_len] at this; simpa using this
      have hw := wcells_at ((List.range len).map Y) (j / 2) (Y (j / 2)) (by simp [show j / 2 < len by omega])
      obtain ⟨q0, q1, _⟩ := hx (j / 2) (by omega)
      obtain ⟨y0, y1, _⟩ := hY (j / 2) (by omega)
      rw [Addr.add_lit] at q0 q1
      rcases Nat.mod_two_eq_zero_or_one j with ej | ej
      · rw [show 2 * (j / 2) = j by omega] at hw
        rw [show j / 2 * 2 = j by omega, y0] at q0
        rw [hw.1] at hj
        rw [q0]
        exact hj
      · rw [show 2 * (j / 2) + 1 = j by omega] at hw
        rw [show j / 2 * 2 + 1 = j by omega, y1] at q1
        rw [hw.2] at hj
        rw [q1]
        exact hj
    · intro s hs
      obtain ⟨i, hi, rfl⟩ := List.mem_map.1 hs
      have := List.mem_range.1 hi
      exact (hY i (by omega)).2.2
end

end Go.Proofs.Ytdlckeklhfplmaa
