/- Contracts and plain facts that this claim leans on (texts XUP, VU, XUU); no statement of the seat is proved here. -/
import Derived.Test.YtdnojnkcmncffaaWk35
import Derived.Test.YtdnojnkcmncffaaWk39
import Derived.Laws.ResultCell
import Derived.Test.YtdnojnkcmncffaaWk24
import Derived.Test.YtdnojnkcmncffaaWk27
import Derived.Laws.BytesArg
import Derived.Test.YtdnojnkcmncffaaWk18
import Derived.Test.YtdnojnkcmncffaaWk30

/- The program's reader of words: contracts; no statement of the seat is proved here. -/
namespace Go.Proofs.Ytdnojnkcmncffaa
open Go.RowKit

theorem wdOf24 (ys : List Int) (h : ys.length = 24) : ∃ x : Wd, ys = x.nums := by
  match ys, h with
  | [a0, a1, a2, a3, a4, a5, a6, a7, a8, a9, a10, a11, a12, a13, a14, a15, a16, a17, a18, a19, a20, a21, a22, a23], _ => exact ⟨⟨a0, a1, a2, a3, a4, a5, a6, a7, a8, a9, a10, a11, a12, a13, a14, a15, a16, a17, a18, a19, a20, a21, a22, a23, [], []⟩, rfl⟩

/-- What taking a word gives. -/
def TkW (w0 w : World) (G : Nat) (bs : List Nat) (x : Wd) (w' : World) : Prop := ∃ bs', Tk w0 w' G bs' ∧ Rdw bs x bs' ∧ Upd (fun j => j = G) w w'

set_option maxRecDepth 100000 in
set_option maxHeartbeats 16000000 in
theorem takeWord_any (w0 w : World) (G : Nat) (bs : List Nat) (h : Tk w0 w G bs) :
    Calls Try.prog 48 #[.pointer (some ⟨G, 0, none⟩)] w fun e w' => ∃ (v : Value), e = .returned v ∧ ∃ x : Wd, WdO w' (fun k => w.heap.size ≤ k) v x ∧ TkW w0 w G bs x w' := by
  obtain ⟨hGl, hG0, hw0⟩ := h.lt
  have al := bal (bal (Below.refl w.heap.size w) (.cells #[.int .i64 0, .int .i64 0, .int .i64 0, .int .i64 0, .int .i64 0, .int .i64 0, .int .i64 0, .int .i64 0, .int .i64 0, .int .i64 0, .int .i64 0, .int .i64 0, .int .i64 0, .int .i64 0, .int .i64 0, .int .i64 0, .int .i64 0, .int .i64 0, .int .i64 0, .int .i64 0, .int .i64 0, .int .i64 0, .int .i64 0, .int .i64 0, .slice none 0 0, .slice none 0 0] 34)) (.cells #[.int .i64 0, .int .i64 0, .int .i64 0, .int .i64 0, .int .i64 0, .int .i64 0, .int .i64 0, .int .i64 0, .int .i64 0, .int .i64 0, .int .i64 0, .int .i64 0, .int .i64 0, .int .i64 0, .int .i64 0, .int .i64 0, .int .i64 0, .int .i64 0, .int .i64 0, .int .i64 0, .int .i64 0, .int .i64 0, .int .i64 0, .int .i64 0, .slice none 0 0, .slice none 0 0] 34)
  have T0 := h.keepB al
  have R0 := hide (al2_0 w (.cells #[.int .i64 0, .int .i64 0, .int .i64 0, .int .i64 0, .int .i64 0, .int .i64 0, .int .i64 0, .int .i64 0, .int .i64 0, .int .i64 0, .int .i64 0, .int .i64 0, .int .i64 0, .int .i64 0, .int .i64 0, .int .i64 0, .int .i64 0, .int .i64 0, .int .i64 0, .int .i64 0, .int .i64 0, .int .i64 0, .int .i64 0, .int .i64 0, .slice none 0 0, .slice none 0 0] 34) (.cells #[.int .i64 0, .int .i64 0, .int .i64 0, .int .i64 0, .int .i64 0, .int .i64 0, .int .i64 0, .int .i64 0, .int .i64 0, .int .i64 0, .int .i64 0, .int .i64 0, .int .i64 0, .int .i64 0, .int .i64 0, .int .i64 0, .int .i64 0, .int .i64 0, .int .i64 0, .int .i64 0, .int .i64 0, .int .i64 0, .int .i64 0, .int .i64 0, .slice none 0 0, .slice none 0 0] 34))
  have D0 := hide (al2_1 w (.cells #[.int .i64 0, .int .i64 0, .int .i64 0, .int .i64 0, .int .i64 0, .int .i64 0, .int .i64 0, .int .i64 0, .int .i64 0, .int .i64 0, .int .i64 0, .int .i64 0, .int .i64 0, .int .i64 0, .int .i64 0, .int .i64 0, .int .i64 0, .int .i64 0, .int .i64 0, .int .i64 0, .int .i64 0, .int .i64 0, .int .i64 0, .int .i64 0, .slice none 0 0, .slice none 0 0] 34) (.cells #[.int .i64 0, .int .i64 0, .int .i64 0, .int .i64 0, .int .i64 0, .int .i64 0, .int .i64 0, .int .i64 0, .int .i64 0, .int .i64 0, .int .i64 0, .int .i64 0, .int .i64 0, .int .i64 0, .int .i64 0, .int .i64 0, .int .i64 0, .int .i64 0, .int .i64 0, .int .i64 0, .int .i64 0, .int .i64 0, .int .i64 0, .int .i64 0, .slice none 0 0, .slice none 0 0] 34))
  clear h
  go_enter Try.func48, Try.ntmps48
  go_wp2_with fail
  generalize World.alloc _ _ = W at al T0 R0 D0 ⊢
  refine (wordNumbers_any (w.heap.size + 1) W).mono ?_
  rintro e w1 ⟨ps, rfl, hps, b1⟩
  have alp := bal (Below.refl w1.heap.size w1) (.cells ps 116)
  have HP := hide hps
  have H24 := hide (show (Try.prog.info? 116).map (·.size) = some ps.size by rw [hps.1]; exact info24)
  have HS := hide (show 24 = ps.size from hps.1.symm)
  have H1 := hide hps.one
  have c1 := bAll b1 alp
  have R1 := hide (bKeeps c1 R0.out)
  have D1 := hide (bKeeps c1 D0.out)
  have T1 := T0.keepB c1
  have U1 := hide (Upd.ofBelow (S := fun j => j = G) (bAll al c1))
  have hz1 : w.heap.size + 1 < w1.heap.size := heap_lt (bKeeps b1 D0.out)
  have P1 := hide (heap_alloc_new w1 (.cells ps 116))
  have CT := hide (take_any w0 _ G (w.heap.size + 1) w1.heap.size 0 24 24 _ _ bs T1 D1.out (by decide) (by omega) (by omega) (by omega) (by omega) (by omega) (fun k hk => by rw [Nat.zero_add, boxAt P1.out k]; exact (HP.out.2 k hk).trans (by rw [Nat.zero_add])))
  clear hps al b1 T0 R0 D0 alp c1 T1 D1 P1 HP
  go_wp2_with (refine wpList_store_row rfl 116 (.tmp 4) (.tmp 5) rfl w1.heap.size ps rfl rfl _ _ (heap_alloc_new w1 _) H24.out HS.out H1.out ?_; rw [World.setRow_alloc_new])
  refine CT.out.mono ?_
  rintro e w2 ⟨rfl, ys, b2, hyl, tk2, rd2, hD2, u2⟩
  obtain ⟨x, rfl⟩ := wdOf24 ys hyl
  have D2 : Hid (w2.heap[w.heap.size + 1]? = some (.cells (#[.int .i64 x.a0, .int .i64 x.a1, .int .i64 x.a2, .int .i64 x.a3, .int .i64 x.a4, .int .i64 x.a5, .int .i64 x.c0, .int .i64 x.c1, .int .i64 x.c2, .int .i64 x.c3, .int .i64 x.c4, .int .i64 x.c5, .int .i64 x.c6, .int .i64 x.c7, .int .i64 x.c8, .int .i64 x.c9, .int .i64 x.b0, .int .i64 x.b1, .int .i64 x.b2, .int .i64 x.b3, .int .i64 x.b4, .int .i64 x.b5, .int .i64 x.b6, .int .i64 x.b7, .slice none 0 0, .slice none 0 0] : Array Value) 34 (0, 0))) := hD2
  have R2 := hide (u2.keeps R1.out (by omega))
  have U2 := hide (U1.out.transW u2 (fun i h => by omega))
  have RD := hide rd2
  have z2 := U2.out.size
  clear CT hyl rd2 hD2 u2 R1 U1 H24 HS H1
  go_wp2_with fail
  refine (takeP_any w0 w2 G b2 tk2).mono ?_
  rintro e w3 ⟨po, pc, m, rfl, xs, hm, row3, hm60, b3, tk3, rd3, u3⟩
  have D3 := hide (u3.keeps D2.out (by omega))
  have R3 := hide (u3.keeps R2.out (by omega))
  have c0 : w3.cell? ⟨w.heap.size + 1, 24, none⟩ = some (.slice none 0 0) := boxAt D3.out 24
  have c1 : w3.frozen? ⟨w.heap.size + 1, 24, none⟩ = false := boxFz D3.out 24
  have us := Upd.setCell (S := fun j => j = w.heap.size + 1) w3 (w.heap.size + 1) 24 (.slice po m pc) rfl
  have N1 : Hid ((w3.setCell ⟨w.heap.size + 1, 24, none⟩ (.slice po m pc)).heap[w.heap.size + 1]? = some (.cells (#[.int .i64 x.a0, .int .i64 x.a1, .int .i64 x.a2, .int .i64 x.a3, .int .i64 x.a4, .int .i64 x.a5, .int .i64 x.c0, .int .i64 x.c1, .int .i64 x.c2, .int .i64 x.c3, .int .i64 x.c4, .int .i64 x.c5, .int .i64 x.c6, .int .i64 x.c7, .int .i64 x.c8, .int .i64 x.c9, .int .i64 x.b0, .int .i64 x.b1, .int .i64 x.b2, .int .i64 x.b3, .int .i64 x.b4, .int .i64 x.b5, .int .i64 x.b6, .int .i64 x.b7, .slice po m pc, .slice none 0 0] : Array Value) 34 (0, 0))) := row_set _ D3.out
  have R4 := hide (us.keeps R3.out (by omega))
  have row4 := hide (RowA.keepTy8 (row3.base (b' := w.heap.size) (by omega)) us (fun k h1 h2 => by subst h2; exact typed_box D3.out (by decide) rfl h1))
  have tk4 := tk3.keep us (by omega) (fun k h => by omega)
  have U4 := hide ((U2.out.trans u3).transW us (fun i h => .inr (by omega)))
  have RP := hide rd3
  have HM := hide hm
  clear tk2 D2 R2 U2 row3 tk3 rd3 u3 R3 D3 hm
  go_wp2_with fail
  clear c0 c1
  generalize World.setCell _ _ _ = V at us N1 R4 row4 tk4 U4 ⊢
  have zV := U4.out.size
  refine (takeL_any w0 V G b3 tk4).mono ?_
  rintro e w5 ⟨lo, lc, ml, rfl, ls, hml, row5, hm4, b5, tk5, rd5, u5⟩
  have D5 := hide (u5.keeps N1.out (by omega))
  have R5 := hide (u5.keeps R4.out (by omega))
  have c0 : w5.cell? ⟨w.heap.size + 1, 25, none⟩ = some (.slice none 0 0) := boxAt D5.out 25
  have c1 : w5.frozen? ⟨w.heap.size + 1, 25, none⟩ = false := boxFz D5.out 25
  have ut := Upd.setCell (S := fun j => j = w.heap.size + 1) w5 (w.heap.size + 1) 25 (.slice lo ml lc) rfl
  have N2 : Hid ((w5.setCell ⟨w.heap.size + 1, 25, none⟩ (.slice lo ml lc)).heap[w.heap.size + 1]? = some (.cells (#[.int .i64 x.a0, .int .i64 x.a1, .int .i64 x.a2, .int .i64 x.a3, .int .i64 x.a4, .int .i64 x.a5, .int .i64 x.c0, .int .i64 x.c1, .int .i64 x.c2, .int .i64 x.c3, .int .i64 x.c4, .int .i64 x.c5, .int .i64 x.c6, .int .i64 x.c7, .int .i64 x.c8, .int .i64 x.c9, .int .i64 x.b0, .int .i64 x.b1, .int .i64 x.b2, .int .i64 x.b3, .int .i64 x.b4, .int .i64 x.b5, .int .i64 x.b6, .int .i64 x.b7, .slice po m pc, .slice lo ml lc] : Array Value) 34 (0, 0))) := row_set _ D5.out
  have R6 := hide (ut.keeps R5.out (by omega))
  have row6 := hide (RowA.keepTy8 (row4.out.keep u5 (fun k h e => by omega)) ut (fun k h1 h2 => by subst h2; exact typed_box D5.out (by decide) rfl h1))
  have row7 := hide (RowA.keepTy8 (row5.base (b' := w.heap.size) (by omega)) ut (fun k h1 h2 => by subst h2; exact typed_box D5.out (by decide) rfl h1))
  have tk6 := tk5.keep ut (by omega) (fun k h => by omega)
  have U6 := hide ((U4.out.trans u5).transW ut (fun i h => .inr (by omega)))
  have RL := hide rd5
  have HML := hide hml
  obtain ⟨y, hy⟩ : ∃ y : Wd, y = { x with ps := xs, ls := ls } := ⟨_, rfl⟩
  have M1 : Hid ((w5.setCell ⟨w.heap.size + 1, 25, none⟩ (.slice lo ml lc)).heap[w.heap.size + 1]? = some (.cells (#[.int .i64 y.a0, .int .i64 y.a1, .int .i64 y.a2, .int .i64 y.a3, .int .i64 y.a4, .int .i64 y.a5, .int .i64 y.c0, .int .i64 y.c1, .int .i64 y.c2, .int .i64 y.c3, .int .i64 y.c4, .int .i64 y.c5, .int .i64 y.c6, .int .i64 y.c7, .int .i64 y.c8, .int .i64 y.c9, .int .i64 y.b0, .int .i64 y.b1, .int .i64 y.b2, .int .i64 y.b3, .int .i64 y.b4, .int .i64 y.b5, .int .i64 y.b6, .int .i64 y.b7, .slice po m pc, .slice lo ml lc] : Array Value) 34 (0, 0))) := by rw [hy]; exact N2.out
  have fin : ∀ Y, Y = (w5.setCell ⟨w.heap.size + 1, 25, none⟩ (.slice lo ml lc)).setRow w.heap.size (#[.int .i64 y.a0, .int .i64 y.a1, .int .i64 y.a2, .int .i64 y.a3, .int .i64 y.a4, .int .i64 y.a5, .int .i64 y.c0, .int .i64 y.c1, .int .i64 y.c2, .int .i64 y.c3, .int .i64 y.c4, .int .i64 y.c5, .int .i64 y.c6, .int .i64 y.c7, .int .i64 y.c8, .int .i64 y.c9, .int .i64 y.b0, .int .i64 y.b1, .int .i64 y.b2, .int .i64 y.b3, .int .i64 y.b4, .int .i64 y.b5, .int .i64 y.b6, .int .i64 y.b7, .slice po m pc, .slice lo ml lc] : Array Value) → WdO Y (fun k => w.heap.size ≤ k) (.agg #[.int .i64 y.a0, .int .i64 y.a1, .int .i64 y.a2, .int .i64 y.a3, .int .i64 y.a4, .int .i64 y.a5, .int .i64 y.c0, .int .i64 y.c1, .int .i64 y.c2, .int .i64 y.c3, .int .i64 y.c4, .int .i64 y.c5, .int .i64 y.c6, .int .i64 y.c7, .int .i64 y.c8, .int .i64 y.c9, .int .i64 y.b0, .int .i64 y.b1, .int .i64 y.b2, .int .i64 y.b3, .int .i64 y.b4, .int .i64 y.b5, .int .i64 y.b6, .int .i64 y.b7, .slice po m pc, .slice lo ml lc]) y ∧ TkW w0 w G bs y Y := by
    intro Y hY
    have u6 : Upd (fun j => j = w.heap.size) (w5.setCell ⟨w.heap.size + 1, 25, none⟩ (.slice lo ml lc)) Y := by rw [hY]; exact ⟨rfl, rfl, rfl, by simp, fun k _ h => setRow_other _ _ _ _ h⟩
    refine ⟨⟨po, pc, lo, lc, ?_, ?_, ?_⟩, b5, tk6.keep u6 (by omega) (fun k h => by omega), Rdw.mk (b1 := b2) (b2 := b3) ?_ ?_ ?_, U6.out.transW u6 (fun i h => .inr (by omega))⟩
    · rw [hy, HM.out, HML.out]
    · rw [hy]
      show Row Y _ _ _ (.slice po xs.length pc) xs.length (pcells xs)
      rw [← HM.out]
      exact (RowA.keepTy8 row6.out u6 (fun k h1 h2 => by subst h2; exact typed_box R6.out (by decide) rfl h1)).row (by omega)
    · rw [hy]
      show Row Y _ _ _ (.slice lo ls.length lc) ls.length (lcells ls)
      rw [← HML.out]
      exact (RowA.keepTy8 row7.out u6 (fun k h1 h2 => by subst h2; exact typed_box R6.out (by decide) rfl h1)).row (by omega)
    · rw [hy]; exact RD.out
    · rw [hy]; exact RP.out
    · rw [hy]; exact RL.out
  have HF := hide fin
  have H1s := hide (all_of_list (List.all_eq_true.2 (wd_one y po lo m pc ml lc)))
  clear hy fin N2 row6 row7 tk6 U6 RL RP RD HML HM us ut row5 tk5 rd5 u5 hml D5 R5 R4 N1 row4 tk4 U4
  go_wp2_with (first | (refine wpList_load_row rfl 34 (.tmp 3) rfl (w.heap.size + 1) rfl _ _ (0, 0) _ M1.out Try.underlying34 rfl infoWd ?_) | (refine wpList_store_row rfl 34 (.tmp 2) (.tmp 15) rfl w.heap.size _ rfl rfl _ _ R6.out infoWd (show (26 : Nat) = 26 from rfl) H1s.out ?_))
  refine bodyPost_ret (v := .agg #[.int .i64 y.a0, .int .i64 y.a1, .int .i64 y.a2, .int .i64 y.a3, .int .i64 y.a4, .int .i64 y.a5, .int .i64 y.c0, .int .i64 y.c1, .int .i64 y.c2, .int .i64 y.c3, .int .i64 y.c4, .int .i64 y.c5, .int .i64 y.c6, .int .i64 y.c7, .int .i64 y.c8, .int .i64 y.c9, .int .i64 y.b0, .int .i64 y.b1, .int .i64 y.b2, .int .i64 y.b3, .int .i64 y.b4, .int .i64 y.b5, .int .i64 y.b6, .int .i64 y.b7, .slice po m pc, .slice lo ml lc]) (results_cell_row Try.results48 _ _ w.heap.size _ _ (0, 0) _ rfl (setRow_heap _ _ _ _ _ _ R6.out) Try.underlying34 rfl infoWd) rfl ?_
  obtain ⟨g1, g2⟩ := HF.out _ rfl
  exact ⟨_, rfl, y, g1, g2⟩

end Go.Proofs.Ytdnojnkcmncffaa

/- Words that are nothing, copies, results: laws; no statement of the seat is proved here. -/
namespace Go.Proofs.Ytdnojnkcmncffaa
open Go.RowKit

theorem results_row_tmp {P : Program} {fn : Func} {p u : Tmp} {ty : TypeId} (h : fn.results = #[.cell p ty, .tmp u]) (tmps : Array Value) (w : World) (g : Nat) (t : TypeId) (cs : Array Value) (fr : Nat × Nat) (d : TypeDesc) (b : Value)
    (hp : tmps.getD p undef = .pointer (some ⟨g, 0, none⟩)) (hb : tmps.getD u undef = b) (hg : w.heap[g]? = some (.cells cs t fr))
    (hu : P.underlying ty = some d) (hd : (match d with | .struct _ | .array _ _ => true | _ => false) = true) (hi : (P.info? ty).map (·.size) = some cs.size) :
    (results fn tmps).run P w = .ok (.tuple #[.agg cs, b]) w := by
  rw [results_cell_tmp h, hp, hb]
  simp [asAddr, Result.andThen, run_loadVar_row w g t ty cs fr d hg hu hd hi]
theorem built34z : Try.prog.built 34 [] = some #[.int .i64 0, .int .i64 0, .int .i64 0, .int .i64 0, .int .i64 0, .int .i64 0, .int .i64 0, .int .i64 0, .int .i64 0, .int .i64 0, .int .i64 0, .int .i64 0, .int .i64 0, .int .i64 0, .int .i64 0, .int .i64 0, .int .i64 0, .int .i64 0, .int .i64 0, .int .i64 0, .int .i64 0, .int .i64 0, .int .i64 0, .int .i64 0, .slice none 0 0, .slice none 0 0] := by kernel_rfl
theorem wpList_built34z {ops : Array Oper} {rest : List Oper} {o : Oper} {a : Act} {w : World} {Q : Exit → Act → World → Prop} (hg : o.guard = none) (parts : Array (Nat × Operand)) (ho : o.op = .build 34 parts) (hp : (parts.map fun (i, x) => (i, a.eval x)).toList = [])
    (h : wpList Try.prog ops Q rest (a.put o.dst (.agg #[.int .i64 0, .int .i64 0, .int .i64 0, .int .i64 0, .int .i64 0, .int .i64 0, .int .i64 0, .int .i64 0, .int .i64 0, .int .i64 0, .int .i64 0, .int .i64 0, .int .i64 0, .int .i64 0, .int .i64 0, .int .i64 0, .int .i64 0, .int .i64 0, .int .i64 0, .int .i64 0, .int .i64 0, .int .i64 0, .int .i64 0, .int .i64 0, .slice none 0 0, .slice none 0 0])) w) : wpList Try.prog ops Q (o :: rest) a w :=
  wpList_build hg 34 parts ho (by rw [hp, built34z]; rfl) (by rw [hp, built34z]; exact h)
theorem wpList_load_rowG {P : Program} {ops : Array Oper} {rest : List Oper} {o : Oper} {a : Act} {w : World} {Q : Exit → Act → World → Prop} (hgd : Region.wanted o (yielded ops a.tmps) = true) (ty : TypeId) (x : Operand) (ho : o.op = .load ty x)
    (g : Nat) (hx : a.eval x = .pointer (some ⟨g, 0, none⟩)) (t : TypeId) (cs : Array Value) (fr : Nat × Nat) (d : TypeDesc) (hg : w.heap[g]? = some (.cells cs t fr))
    (hu : P.underlying ty = some d) (hd : (match d with | .struct _ | .array _ _ => true | _ => false) = true) (hi : (P.info? ty).map (·.size) = some cs.size)
    (h : wpList P ops Q rest (a.put o.dst (.agg cs)) w) : wpList P ops Q (o :: rest) a w :=
  wpList_step fun _ hK => by rw [if_pos hgd]; exact wp_load_row ty x ho g hx t cs fr d hg hu hd hi (hK _ _ h)
theorem zeroRow (w : World) (S : Nat → Prop) : WdO w S (.agg #[.int .i64 0, .int .i64 0, .int .i64 0, .int .i64 0, .int .i64 0, .int .i64 0, .int .i64 0, .int .i64 0, .int .i64 0, .int .i64 0, .int .i64 0, .int .i64 0, .int .i64 0, .int .i64 0, .int .i64 0, .int .i64 0, .int .i64 0, .int .i64 0, .int .i64 0, .int .i64 0, .int .i64 0, .int .i64 0, .int .i64 0, .int .i64 0, .slice none 0 0, .slice none 0 0]) zeroW := ⟨none, 0, none, 0, rfl, Row.nil _ _ _ _, Row.nil _ _ _ _⟩
theorem wp_copyA0 {P : Program} {o : Oper} {a : Act} {w : World} {K : Act → World → Prop} {Q : Exit → Act → World → Prop} (s x : Operand) (t : TypeId)
    (ho : o.op = .call { callee := .builtin .append, args := #[s, x], argTypes := #[t, t] })
    (base : Nat) (e : TypeId) (i : TypeInfo) (z : Value) (size bytes : Nat) (ht : P.underlying t = some (.slice e)) (hi : P.info? e = some i) (hz : i.zero = some z)
    (hsize : i.size = size) (hby : i.bytes = bytes) (hzs : z.cells.size = size) (hsz : 0 < size)
    (v0 : Value) (hs : a.eval s = v0) (hown : RowA w base e size v0 0 [])
    (vx : Value) (m : Nat) (news : List Value) (hx : a.eval x = vx) (hr : RowR w size vx m news) (h1 : ∀ u ∈ news, u.oneCell' = true)
    (h63 : m ≤ 1048576) (hbytes : m * bytes ≤ 140737488355328) (hbase : base ≤ w.heap.size)
    (h : ∀ v' w', RowA w' base e size v' m news → Upd (typed w (fun k => base ≤ k) e) w w' → K (a.put o.dst v') w') : Oper.wp P o a w K Q := by
  obtain ⟨ao, c, rfl, _, hl, hr⟩ := hr
  rcases Nat.eq_zero_or_pos m with rfl | hpos
  · obtain rfl : news = [] := List.eq_nil_of_length_eq_zero (by simpa using hl)
    obtain ⟨ao0, c0, rfl⟩ := hown.shape
    have hrun : (Builtin.append_ #[t, t] o.type #[.slice ao0 0 c0, .slice ao 0 c]).run P w = .ok (.slice ao0 0 c0) w := by
      cases ao <;> cases ao0 <;> simp [Builtin.append_, run_underlying ht, sizeOf, typeInfo, hi, Builtin.lenOf, Builtin.firstCells, storeCells, loadCells, loadCellsFrom]
    unfold Oper.wp
    simp [execOp, ho, resolve, invoke, builtin, hs, hx, hrun, Result.andThen]
    exact h _ w hown (Upd.refl _ _)
  · obtain ⟨b, off, rfl, hc⟩ := hr hpos
    refine wp_appendA s x t ho base e i z size bytes ht hi hz hsize hby hzs hsz _ 0 [] hs hown ⟨b, off, none⟩ m c news hx hl (fun j u hj => by rw [Addr.add_lit]; exact hc j u hj) h1 hpos (by unfold maxLen; omega) (by rw [Nat.zero_add]; exact hbytes) hbase ?_
    intro v' w' r1 r2
    rw [Nat.zero_add, List.nil_append] at r1
    exact h v' w' (.inl r1) r2
end Go.Proofs.Ytdnojnkcmncffaa

/- WordUnpack of the program: a contract; no statement of the seat is proved here. -/
namespace Go.Proofs.Ytdnojnkcmncffaa
open Go.RowKit

def txtU (bs : List Nat) : ByteArray := strOfNums (bs.map fun b : Nat => (b : Int))

theorem textU {P : Program} {w : World} {v : Value} {n : Nat} {bs : List Nat} (h : RowR w 1 v n (byts bs)) (src e dst : TypeId) (hs : P.underlying src = some (.slice e)) (he : P.underlying e = some (.int .u8)) (hd : P.underlying dst = some .string) :
    (convert src dst v).run P w = .ok (.string (txtU bs)) w := by
  obtain ⟨ao, cap, rfl, _, hl, h⟩ := h
  rw [byts_len] at hl
  by_cases h0 : 0 < n
  · obtain ⟨b, off, rfl, hc⟩ := h h0
    refine run_convert_bytes_arg (P := P) w src e hs he b off n cap _ (by simp; omega) (fun i hi => ?_) dst hd
    have hi' : i < bs.length := by omega
    rw [hc i _ (by rw [byts, List.getElem?_map, List.getElem?_eq_getElem hi']; rfl)]
    simp [List.getD, List.getElem?_eq_getElem hi']
  · obtain rfl : n = 0 := by omega
    obtain rfl : bs = [] := List.length_eq_zero_iff.1 (by omega)
    rw [run_convert_bytes_string w src dst e _ 0 cap hs he hd]
    cases ao
    · simp [Conv.bytesToString, txtU, strOfNums]; rfl
    · rw [run_bytesToString w _ 0 cap [] (by simp [loadCells, loadCellsFrom, go_sem])]; rfl

theorem txtU_inj {xs ys : List Nat} (hx : ∀ b ∈ xs, b < 256) (hy : ∀ b ∈ ys, b < 256) (h : txtU xs = txtU ys) : xs = ys := by
  have h1 := congrArg (fun s : ByteArray => s.data.toList) h
  simp only [txtU, strOfNums_data, List.map_map] at h1
  clear h
  induction xs generalizing ys with
  | nil => cases ys with
    | nil => rfl
    | cons y ys => simp at h1
  | cons x xs ih => cases ys with
    | nil => simp at h1
    | cons y ys =>
      rw [List.map_cons, List.map_cons] at h1
      injection h1 with h2 h3
      have e := ih (fun b hb => hx b (by simp [hb])) (fun b hb => hy b (by simp [hb])) h3
      have hx' := hx x (by simp)
      have hy' := hy y (by simp)
      have h4 := congrArg UInt8.toNat h2
      simp at h4
      rw [e]
      congr 1
      omega

set_option maxRecDepth 100000 in
theorem bytesEqual_any (va vb : Value) (n m : Nat) (xs ys : List Nat) (w : World) (ha : RowR w 1 va n (byts xs)) (hb : RowR w 1 vb m (byts ys)) (hx : ∀ b ∈ xs, b < 256) (hy : ∀ b ∈ ys, b < 256) :
    Calls Try.prog 49 #[va, vb] w fun e w' => e = .returned (.bool (decide (xs = ys))) ∧ w' = w := by
  have t1 := textU (P := Try.prog) ha 38 5 9 Try.underlying38 Try.underlying5 Try.underlying9
  have t2 := textU (P := Try.prog) hb 38 5 9 Try.underlying38 Try.underlying5 Try.underlying9
  by_cases he : xs = ys
  · subst he
    go_enter Try.func49, Try.ntmps49
    go_wp2
    go_ret
    exact ⟨by simp, rfl⟩
  · have hne : ¬ txtU xs = txtU ys := fun h => he (txtU_inj hx hy h)
    have hne' : ¬ (txtU xs).toList = (txtU ys).toList := by
      intro h
      refine hne ?_
      unfold txtU strOfNums at h ⊢
      rw [ByteArray.toList_eq, ByteArray.toList_eq] at h
      exact congrArg ByteArray.mk (Array.toList_inj.1 h)
    go_enter Try.func49, Try.ntmps49
    go_wp2
    go_ret
    exact ⟨by simp [he, hne'], rfl⟩

/-- What reading a word of bytes gives. -/
def UnR (w : World) (bs : List Nat) (v : Value) (ok : Bool) (w' : World) : Prop := ∃ x, WdO w' (fun k => w.heap.size < k) v x ∧ UnP bs x ok ∧ x.ps.length ≤ 2097151 ∧ x.ls.length ≤ 2097151 ∧ Below w.heap.size w w'

theorem UnP.lens {bs : List Nat} {x : Wd} {ok : Bool} (h : UnP bs x ok) : x.ps.length ≤ 60 ∧ x.ls.length ≤ 4 := by
  rcases h with ⟨-, h, -, -⟩ | ⟨-, rfl, -⟩
  · exact ⟨(okL_mem (okW_ps h)).1, (okL_mem (okW_ls h)).1⟩
  · exact ⟨by simp [zeroW], by simp [zeroW]⟩

set_option maxRecDepth 100000 in
set_option maxHeartbeats 16000000 in
theorem implWordUnpack_any (bo : Option Addr) (n cap : Nat) (bs : List Nat) (w : World) (h : RowR w 1 (.slice bo n cap) n (byts bs)) (hb : ∀ b ∈ bs, b < 256) (hn : n ≤ 1048576) (hc : n ≤ cap) :
    Calls Try.prog 22 #[.slice bo n cap] w fun e w' => ∃ (v : Value) (ok : Bool), e = .returned (.tuple #[v, .bool ok]) ∧ UnR w bs v ok w' := by
  have al := bal (bal (Below.refl w.heap.size w) (.cells #[.int .i64 0, .int .i64 0, .int .i64 0, .int .i64 0, .int .i64 0, .int .i64 0, .int .i64 0, .int .i64 0, .int .i64 0, .int .i64 0, .int .i64 0, .int .i64 0, .int .i64 0, .int .i64 0, .int .i64 0, .int .i64 0, .int .i64 0, .int .i64 0, .int .i64 0, .int .i64 0, .int .i64 0, .int .i64 0, .int .i64 0, .int .i64 0, .slice none 0 0, .slice none 0 0] 34)) (.cells #[.slice bo n cap] 69)
  have R0 := hide (al2_0 w (.cells #[.int .i64 0, .int .i64 0, .int .i64 0, .int .i64 0, .int .i64 0, .int .i64 0, .int .i64 0, .int .i64 0, .int .i64 0, .int .i64 0, .int .i64 0, .int .i64 0, .int .i64 0, .int .i64 0, .int .i64 0, .int .i64 0, .int .i64 0, .int .i64 0, .int .i64 0, .int .i64 0, .int .i64 0, .int .i64 0, .int .i64 0, .int .i64 0, .slice none 0 0, .slice none 0 0] 34) (.cells #[.slice bo n cap] 69))
  have G0 := al2_1 w (.cells #[.int .i64 0, .int .i64 0, .int .i64 0, .int .i64 0, .int .i64 0, .int .i64 0, .int .i64 0, .int .i64 0, .int .i64 0, .int .i64 0, .int .i64 0, .int .i64 0, .int .i64 0, .int .i64 0, .int .i64 0, .int .i64 0, .int .i64 0, .int .i64 0, .int .i64 0, .int .i64 0, .int .i64 0, .int .i64 0, .int .i64 0, .int .i64 0, .slice none 0 0, .slice none 0 0] 34) (.cells #[.slice bo n cap] 69)
  have T0 : Tk w _ (w.heap.size + 1) bs := ⟨bo, n, cap, h, hc, hn, hb, G0, by omega, al⟩
  have HR := hide h
  have HB := hide hb
  have zW : ((w.alloc (.cells #[.int .i64 0, .int .i64 0, .int .i64 0, .int .i64 0, .int .i64 0, .int .i64 0, .int .i64 0, .int .i64 0, .int .i64 0, .int .i64 0, .int .i64 0, .int .i64 0, .int .i64 0, .int .i64 0, .int .i64 0, .int .i64 0, .int .i64 0, .int .i64 0, .int .i64 0, .int .i64 0, .int .i64 0, .int .i64 0, .int .i64 0, .int .i64 0, .slice none 0 0, .slice none 0 0] 34)).alloc (.cells #[.slice bo n cap] 69)).heap.size = w.heap.size + 2 := by simp
  clear h hb G0
  go_enter Try.func22, Try.ntmps22
  go_wp2_with fail
  generalize World.alloc _ _ = W at al R0 T0 zW ⊢
  refine (takeWord_any w W (w.heap.size + 1) bs T0).mono ?_
  rintro e w1 ⟨v, rfl, x, D1, bs', tk1, rdw, u1⟩
  obtain ⟨cs, rfl, hs, h1⟩ := D1.reads.agg
  have HI := hide (infoAt infoWd hs)
  have HZ := hide (zero26.trans hs.symm)
  have H1 := hide h1
  have RDW := hide rdw
  have R1 := hide (u1.keeps R0.out (by omega))
  have c1 : Below w.heap.size w w1 := al.trans (u1.below (by have := al.size; omega) (fun k h => by omega))
  have al5 := bal (Below.refl w1.heap.size w1) (.cells cs 34)
  have B5 := hide (heap_alloc_new w1 (.cells cs 34))
  have R5 := hide (bKeeps al5 R1.out)
  have D5 := hide (D1.keepB al5)
  have c5 := bAll c1 al5
  have z1 := u1.size
  clear hs h1 rdw R0 T0 tk1 u1 R1 D1 c1 al5 al
  go_wp2_with (first
    | (refine wpList_store_row rfl 34 (.tmp 5) (.tmp 7) rfl w1.heap.size cs rfl rfl _ _ (heap_alloc_new w1 _) HI.out HZ.out H1.out ?_; rw [World.setRow_alloc_new])
    | (refine wpList_load_row rfl 34 (.tmp 5) rfl w1.heap.size rfl _ cs (0, 0) _ B5.out Try.underlying34 rfl HI.out ?_))
  refine (implWordOk_any _ x _ D5.out.reads).mono ?_
  rintro e w6 ⟨rfl, b6⟩
  have B6 := hide (bKeeps b6 B5.out)
  have R6 := hide (bKeeps b6 R5.out)
  have D6 := hide (D5.out.keepB b6)
  have c6 := bAll c5 b6
  have z6 := b6.size
  simp only [World.size_alloc] at z6
  clear B5 R5 D5 c5 b6
  have fin0 : ∀ (V : World), Below w.heap.size w V → V.heap[w.heap.size]? = some (.cells #[.int .i64 0, .int .i64 0, .int .i64 0, .int .i64 0, .int .i64 0, .int .i64 0, .int .i64 0, .int .i64 0, .int .i64 0, .int .i64 0, .int .i64 0, .int .i64 0, .int .i64 0, .int .i64 0, .int .i64 0, .int .i64 0, .int .i64 0, .int .i64 0, .int .i64 0, .int .i64 0, .int .i64 0, .int .i64 0, .int .i64 0, .int .i64 0, .slice none 0 0, .slice none 0 0] 34 (0, 0)) → UnP bs zeroW false → UnR w bs (.agg #[.int .i64 0, .int .i64 0, .int .i64 0, .int .i64 0, .int .i64 0, .int .i64 0, .int .i64 0, .int .i64 0, .int .i64 0, .int .i64 0, .int .i64 0, .int .i64 0, .int .i64 0, .int .i64 0, .int .i64 0, .int .i64 0, .int .i64 0, .int .i64 0, .int .i64 0, .int .i64 0, .int .i64 0, .int .i64 0, .int .i64 0, .int .i64 0, .slice none 0 0, .slice none 0 0]) false (V.setRow w.heap.size #[.int .i64 0, .int .i64 0, .int .i64 0, .int .i64 0, .int .i64 0, .int .i64 0, .int .i64 0, .int .i64 0, .int .i64 0, .int .i64 0, .int .i64 0, .int .i64 0, .int .i64 0, .int .i64 0, .int .i64 0, .int .i64 0, .int .i64 0, .int .i64 0, .int .i64 0, .int .i64 0, .int .i64 0, .int .i64 0, .int .i64 0, .int .i64 0, .slice none 0 0, .slice none 0 0]) := by
    intro V hV hg hu
    have u9 : Upd (fun j => j = w.heap.size) V (V.setRow w.heap.size #[.int .i64 0, .int .i64 0, .int .i64 0, .int .i64 0, .int .i64 0, .int .i64 0, .int .i64 0, .int .i64 0, .int .i64 0, .int .i64 0, .int .i64 0, .int .i64 0, .int .i64 0, .int .i64 0, .int .i64 0, .int .i64 0, .int .i64 0, .int .i64 0, .int .i64 0, .int .i64 0, .int .i64 0, .int .i64 0, .int .i64 0, .int .i64 0, .slice none 0 0, .slice none 0 0]) := ⟨rfl, rfl, rfl, by simp, fun k _ h => setRow_other _ _ _ _ h⟩
    exact ⟨zeroW, zeroRow _ _, hu, by simp [zeroW], by simp [zeroW], hV.trans (u9.below hV.size (fun k h => by omega))⟩
  have F0 := hide fin0
  clear fin0
  cases hok : okW x
  · have hu : UnP bs zeroW false := by
      refine UnP.no RDW.out ?_
      by_cases he : bs = []
      · exact .inr (.inr he)
      · refine .inl (fun e => he ?_)
        unfold packW at e
        rw [hok] at e
        simpa using e.symm
    have FF := hide (F0.out w6 c6 R6.out hu)
    clear hu F0
    go_wp2_with (first
      | (refine wpList_built34z rfl _ rfl rfl ?_)
      | (refine wpList_store_row rfl 34 (.tmp 2) (.tmp 18) rfl w.heap.size _ rfl rfl _ _ R6.out infoWd (show (26 : Nat) = 26 from rfl) (all_of_list rfl) ?_))
    refine bodyPost_ret (v := .tuple #[.agg #[.int .i64 0, .int .i64 0, .int .i64 0, .int .i64 0, .int .i64 0, .int .i64 0, .int .i64 0, .int .i64 0, .int .i64 0, .int .i64 0, .int .i64 0, .int .i64 0, .int .i64 0, .int .i64 0, .int .i64 0, .int .i64 0, .int .i64 0, .int .i64 0, .int .i64 0, .int .i64 0, .int .i64 0, .int .i64 0, .int .i64 0, .int .i64 0, .slice none 0 0, .slice none 0 0], .bool false]) (results_row_tmp Try.results22 _ _ w.heap.size _ _ (0, 0) _ _ rfl rfl (setRow_heap _ _ _ _ _ _ R6.out) Try.underlying34 rfl infoWd) rfl ?_
    exact ⟨_, false, rfl, FF.out⟩
  · have HK := hide hok
    obtain ⟨pk, hpk⟩ : ∃ pk, packW x = pk := ⟨_, rfl⟩
    have hpl : pk.length ≤ 822 := by rw [← hpk]; exact (packW_len x).2
    have HPB : Hid (∀ b ∈ pk, b < 256) := by rw [← hpk]; exact packW_byte x
    have HPK := hide hpk
    have IC := hide (implWordPack_any _ x _ D6.out.reads)
    rw [hpk] at IC
    clear hpk hok
    go_wp2_with (refine wpList_load_rowG (by rfl) 34 (.tmp 5) rfl w1.heap.size rfl _ cs (0, 0) _ B6.out Try.underlying34 rfl HI.out ?_)
    refine IC.out.mono ?_
    rintro e w7 ⟨vo, co, rfl, r7, b7⟩
    have B7 := hide (bKeeps b7 B6.out)
    have R7 := hide (bKeeps b7 R6.out)
    have D7 := hide (D6.out.keepB b7)
    have c7 := bAll c6 b7
    have CE := hide (bytesEqual_any _ _ _ _ pk bs w7 (r7.row (by omega)).reads (HR.out.keep c7) HPB.out HB.out)
    clear IC B6 R6 D6 c6 b7 r7
    go_wp2_with fail
    refine CE.out.mono ?_
    rintro e w8 ⟨rfl, rfl⟩
    clear CE
    by_cases he : pk = bs
    · have hd : decide (pk = bs) = true := by simpa using he
      rw [hd]
      have hu : UnP bs x true := UnP.yes RDW.out (HPK.out.trans he) (by
        intro e0
        have := packW_pos HK.out
        rw [HPK.out, he, e0] at this
        simp at this)
      have u9 : Upd (fun j => j = w.heap.size) w8 (w8.setRow w.heap.size cs) := ⟨rfl, rfl, rfl, by simp, fun k _ h => setRow_other _ _ _ _ h⟩
      have FF : Hid (UnR w bs (.agg cs) true (w8.setRow w.heap.size cs)) := ⟨x, (D7.out.keep u9 (fun k h e => by omega)).mono (fun k _ h => by omega), hu, by have := hu.lens.1; omega, by have := hu.lens.2; omega, c7.trans (u9.below c7.size (fun k h => by omega))⟩
      clear hu u9 he hd F0
      go_wp2_with (first
        | (refine wpList_load_row rfl 34 (.tmp 5) rfl w1.heap.size rfl _ cs (0, 0) _ B7.out Try.underlying34 rfl HI.out ?_)
        | (refine wpList_store_row rfl 34 (.tmp 2) (.tmp 19) rfl w.heap.size cs rfl rfl _ _ R7.out HI.out HZ.out H1.out ?_))
      refine bodyPost_ret (v := .tuple #[.agg cs, .bool true]) (results_row_tmp Try.results22 _ _ w.heap.size _ _ (0, 0) _ _ rfl rfl (setRow_heap _ _ _ _ _ _ R7.out) Try.underlying34 rfl HI.out) rfl ?_
      exact ⟨_, true, rfl, FF.out⟩
    · have hd : decide (pk = bs) = false := by simpa using he
      rw [hd]
      have FF := hide (F0.out w8 c7 R7.out (UnP.no RDW.out (.inl (by rw [HPK.out]; exact he))))
      clear he hd F0
      go_wp2_with (first
        | (refine wpList_built34z rfl _ rfl rfl ?_)
        | (refine wpList_store_row rfl 34 (.tmp 2) (.tmp 18) rfl w.heap.size _ rfl rfl _ _ R7.out infoWd (show (26 : Nat) = 26 from rfl) (all_of_list rfl) ?_))
      refine bodyPost_ret (v := .tuple #[.agg #[.int .i64 0, .int .i64 0, .int .i64 0, .int .i64 0, .int .i64 0, .int .i64 0, .int .i64 0, .int .i64 0, .int .i64 0, .int .i64 0, .int .i64 0, .int .i64 0, .int .i64 0, .int .i64 0, .int .i64 0, .int .i64 0, .int .i64 0, .int .i64 0, .int .i64 0, .int .i64 0, .int .i64 0, .int .i64 0, .int .i64 0, .int .i64 0, .slice none 0 0, .slice none 0 0], .bool false]) (results_row_tmp Try.results22 _ _ w.heap.size _ _ (0, 0) _ _ rfl rfl (setRow_heap _ _ _ _ _ _ R7.out) Try.underlying34 rfl infoWd) rfl ?_
      exact ⟨_, false, rfl, FF.out⟩

end Go.Proofs.Ytdnojnkcmncffaa
