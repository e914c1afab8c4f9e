/- Contracts and plain facts that this claim leans on (texts XD2); no statement of the seat is proved here. -/
import Derived.Test.YtdnojnkcmncffaaWk38
import Derived.Test.YtdnojnkcmncffaaWk28

/- A word that is drawn: contracts; no statement of the seat is proved here. -/
namespace Go.Proofs.Ytdnojnkcmncffaa
open Go.RowKit

theorem built34 (a0 a1 a2 a3 a4 a5 c0 c1 c2 c3 c4 c5 c6 c7 c8 c9 b0 b1 b2 b3 b4 b5 b6 b7 : Int) : Try.prog.built 34 [(0, .int .i64 a0), (1, .int .i64 a1), (2, .int .i64 a2), (3, .int .i64 a3), (4, .int .i64 a4), (5, .int .i64 a5), (6, .agg #[.int .i64 c0, .int .i64 c1, .int .i64 c2, .int .i64 c3, .int .i64 c4, .int .i64 c5, .int .i64 c6, .int .i64 c7, .int .i64 c8, .int .i64 c9]), (7, .int .i64 b0), (8, .int .i64 b1), (9, .int .i64 b2), (10, .int .i64 b3), (11, .int .i64 b4), (12, .int .i64 b5), (13, .int .i64 b6), (14, .int .i64 b7)] = some #[.int .i64 a0, .int .i64 a1, .int .i64 a2, .int .i64 a3, .int .i64 a4, .int .i64 a5, .int .i64 c0, .int .i64 c1, .int .i64 c2, .int .i64 c3, .int .i64 c4, .int .i64 c5, .int .i64 c6, .int .i64 c7, .int .i64 c8, .int .i64 c9, .int .i64 b0, .int .i64 b1, .int .i64 b2, .int .i64 b3, .int .i64 b4, .int .i64 b5, .int .i64 b6, .int .i64 b7, .slice none 0 0, .slice none 0 0] := by kernel_rfl
theorem wpList_built34 {ops : Array Oper} {rest : List Oper} {o : Oper} {a : Act} {w : World} {Q : Exit → Act → World → Prop} (a0 a1 a2 a3 a4 a5 c0 c1 c2 c3 c4 c5 c6 c7 c8 c9 b0 b1 b2 b3 b4 b5 b6 b7 : Int) (hg : o.guard = none) (parts : Array (Nat × Operand)) (ho : o.op = .build 34 parts)
    (hp : (parts.map fun (i, x) => (i, a.eval x)).toList = [(0, .int .i64 a0), (1, .int .i64 a1), (2, .int .i64 a2), (3, .int .i64 a3), (4, .int .i64 a4), (5, .int .i64 a5), (6, .agg #[.int .i64 c0, .int .i64 c1, .int .i64 c2, .int .i64 c3, .int .i64 c4, .int .i64 c5, .int .i64 c6, .int .i64 c7, .int .i64 c8, .int .i64 c9]), (7, .int .i64 b0), (8, .int .i64 b1), (9, .int .i64 b2), (10, .int .i64 b3), (11, .int .i64 b4), (12, .int .i64 b5), (13, .int .i64 b6), (14, .int .i64 b7)])
    (h : wpList Try.prog ops Q rest (a.put o.dst (.agg #[.int .i64 a0, .int .i64 a1, .int .i64 a2, .int .i64 a3, .int .i64 a4, .int .i64 a5, .int .i64 c0, .int .i64 c1, .int .i64 c2, .int .i64 c3, .int .i64 c4, .int .i64 c5, .int .i64 c6, .int .i64 c7, .int .i64 c8, .int .i64 c9, .int .i64 b0, .int .i64 b1, .int .i64 b2, .int .i64 b3, .int .i64 b4, .int .i64 b5, .int .i64 b6, .int .i64 b7, .slice none 0 0, .slice none 0 0])) w) : wpList Try.prog ops Q (o :: rest) a w :=
  wpList_build hg 34 parts ho (by rw [hp, built34]; rfl) (by rw [hp, built34]; exact h)

set_option maxRecDepth 100000 in
set_option maxHeartbeats 12000000 in
theorem l72Word_any (w0 w : World) (R p : Nat) (hr : Rd w0 w R p) (hp : p ≤ 700000) :
    Calls Try.prog 52 #[.pointer (some ⟨R, 0, none⟩)] w fun e w' => ∃ (v : Value) (x : Wd) (p' : Nat), e = .returned v ∧ WdO w' (fun k => w.heap.size ≤ k) v x ∧ x.ps.length ≤ 61 ∧ x.ls.length ≤ 61 ∧ Rd w0 w' R p' ∧ p' ≤ p + 4000 ∧ Upd (fun j => j = R) w w' := by
  obtain ⟨hRl, hR0, hw0⟩ := hr.lt
  have al0 := bal (Below.refl w.heap.size w) (.cells #[.int .i64 0, .int .i64 0, .int .i64 0, .int .i64 0, .int .i64 0, .int .i64 0, .int .i64 0, .int .i64 0, .int .i64 0, .int .i64 0, .int .i64 0, .int .i64 0, .int .i64 0, .int .i64 0, .int .i64 0, .int .i64 0, .int .i64 0, .int .i64 0, .int .i64 0, .int .i64 0, .int .i64 0, .int .i64 0, .int .i64 0, .int .i64 0, .slice none 0 0, .slice none 0 0] 34)
  have hr0 := hr.keepB al0
  have U0 : Upd (fun j => j = R) (w.alloc (.cells #[.int .i64 0, .int .i64 0, .int .i64 0, .int .i64 0, .int .i64 0, .int .i64 0, .int .i64 0, .int .i64 0, .int .i64 0, .int .i64 0, .int .i64 0, .int .i64 0, .int .i64 0, .int .i64 0, .int .i64 0, .int .i64 0, .int .i64 0, .int .i64 0, .int .i64 0, .int .i64 0, .int .i64 0, .int .i64 0, .int .i64 0, .int .i64 0, .slice none 0 0, .slice none 0 0] 34)) (w.alloc (.cells #[.int .i64 0, .int .i64 0, .int .i64 0, .int .i64 0, .int .i64 0, .int .i64 0, .int .i64 0, .int .i64 0, .int .i64 0, .int .i64 0, .int .i64 0, .int .i64 0, .int .i64 0, .int .i64 0, .int .i64 0, .int .i64 0, .int .i64 0, .int .i64 0, .int .i64 0, .int .i64 0, .int .i64 0, .int .i64 0, .int .i64 0, .int .i64 0, .slice none 0 0, .slice none 0 0] 34)) := Upd.refl _ _
  have G := hide (heap_alloc_new w (.cells #[.int .i64 0, .int .i64 0, .int .i64 0, .int .i64 0, .int .i64 0, .int .i64 0, .int .i64 0, .int .i64 0, .int .i64 0, .int .i64 0, .int .i64 0, .int .i64 0, .int .i64 0, .int .i64 0, .int .i64 0, .int .i64 0, .int .i64 0, .int .i64 0, .int .i64 0, .int .i64 0, .int .i64 0, .int .i64 0, .int .i64 0, .int .i64 0, .slice none 0 0, .slice none 0 0] 34))
  clear hr
  go_enter Try.func52, Try.ntmps52
  go_wp2_with fail
  refine (pick_any w0 _ R _ 15 hr0 (by omega) (by omega) (by omega)).mono ?_
  rintro e w1 ⟨q1, rfl, -, hr1, hu1⟩
  have U1 := U0.trans hu1
  clear hr0 hu1 U0
  go_wp2_with fail
  refine (pick_any w0 _ R _ 5 hr1 (by omega) (by omega) (by omega)).mono ?_
  rintro e w2 ⟨q2, rfl, -, hr2, hu2⟩
  have U2 := U1.trans hu2
  clear hr1 hu2 U1
  go_wp2_with fail
  refine (pick_any w0 _ R _ 5 hr2 (by omega) (by omega) (by omega)).mono ?_
  rintro e w3 ⟨q3, rfl, -, hr3, hu3⟩
  have U3 := U2.trans hu3
  clear hr2 hu3 U2
  go_wp2_with fail
  refine (pick_any w0 _ R _ 40 hr3 (by omega) (by omega) (by omega)).mono ?_
  rintro e w4 ⟨q4, rfl, -, hr4, hu4⟩
  have U4 := U3.trans hu4
  clear hr3 hu4 U3
  go_wp2_with fail
  refine (pick_any w0 _ R _ 4 hr4 (by omega) (by omega) (by omega)).mono ?_
  rintro e w5 ⟨q5, rfl, -, hr5, hu5⟩
  have U5 := U4.trans hu5
  clear hr4 hu5 U4
  go_wp2_with fail
  refine (pick_any w0 _ R _ 7 hr5 (by omega) (by omega) (by omega)).mono ?_
  rintro e w6 ⟨q6, rfl, -, hr6, hu6⟩
  have U6 := U5.trans hu6
  clear hr5 hu6 U5
  go_wp2_with fail
  refine (l72Cmd_any w0 _ R _ hr6 (by omega)).mono ?_
  rintro e w7 ⟨C, p7, rfl, hr7, hp7, hu7⟩
  have U7 := U6.trans hu7
  clear hr6 hu7 U6
  go_wp2_with fail
  refine (pick_any w0 _ R _ 3 hr7 (by omega) (by omega) (by omega)).mono ?_
  rintro e w8 ⟨q8, rfl, -, hr8, hu8⟩
  have U8 := U7.trans hu8
  clear hr7 hu8 U7
  go_wp2_with fail
  refine (pick_any w0 _ R _ 3 hr8 (by omega) (by omega) (by omega)).mono ?_
  rintro e w9 ⟨q9, rfl, -, hr9, hu9⟩
  have U9 := U8.trans hu9
  clear hr8 hu9 U8
  go_wp2_with fail
  refine (pick_any w0 _ R _ 4 hr9 (by omega) (by omega) (by omega)).mono ?_
  rintro e w10 ⟨q10, rfl, -, hr10, hu10⟩
  have U10 := U9.trans hu10
  clear hr9 hu10 U9
  go_wp2_with fail
  refine (pick_any w0 _ R _ 4 hr10 (by omega) (by omega) (by omega)).mono ?_
  rintro e w11 ⟨q11, rfl, -, hr11, hu11⟩
  have U11 := U10.trans hu11
  clear hr10 hu11 U10
  go_wp2_with fail
  refine (pick_any w0 _ R _ 2 hr11 (by omega) (by omega) (by omega)).mono ?_
  rintro e w12 ⟨q12, rfl, -, hr12, hu12⟩
  have U12 := U11.trans hu12
  clear hr11 hu12 U11
  go_wp2_with fail
  refine (pick_any w0 _ R _ 3 hr12 (by omega) (by omega) (by omega)).mono ?_
  rintro e w13 ⟨q13, rfl, -, hr13, hu13⟩
  have U13 := U12.trans hu13
  clear hr12 hu13 U12
  go_wp2_with fail
  refine (pick_any w0 _ R _ 3 hr13 (by omega) (by omega) (by omega)).mono ?_
  rintro e w14 ⟨q14, rfl, -, hr14, hu14⟩
  have U14 := U13.trans hu14
  clear hr13 hu14 U13
  go_wp2_with fail
  refine (l72Num_any w0 _ R _ hr14 (by omega)).mono ?_
  rintro e w15 ⟨z15, rfl, hr15, hu15⟩
  have U15 := U14.trans hu15
  clear hr14 hu15 U14
  have G0 := hide (U15.keeps G.out (by omega))
  have z15s := U15.size
  simp only [World.size_alloc] at z15s
  have UU := hide ((Upd.ofBelow al0).trans U15)
  have hRl15 := hr15.lt.1
  clear G U15 al0
  go_wp2_with (first
    | (refine wpList_built34 (wrap64 (1 + (q1 : Int))) (q2 : Int) (q3 : Int) (wrap64 (1 + (q4 : Int))) (wrap64 (1 + (q5 : Int))) (q6 : Int) C.c0 C.c1 C.c2 C.c3 C.c4 C.c5 C.c6 C.c7 C.c8 C.c9 (q8 : Int) (wrap64 (1 + (q9 : Int))) (q10 : Int) (wrap64 (1 + (q11 : Int))) (wrap64 (1 + (q12 : Int))) (q13 : Int) (q14 : Int) z15 rfl _ rfl ?hp ?_; (case hp => ((conv => lhs; simp only [List.map_toArray, List.map_cons, List.map_nil]); rfl)))
    | (refine wpList_store_row rfl 34 (.tmp 3) (.tmp 40) rfl w15.heap.size _ rfl rfl _ _ (heap_alloc_new w15 _) infoWd (show (26 : Nat) = 26 from rfl) (all_of_list rfl) ?_; rw [World.setRow_alloc_new]))
  generalize hW : World.alloc _ _ = W
  have K1 : ∃ x : Wd, x.ps = [] ∧ x.ls = [] ∧ W.heap[w15.heap.size]? = some (.cells (#[.int .i64 x.a0, .int .i64 x.a1, .int .i64 x.a2, .int .i64 x.a3, .int .i64 x.a4, .int .i64 x.a5, .int .i64 x.c0, .int .i64 x.c1, .int .i64 x.c2, .int .i64 x.c3, .int .i64 x.c4, .int .i64 x.c5, .int .i64 x.c6, .int .i64 x.c7, .int .i64 x.c8, .int .i64 x.c9, .int .i64 x.b0, .int .i64 x.b1, .int .i64 x.b2, .int .i64 x.b3, .int .i64 x.b4, .int .i64 x.b5, .int .i64 x.b6, .int .i64 x.b7, .slice none 0 0, .slice none 0 0] : Array Value) 34 (0, 0)) := by
    rw [← hW]
    exact ⟨⟨_, _, _, _, _, _, _, _, _, _, _, _, _, _, _, _, _, _, _, _, _, _, _, _, [], []⟩, rfl, rfl, heap_alloc_new w15 _⟩
  have alc : Below w15.heap.size w15 W := by rw [← hW]; exact bal (Below.refl _ _) _
  have zW : W.heap.size = w15.heap.size + 1 := by rw [← hW]; simp
  clear hW
  generalize Value.agg _ = A0
  obtain ⟨x, hxp, hxl, K1⟩ := K1
  have HXp := hide hxp
  have HXl := hide hxl
  have HK1 := hide K1
  have K0 := hide (bKeeps alc G0.out)
  have hrc := hr15.keepB alc
  refine (pick_any w0 _ R _ 3 hrc (by omega) (by omega) (by omega)).mono ?_
  rintro e w16 ⟨q16, rfl, hq16, hr16, hu16⟩
  have L0 := hide (hu16.keeps K0.out (by omega))
  have L1 := hide (hu16.keeps HK1.out (by omega))
  have U16 := hide ((UU.out.trans (Upd.ofBelow alc)).trans hu16)
  have hz16 := hu16.size
  clear hr15 G0 K0 K1 HK1 hrc alc hu16 UU hxp hxl
  by_cases h16 : q16 = 0
  · subst h16
    go_wp2_with fail
    refine (l72PiecesAny_any w0 _ R _ hr16 (by omega)).mono ?_
    rintro e w17 ⟨v17, ps, p17, rfl, row17, hl17, hr17, hp17, hu17⟩
    obtain ⟨po, pc, rfl, -⟩ := row17.room
    have M0 := hide (hu17.keeps L0.out (by omega))
    have M1 := hide (hu17.keeps L1.out (by omega))
    have c0 : w17.cell? ⟨w15.heap.size, 24, none⟩ = some (.slice none 0 0) := boxAt M1.out 24
    have c1 : w17.frozen? ⟨w15.heap.size, 24, none⟩ = false := boxFz M1.out 24
    have us := Upd.setCell (S := fun j => j = w15.heap.size) w17 w15.heap.size 24 (.slice po ps.length pc) rfl
    have N0 := hide (us.keeps M0.out (by omega))
    have N1 : Hid ((w17.setCell ⟨w15.heap.size, 24, none⟩ (.slice po ps.length pc)).heap[w15.heap.size]? = some (.cells (#[.int .i64 x.a0, .int .i64 x.a1, .int .i64 x.a2, .int .i64 x.a3, .int .i64 x.a4, .int .i64 x.a5, .int .i64 x.c0, .int .i64 x.c1, .int .i64 x.c2, .int .i64 x.c3, .int .i64 x.c4, .int .i64 x.c5, .int .i64 x.c6, .int .i64 x.c7, .int .i64 x.c8, .int .i64 x.c9, .int .i64 x.b0, .int .i64 x.b1, .int .i64 x.b2, .int .i64 x.b3, .int .i64 x.b4, .int .i64 x.b5, .int .i64 x.b6, .int .i64 x.b7, .slice po ps.length pc, .slice none 0 0] : Array Value) 34 (0, 0))) := row_set _ M1.out
    have RP := hide (RowA.keepTy8 (row17.base (b' := w.heap.size) (by omega)) us (fun k h1 h2 => by subst h2; exact typed_box M1.out (by decide) rfl h1))
    have hrN := hr17.keep us (by omega) (fun k h => by omega)
    have UN := hide ((U16.out.trans hu17).transN us (fun k h => by omega))
    have hz17 := hu17.size
    clear L0 L1 U16 hr16 hu17 row17 M0 M1
    go_wp2_with fail
    clear c0 c1
    generalize w17.setCell ⟨w15.heap.size, 24, none⟩ (.slice po ps.length pc) = V at us N0 N1 RP hrN UN ⊢
    have hzV := us.size
    refine (l72Last_any w0 _ R _ hrN (by omega)).mono ?_
    rintro e w18 ⟨v18, ls, p18, rfl, row18, hl18, hr18, hp18, hu18⟩
    obtain ⟨lo, lc, rfl, -⟩ := row18.room
    have M0 := hide (hu18.keeps N0.out (by omega))
    have M1 := hide (hu18.keeps N1.out (by omega))
    have c0 : w18.cell? ⟨w15.heap.size, 25, none⟩ = some (.slice none 0 0) := boxAt M1.out 25
    have c1 : w18.frozen? ⟨w15.heap.size, 25, none⟩ = false := boxFz M1.out 25
    have ut := Upd.setCell (S := fun j => j = w15.heap.size) w18 w15.heap.size 25 (.slice lo ls.length lc) rfl
    have T0 := hide (ut.keeps M0.out (by omega))
    have T1 : Hid ((w18.setCell ⟨w15.heap.size, 25, none⟩ (.slice lo ls.length lc)).heap[w15.heap.size]? = some (.cells (#[.int .i64 x.a0, .int .i64 x.a1, .int .i64 x.a2, .int .i64 x.a3, .int .i64 x.a4, .int .i64 x.a5, .int .i64 x.c0, .int .i64 x.c1, .int .i64 x.c2, .int .i64 x.c3, .int .i64 x.c4, .int .i64 x.c5, .int .i64 x.c6, .int .i64 x.c7, .int .i64 x.c8, .int .i64 x.c9, .int .i64 x.b0, .int .i64 x.b1, .int .i64 x.b2, .int .i64 x.b3, .int .i64 x.b4, .int .i64 x.b5, .int .i64 x.b6, .int .i64 x.b7, .slice po ps.length pc, .slice lo ls.length lc] : Array Value) 34 (0, 0))) := row_set _ M1.out
    have RP2 := hide (RowA.keepTy8 (RowA.keepTy8 RP.out hu18 (fun k h1 h2 => by have := h1.1; omega)) ut (fun k h1 h2 => by subst h2; exact typed_box M1.out (by decide) rfl h1))
    have RL2 := hide (RowA.keepTy8 (row18.base (b' := w.heap.size) (by omega)) ut (fun k h1 h2 => by subst h2; exact typed_box M1.out (by decide) rfl h1))
    have hrT := hr18.keep ut (by omega) (fun k h => by omega)
    have UT := hide ((UN.out.trans hu18).transN ut (fun k h => by omega))
    have hz18 := hu18.size
    clear us N0 N1 RP hrN UN hu18 row18 M0 M1
    go_wp2_with fail
    clear c0 c1
    generalize w18.setCell ⟨w15.heap.size, 25, none⟩ (.slice lo ls.length lc) = Y at ut T0 T1 RP2 RL2 hrT UT ⊢
    have hzY := ut.size
    obtain ⟨y, hy⟩ : ∃ y : Wd, y = { x with ps := ps, ls := ls } := ⟨_, rfl⟩
    have T1' : Hid (Y.heap[w15.heap.size]? = some (.cells (#[.int .i64 y.a0, .int .i64 y.a1, .int .i64 y.a2, .int .i64 y.a3, .int .i64 y.a4, .int .i64 y.a5, .int .i64 y.c0, .int .i64 y.c1, .int .i64 y.c2, .int .i64 y.c3, .int .i64 y.c4, .int .i64 y.c5, .int .i64 y.c6, .int .i64 y.c7, .int .i64 y.c8, .int .i64 y.c9, .int .i64 y.b0, .int .i64 y.b1, .int .i64 y.b2, .int .i64 y.b3, .int .i64 y.b4, .int .i64 y.b5, .int .i64 y.b6, .int .i64 y.b7, .slice po y.ps.length pc, .slice lo y.ls.length lc] : Array Value) 34 (0, 0))) := by rw [hy]; exact T1.out
    have RP' : Hid (RowA Y w.heap.size 83 4 (.slice po y.ps.length pc) y.ps.length (pcells y.ps)) := by rw [hy]; exact RP2.out
    have RL' : Hid (RowA Y w.heap.size 86 2 (.slice lo y.ls.length lc) y.ls.length (lcells y.ls)) := by rw [hy]; exact RL2.out
    have hyp : y.ps.length ≤ 61 := by rw [hy]; exact hl17
    have hyl : y.ls.length ≤ 61 := by rw [hy]; exact hl18
    have hpp : p18 ≤ p + 3990 := by omega
    have hzz : w15.heap.size < Y.heap.size := by omega
    clear hy T1 RP2 RL2 ut hl17 hl18
    refine (pick_any w0 _ R _ 20 hrT (by omega) (by omega) (by omega)).mono ?_
    rintro e w21 ⟨q21, rfl, hq21, hr21, hu21⟩
    have P0 := hide (hu21.keeps T0.out (by omega))
    have P1 := hide (hu21.keeps T1'.out (by omega))
    have PP := hide (RowA.keepTy8 RP'.out hu21 (fun k h1 h2 => by have := h1.1; omega))
    have PL := hide (RowA.keepTy8 RL'.out hu21 (fun k h1 h2 => by have := h1.1; omega))
    have U21 := hide (UT.out.trans hu21)
    have hz21 := hu21.size
    clear T0 T1' RP' RL' UT hrT hu21
    rcases (by omega : q21 = 0 ∨ q21 = 1 ∨ q21 = 2 ∨ q21 = 3 ∨ 4 ≤ q21) with h | h | h | h | h
    · subst h
      have al := bal (Below.refl w21.heap.size w21) (.cells #[.int .i64 (-1), .int .i64 5, .int .i64 100, .int .i64 103, .int .i64 104] 3)
      have LA := hide (litAt w21 [(-1), 5, 100, 103, 104] 3)
      have hr21a := hr21.keepB al
      go_wp2_with fail
      refine (pick_any w0 _ R _ 5 hr21a (by omega) (by omega) (by omega)).mono ?_
      rintro e w22 ⟨q22, rfl, hq22, hr22, hu22⟩
      obtain ⟨z, hz⟩ := LA.out q22 hq22
      have f0 : w22.cell? ⟨w21.heap.size, q22, none⟩ = some (.int .i64 z) := updCell hu22 hz (by omega)
      have hi : (q22 : Int) < 5 := by omega
      have N0 := hide (hu22.keeps (bKeeps al P0.out) (by omega))
      have N1 := hide (hu22.keeps (bKeeps al P1.out) (by omega))
      have NP := hide (RowA.keepTy8 (PP.out.keepB al) hu22 (fun k h1 h2 => by have := h1.1; omega))
      have NL := hide (RowA.keepTy8 (PL.out.keepB al) hu22 (fun k h1 h2 => by have := h1.1; omega))
      have U22 := hide ((U21.out.trans (Upd.ofBelow al)).trans hu22)
      have hz22 := hu22.size
      simp only [World.size_alloc] at hz22
      clear P0 P1 PP PL U21 hr21 hr21a hu22 al LA hz
      obtain ⟨u, hu⟩ : ∃ u : Wd, u = { y with a1 := z } := ⟨_, rfl⟩
      have us := Upd.setCell (S := fun j => j = w15.heap.size) w22 w15.heap.size 1 (.int .i64 z) rfl
      have M0 := hide (us.keeps N0.out (by omega))
      have M1 : Hid ((w22.setCell ⟨w15.heap.size, 1, none⟩ (.int .i64 z)).heap[w15.heap.size]? = some (.cells (#[.int .i64 u.a0, .int .i64 u.a1, .int .i64 u.a2, .int .i64 u.a3, .int .i64 u.a4, .int .i64 u.a5, .int .i64 u.c0, .int .i64 u.c1, .int .i64 u.c2, .int .i64 u.c3, .int .i64 u.c4, .int .i64 u.c5, .int .i64 u.c6, .int .i64 u.c7, .int .i64 u.c8, .int .i64 u.c9, .int .i64 u.b0, .int .i64 u.b1, .int .i64 u.b2, .int .i64 u.b3, .int .i64 u.b4, .int .i64 u.b5, .int .i64 u.b6, .int .i64 u.b7, .slice po u.ps.length pc, .slice lo u.ls.length lc] : Array Value) 34 (0, 0))) := by rw [hu]; exact row_set _ N1.out
      have RPu : Hid (RowA (w22.setCell ⟨w15.heap.size, 1, none⟩ (.int .i64 z)) w.heap.size 83 4 (.slice po u.ps.length pc) u.ps.length (pcells u.ps)) := by rw [hu]; exact RowA.keepTy8 NP.out us (fun k h1 h2 => by subst h2; exact typed_box N1.out (by decide) rfl h1)
      have RLu : Hid (RowA (w22.setCell ⟨w15.heap.size, 1, none⟩ (.int .i64 z)) w.heap.size 86 2 (.slice lo u.ls.length lc) u.ls.length (lcells u.ls)) := by rw [hu]; exact RowA.keepTy8 NL.out us (fun k h1 h2 => by subst h2; exact typed_box N1.out (by decide) rfl h1)
      have hup : u.ps.length ≤ 61 := by rw [hu]; exact hyp
      have hul : u.ls.length ≤ 61 := by rw [hu]; exact hyl
      have c0 : w22.cell? ⟨w15.heap.size, 1, none⟩ = some (.int .i64 y.a1) := boxAt N1.out 1
      have c1 : w22.frozen? ⟨w15.heap.size, 1, none⟩ = false := boxFz N1.out 1
      have hrF := hr22.keep us (by omega) (fun k h => by omega)
      have UF := hide (U22.out.transN us (fun k h => by omega))
      clear hu N0 N1 NP NL U22 us hr22
      have H1s := hide (all_of_list (List.all_eq_true.2 (wd_one u po lo u.ps.length pc u.ls.length lc)))
      go_wp2_with (first | (refine wpList_load_row rfl 34 (.tmp 3) rfl w15.heap.size rfl _ _ (0, 0) _ M1.out Try.underlying34 rfl infoWd ?_) | (refine wpList_store_row rfl 34 (.tmp 2) (.tmp 84) rfl w.heap.size _ rfl rfl _ _ M0.out infoWd rfl H1s.out ?_))
      refine bodyPost_ret (v := .agg #[.int .i64 u.a0, .int .i64 u.a1, .int .i64 u.a2, .int .i64 u.a3, .int .i64 u.a4, .int .i64 u.a5, .int .i64 u.c0, .int .i64 u.c1, .int .i64 u.c2, .int .i64 u.c3, .int .i64 u.c4, .int .i64 u.c5, .int .i64 u.c6, .int .i64 u.c7, .int .i64 u.c8, .int .i64 u.c9, .int .i64 u.b0, .int .i64 u.b1, .int .i64 u.b2, .int .i64 u.b3, .int .i64 u.b4, .int .i64 u.b5, .int .i64 u.b6, .int .i64 u.b7, .slice po u.ps.length pc, .slice lo u.ls.length lc]) (results_cell_row Try.results52 _ _ w.heap.size _ _ (0, 0) _ rfl (setRow_heap _ _ _ _ _ _ M0.out) Try.underlying34 rfl infoWd) rfl ?_
      have u6 : Upd (fun j => j = w.heap.size) (w22.setCell ⟨w15.heap.size, 1, none⟩ (.int .i64 z)) ((w22.setCell ⟨w15.heap.size, 1, none⟩ (.int .i64 z)).setRow w.heap.size (#[.int .i64 u.a0, .int .i64 u.a1, .int .i64 u.a2, .int .i64 u.a3, .int .i64 u.a4, .int .i64 u.a5, .int .i64 u.c0, .int .i64 u.c1, .int .i64 u.c2, .int .i64 u.c3, .int .i64 u.c4, .int .i64 u.c5, .int .i64 u.c6, .int .i64 u.c7, .int .i64 u.c8, .int .i64 u.c9, .int .i64 u.b0, .int .i64 u.b1, .int .i64 u.b2, .int .i64 u.b3, .int .i64 u.b4, .int .i64 u.b5, .int .i64 u.b6, .int .i64 u.b7, .slice po u.ps.length pc, .slice lo u.ls.length lc] : Array Value)) := ⟨rfl, rfl, rfl, by simp, fun k _ h => setRow_other _ _ _ _ h⟩
      refine ⟨_, u, _, rfl, ⟨po, pc, lo, lc, rfl, ?_, ?_⟩, hup, hul, hrF.keep u6 (by omega) (fun k h => by omega), by omega, UF.out.transN u6 (fun k h => by omega)⟩
      · exact ((RowA.keepTy8 RPu.out u6 (fun k h1 h2 => by subst h2; exact typed_box M0.out (by decide) rfl h1)).row (by omega))
      · exact ((RowA.keepTy8 RLu.out u6 (fun k h1 h2 => by subst h2; exact typed_box M0.out (by decide) rfl h1)).row (by omega))
    · subst h
      have al := bal (Below.refl w21.heap.size w21) (.cells #[.int .i64 0, .int .i64 (-1), .int .i64 (-2), .int .i64 60, .int .i64 61] 3)
      have LA := hide (litAt w21 [0, (-1), (-2), 60, 61] 3)
      have hr21a := hr21.keepB al
      go_wp2_with fail
      refine (pick_any w0 _ R _ 5 hr21a (by omega) (by omega) (by omega)).mono ?_
      rintro e w22 ⟨q22, rfl, hq22, hr22, hu22⟩
      obtain ⟨z, hz⟩ := LA.out q22 hq22
      have f0 : w22.cell? ⟨w21.heap.size, q22, none⟩ = some (.int .i64 z) := updCell hu22 hz (by omega)
      have hi : (q22 : Int) < 5 := by omega
      have N0 := hide (hu22.keeps (bKeeps al P0.out) (by omega))
      have N1 := hide (hu22.keeps (bKeeps al P1.out) (by omega))
      have NP := hide (RowA.keepTy8 (PP.out.keepB al) hu22 (fun k h1 h2 => by have := h1.1; omega))
      have NL := hide (RowA.keepTy8 (PL.out.keepB al) hu22 (fun k h1 h2 => by have := h1.1; omega))
      have U22 := hide ((U21.out.trans (Upd.ofBelow al)).trans hu22)
      have hz22 := hu22.size
      simp only [World.size_alloc] at hz22
      clear P0 P1 PP PL U21 hr21 hr21a hu22 al LA hz
      obtain ⟨u, hu⟩ : ∃ u : Wd, u = { y with a4 := z } := ⟨_, rfl⟩
      have us := Upd.setCell (S := fun j => j = w15.heap.size) w22 w15.heap.size 4 (.int .i64 z) rfl
      have M0 := hide (us.keeps N0.out (by omega))
      have M1 : Hid ((w22.setCell ⟨w15.heap.size, 4, none⟩ (.int .i64 z)).heap[w15.heap.size]? = some (.cells (#[.int .i64 u.a0, .int .i64 u.a1, .int .i64 u.a2, .int .i64 u.a3, .int .i64 u.a4, .int .i64 u.a5, .int .i64 u.c0, .int .i64 u.c1, .int .i64 u.c2, .int .i64 u.c3, .int .i64 u.c4, .int .i64 u.c5, .int .i64 u.c6, .int .i64 u.c7, .int .i64 u.c8, .int .i64 u.c9, .int .i64 u.b0, .int .i64 u.b1, .int .i64 u.b2, .int .i64 u.b3, .int .i64 u.b4, .int .i64 u.b5, .int .i64 u.b6, .int .i64 u.b7, .slice po u.ps.length pc, .slice lo u.ls.length lc] : Array Value) 34 (0, 0))) := by rw [hu]; exact row_set _ N1.out
      have RPu : Hid (RowA (w22.setCell ⟨w15.heap.size, 4, none⟩ (.int .i64 z)) w.heap.size 83 4 (.slice po u.ps.length pc) u.ps.length (pcells u.ps)) := by rw [hu]; exact RowA.keepTy8 NP.out us (fun k h1 h2 => by subst h2; exact typed_box N1.out (by decide) rfl h1)
      have RLu : Hid (RowA (w22.setCell ⟨w15.heap.size, 4, none⟩ (.int .i64 z)) w.heap.size 86 2 (.slice lo u.ls.length lc) u.ls.length (lcells u.ls)) := by rw [hu]; exact RowA.keepTy8 NL.out us (fun k h1 h2 => by subst h2; exact typed_box N1.out (by decide) rfl h1)
      have hup : u.ps.length ≤ 61 := by rw [hu]; exact hyp
      have hul : u.ls.length ≤ 61 := by rw [hu]; exact hyl
      have c0 : w22.cell? ⟨w15.heap.size, 4, none⟩ = some (.int .i64 y.a4) := boxAt N1.out 4
      have c1 : w22.frozen? ⟨w15.heap.size, 4, none⟩ = false := boxFz N1.out 4
      have hrF := hr22.keep us (by omega) (fun k h => by omega)
      have UF := hide (U22.out.transN us (fun k h => by omega))
      clear hu N0 N1 NP NL U22 us hr22
      have H1s := hide (all_of_list (List.all_eq_true.2 (wd_one u po lo u.ps.length pc u.ls.length lc)))
      go_wp2_with (first | (refine wpList_load_row rfl 34 (.tmp 3) rfl w15.heap.size rfl _ _ (0, 0) _ M1.out Try.underlying34 rfl infoWd ?_) | (refine wpList_store_row rfl 34 (.tmp 2) (.tmp 84) rfl w.heap.size _ rfl rfl _ _ M0.out infoWd rfl H1s.out ?_))
      refine bodyPost_ret (v := .agg #[.int .i64 u.a0, .int .i64 u.a1, .int .i64 u.a2, .int .i64 u.a3, .int .i64 u.a4, .int .i64 u.a5, .int .i64 u.c0, .int .i64 u.c1, .int .i64 u.c2, .int .i64 u.c3, .int .i64 u.c4, .int .i64 u.c5, .int .i64 u.c6, .int .i64 u.c7, .int .i64 u.c8, .int .i64 u.c9, .int .i64 u.b0, .int .i64 u.b1, .int .i64 u.b2, .int .i64 u.b3, .int .i64 u.b4, .int .i64 u.b5, .int .i64 u.b6, .int .i64 u.b7, .slice po u.ps.length pc, .slice lo u.ls.length lc]) (results_cell_row Try.results52 _ _ w.heap.size _ _ (0, 0) _ rfl (setRow_heap _ _ _ _ _ _ M0.out) Try.underlying34 rfl infoWd) rfl ?_
      have u6 : Upd (fun j => j = w.heap.size) (w22.setCell ⟨w15.heap.size, 4, none⟩ (.int .i64 z)) ((w22.setCell ⟨w15.heap.size, 4, none⟩ (.int .i64 z)).setRow w.heap.size (#[.int .i64 u.a0, .int .i64 u.a1, .int .i64 u.a2, .int .i64 u.a3, .int .i64 u.a4, .int .i64 u.a5, .int .i64 u.c0, .int .i64 u.c1, .int .i64 u.c2, .int .i64 u.c3, .int .i64 u.c4, .int .i64 u.c5, .int .i64 u.c6, .int .i64 u.c7, .int .i64 u.c8, .int .i64 u.c9, .int .i64 u.b0, .int .i64 u.b1, .int .i64 u.b2, .int .i64 u.b3, .int .i64 u.b4, .int .i64 u.b5, .int .i64 u.b6, .int .i64 u.b7, .slice po u.ps.length pc, .slice lo u.ls.length lc] : Array Value)) := ⟨rfl, rfl, rfl, by simp, fun k _ h => setRow_other _ _ _ _ h⟩
      refine ⟨_, u, _, rfl, ⟨po, pc, lo, lc, rfl, ?_, ?_⟩, hup, hul, hrF.keep u6 (by omega) (fun k h => by omega), by omega, UF.out.transN u6 (fun k h => by omega)⟩
      · exact ((RowA.keepTy8 RPu.out u6 (fun k h1 h2 => by subst h2; exact typed_box M0.out (by decide) rfl h1)).row (by omega))
      · exact ((RowA.keepTy8 RLu.out u6 (fun k h1 h2 => by subst h2; exact typed_box M0.out (by decide) rfl h1)).row (by omega))
    · subst h
      have al := bal (Below.refl w21.heap.size w21) (.cells #[.int .i64 0, .int .i64 (-1), .int .i64 99999, .int .i64 100000] 3)
      have LA := hide (litAt w21 [0, (-1), 99999, 100000] 3)
      have hr21a := hr21.keepB al
      go_wp2_with fail
      refine (pick_any w0 _ R _ 4 hr21a (by omega) (by omega) (by omega)).mono ?_
      rintro e w22 ⟨q22, rfl, hq22, hr22, hu22⟩
      obtain ⟨z, hz⟩ := LA.out q22 hq22
      have f0 : w22.cell? ⟨w21.heap.size, q22, none⟩ = some (.int .i64 z) := updCell hu22 hz (by omega)
      have hi : (q22 : Int) < 4 := by omega
      have N0 := hide (hu22.keeps (bKeeps al P0.out) (by omega))
      have N1 := hide (hu22.keeps (bKeeps al P1.out) (by omega))
      have NP := hide (RowA.keepTy8 (PP.out.keepB al) hu22 (fun k h1 h2 => by have := h1.1; omega))
      have NL := hide (RowA.keepTy8 (PL.out.keepB al) hu22 (fun k h1 h2 => by have := h1.1; omega))
      have U22 := hide ((U21.out.trans (Upd.ofBelow al)).trans hu22)
      have hz22 := hu22.size
      simp only [World.size_alloc] at hz22
      clear P0 P1 PP PL U21 hr21 hr21a hu22 al LA hz
      obtain ⟨u, hu⟩ : ∃ u : Wd, u = { y with a3 := z } := ⟨_, rfl⟩
      have us := Upd.setCell (S := fun j => j = w15.heap.size) w22 w15.heap.size 3 (.int .i64 z) rfl
      have M0 := hide (us.keeps N0.out (by omega))
      have M1 : Hid ((w22.setCell ⟨w15.heap.size, 3, none⟩ (.int .i64 z)).heap[w15.heap.size]? = some (.cells (#[.int .i64 u.a0, .int .i64 u.a1, .int .i64 u.a2, .int .i64 u.a3, .int .i64 u.a4, .int .i64 u.a5, .int .i64 u.c0, .int .i64 u.c1, .int .i64 u.c2, .int .i64 u.c3, .int .i64 u.c4, .int .i64 u.c5, .int .i64 u.c6, .int .i64 u.c7, .int .i64 u.c8, .int .i64 u.c9, .int .i64 u.b0, .int .i64 u.b1, .int .i64 u.b2, .int .i64 u.b3, .int .i64 u.b4, .int .i64 u.b5, .int .i64 u.b6, .int .i64 u.b7, .slice po u.ps.length pc, .slice lo u.ls.length lc] : Array Value) 34 (0, 0))) := by rw [hu]; exact row_set _ N1.out
      have RPu : Hid (RowA (w22.setCell ⟨w15.heap.size, 3, none⟩ (.int .i64 z)) w.heap.size 83 4 (.slice po u.ps.length pc) u.ps.length (pcells u.ps)) := by rw [hu]; exact RowA.keepTy8 NP.out us (fun k h1 h2 => by subst h2; exact typed_box N1.out (by decide) rfl h1)
      have RLu : Hid (RowA (w22.setCell ⟨w15.heap.size, 3, none⟩ (.int .i64 z)) w.heap.size 86 2 (.slice lo u.ls.length lc) u.ls.length (lcells u.ls)) := by rw [hu]; exact RowA.keepTy8 NL.out us (fun k h1 h2 => by subst h2; exact typed_box N1.out (by decide) rfl h1)
      have hup : u.ps.length ≤ 61 := by rw [hu]; exact hyp
      have hul : u.ls.length ≤ 61 := by rw [hu]; exact hyl
      have c0 : w22.cell? ⟨w15.heap.size, 3, none⟩ = some (.int .i64 y.a3) := boxAt N1.out 3
      have c1 : w22.frozen? ⟨w15.heap.size, 3, none⟩ = false := boxFz N1.out 3
      have hrF := hr22.keep us (by omega) (fun k h => by omega)
      have UF := hide (U22.out.transN us (fun k h => by omega))
      clear hu N0 N1 NP NL U22 us hr22
      have H1s := hide (all_of_list (List.all_eq_true.2 (wd_one u po lo u.ps.length pc u.ls.length lc)))
      go_wp2_with (first | (refine wpList_load_row rfl 34 (.tmp 3) rfl w15.heap.size rfl _ _ (0, 0) _ M1.out Try.underlying34 rfl infoWd ?_) | (refine wpList_store_row rfl 34 (.tmp 2) (.tmp 84) rfl w.heap.size _ rfl rfl _ _ M0.out infoWd rfl H1s.out ?_))
      refine bodyPost_ret (v := .agg #[.int .i64 u.a0, .int .i64 u.a1, .int .i64 u.a2, .int .i64 u.a3, .int .i64 u.a4, .int .i64 u.a5, .int .i64 u.c0, .int .i64 u.c1, .int .i64 u.c2, .int .i64 u.c3, .int .i64 u.c4, .int .i64 u.c5, .int .i64 u.c6, .int .i64 u.c7, .int .i64 u.c8, .int .i64 u.c9, .int .i64 u.b0, .int .i64 u.b1, .int .i64 u.b2, .int .i64 u.b3, .int .i64 u.b4, .int .i64 u.b5, .int .i64 u.b6, .int .i64 u.b7, .slice po u.ps.length pc, .slice lo u.ls.length lc]) (results_cell_row Try.results52 _ _ w.heap.size _ _ (0, 0) _ rfl (setRow_heap _ _ _ _ _ _ M0.out) Try.underlying34 rfl infoWd) rfl ?_
      have u6 : Upd (fun j => j = w.heap.size) (w22.setCell ⟨w15.heap.size, 3, none⟩ (.int .i64 z)) ((w22.setCell ⟨w15.heap.size, 3, none⟩ (.int .i64 z)).setRow w.heap.size (#[.int .i64 u.a0, .int .i64 u.a1, .int .i64 u.a2, .int .i64 u.a3, .int .i64 u.a4, .int .i64 u.a5, .int .i64 u.c0, .int .i64 u.c1, .int .i64 u.c2, .int .i64 u.c3, .int .i64 u.c4, .int .i64 u.c5, .int .i64 u.c6, .int .i64 u.c7, .int .i64 u.c8, .int .i64 u.c9, .int .i64 u.b0, .int .i64 u.b1, .int .i64 u.b2, .int .i64 u.b3, .int .i64 u.b4, .int .i64 u.b5, .int .i64 u.b6, .int .i64 u.b7, .slice po u.ps.length pc, .slice lo u.ls.length lc] : Array Value)) := ⟨rfl, rfl, rfl, by simp, fun k _ h => setRow_other _ _ _ _ h⟩
      refine ⟨_, u, _, rfl, ⟨po, pc, lo, lc, rfl, ?_, ?_⟩, hup, hul, hrF.keep u6 (by omega) (fun k h => by omega), by omega, UF.out.transN u6 (fun k h => by omega)⟩
      · exact ((RowA.keepTy8 RPu.out u6 (fun k h1 h2 => by subst h2; exact typed_box M0.out (by decide) rfl h1)).row (by omega))
      · exact ((RowA.keepTy8 RLu.out u6 (fun k h1 h2 => by subst h2; exact typed_box M0.out (by decide) rfl h1)).row (by omega))
    · subst h
      have al := bal (Below.refl w21.heap.size w21) (.cells #[.int .i64 0, .int .i64 16] 3)
      have LA := hide (litAt w21 [0, 16] 3)
      have hr21a := hr21.keepB al
      go_wp2_with fail
      refine (pick_any w0 _ R _ 2 hr21a (by omega) (by omega) (by omega)).mono ?_
      rintro e w22 ⟨q22, rfl, hq22, hr22, hu22⟩
      obtain ⟨z, hz⟩ := LA.out q22 hq22
      have f0 : w22.cell? ⟨w21.heap.size, q22, none⟩ = some (.int .i64 z) := updCell hu22 hz (by omega)
      have hi : (q22 : Int) < 2 := by omega
      have N0 := hide (hu22.keeps (bKeeps al P0.out) (by omega))
      have N1 := hide (hu22.keeps (bKeeps al P1.out) (by omega))
      have NP := hide (RowA.keepTy8 (PP.out.keepB al) hu22 (fun k h1 h2 => by have := h1.1; omega))
      have NL := hide (RowA.keepTy8 (PL.out.keepB al) hu22 (fun k h1 h2 => by have := h1.1; omega))
      have U22 := hide ((U21.out.trans (Upd.ofBelow al)).trans hu22)
      have hz22 := hu22.size
      simp only [World.size_alloc] at hz22
      clear P0 P1 PP PL U21 hr21 hr21a hu22 al LA hz
      obtain ⟨u, hu⟩ : ∃ u : Wd, u = { y with a0 := z } := ⟨_, rfl⟩
      have us := Upd.setCell (S := fun j => j = w15.heap.size) w22 w15.heap.size 0 (.int .i64 z) rfl
      have M0 := hide (us.keeps N0.out (by omega))
      have M1 : Hid ((w22.setCell ⟨w15.heap.size, 0, none⟩ (.int .i64 z)).heap[w15.heap.size]? = some (.cells (#[.int .i64 u.a0, .int .i64 u.a1, .int .i64 u.a2, .int .i64 u.a3, .int .i64 u.a4, .int .i64 u.a5, .int .i64 u.c0, .int .i64 u.c1, .int .i64 u.c2, .int .i64 u.c3, .int .i64 u.c4, .int .i64 u.c5, .int .i64 u.c6, .int .i64 u.c7, .int .i64 u.c8, .int .i64 u.c9, .int .i64 u.b0, .int .i64 u.b1, .int .i64 u.b2, .int .i64 u.b3, .int .i64 u.b4, .int .i64 u.b5, .int .i64 u.b6, .int .i64 u.b7, .slice po u.ps.length pc, .slice lo u.ls.length lc] : Array Value) 34 (0, 0))) := by rw [hu]; exact row_set _ N1.out
      have RPu : Hid (RowA (w22.setCell ⟨w15.heap.size, 0, none⟩ (.int .i64 z)) w.heap.size 83 4 (.slice po u.ps.length pc) u.ps.length (pcells u.ps)) := by rw [hu]; exact RowA.keepTy8 NP.out us (fun k h1 h2 => by subst h2; exact typed_box N1.out (by decide) rfl h1)
      have RLu : Hid (RowA (w22.setCell ⟨w15.heap.size, 0, none⟩ (.int .i64 z)) w.heap.size 86 2 (.slice lo u.ls.length lc) u.ls.length (lcells u.ls)) := by rw [hu]; exact RowA.keepTy8 NL.out us (fun k h1 h2 => by subst h2; exact typed_box N1.out (by decide) rfl h1)
      have hup : u.ps.length ≤ 61 := by rw [hu]; exact hyp
      have hul : u.ls.length ≤ 61 := by rw [hu]; exact hyl
      have c0 : w22.cell? ⟨w15.heap.size, 0, none⟩ = some (.int .i64 y.a0) := boxAt N1.out 0
      have c1 : w22.frozen? ⟨w15.heap.size, 0, none⟩ = false := boxFz N1.out 0
      have hrF := hr22.keep us (by omega) (fun k h => by omega)
      have UF := hide (U22.out.transN us (fun k h => by omega))
      clear hu N0 N1 NP NL U22 us hr22
      have H1s := hide (all_of_list (List.all_eq_true.2 (wd_one u po lo u.ps.length pc u.ls.length lc)))
      go_wp2_with (first | (refine wpList_load_row rfl 34 (.tmp 3) rfl w15.heap.size rfl _ _ (0, 0) _ M1.out Try.underlying34 rfl infoWd ?_) | (refine wpList_store_row rfl 34 (.tmp 2) (.tmp 84) rfl w.heap.size _ rfl rfl _ _ M0.out infoWd rfl H1s.out ?_))
      refine bodyPost_ret (v := .agg #[.int .i64 u.a0, .int .i64 u.a1, .int .i64 u.a2, .int .i64 u.a3, .int .i64 u.a4, .int .i64 u.a5, .int .i64 u.c0, .int .i64 u.c1, .int .i64 u.c2, .int .i64 u.c3, .int .i64 u.c4, .int .i64 u.c5, .int .i64 u.c6, .int .i64 u.c7, .int .i64 u.c8, .int .i64 u.c9, .int .i64 u.b0, .int .i64 u.b1, .int .i64 u.b2, .int .i64 u.b3, .int .i64 u.b4, .int .i64 u.b5, .int .i64 u.b6, .int .i64 u.b7, .slice po u.ps.length pc, .slice lo u.ls.length lc]) (results_cell_row Try.results52 _ _ w.heap.size _ _ (0, 0) _ rfl (setRow_heap _ _ _ _ _ _ M0.out) Try.underlying34 rfl infoWd) rfl ?_
      have u6 : Upd (fun j => j = w.heap.size) (w22.setCell ⟨w15.heap.size, 0, none⟩ (.int .i64 z)) ((w22.setCell ⟨w15.heap.size, 0, none⟩ (.int .i64 z)).setRow w.heap.size (#[.int .i64 u.a0, .int .i64 u.a1, .int .i64 u.a2, .int .i64 u.a3, .int .i64 u.a4, .int .i64 u.a5, .int .i64 u.c0, .int .i64 u.c1, .int .i64 u.c2, .int .i64 u.c3, .int .i64 u.c4, .int .i64 u.c5, .int .i64 u.c6, .int .i64 u.c7, .int .i64 u.c8, .int .i64 u.c9, .int .i64 u.b0, .int .i64 u.b1, .int .i64 u.b2, .int .i64 u.b3, .int .i64 u.b4, .int .i64 u.b5, .int .i64 u.b6, .int .i64 u.b7, .slice po u.ps.length pc, .slice lo u.ls.length lc] : Array Value)) := ⟨rfl, rfl, rfl, by simp, fun k _ h => setRow_other _ _ _ _ h⟩
      refine ⟨_, u, _, rfl, ⟨po, pc, lo, lc, rfl, ?_, ?_⟩, hup, hul, hrF.keep u6 (by omega) (fun k h => by omega), by omega, UF.out.transN u6 (fun k h => by omega)⟩
      · exact ((RowA.keepTy8 RPu.out u6 (fun k h1 h2 => by subst h2; exact typed_box M0.out (by decide) rfl h1)).row (by omega))
      · exact ((RowA.keepTy8 RLu.out u6 (fun k h1 h2 => by subst h2; exact typed_box M0.out (by decide) rfl h1)).row (by omega))
    · obtain ⟨w22, hw⟩ : ∃ w22, w22 = w21 := ⟨_, rfl⟩
      subst hw
      have h0 : ((q21 : Int) == 0) = false := by simp; omega
      have h1 : ((q21 : Int) == 1) = false := by simp; omega
      have h2 : ((q21 : Int) == 2) = false := by simp; omega
      have h3 : ((q21 : Int) == 3) = false := by simp; omega
      have N0 := P0
      have N1 := P1
      have NP := PP
      have NL := PL
      have U22 := U21
      have hr22 := hr21
      clear P0 P1 PP PL U21 hr21
      obtain ⟨u, hu⟩ : ∃ u : Wd, u = y := ⟨_, rfl⟩
      subst hu
      have M0 := N0
      have M1 := N1
      have RPu := NP
      have RLu := NL
      have hup := hyp
      have hul := hyl
      have hrF := hr22
      have UF := U22
      clear N0 N1 NP NL U22 hr22
      have H1s := hide (all_of_list (List.all_eq_true.2 (wd_one u po lo u.ps.length pc u.ls.length lc)))
      go_wp2_with (first | (refine wpList_load_row rfl 34 (.tmp 3) rfl w15.heap.size rfl _ _ (0, 0) _ M1.out Try.underlying34 rfl infoWd ?_) | (refine wpList_store_row rfl 34 (.tmp 2) (.tmp 84) rfl w.heap.size _ rfl rfl _ _ M0.out infoWd rfl H1s.out ?_))
      refine bodyPost_ret (v := .agg #[.int .i64 u.a0, .int .i64 u.a1, .int .i64 u.a2, .int .i64 u.a3, .int .i64 u.a4, .int .i64 u.a5, .int .i64 u.c0, .int .i64 u.c1, .int .i64 u.c2, .int .i64 u.c3, .int .i64 u.c4, .int .i64 u.c5, .int .i64 u.c6, .int .i64 u.c7, .int .i64 u.c8, .int .i64 u.c9, .int .i64 u.b0, .int .i64 u.b1, .int .i64 u.b2, .int .i64 u.b3, .int .i64 u.b4, .int .i64 u.b5, .int .i64 u.b6, .int .i64 u.b7, .slice po u.ps.length pc, .slice lo u.ls.length lc]) (results_cell_row Try.results52 _ _ w.heap.size _ _ (0, 0) _ rfl (setRow_heap _ _ _ _ _ _ M0.out) Try.underlying34 rfl infoWd) rfl ?_
      have u6 : Upd (fun j => j = w.heap.size) w22 (w22.setRow w.heap.size (#[.int .i64 u.a0, .int .i64 u.a1, .int .i64 u.a2, .int .i64 u.a3, .int .i64 u.a4, .int .i64 u.a5, .int .i64 u.c0, .int .i64 u.c1, .int .i64 u.c2, .int .i64 u.c3, .int .i64 u.c4, .int .i64 u.c5, .int .i64 u.c6, .int .i64 u.c7, .int .i64 u.c8, .int .i64 u.c9, .int .i64 u.b0, .int .i64 u.b1, .int .i64 u.b2, .int .i64 u.b3, .int .i64 u.b4, .int .i64 u.b5, .int .i64 u.b6, .int .i64 u.b7, .slice po u.ps.length pc, .slice lo u.ls.length lc] : Array Value)) := ⟨rfl, rfl, rfl, by simp, fun k _ h => setRow_other _ _ _ _ h⟩
      refine ⟨_, u, _, rfl, ⟨po, pc, lo, lc, rfl, ?_, ?_⟩, hup, hul, hrF.keep u6 (by omega) (fun k h => by omega), by omega, UF.out.transN u6 (fun k h => by omega)⟩
      · exact ((RowA.keepTy8 RPu.out u6 (fun k h1 h2 => by subst h2; exact typed_box M0.out (by decide) rfl h1)).row (by omega))
      · exact ((RowA.keepTy8 RLu.out u6 (fun k h1 h2 => by subst h2; exact typed_box M0.out (by decide) rfl h1)).row (by omega))
  · have hq0 : ¬ (q16 : Int) = 0 := by omega
    have hq1 : ((q16 : Int) == 0) = false := by simpa using hq0
    go_wp2_with fail
    clear hq0 hq1
    obtain ⟨po, hpo⟩ : ∃ po : Option Addr, po = none := ⟨_, rfl⟩
    obtain ⟨lo, hlo⟩ : ∃ lo : Option Addr, lo = none := ⟨_, rfl⟩
    obtain ⟨pc, hpc⟩ : ∃ pc : Nat, pc = 0 := ⟨_, rfl⟩
    obtain ⟨lc, hlc⟩ : ∃ lc : Nat, lc = 0 := ⟨_, rfl⟩
    obtain ⟨y, hy⟩ : ∃ y : Wd, y = x := ⟨_, rfl⟩
    have T1' : Hid (w16.heap[w15.heap.size]? = some (.cells (#[.int .i64 y.a0, .int .i64 y.a1, .int .i64 y.a2, .int .i64 y.a3, .int .i64 y.a4, .int .i64 y.a5, .int .i64 y.c0, .int .i64 y.c1, .int .i64 y.c2, .int .i64 y.c3, .int .i64 y.c4, .int .i64 y.c5, .int .i64 y.c6, .int .i64 y.c7, .int .i64 y.c8, .int .i64 y.c9, .int .i64 y.b0, .int .i64 y.b1, .int .i64 y.b2, .int .i64 y.b3, .int .i64 y.b4, .int .i64 y.b5, .int .i64 y.b6, .int .i64 y.b7, .slice po y.ps.length pc, .slice lo y.ls.length lc] : Array Value) 34 (0, 0))) := by rw [hy, HXp.out, HXl.out, hpo, hlo, hpc, hlc]; exact L1.out
    have RP' : Hid (RowA w16 w.heap.size 83 4 (.slice po y.ps.length pc) y.ps.length (pcells y.ps)) := by rw [hy, HXp.out, hpo, hpc]; exact .inr ⟨rfl, rfl, _, rfl⟩
    have RL' : Hid (RowA w16 w.heap.size 86 2 (.slice lo y.ls.length lc) y.ls.length (lcells y.ls)) := by rw [hy, HXl.out, hlo, hlc]; exact .inr ⟨rfl, rfl, _, rfl⟩
    have hyp : y.ps.length ≤ 61 := by rw [hy, HXp.out]; simp
    have hyl : y.ls.length ≤ 61 := by rw [hy, HXl.out]; simp
    have T0 := L0
    have UT := U16
    have hrT := hr16
    have hzz : w15.heap.size < w16.heap.size := by omega
    clear hy hpo hlo hpc hlc L0 L1 U16 hr16
    refine (pick_any w0 _ R _ 20 hrT (by omega) (by omega) (by omega)).mono ?_
    rintro e w21 ⟨q21, rfl, hq21, hr21, hu21⟩
    have P0 := hide (hu21.keeps T0.out (by omega))
    have P1 := hide (hu21.keeps T1'.out (by omega))
    have PP := hide (RowA.keepTy8 RP'.out hu21 (fun k h1 h2 => by have := h1.1; omega))
    have PL := hide (RowA.keepTy8 RL'.out hu21 (fun k h1 h2 => by have := h1.1; omega))
    have U21 := hide (UT.out.trans hu21)
    have hz21 := hu21.size
    clear T0 T1' RP' RL' UT hrT hu21
    rcases (by omega : q21 = 0 ∨ q21 = 1 ∨ q21 = 2 ∨ q21 = 3 ∨ 4 ≤ q21) with h | h | h | h | h
    · subst h
      have al := bal (Below.refl w21.heap.size w21) (.cells #[.int .i64 (-1), .int .i64 5, .int .i64 100, .int .i64 103, .int .i64 104] 3)
      have LA := hide (litAt w21 [(-1), 5, 100, 103, 104] 3)
      have hr21a := hr21.keepB al
      go_wp2_with fail
      refine (pick_any w0 _ R _ 5 hr21a (by omega) (by omega) (by omega)).mono ?_
      rintro e w22 ⟨q22, rfl, hq22, hr22, hu22⟩
      obtain ⟨z, hz⟩ := LA.out q22 hq22
      have f0 : w22.cell? ⟨w21.heap.size, q22, none⟩ = some (.int .i64 z) := updCell hu22 hz (by omega)
      have hi : (q22 : Int) < 5 := by omega
      have N0 := hide (hu22.keeps (bKeeps al P0.out) (by omega))
      have N1 := hide (hu22.keeps (bKeeps al P1.out) (by omega))
      have NP := hide (RowA.keepTy8 (PP.out.keepB al) hu22 (fun k h1 h2 => by have := h1.1; omega))
      have NL := hide (RowA.keepTy8 (PL.out.keepB al) hu22 (fun k h1 h2 => by have := h1.1; omega))
      have U22 := hide ((U21.out.trans (Upd.ofBelow al)).trans hu22)
      have hz22 := hu22.size
      simp only [World.size_alloc] at hz22
      clear P0 P1 PP PL U21 hr21 hr21a hu22 al LA hz
      obtain ⟨u, hu⟩ : ∃ u : Wd, u = { y with a1 := z } := ⟨_, rfl⟩
      have us := Upd.setCell (S := fun j => j = w15.heap.size) w22 w15.heap.size 1 (.int .i64 z) rfl
      have M0 := hide (us.keeps N0.out (by omega))
      have M1 : Hid ((w22.setCell ⟨w15.heap.size, 1, none⟩ (.int .i64 z)).heap[w15.heap.size]? = some (.cells (#[.int .i64 u.a0, .int .i64 u.a1, .int .i64 u.a2, .int .i64 u.a3, .int .i64 u.a4, .int .i64 u.a5, .int .i64 u.c0, .int .i64 u.c1, .int .i64 u.c2, .int .i64 u.c3, .int .i64 u.c4, .int .i64 u.c5, .int .i64 u.c6, .int .i64 u.c7, .int .i64 u.c8, .int .i64 u.c9, .int .i64 u.b0, .int .i64 u.b1, .int .i64 u.b2, .int .i64 u.b3, .int .i64 u.b4, .int .i64 u.b5, .int .i64 u.b6, .int .i64 u.b7, .slice po u.ps.length pc, .slice lo u.ls.length lc] : Array Value) 34 (0, 0))) := by rw [hu]; exact row_set _ N1.out
      have RPu : Hid (RowA (w22.setCell ⟨w15.heap.size, 1, none⟩ (.int .i64 z)) w.heap.size 83 4 (.slice po u.ps.length pc) u.ps.length (pcells u.ps)) := by rw [hu]; exact RowA.keepTy8 NP.out us (fun k h1 h2 => by subst h2; exact typed_box N1.out (by decide) rfl h1)
      have RLu : Hid (RowA (w22.setCell ⟨w15.heap.size, 1, none⟩ (.int .i64 z)) w.heap.size 86 2 (.slice lo u.ls.length lc) u.ls.length (lcells u.ls)) := by rw [hu]; exact RowA.keepTy8 NL.out us (fun k h1 h2 => by subst h2; exact typed_box N1.out (by decide) rfl h1)
      have hup : u.ps.length ≤ 61 := by rw [hu]; exact hyp
      have hul : u.ls.length ≤ 61 := by rw [hu]; exact hyl
      have c0 : w22.cell? ⟨w15.heap.size, 1, none⟩ = some (.int .i64 y.a1) := boxAt N1.out 1
      have c1 : w22.frozen? ⟨w15.heap.size, 1, none⟩ = false := boxFz N1.out 1
      have hrF := hr22.keep us (by omega) (fun k h => by omega)
      have UF := hide (U22.out.transN us (fun k h => by omega))
      clear hu N0 N1 NP NL U22 us hr22
      have H1s := hide (all_of_list (List.all_eq_true.2 (wd_one u po lo u.ps.length pc u.ls.length lc)))
      go_wp2_with (first | (refine wpList_load_row rfl 34 (.tmp 3) rfl w15.heap.size rfl _ _ (0, 0) _ M1.out Try.underlying34 rfl infoWd ?_) | (refine wpList_store_row rfl 34 (.tmp 2) (.tmp 84) rfl w.heap.size _ rfl rfl _ _ M0.out infoWd rfl H1s.out ?_))
      refine bodyPost_ret (v := .agg #[.int .i64 u.a0, .int .i64 u.a1, .int .i64 u.a2, .int .i64 u.a3, .int .i64 u.a4, .int .i64 u.a5, .int .i64 u.c0, .int .i64 u.c1, .int .i64 u.c2, .int .i64 u.c3, .int .i64 u.c4, .int .i64 u.c5, .int .i64 u.c6, .int .i64 u.c7, .int .i64 u.c8, .int .i64 u.c9, .int .i64 u.b0, .int .i64 u.b1, .int .i64 u.b2, .int .i64 u.b3, .int .i64 u.b4, .int .i64 u.b5, .int .i64 u.b6, .int .i64 u.b7, .slice po u.ps.length pc, .slice lo u.ls.length lc]) (results_cell_row Try.results52 _ _ w.heap.size _ _ (0, 0) _ rfl (setRow_heap _ _ _ _ _ _ M0.out) Try.underlying34 rfl infoWd) rfl ?_
      have u6 : Upd (fun j => j = w.heap.size) (w22.setCell ⟨w15.heap.size, 1, none⟩ (.int .i64 z)) ((w22.setCell ⟨w15.heap.size, 1, none⟩ (.int .i64 z)).setRow w.heap.size (#[.int .i64 u.a0, .int .i64 u.a1, .int .i64 u.a2, .int .i64 u.a3, .int .i64 u.a4, .int .i64 u.a5, .int .i64 u.c0, .int .i64 u.c1, .int .i64 u.c2, .int .i64 u.c3, .int .i64 u.c4, .int .i64 u.c5, .int .i64 u.c6, .int .i64 u.c7, .int .i64 u.c8, .int .i64 u.c9, .int .i64 u.b0, .int .i64 u.b1, .int .i64 u.b2, .int .i64 u.b3, .int .i64 u.b4, .int .i64 u.b5, .int .i64 u.b6, .int .i64 u.b7, .slice po u.ps.length pc, .slice lo u.ls.length lc] : Array Value)) := ⟨rfl, rfl, rfl, by simp, fun k _ h => setRow_other _ _ _ _ h⟩
      refine ⟨_, u, _, rfl, ⟨po, pc, lo, lc, rfl, ?_, ?_⟩, hup, hul, hrF.keep u6 (by omega) (fun k h => by omega), by omega, UF.out.transN u6 (fun k h => by omega)⟩
      · exact ((RowA.keepTy8 RPu.out u6 (fun k h1 h2 => by subst h2; exact typed_box M0.out (by decide) rfl h1)).row (by omega))
      · exact ((RowA.keepTy8 RLu.out u6 (fun k h1 h2 => by subst h2; exact typed_box M0.out (by decide) rfl h1)).row (by omega))
    · subst h
      have al := bal (Below.refl w21.heap.size w21) (.cells #[.int .i64 0, .int .i64 (-1), .int .i64 (-2), .int .i64 60, .int .i64 61] 3)
      have LA := hide (litAt w21 [0, (-1), (-2), 60, 61] 3)
      have hr21a := hr21.keepB al
      go_wp2_with fail
      refine (pick_any w0 _ R _ 5 hr21a (by omega) (by omega) (by omega)).mono ?_
      rintro e w22 ⟨q22, rfl, hq22, hr22, hu22⟩
      obtain ⟨z, hz⟩ := LA.out q22 hq22
      have f0 : w22.cell? ⟨w21.heap.size, q22, none⟩ = some (.int .i64 z) := updCell hu22 hz (by omega)
      have hi : (q22 : Int) < 5 := by omega
      have N0 := hide (hu22.keeps (bKeeps al P0.out) (by omega))
      have N1 := hide (hu22.keeps (bKeeps al P1.out) (by omega))
      have NP := hide (RowA.keepTy8 (PP.out.keepB al) hu22 (fun k h1 h2 => by have := h1.1; omega))
      have NL := hide (RowA.keepTy8 (PL.out.keepB al) hu22 (fun k h1 h2 => by have := h1.1; omega))
      have U22 := hide ((U21.out.trans (Upd.ofBelow al)).trans hu22)
      have hz22 := hu22.size
      simp only [World.size_alloc] at hz22
      clear P0 P1 PP PL U21 hr21 hr21a hu22 al LA hz
      obtain ⟨u, hu⟩ : ∃ u : Wd, u = { y with a4 := z } := ⟨_, rfl⟩
      have us := Upd.setCell (S := fun j => j = w15.heap.size) w22 w15.heap.size 4 (.int .i64 z) rfl
      have M0 := hide (us.keeps N0.out (by omega))
      have M1 : Hid ((w22.setCell ⟨w15.heap.size, 4, none⟩ (.int .i64 z)).heap[w15.heap.size]? = some (.cells (#[.int .i64 u.a0, .int .i64 u.a1, .int .i64 u.a2, .int .i64 u.a3, .int .i64 u.a4, .int .i64 u.a5, .int .i64 u.c0, .int .i64 u.c1, .int .i64 u.c2, .int .i64 u.c3, .int .i64 u.c4, .int .i64 u.c5, .int .i64 u.c6, .int .i64 u.c7, .int .i64 u.c8, .int .i64 u.c9, .int .i64 u.b0, .int .i64 u.b1, .int .i64 u.b2, .int .i64 u.b3, .int .i64 u.b4, .int .i64 u.b5, .int .i64 u.b6, .int .i64 u.b7, .slice po u.ps.length pc, .slice lo u.ls.length lc] : Array Value) 34 (0, 0))) := by rw [hu]; exact row_set _ N1.out
      have RPu : Hid (RowA (w22.setCell ⟨w15.heap.size, 4, none⟩ (.int .i64 z)) w.heap.size 83 4 (.slice po u.ps.length pc) u.ps.length (pcells u.ps)) := by rw [hu]; exact RowA.keepTy8 NP.out us (fun k h1 h2 => by subst h2; exact typed_box N1.out (by decide) rfl h1)
      have RLu : Hid (RowA (w22.setCell ⟨w15.heap.size, 4, none⟩ (.int .i64 z)) w.heap.size 86 2 (.slice lo u.ls.length lc) u.ls.length (lcells u.ls)) := by rw [hu]; exact RowA.keepTy8 NL.out us (fun k h1 h2 => by subst h2; exact typed_box N1.out (by decide) rfl h1)
      have hup : u.ps.length ≤ 61 := by rw [hu]; exact hyp
      have hul : u.ls.length ≤ 61 := by rw [hu]; exact hyl
      have c0 : w22.cell? ⟨w15.heap.size, 4, none⟩ = some (.int .i64 y.a4) := boxAt N1.out 4
      have c1 : w22.frozen? ⟨w15.heap.size, 4, none⟩ = false := boxFz N1.out 4
      have hrF := hr22.keep us (by omega) (fun k h => by omega)
      have UF := hide (U22.out.transN us (fun k h => by omega))
      clear hu N0 N1 NP NL U22 us hr22
      have H1s := hide (all_of_list (List.all_eq_true.2 (wd_one u po lo u.ps.length pc u.ls.length lc)))
      go_wp2_with (first | (refine wpList_load_row rfl 34 (.tmp 3) rfl w15.heap.size rfl _ _ (0, 0) _ M1.out Try.underlying34 rfl infoWd ?_) | (refine wpList_store_row rfl 34 (.tmp 2) (.tmp 84) rfl w.heap.size _ rfl rfl _ _ M0.out infoWd rfl H1s.out ?_))
      refine bodyPost_ret (v := .agg #[.int .i64 u.a0, .int .i64 u.a1, .int .i64 u.a2, .int .i64 u.a3, .int .i64 u.a4, .int .i64 u.a5, .int .i64 u.c0, .int .i64 u.c1, .int .i64 u.c2, .int .i64 u.c3, .int .i64 u.c4, .int .i64 u.c5, .int .i64 u.c6, .int .i64 u.c7, .int .i64 u.c8, .int .i64 u.c9, .int .i64 u.b0, .int .i64 u.b1, .int .i64 u.b2, .int .i64 u.b3, .int .i64 u.b4, .int .i64 u.b5, .int .i64 u.b6, .int .i64 u.b7, .slice po u.ps.length pc, .slice lo u.ls.length lc]) (results_cell_row Try.results52 _ _ w.heap.size _ _ (0, 0) _ rfl (setRow_heap _ _ _ _ _ _ M0.out) Try.underlying34 rfl infoWd) rfl ?_
      have u6 : Upd (fun j => j = w.heap.size) (w22.setCell ⟨w15.heap.size, 4, none⟩ (.int .i64 z)) ((w22.setCell ⟨w15.heap.size, 4, none⟩ (.int .i64 z)).setRow w.heap.size (#[.int .i64 u.a0, .int .i64 u.a1, .int .i64 u.a2, .int .i64 u.a3, .int .i64 u.a4, .int .i64 u.a5, .int .i64 u.c0, .int .i64 u.c1, .int .i64 u.c2, .int .i64 u.c3, .int .i64 u.c4, .int .i64 u.c5, .int .i64 u.c6, .int .i64 u.c7, .int .i64 u.c8, .int .i64 u.c9, .int .i64 u.b0, .int .i64 u.b1, .int .i64 u.b2, .int .i64 u.b3, .int .i64 u.b4, .int .i64 u.b5, .int .i64 u.b6, .int .i64 u.b7, .slice po u.ps.length pc, .slice lo u.ls.length lc] : Array Value)) := ⟨rfl, rfl, rfl, by simp, fun k _ h => setRow_other _ _ _ _ h⟩
      refine ⟨_, u, _, rfl, ⟨po, pc, lo, lc, rfl, ?_, ?_⟩, hup, hul, hrF.keep u6 (by omega) (fun k h => by omega), by omega, UF.out.transN u6 (fun k h => by omega)⟩
      · exact ((RowA.keepTy8 RPu.out u6 (fun k h1 h2 => by subst h2; exact typed_box M0.out (by decide) rfl h1)).row (by omega))
      · exact ((RowA.keepTy8 RLu.out u6 (fun k h1 h2 => by subst h2; exact typed_box M0.out (by decide) rfl h1)).row (by omega))
    · subst h
      have al := bal (Below.refl w21.heap.size w21) (.cells #[.int .i64 0, .int .i64 (-1), .int .i64 99999, .int .i64 100000] 3)
      have LA := hide (litAt w21 [0, (-1), 99999, 100000] 3)
      have hr21a := hr21.keepB al
      go_wp2_with fail
      refine (pick_any w0 _ R _ 4 hr21a (by omega) (by omega) (by omega)).mono ?_
      rintro e w22 ⟨q22, rfl, hq22, hr22, hu22⟩
      obtain ⟨z, hz⟩ := LA.out q22 hq22
      have f0 : w22.cell? ⟨w21.heap.size, q22, none⟩ = some (.int .i64 z) := updCell hu22 hz (by omega)
      have hi : (q22 : Int) < 4 := by omega
      have N0 := hide (hu22.keeps (bKeeps al P0.out) (by omega))
      have N1 := hide (hu22.keeps (bKeeps al P1.out) (by omega))
      have NP := hide (RowA.keepTy8 (PP.out.keepB al) hu22 (fun k h1 h2 => by have := h1.1; omega))
      have NL := hide (RowA.keepTy8 (PL.out.keepB al) hu22 (fun k h1 h2 => by have := h1.1; omega))
      have U22 := hide ((U21.out.trans (Upd.ofBelow al)).trans hu22)
      have hz22 := hu22.size
      simp only [World.size_alloc] at hz22
      clear P0 P1 PP PL U21 hr21 hr21a hu22 al LA hz
      obtain ⟨u, hu⟩ : ∃ u : Wd, u = { y with a3 := z } := ⟨_, rfl⟩
      have us := Upd.setCell (S := fun j => j = w15.heap.size) w22 w15.heap.size 3 (.int .i64 z) rfl
      have M0 := hide (us.keeps N0.out (by omega))
      have M1 : Hid ((w22.setCell ⟨w15.heap.size, 3, none⟩ (.int .i64 z)).heap[w15.heap.size]? = some (.cells (#[.int .i64 u.a0, .int .i64 u.a1, .int .i64 u.a2, .int .i64 u.a3, .int .i64 u.a4, .int .i64 u.a5, .int .i64 u.c0, .int .i64 u.c1, .int .i64 u.c2, .int .i64 u.c3, .int .i64 u.c4, .int .i64 u.c5, .int .i64 u.c6, .int .i64 u.c7, .int .i64 u.c8, .int .i64 u.c9, .int .i64 u.b0, .int .i64 u.b1, .int .i64 u.b2, .int .i64 u.b3, .int .i64 u.b4, .int .i64 u.b5, .int .i64 u.b6, .int .i64 u.b7, .slice po u.ps.length pc, .slice lo u.ls.length lc] : Array Value) 34 (0, 0))) := by rw [hu]; exact row_set _ N1.out
      have RPu : Hid (RowA (w22.setCell ⟨w15.heap.size, 3, none⟩ (.int .i64 z)) w.heap.size 83 4 (.slice po u.ps.length pc) u.ps.length (pcells u.ps)) := by rw [hu]; exact RowA.keepTy8 NP.out us (fun k h1 h2 => by subst h2; exact typed_box N1.out (by decide) rfl h1)
      have RLu : Hid (RowA (w22.setCell ⟨w15.heap.size, 3, none⟩ (.int .i64 z)) w.heap.size 86 2 (.slice lo u.ls.length lc) u.ls.length (lcells u.ls)) := by rw [hu]; exact RowA.keepTy8 NL.out us (fun k h1 h2 => by subst h2; exact typed_box N1.out (by decide) rfl h1)
      have hup : u.ps.length ≤ 61 := by rw [hu]; exact hyp
      have hul : u.ls.length ≤ 61 := by rw [hu]; exact hyl
      have c0 : w22.cell? ⟨w15.heap.size, 3, none⟩ = some (.int .i64 y.a3) := boxAt N1.out 3
      have c1 : w22.frozen? ⟨w15.heap.size, 3, none⟩ = false := boxFz N1.out 3
      have hrF := hr22.keep us (by omega) (fun k h => by omega)
      have UF := hide (U22.out.transN us (fun k h => by omega))
      clear hu N0 N1 NP NL U22 us hr22
      have H1s := hide (all_of_list (List.all_eq_true.2 (wd_one u po lo u.ps.length pc u.ls.length lc)))
      go_wp2_with (first | (refine wpList_load_row rfl 34 (.tmp 3) rfl w15.heap.size rfl _ _ (0, 0) _ M1.out Try.underlying34 rfl infoWd ?_) | (refine wpList_store_row rfl 34 (.tmp 2) (.tmp 84) rfl w.heap.size _ rfl rfl _ _ M0.out infoWd rfl H1s.out ?_))
      refine bodyPost_ret (v := .agg #[.int .i64 u.a0, .int .i64 u.a1, .int .i64 u.a2, .int .i64 u.a3, .int .i64 u.a4, .int .i64 u.a5, .int .i64 u.c0, .int .i64 u.c1, .int .i64 u.c2, .int .i64 u.c3, .int .i64 u.c4, .int .i64 u.c5, .int .i64 u.c6, .int .i64 u.c7, .int .i64 u.c8, .int .i64 u.c9, .int .i64 u.b0, .int .i64 u.b1, .int .i64 u.b2, .int .i64 u.b3, .int .i64 u.b4, .int .i64 u.b5, .int .i64 u.b6, .int .i64 u.b7, .slice po u.ps.length pc, .slice lo u.ls.length lc]) (results_cell_row Try.results52 _ _ w.heap.size _ _ (0, 0) _ rfl (setRow_heap _ _ _ _ _ _ M0.out) Try.underlying34 rfl infoWd) rfl ?_
      have u6 : Upd (fun j => j = w.heap.size) (w22.setCell ⟨w15.heap.size, 3, none⟩ (.int .i64 z)) ((w22.setCell ⟨w15.heap.size, 3, none⟩ (.int .i64 z)).setRow w.heap.size (#[.int .i64 u.a0, .int .i64 u.a1, .int .i64 u.a2, .int .i64 u.a3, .int .i64 u.a4, .int .i64 u.a5, .int .i64 u.c0, .int .i64 u.c1, .int .i64 u.c2, .int .i64 u.c3, .int .i64 u.c4, .int .i64 u.c5, .int .i64 u.c6, .int .i64 u.c7, .int .i64 u.c8, .int .i64 u.c9, .int .i64 u.b0, .int .i64 u.b1, .int .i64 u.b2, .int .i64 u.b3, .int .i64 u.b4, .int .i64 u.b5, .int .i64 u.b6, .int .i64 u.b7, .slice po u.ps.length pc, .slice lo u.ls.length lc] : Array Value)) := ⟨rfl, rfl, rfl, by simp, fun k _ h => setRow_other _ _ _ _ h⟩
      refine ⟨_, u, _, rfl, ⟨po, pc, lo, lc, rfl, ?_, ?_⟩, hup, hul, hrF.keep u6 (by omega) (fun k h => by omega), by omega, UF.out.transN u6 (fun k h => by omega)⟩
      · exact ((RowA.keepTy8 RPu.out u6 (fun k h1 h2 => by subst h2; exact typed_box M0.out (by decide) rfl h1)).row (by omega))
      · exact ((RowA.keepTy8 RLu.out u6 (fun k h1 h2 => by subst h2; exact typed_box M0.out (by decide) rfl h1)).row (by omega))
    · subst h
      have al := bal (Below.refl w21.heap.size w21) (.cells #[.int .i64 0, .int .i64 16] 3)
      have LA := hide (litAt w21 [0, 16] 3)
      have hr21a := hr21.keepB al
      go_wp2_with fail
      refine (pick_any w0 _ R _ 2 hr21a (by omega) (by omega) (by omega)).mono ?_
      rintro e w22 ⟨q22, rfl, hq22, hr22, hu22⟩
      obtain ⟨z, hz⟩ := LA.out q22 hq22
      have f0 : w22.cell? ⟨w21.heap.size, q22, none⟩ = some (.int .i64 z) := updCell hu22 hz (by omega)
      have hi : (q22 : Int) < 2 := by omega
      have N0 := hide (hu22.keeps (bKeeps al P0.out) (by omega))
      have N1 := hide (hu22.keeps (bKeeps al P1.out) (by omega))
      have NP := hide (RowA.keepTy8 (PP.out.keepB al) hu22 (fun k h1 h2 => by have := h1.1; omega))
      have NL := hide (RowA.keepTy8 (PL.out.keepB al) hu22 (fun k h1 h2 => by have := h1.1; omega))
      have U22 := hide ((U21.out.trans (Upd.ofBelow al)).trans hu22)
      have hz22 := hu22.size
      simp only [World.size_alloc] at hz22
      clear P0 P1 PP PL U21 hr21 hr21a hu22 al LA hz
      obtain ⟨u, hu⟩ : ∃ u : Wd, u = { y with a0 := z } := ⟨_, rfl⟩
      have us := Upd.setCell (S := fun j => j = w15.heap.size) w22 w15.heap.size 0 (.int .i64 z) rfl
      have M0 := hide (us.keeps N0.out (by omega))
      have M1 : Hid ((w22.setCell ⟨w15.heap.size, 0, none⟩ (.int .i64 z)).heap[w15.heap.size]? = some (.cells (#[.int .i64 u.a0, .int .i64 u.a1, .int .i64 u.a2, .int .i64 u.a3, .int .i64 u.a4, .int .i64 u.a5, .int .i64 u.c0, .int .i64 u.c1, .int .i64 u.c2, .int .i64 u.c3, .int .i64 u.c4, .int .i64 u.c5, .int .i64 u.c6, .int .i64 u.c7, .int .i64 u.c8, .int .i64 u.c9, .int .i64 u.b0, .int .i64 u.b1, .int .i64 u.b2, .int .i64 u.b3, .int .i64 u.b4, .int .i64 u.b5, .int .i64 u.b6, .int .i64 u.b7, .slice po u.ps.length pc, .slice lo u.ls.length lc] : Array Value) 34 (0, 0))) := by rw [hu]; exact row_set _ N1.out
      have RPu : Hid (RowA (w22.setCell ⟨w15.heap.size, 0, none⟩ (.int .i64 z)) w.heap.size 83 4 (.slice po u.ps.length pc) u.ps.length (pcells u.ps)) := by rw [hu]; exact RowA.keepTy8 NP.out us (fun k h1 h2 => by subst h2; exact typed_box N1.out (by decide) rfl h1)
      have RLu : Hid (RowA (w22.setCell ⟨w15.heap.size, 0, none⟩ (.int .i64 z)) w.heap.size 86 2 (.slice lo u.ls.length lc) u.ls.length (lcells u.ls)) := by rw [hu]; exact RowA.keepTy8 NL.out us (fun k h1 h2 => by subst h2; exact typed_box N1.out (by decide) rfl h1)
      have hup : u.ps.length ≤ 61 := by rw [hu]; exact hyp
      have hul : u.ls.length ≤ 61 := by rw [hu]; exact hyl
      have c0 : w22.cell? ⟨w15.heap.size, 0, none⟩ = some (.int .i64 y.a0) := boxAt N1.out 0
      have c1 : w22.frozen? ⟨w15.heap.size, 0, none⟩ = false := boxFz N1.out 0
      have hrF := hr22.keep us (by omega) (fun k h => by omega)
      have UF := hide (U22.out.transN us (fun k h => by omega))
      clear hu N0 N1 NP NL U22 us hr22
      have H1s := hide (all_of_list (List.all_eq_true.2 (wd_one u po lo u.ps.length pc u.ls.length lc)))
      go_wp2_with (first | (refine wpList_load_row rfl 34 (.tmp 3) rfl w15.heap.size rfl _ _ (0, 0) _ M1.out Try.underlying34 rfl infoWd ?_) | (refine wpList_store_row rfl 34 (.tmp 2) (.tmp 84) rfl w.heap.size _ rfl rfl _ _ M0.out infoWd rfl H1s.out ?_))
      refine bodyPost_ret (v := .agg #[.int .i64 u.a0, .int .i64 u.a1, .int .i64 u.a2, .int .i64 u.a3, .int .i64 u.a4, .int .i64 u.a5, .int .i64 u.c0, .int .i64 u.c1, .int .i64 u.c2, .int .i64 u.c3, .int .i64 u.c4, .int .i64 u.c5, .int .i64 u.c6, .int .i64 u.c7, .int .i64 u.c8, .int .i64 u.c9, .int .i64 u.b0, .int .i64 u.b1, .int .i64 u.b2, .int .i64 u.b3, .int .i64 u.b4, .int .i64 u.b5, .int .i64 u.b6, .int .i64 u.b7, .slice po u.ps.length pc, .slice lo u.ls.length lc]) (results_cell_row Try.results52 _ _ w.heap.size _ _ (0, 0) _ rfl (setRow_heap _ _ _ _ _ _ M0.out) Try.underlying34 rfl infoWd) rfl ?_
      have u6 : Upd (fun j => j = w.heap.size) (w22.setCell ⟨w15.heap.size, 0, none⟩ (.int .i64 z)) ((w22.setCell ⟨w15.heap.size, 0, none⟩ (.int .i64 z)).setRow w.heap.size (#[.int .i64 u.a0, .int .i64 u.a1, .int .i64 u.a2, .int .i64 u.a3, .int .i64 u.a4, .int .i64 u.a5, .int .i64 u.c0, .int .i64 u.c1, .int .i64 u.c2, .int .i64 u.c3, .int .i64 u.c4, .int .i64 u.c5, .int .i64 u.c6, .int .i64 u.c7, .int .i64 u.c8, .int .i64 u.c9, .int .i64 u.b0, .int .i64 u.b1, .int .i64 u.b2, .int .i64 u.b3, .int .i64 u.b4, .int .i64 u.b5, .int .i64 u.b6, .int .i64 u.b7, .slice po u.ps.length pc, .slice lo u.ls.length lc] : Array Value)) := ⟨rfl, rfl, rfl, by simp, fun k _ h => setRow_other _ _ _ _ h⟩
      refine ⟨_, u, _, rfl, ⟨po, pc, lo, lc, rfl, ?_, ?_⟩, hup, hul, hrF.keep u6 (by omega) (fun k h => by omega), by omega, UF.out.transN u6 (fun k h => by omega)⟩
      · exact ((RowA.keepTy8 RPu.out u6 (fun k h1 h2 => by subst h2; exact typed_box M0.out (by decide) rfl h1)).row (by omega))
      · exact ((RowA.keepTy8 RLu.out u6 (fun k h1 h2 => by subst h2; exact typed_box M0.out (by decide) rfl h1)).row (by omega))
    · obtain ⟨w22, hw⟩ : ∃ w22, w22 = w21 := ⟨_, rfl⟩
      subst hw
      have h0 : ((q21 : Int) == 0) = false := by simp; omega
      have h1 : ((q21 : Int) == 1) = false := by simp; omega
      have h2 : ((q21 : Int) == 2) = false := by simp; omega
      have h3 : ((q21 : Int) == 3) = false := by simp; omega
      have N0 := P0
      have N1 := P1
      have NP := PP
      have NL := PL
      have U22 := U21
      have hr22 := hr21
      clear P0 P1 PP PL U21 hr21
      obtain ⟨u, hu⟩ : ∃ u : Wd, u = y := ⟨_, rfl⟩
      subst hu
      have M0 := N0
      have M1 := N1
      have RPu := NP
      have RLu := NL
      have hup := hyp
      have hul := hyl
      have hrF := hr22
      have UF := U22
      clear N0 N1 NP NL U22 hr22
      have H1s := hide (all_of_list (List.all_eq_true.2 (wd_one u po lo u.ps.length pc u.ls.length lc)))
      go_wp2_with (first | (refine wpList_load_row rfl 34 (.tmp 3) rfl w15.heap.size rfl _ _ (0, 0) _ M1.out Try.underlying34 rfl infoWd ?_) | (refine wpList_store_row rfl 34 (.tmp 2) (.tmp 84) rfl w.heap.size _ rfl rfl _ _ M0.out infoWd rfl H1s.out ?_))
      refine bodyPost_ret (v := .agg #[.int .i64 u.a0, .int .i64 u.a1, .int .i64 u.a2, .int .i64 u.a3, .int .i64 u.a4, .int .i64 u.a5, .int .i64 u.c0, .int .i64 u.c1, .int .i64 u.c2, .int .i64 u.c3, .int .i64 u.c4, .int .i64 u.c5, .int .i64 u.c6, .int .i64 u.c7, .int .i64 u.c8, .int .i64 u.c9, .int .i64 u.b0, .int .i64 u.b1, .int .i64 u.b2, .int .i64 u.b3, .int .i64 u.b4, .int .i64 u.b5, .int .i64 u.b6, .int .i64 u.b7, .slice po u.ps.length pc, .slice lo u.ls.length lc]) (results_cell_row Try.results52 _ _ w.heap.size _ _ (0, 0) _ rfl (setRow_heap _ _ _ _ _ _ M0.out) Try.underlying34 rfl infoWd) rfl ?_
      have u6 : Upd (fun j => j = w.heap.size) w22 (w22.setRow w.heap.size (#[.int .i64 u.a0, .int .i64 u.a1, .int .i64 u.a2, .int .i64 u.a3, .int .i64 u.a4, .int .i64 u.a5, .int .i64 u.c0, .int .i64 u.c1, .int .i64 u.c2, .int .i64 u.c3, .int .i64 u.c4, .int .i64 u.c5, .int .i64 u.c6, .int .i64 u.c7, .int .i64 u.c8, .int .i64 u.c9, .int .i64 u.b0, .int .i64 u.b1, .int .i64 u.b2, .int .i64 u.b3, .int .i64 u.b4, .int .i64 u.b5, .int .i64 u.b6, .int .i64 u.b7, .slice po u.ps.length pc, .slice lo u.ls.length lc] : Array Value)) := ⟨rfl, rfl, rfl, by simp, fun k _ h => setRow_other _ _ _ _ h⟩
      refine ⟨_, u, _, rfl, ⟨po, pc, lo, lc, rfl, ?_, ?_⟩, hup, hul, hrF.keep u6 (by omega) (fun k h => by omega), by omega, UF.out.transN u6 (fun k h => by omega)⟩
      · exact ((RowA.keepTy8 RPu.out u6 (fun k h1 h2 => by subst h2; exact typed_box M0.out (by decide) rfl h1)).row (by omega))
      · exact ((RowA.keepTy8 RLu.out u6 (fun k h1 h2 => by subst h2; exact typed_box M0.out (by decide) rfl h1)).row (by omega))

end Go.Proofs.Ytdnojnkcmncffaa
