/- Contracts and plain facts that this claim leans on (texts XD2, VD, VD2); no statement of the seat is proved here. -/
import Derived.Test.YtiigcokbmggdkaaVk20
import Derived.Deep.DeepCutAuto
import Derived.Test.YtiigcokbmggdkaaVk18
import Derived.Test.YtiigcokbmggdkaaVk19

/- A word that is drawn: contracts; no statement of the seat is proved here. -/
namespace Go.Proofs.Ytiigcokbmggdkaa
open Go.RowKit

theorem built34 (a0 a1 a2 a3 a4 a5 c0 c1 c2 c3 c4 c5 c6 c7 c8 c9 b0 b1 b2 b3 b4 b5 b6 b7 : Int) : Try.prog.built 40 [(0, .int .i64 a0), (1, .int .i64 a1), (2, .int .i64 a2), (3, .int .i64 a3), (4, .int .i64 a4), (5, .int .i64 a5), (6, .agg #[.int .i64 c0, .int .i64 c1, .int .i64 c2, .int .i64 c3, .int .i64 c4, .int .i64 c5, .int .i64 c6, .int .i64 c7, .int .i64 c8, .int .i64 c9]), (7, .int .i64 b0), (8, .int .i64 b1), (9, .int .i64 b2), (10, .int .i64 b3), (11, .int .i64 b4), (12, .int .i64 b5), (13, .int .i64 b6), (14, .int .i64 b7)] = some #[.int .i64 a0, .int .i64 a1, .int .i64 a2, .int .i64 a3, .int .i64 a4, .int .i64 a5, .int .i64 c0, .int .i64 c1, .int .i64 c2, .int .i64 c3, .int .i64 c4, .int .i64 c5, .int .i64 c6, .int .i64 c7, .int .i64 c8, .int .i64 c9, .int .i64 b0, .int .i64 b1, .int .i64 b2, .int .i64 b3, .int .i64 b4, .int .i64 b5, .int .i64 b6, .int .i64 b7, .slice none 0 0, .slice none 0 0] := by kernel_rfl
theorem wpList_built34 {ops : Array Oper} {rest : List Oper} {o : Oper} {a : Act} {w : World} {Q : Exit → Act → World → Prop} (a0 a1 a2 a3 a4 a5 c0 c1 c2 c3 c4 c5 c6 c7 c8 c9 b0 b1 b2 b3 b4 b5 b6 b7 : Int) (hg : o.guard = none) (parts : Array (Nat × Operand)) (ho : o.op = .build 40 parts)
    (hp : (parts.map fun (i, x) => (i, a.eval x)).toList = [(0, .int .i64 a0), (1, .int .i64 a1), (2, .int .i64 a2), (3, .int .i64 a3), (4, .int .i64 a4), (5, .int .i64 a5), (6, .agg #[.int .i64 c0, .int .i64 c1, .int .i64 c2, .int .i64 c3, .int .i64 c4, .int .i64 c5, .int .i64 c6, .int .i64 c7, .int .i64 c8, .int .i64 c9]), (7, .int .i64 b0), (8, .int .i64 b1), (9, .int .i64 b2), (10, .int .i64 b3), (11, .int .i64 b4), (12, .int .i64 b5), (13, .int .i64 b6), (14, .int .i64 b7)])
    (h : wpList Try.prog ops Q rest (a.put o.dst (.agg #[.int .i64 a0, .int .i64 a1, .int .i64 a2, .int .i64 a3, .int .i64 a4, .int .i64 a5, .int .i64 c0, .int .i64 c1, .int .i64 c2, .int .i64 c3, .int .i64 c4, .int .i64 c5, .int .i64 c6, .int .i64 c7, .int .i64 c8, .int .i64 c9, .int .i64 b0, .int .i64 b1, .int .i64 b2, .int .i64 b3, .int .i64 b4, .int .i64 b5, .int .i64 b6, .int .i64 b7, .slice none 0 0, .slice none 0 0])) w) : wpList Try.prog ops Q (o :: rest) a w :=
  wpList_build hg 40 parts ho (by rw [hp, built34]; rfl) (by rw [hp, built34]; exact h)

set_option maxRecDepth 100000 in
set_option maxHeartbeats 12000000 in
theorem l72Word_any (w0 w : World) (R p : Nat) (hr : Rd w0 w R p) (hp : p ≤ 700000) :
    Calls Try.prog 70 #[.pointer (some ⟨R, 0, none⟩)] w fun e w' => ∃ (v : Value) (x : Wd) (p' : Nat), e = .returned v ∧ WdO w' (fun k => w.heap.size ≤ k) v x ∧ x.ps.length ≤ 61 ∧ x.ls.length ≤ 61 ∧ Rd w0 w' R p' ∧ p' ≤ p + 4000 ∧ Upd (fun j => j = R) w w' := by
  obtain ⟨hRl, hR0, hw0⟩ := hr.lt
  have al0 := bal (Below.refl w.heap.size w) (.cells #[.int .i64 0, .int .i64 0, .int .i64 0, .int .i64 0, .int .i64 0, .int .i64 0, .int .i64 0, .int .i64 0, .int .i64 0, .int .i64 0, .int .i64 0, .int .i64 0, .int .i64 0, .int .i64 0, .int .i64 0, .int .i64 0, .int .i64 0, .int .i64 0, .int .i64 0, .int .i64 0, .int .i64 0, .int .i64 0, .int .i64 0, .int .i64 0, .slice none 0 0, .slice none 0 0] 40)
  have hr0 := hr.keepB al0
  have U0 : Upd (fun j => j = R) (w.alloc (.cells #[.int .i64 0, .int .i64 0, .int .i64 0, .int .i64 0, .int .i64 0, .int .i64 0, .int .i64 0, .int .i64 0, .int .i64 0, .int .i64 0, .int .i64 0, .int .i64 0, .int .i64 0, .int .i64 0, .int .i64 0, .int .i64 0, .int .i64 0, .int .i64 0, .int .i64 0, .int .i64 0, .int .i64 0, .int .i64 0, .int .i64 0, .int .i64 0, .slice none 0 0, .slice none 0 0] 40)) (w.alloc (.cells #[.int .i64 0, .int .i64 0, .int .i64 0, .int .i64 0, .int .i64 0, .int .i64 0, .int .i64 0, .int .i64 0, .int .i64 0, .int .i64 0, .int .i64 0, .int .i64 0, .int .i64 0, .int .i64 0, .int .i64 0, .int .i64 0, .int .i64 0, .int .i64 0, .int .i64 0, .int .i64 0, .int .i64 0, .int .i64 0, .int .i64 0, .int .i64 0, .slice none 0 0, .slice none 0 0] 40)) := Upd.refl _ _
  have G := hide (heap_alloc_new w (.cells #[.int .i64 0, .int .i64 0, .int .i64 0, .int .i64 0, .int .i64 0, .int .i64 0, .int .i64 0, .int .i64 0, .int .i64 0, .int .i64 0, .int .i64 0, .int .i64 0, .int .i64 0, .int .i64 0, .int .i64 0, .int .i64 0, .int .i64 0, .int .i64 0, .int .i64 0, .int .i64 0, .int .i64 0, .int .i64 0, .int .i64 0, .int .i64 0, .slice none 0 0, .slice none 0 0] 40))
  clear hr
  go_enter Try.func70, Try.ntmps70
  go_wp2_with fail
  refine (pick_any w0 _ R _ 15 hr0 (by omega) (by omega) (by omega)).mono ?_
  rintro e w1 ⟨q1, rfl, -, hr1, hu1⟩
  have U1 := U0.trans hu1
  clear hr0 hu1 U0
  go_wp2_with fail
  refine (pick_any w0 _ R _ 5 hr1 (by omega) (by omega) (by omega)).mono ?_
  rintro e w2 ⟨q2, rfl, -, hr2, hu2⟩
  have U2 := U1.trans hu2
  clear hr1 hu2 U1
  go_wp2_with fail
  refine (pick_any w0 _ R _ 5 hr2 (by omega) (by omega) (by omega)).mono ?_
  rintro e w3 ⟨q3, rfl, -, hr3, hu3⟩
  have U3 := U2.trans hu3
  clear hr2 hu3 U2
  go_wp2_with fail
  refine (pick_any w0 _ R _ 40 hr3 (by omega) (by omega) (by omega)).mono ?_
  rintro e w4 ⟨q4, rfl, -, hr4, hu4⟩
  have U4 := U3.trans hu4
  clear hr3 hu4 U3
  go_wp2_with fail
  refine (pick_any w0 _ R _ 4 hr4 (by omega) (by omega) (by omega)).mono ?_
  rintro e w5 ⟨q5, rfl, -, hr5, hu5⟩
  have U5 := U4.trans hu5
  clear hr4 hu5 U4
  go_wp2_with fail
  refine (pick_any w0 _ R _ 7 hr5 (by omega) (by omega) (by omega)).mono ?_
  rintro e w6 ⟨q6, rfl, -, hr6, hu6⟩
  have U6 := U5.trans hu6
  clear hr5 hu6 U5
  go_wp2_with fail
  refine (l72Cmd_any w0 _ R _ hr6 (by omega)).mono ?_
  rintro e w7 ⟨C, p7, rfl, hr7, hp7, hu7⟩
  have U7 := U6.trans hu7
  clear hr6 hu7 U6
  go_wp2_with fail
  refine (pick_any w0 _ R _ 3 hr7 (by omega) (by omega) (by omega)).mono ?_
  rintro e w8 ⟨q8, rfl, -, hr8, hu8⟩
  have U8 := U7.trans hu8
  clear hr7 hu8 U7
  go_wp2_with fail
  refine (pick_any w0 _ R _ 3 hr8 (by omega) (by omega) (by omega)).mono ?_
  rintro e w9 ⟨q9, rfl, -, hr9, hu9⟩
  have U9 := U8.trans hu9
  clear hr8 hu9 U8
  go_wp2_with fail
  refine (pick_any w0 _ R _ 4 hr9 (by omega) (by omega) (by omega)).mono ?_
  rintro e w10 ⟨q10, rfl, -, hr10, hu10⟩
  have U10 := U9.trans hu10
  clear hr9 hu10 U9
  go_wp2_with fail
  refine (pick_any w0 _ R _ 4 hr10 (by omega) (by omega) (by omega)).mono ?_
  rintro e w11 ⟨q11, rfl, -, hr11, hu11⟩
  have U11 := U10.trans hu11
  clear hr10 hu11 U10
  go_wp2_with fail
  refine (pick_any w0 _ R _ 2 hr11 (by omega) (by omega) (by omega)).mono ?_
  rintro e w12 ⟨q12, rfl, -, hr12, hu12⟩
  have U12 := U11.trans hu12
  clear hr11 hu12 U11
  go_wp2_with fail
  refine (pick_any w0 _ R _ 3 hr12 (by omega) (by omega) (by omega)).mono ?_
  rintro e w13 ⟨q13, rfl, -, hr13, hu13⟩
  have U13 := U12.trans hu13
  clear hr12 hu13 U12
  go_wp2_with fail
  refine (pick_any w0 _ R _ 3 hr13 (by omega) (by omega) (by omega)).mono ?_
  rintro e w14 ⟨q14, rfl, -, hr14, hu14⟩
  have U14 := U13.trans hu14
  clear hr13 hu14 U13
  go_wp2_with fail
  refine (l72Num_any w0 _ R _ hr14 (by omega)).mono ?_
  rintro e w15 ⟨z15, rfl, hr15, hu15⟩
  have U15 := U14.trans hu15
  clear hr14 hu15 U14
  have G0 := hide (U15.keeps G.out (by omega))
  have z15s := U15.size
  simp only [World.size_alloc] at z15s
  have UU := hide ((Upd.ofBelow al0).trans U15)
  have hRl15 := hr15.lt.1
  clear G U15 al0
  go_wp2_with (first
    | (refine wpList_built34 (wrap64 (1 + (q1 : Int))) (q2 : Int) (q3 : Int) (wrap64 (1 + (q4 : Int))) (wrap64 (1 + (q5 : Int))) (q6 : Int) C.c0 C.c1 C.c2 C.c3 C.c4 C.c5 C.c6 C.c7 C.c8 C.c9 (q8 : Int) (wrap64 (1 + (q9 : Int))) (q10 : Int) (wrap64 (1 + (q11 : Int))) (wrap64 (1 + (q12 : Int))) (q13 : Int) (q14 : Int) z15 rfl _ rfl ?hp ?_; (case hp => ((conv => lhs; simp only [List.map_toArray, List.map_cons, List.map_nil]); rfl)))
    | (refine wpList_store_row rfl 40 (.tmp 3) (.tmp 40) rfl w15.heap.size _ rfl rfl _ _ (heap_alloc_new w15 _) infoWd (show (26 : Nat) = 26 from rfl) (all_of_list rfl) ?_; rw [World.setRow_alloc_new]))
  generalize hW : World.alloc _ _ = W
  have K1 : ∃ x : Wd, x.ps = [] ∧ x.ls = [] ∧ W.heap[w15.heap.size]? = some (.cells (#[.int .i64 x.a0, .int .i64 x.a1, .int .i64 x.a2, .int .i64 x.a3, .int .i64 x.a4, .int .i64 x.a5, .int .i64 x.c0, .int .i64 x.c1, .int .i64 x.c2, .int .i64 x.c3, .int .i64 x.c4, .int .i64 x.c5, .int .i64 x.c6, .int .i64 x.c7, .int .i64 x.c8, .int .i64 x.c9, .int .i64 x.b0, .int .i64 x.b1, .int .i64 x.b2, .int .i64 x.b3, .int .i64 x.b4, .int .i64 x.b5, .int .i64 x.b6, .int .i64 x.b7, .slice none 0 0, .slice none 0 0] : Array Value) 40 (0, 0)) := by
    rw [← hW]
    exact ⟨⟨_, _, _, _, _, _, _, _, _, _, _, _, _, _, _, _, _, _, _, _, _, _, _, _, [], []⟩, rfl, rfl, heap_alloc_new w15 _⟩
  have alc : Below w15.heap.size w15 W := by rw [← hW]; exact bal (Below.refl _ _) _
  have zW : W.heap.size = w15.heap.size + 1 := by rw [← hW]; simp
  clear hW
  generalize Value.agg _ = A0
  obtain ⟨x, hxp, hxl, K1⟩ := K1
  have HXp := hide hxp
  have HXl := hide hxl
  have HK1 := hide K1
  have K0 := hide (bKeeps alc G0.out)
  have hrc := hr15.keepB alc
  refine (pick_any w0 _ R _ 3 hrc (by omega) (by omega) (by omega)).mono ?_
  rintro e w16 ⟨q16, rfl, hq16, hr16, hu16⟩
  have L0 := hide (hu16.keeps K0.out (by omega))
  have L1 := hide (hu16.keeps HK1.out (by omega))
  have U16 := hide ((UU.out.trans (Upd.ofBelow alc)).trans hu16)
  have hz16 := hu16.size
  clear hr15 G0 K0 K1 HK1 hrc alc hu16 UU hxp hxl
  by_cases h16 : q16 = 0
  · subst h16
    go_wp2_with fail
    refine (l72PiecesAny_any w0 _ R _ hr16 (by omega)).mono ?_
    rintro e w17 ⟨v17, ps, p17, rfl, row17, hl17, hr17, hp17, hu17⟩
    obtain ⟨po, pc, rfl, -⟩ := row17.room
    have M0 := hide (hu17.keeps L0.out (by omega))
    have M1 := hide (hu17.keeps L1.out (by omega))
    have c0 : w17.cell? ⟨w15.heap.size, 24, none⟩ = some (.slice none 0 0) := boxAt M1.out 24
    have c1 : w17.frozen? ⟨w15.heap.size, 24, none⟩ = false := boxFz M1.out 24
    have us := Upd.setCell (S := fun j => j = w15.heap.size) w17 w15.heap.size 24 (.slice po ps.length pc) rfl
    have N0 := hide (us.keeps M0.out (by omega))
    have N1 : Hid ((w17.setCell ⟨w15.heap.size, 24, none⟩ (.slice po ps.length pc)).heap[w15.heap.size]? = some (.cells (#[.int .i64 x.a0, .int .i64 x.a1, .int .i64 x.a2, .int .i64 x.a3, .int .i64 x.a4, .int .i64 x.a5, .int .i64 x.c0, .int .i64 x.c1, .int .i64 x.c2, .int .i64 x.c3, .int .i64 x.c4, .int .i64 x.c5, .int .i64 x.c6, .int .i64 x.c7, .int .i64 x.c8, .int .i64 x.c9, .int .i64 x.b0, .int .i64 x.b1, .int .i64 x.b2, .int .i64 x.b3, .int .i64 x.b4, .int .i64 x.b5, .int .i64 x.b6, .int .i64 x.b7, .slice po ps.length pc, .slice none 0 0] : Array Value) 40 (0, 0))) := row_set _ M1.out
    have RP := hide (RowA.keepTy8 (row17.base (b' := w.heap.size) (by omega)) us (fun k h1 h2 => by subst h2; exact typed_box M1.out (by decide) rfl h1))
    have hrN := hr17.keep us (by omega) (fun k h => by omega)
    have UN := hide ((U16.out.trans hu17).transN us (fun k h => by omega))
    have hz17 := hu17.size
    clear L0 L1 U16 hr16 hu17 row17 M0 M1
    go_wp2_with fail
    clear c0 c1
    generalize w17.setCell ⟨w15.heap.size, 24, none⟩ (.slice po ps.length pc) = V at us N0 N1 RP hrN UN ⊢
    have hzV := us.size
    refine (l72Last_any w0 _ R _ hrN (by omega)).mono ?_
    rintro e w18 ⟨v18, ls, p18, rfl, row18, hl18, hr18, hp18, hu18⟩
    obtain ⟨lo, lc, rfl, -⟩ := row18.room
    have M0 := hide (hu18.keeps N0.out (by omega))
    have M1 := hide (hu18.keeps N1.out (by omega))
    have c0 : w18.cell? ⟨w15.heap.size, 25, none⟩ = some (.slice none 0 0) := boxAt M1.out 25
    have c1 : w18.frozen? ⟨w15.heap.size, 25, none⟩ = false := boxFz M1.out 25
    have ut := Upd.setCell (S := fun j => j = w15.heap.size) w18 w15.heap.size 25 (.slice lo ls.length lc) rfl
    have T0 := hide (ut.keeps M0.out (by omega))
    have T1 : Hid ((w18.setCell ⟨w15.heap.size, 25, none⟩ (.slice lo ls.length lc)).heap[w15.heap.size]? = some (.cells (#[.int .i64 x.a0, .int .i64 x.a1, .int .i64 x.a2, .int .i64 x.a3, .int .i64 x.a4, .int .i64 x.a5, .int .i64 x.c0, .int .i64 x.c1, .int .i64 x.c2, .int .i64 x.c3, .int .i64 x.c4, .int .i64 x.c5, .int .i64 x.c6, .int .i64 x.c7, .int .i64 x.c8, .int .i64 x.c9, .int .i64 x.b0, .int .i64 x.b1, .int .i64 x.b2, .int .i64 x.b3, .int .i64 x.b4, .int .i64 x.b5, .int .i64 x.b6, .int .i64 x.b7, .slice po ps.length pc, .slice lo ls.length lc] : Array Value) 40 (0, 0))) := row_set _ M1.out
    have RP2 := hide (RowA.keepTy8 (RowA.keepTy8 RP.out hu18 (fun k h1 h2 => by have := h1.1; omega)) ut (fun k h1 h2 => by subst h2; exact typed_box M1.out (by decide) rfl h1))
    have RL2 := hide (RowA.keepTy8 (row18.base (b' := w.heap.size) (by omega)) ut (fun k h1 h2 => by subst h2; exact typed_box M1.out (by decide) rfl h1))
    have hrT := hr18.keep ut (by omega) (fun k h => by omega)
    have UT := hide ((UN.out.trans hu18).transN ut (fun k h => by omega))
    have hz18 := hu18.size
    clear us N0 N1 RP hrN UN hu18 row18 M0 M1
    go_wp2_with fail
    clear c0 c1
    generalize w18.setCell ⟨w15.heap.size, 25, none⟩ (.slice lo ls.length lc) = Y at ut T0 T1 RP2 RL2 hrT UT ⊢
    have hzY := ut.size
    obtain ⟨y, hy⟩ : ∃ y : Wd, y = { x with ps := ps, ls := ls } := ⟨_, rfl⟩
    have T1' : Hid (Y.heap[w15.heap.size]? = some (.cells (#[.int .i64 y.a0, .int .i64 y.a1, .int .i64 y.a2, .int .i64 y.a3, .int .i64 y.a4, .int .i64 y.a5, .int .i64 y.c0, .int .i64 y.c1, .int .i64 y.c2, .int .i64 y.c3, .int .i64 y.c4, .int .i64 y.c5, .int .i64 y.c6, .int .i64 y.c7, .int .i64 y.c8, .int .i64 y.c9, .int .i64 y.b0, .int .i64 y.b1, .int .i64 y.b2, .int .i64 y.b3, .int .i64 y.b4, .int .i64 y.b5, .int .i64 y.b6, .int .i64 y.b7, .slice po y.ps.length pc, .slice lo y.ls.length lc] : Array Value) 40 (0, 0))) := by rw [hy]; exact T1.out
    have RP' : Hid (RowA Y w.heap.size 136 4 (.slice po y.ps.length pc) y.ps.length (pcells y.ps)) := by rw [hy]; exact RP2.out
    have RL' : Hid (RowA Y w.heap.size 140 2 (.slice lo y.ls.length lc) y.ls.length (lcells y.ls)) := by rw [hy]; exact RL2.out
    have hyp : y.ps.length ≤ 61 := by rw [hy]; exact hl17
    have hyl : y.ls.length ≤ 61 := by rw [hy]; exact hl18
    have hpp : p18 ≤ p + 3990 := by omega
    have hzz : w15.heap.size < Y.heap.size := by omega
    clear hy T1 RP2 RL2 ut hl17 hl18
    refine (pick_any w0 _ R _ 20 hrT (by omega) (by omega) (by omega)).mono ?_
    rintro e w21 ⟨q21, rfl, hq21, hr21, hu21⟩
    have P0 := hide (hu21.keeps T0.out (by omega))
    have P1 := hide (hu21.keeps T1'.out (by omega))
    have PP := hide (RowA.keepTy8 RP'.out hu21 (fun k h1 h2 => by have := h1.1; omega))
    have PL := hide (RowA.keepTy8 RL'.out hu21 (fun k h1 h2 => by have := h1.1; omega))
    have U21 := hide (UT.out.trans hu21)
    have hz21 := hu21.size
    clear T0 T1' RP' RL' UT hrT hu21
    rcases (by omega : q21 = 0 ∨ q21 = 1 ∨ q21 = 2 ∨ q21 = 3 ∨ 4 ≤ q21) with h | h | h | h | h
    · subst h
      have al := bal (Below.refl w21.heap.size w21) (.cells #[.int .i64 (-1), .int .i64 5, .int .i64 100, .int .i64 103, .int .i64 104] 3)
      have LA := hide (litAt w21 [(-1), 5, 100, 103, 104] 3)
      have hr21a := hr21.keepB al
      go_wp2_with fail
      refine (pick_any w0 _ R _ 5 hr21a (by omega) (by omega) (by omega)).mono ?_
      rintro e w22 ⟨q22, rfl, hq22, hr22, hu22⟩
      obtain ⟨z, hz⟩ := LA.out q22 hq22
      have f0 : w22.cell? ⟨w21.heap.size, q22, none⟩ = some (.int .i64 z) := updCell hu22 hz (by omega)
      have hi : (q22 : Int) < 5 := by omega
      have N0 := hide (hu22.keeps (bKeeps al P0.out) (by omega))
      have N1 := hide (hu22.keeps (bKeeps al P1.out) (by omega))
      have NP := hide (RowA.keepTy8 (PP.out.keepB al) hu22 (fun k h1 h2 => by have := h1.1; omega))
      have NL := hide (RowA.keepTy8 (PL.out.keepB al) hu22 (fun k h1 h2 => by have := h1.1; omega))
      have U22 := hide ((U21.out.trans (Upd.ofBelow al)).trans hu22)
      have hz22 := hu22.size
      simp only [World.size_alloc] at hz22
      clear P0 P1 PP PL U21 hr21 hr21a hu22 al LA hz
      obtain ⟨u, hu⟩ : ∃ u : Wd, u = { y with a1 := z } := ⟨_, rfl⟩
      have us := Upd.setCell (S := fun j => j = w15.heap.size) w22 w15.heap.size 1 (.int .i64 z) rfl
      have M0 := hide (us.keeps N0.out (by omega))
      have M1 : Hid ((w22.setCell ⟨w15.heap.size, 1, none⟩ (.int .i64 z)).heap[w15.heap.size]? = some (.cells (#[.int .i64 u.a0, .int .i64 u.a1, .int .i64 u.a2, .int .i64 u.a3, .int .i64 u.a4, .int .i64 u.a5, .int .i64 u.c0, .int .i64 u.c1, .int .i64 u.c2, .int .i64 u.c3, .int .i64 u.c4, .int .i64 u.c5, .int .i64 u.c6, .int .i64 u.c7, .int .i64 u.c8, .int .i64 u.c9, .int .i64 u.b0, .int .i64 u.b1, .int .i64 u.b2, .int .i64 u.b3, .int .i64 u.b4, .int .i64 u.b5, .int .i64 u.b6, .int .i64 u.b7, .slice po u.ps.length pc, .slice lo u.ls.length lc] : Array Value) 40 (0, 0))) := by rw [hu]; exact row_set _ N1.out
      have RPu : Hid (RowA (w22.setCell ⟨w15.heap.size, 1, none⟩ (.int .i64 z)) w.heap.size 136 4 (.slice po u.ps.length pc) u.ps.length (pcells u.ps)) := by rw [hu]; exact RowA.keepTy8 NP.out us (fun k h1 h2 => by subst h2; exact typed_box N1.out (by decide) rfl h1)
      have RLu : Hid (RowA (w22.setCell ⟨w15.heap.size, 1, none⟩ (.int .i64 z)) w.heap.size 140 2 (.slice lo u.ls.length lc) u.ls.length (lcells u.ls)) := by rw [hu]; exact RowA.keepTy8 NL.out us (fun k h1 h2 => by subst h2; exact typed_box N1.out (by decide) rfl h1)
      have hup : u.ps.length ≤ 61 := by rw [hu]; exact hyp
      have hul : u.ls.length ≤ 61 := by rw [hu]; exact hyl
      have c0 : w22.cell? ⟨w15.heap.size, 1, none⟩ = some (.int .i64 y.a1) := boxAt N1.out 1
      have c1 : w22.frozen? ⟨w15.heap.size, 1, none⟩ = false := boxFz N1.out 1
      have hrF := hr22.keep us (by omega) (fun k h => by omega)
      have UF := hide (U22.out.transN us (fun k h => by omega))
      clear hu N0 N1 NP NL U22 us hr22
      have H1s := hide (all_of_list (List.all_eq_true.2 (wd_one u po lo u.ps.length pc u.ls.length lc)))
      go_wp2_with (first | (refine wpList_load_row rfl 40 (.tmp 3) rfl w15.heap.size rfl _ _ (0, 0) _ M1.out Try.underlying40 rfl infoWd ?_) | (refine wpList_store_row rfl 40 (.tmp 2) (.tmp 84) rfl w.heap.size _ rfl rfl _ _ M0.out infoWd rfl H1s.out ?_))
      refine bodyPost_ret (v := .agg #[.int .i64 u.a0, .int .i64 u.a1, .int .i64 u.a2, .int .i64 u.a3, .int .i64 u.a4, .int .i64 u.a5, .int .i64 u.c0, .int .i64 u.c1, .int .i64 u.c2, .int .i64 u.c3, .int .i64 u.c4, .int .i64 u.c5, .int .i64 u.c6, .int .i64 u.c7, .int .i64 u.c8, .int .i64 u.c9, .int .i64 u.b0, .int .i64 u.b1, .int .i64 u.b2, .int .i64 u.b3, .int .i64 u.b4, .int .i64 u.b5, .int .i64 u.b6, .int .i64 u.b7, .slice po u.ps.length pc, .slice lo u.ls.length lc]) (results_cell_row Try.results70 _ _ w.heap.size _ _ (0, 0) _ rfl (setRow_heap _ _ _ _ _ _ M0.out) Try.underlying40 rfl infoWd) rfl ?_
      have u6 : Upd (fun j => j = w.heap.size) (w22.setCell ⟨w15.heap.size, 1, none⟩ (.int .i64 z)) ((w22.setCell ⟨w15.heap.size, 1, none⟩ (.int .i64 z)).setRow w.heap.size (#[.int .i64 u.a0, .int .i64 u.a1, .int .i64 u.a2, .int .i64 u.a3, .int .i64 u.a4, .int .i64 u.a5, .int .i64 u.c0, .int .i64 u.c1, .int .i64 u.c2, .int .i64 u.c3, .int .i64 u.c4, .int .i64 u.c5, .int .i64 u.c6, .int .i64 u.c7, .int .i64 u.c8, .int .i64 u.c9, .int .i64 u.b0, .int .i64 u.b1, .int .i64 u.b2, .int .i64 u.b3, .int .i64 u.b4, .int .i64 u.b5, .int .i64 u.b6, .int .i64 u.b7, .slice po u.ps.length pc, .slice lo u.ls.length lc] : Array Value)) := ⟨rfl, rfl, rfl, by simp, fun k _ h => setRow_other _ _ _ _ h⟩
      refine ⟨_, u, _, rfl, ⟨po, pc, lo, lc, rfl, ?_, ?_⟩, hup, hul, hrF.keep u6 (by omega) (fun k h => by omega), by omega, UF.out.transN u6 (fun k h => by omega)⟩
      · exact ((RowA.keepTy8 RPu.out u6 (fun k h1 h2 => by subst h2; exact typed_box M0.out (by decide) rfl h1)).row (by omega))
      · exact ((RowA.keepTy8 RLu.out u6 (fun k h1 h2 => by subst h2; exact typed_box M0.out (by decide) rfl h1)).row (by omega))
    · subst h
      have al := bal (Below.refl w21.heap.size w21) (.cells #[.int .i64 0, .int .i64 (-1), .int .i64 (-2), .int .i64 60, .int .i64 61] 3)
      have LA := hide (litAt w21 [0, (-1), (-2), 60, 61] 3)
      have hr21a := hr21.keepB al
      go_wp2_with fail
      refine (pick_any w0 _ R _ 5 hr21a (by omega) (by omega) (by omega)).mono ?_
      rintro e w22 ⟨q22, rfl, hq22, hr22, hu22⟩
      obtain ⟨z, hz⟩ := LA.out q22 hq22
      have f0 : w22.cell? ⟨w21.heap.size, q22, none⟩ = some (.int .i64 z) := updCell hu22 hz (by omega)
      have hi : (q22 : Int) < 5 := by omega
      have N0 := hide (hu22.keeps (bKeeps al P0.out) (by omega))
      have N1 := hide (hu22.keeps (bKeeps al P1.out) (by omega))
      have NP := hide (RowA.keepTy8 (PP.out.keepB al) hu22 (fun k h1 h2 => by have := h1.1; omega))
      have NL := hide (RowA.keepTy8 (PL.out.keepB al) hu22 (fun k h1 h2 => by have := h1.1; omega))
      have U22 := hide ((U21.out.trans (Upd.ofBelow al)).trans hu22)
      have hz22 := hu22.size
      simp only [World.size_alloc] at hz22
      clear P0 P1 PP PL U21 hr21 hr21a hu22 al LA hz
      obtain ⟨u, hu⟩ : ∃ u : Wd, u = { y with a4 := z } := ⟨_, rfl⟩
      have us := Upd.setCell (S := fun j => j = w15.heap.size) w22 w15.heap.size 4 (.int .i64 z) rfl
      have M0 := hide (us.keeps N0.out (by omega))
      have M1 : Hid ((w22.setCell ⟨w15.heap.size, 4, none⟩ (.int .i64 z)).heap[w15.heap.size]? = some (.cells (#[.int .i64 u.a0, .int .i64 u.a1, .int .i64 u.a2, .int .i64 u.a3, .int .i64 u.a4, .int .i64 u.a5, .int .i64 u.c0, .int .i64 u.c1, .int .i64 u.c2, .int .i64 u.c3, .int .i64 u.c4, .int .i64 u.c5, .int .i64 u.c6, .int .i64 u.c7, .int .i64 u.c8, .int .i64 u.c9, .int .i64 u.b0, .int .i64 u.b1, .int .i64 u.b2, .int .i64 u.b3, .int .i64 u.b4, .int .i64 u.b5, .int .i64 u.b6, .int .i64 u.b7, .slice po u.ps.length pc, .slice lo u.ls.length lc] : Array Value) 40 (0, 0))) := by rw [hu]; exact row_set _ N1.out
      have RPu : Hid (RowA (w22.setCell ⟨w15.heap.size, 4, none⟩ (.int .i64 z)) w.heap.size 136 4 (.slice po u.ps.length pc) u.ps.length (pcells u.ps)) := by rw [hu]; exact RowA.keepTy8 NP.out us (fun k h1 h2 => by subst h2; exact typed_box N1.out (by decide) rfl h1)
      have RLu : Hid (RowA (w22.setCell ⟨w15.heap.size, 4, none⟩ (.int .i64 z)) w.heap.size 140 2 (.slice lo u.ls.length lc) u.ls.length (lcells u.ls)) := by rw [hu]; exact RowA.keepTy8 NL.out us (fun k h1 h2 => by subst h2; exact typed_box N1.out (by decide) rfl h1)
      have hup : u.ps.length ≤ 61 := by rw [hu]; exact hyp
      have hul : u.ls.length ≤ 61 := by rw [hu]; exact hyl
      have c0 : w22.cell? ⟨w15.heap.size, 4, none⟩ = some (.int .i64 y.a4) := boxAt N1.out 4
      have c1 : w22.frozen? ⟨w15.heap.size, 4, none⟩ = false := boxFz N1.out 4
      have hrF := hr22.keep us (by omega) (fun k h => by omega)
      have UF := hide (U22.out.transN us (fun k h => by omega))
      clear hu N0 N1 NP NL U22 us hr22
      have H1s := hide (all_of_list (List.all_eq_true.2 (wd_one u po lo u.ps.length pc u.ls.length lc)))
      go_wp2_with (first | (refine wpList_load_row rfl 40 (.tmp 3) rfl w15.heap.size rfl _ _ (0, 0) _ M1.out Try.underlying40 rfl infoWd ?_) | (refine wpList_store_row rfl 40 (.tmp 2) (.tmp 84) rfl w.heap.size _ rfl rfl _ _ M0.out infoWd rfl H1s.out ?_))
      refine bodyPost_ret (v := .agg #[.int .i64 u.a0, .int .i64 u.a1, .int .i64 u.a2, .int .i64 u.a3, .int .i64 u.a4, .int .i64 u.a5, .int .i64 u.c0, .int .i64 u.c1, .int .i64 u.c2, .int .i64 u.c3, .int .i64 u.c4, .int .i64 u.c5, .int .i64 u.c6, .int .i64 u.c7, .int .i64 u.c8, .int .i64 u.c9, .int .i64 u.b0, .int .i64 u.b1, .int .i64 u.b2, .int .i64 u.b3, .int .i64 u.b4, .int .i64 u.b5, .int .i64 u.b6, .int .i64 u.b7, .slice po u.ps.length pc, .slice lo u.ls.length lc]) (results_cell_row Try.results70 _ _ w.heap.size _ _ (0, 0) _ rfl (setRow_heap _ _ _ _ _ _ M0.out) Try.underlying40 rfl infoWd) rfl ?_
      have u6 : Upd (fun j => j = w.heap.size) (w22.setCell ⟨w15.heap.size, 4, none⟩ (.int .i64 z)) ((w22.setCell ⟨w15.heap.size, 4, none⟩ (.int .i64 z)).setRow w.heap.size (#[.int .i64 u.a0, .int .i64 u.a1, .int .i64 u.a2, .int .i64 u.a3, .int .i64 u.a4, .int .i64 u.a5, .int .i64 u.c0, .int .i64 u.c1, .int .i64 u.c2, .int .i64 u.c3, .int .i64 u.c4, .int .i64 u.c5, .int .i64 u.c6, .int .i64 u.c7, .int .i64 u.c8, .int .i64 u.c9, .int .i64 u.b0, .int .i64 u.b1, .int .i64 u.b2, .int .i64 u.b3, .int .i64 u.b4, .int .i64 u.b5, .int .i64 u.b6, .int .i64 u.b7, .slice po u.ps.length pc, .slice lo u.ls.length lc] : Array Value)) := ⟨rfl, rfl, rfl, by simp, fun k _ h => setRow_other _ _ _ _ h⟩
      refine ⟨_, u, _, rfl, ⟨po, pc, lo, lc, rfl, ?_, ?_⟩, hup, hul, hrF.keep u6 (by omega) (fun k h => by omega), by omega, UF.out.transN u6 (fun k h => by omega)⟩
      · exact ((RowA.keepTy8 RPu.out u6 (fun k h1 h2 => by subst h2; exact typed_box M0.out (by decide) rfl h1)).row (by omega))
      · exact ((RowA.keepTy8 RLu.out u6 (fun k h1 h2 => by subst h2; exact typed_box M0.out (by decide) rfl h1)).row (by omega))
    · subst h
      have al := bal (Below.refl w21.heap.size w21) (.cells #[.int .i64 0, .int .i64 (-1), .int .i64 99999, .int .i64 100000] 3)
      have LA := hide (litAt w21 [0, (-1), 99999, 100000] 3)
      have hr21a := hr21.keepB al
      go_wp2_with fail
      refine (pick_any w0 _ R _ 4 hr21a (by omega) (by omega) (by omega)).mono ?_
      rintro e w22 ⟨q22, rfl, hq22, hr22, hu22⟩
      obtain ⟨z, hz⟩ := LA.out q22 hq22
      have f0 : w22.cell? ⟨w21.heap.size, q22, none⟩ = some (.int .i64 z) := updCell hu22 hz (by omega)
      have hi : (q22 : Int) < 4 := by omega
      have N0 := hide (hu22.keeps (bKeeps al P0.out) (by omega))
      have N1 := hide (hu22.keeps (bKeeps al P1.out) (by omega))
      have NP := hide (RowA.keepTy8 (PP.out.keepB al) hu22 (fun k h1 h2 => by have := h1.1; omega))
      have NL := hide (RowA.keepTy8 (PL.out.keepB al) hu22 (fun k h1 h2 => by have := h1.1; omega))
      have U22 := hide ((U21.out.trans (Upd.ofBelow al)).trans hu22)
      have hz22 := hu22.size
      simp only [World.size_alloc] at hz22
      clear P0 P1 PP PL U21 hr21 hr21a hu22 al LA hz
      obtain ⟨u, hu⟩ : ∃ u : Wd, u = { y with a3 := z } := ⟨_, rfl⟩
      have us := Upd.setCell (S := fun j => j = w15.heap.size) w22 w15.heap.size 3 (.int .i64 z) rfl
      have M0 := hide (us.keeps N0.out (by omega))
      have M1 : Hid ((w22.setCell ⟨w15.heap.size, 3, none⟩ (.int .i64 z)).heap[w15.heap.size]? = some (.cells (#[.int .i64 u.a0, .int .i64 u.a1, .int .i64 u.a2, .int .i64 u.a3, .int .i64 u.a4, .int .i64 u.a5, .int .i64 u.c0, .int .i64 u.c1, .int .i64 u.c2, .int .i64 u.c3, .int .i64 u.c4, .int .i64 u.c5, .int .i64 u.c6, .int .i64 u.c7, .int .i64 u.c8, .int .i64 u.c9, .int .i64 u.b0, .int .i64 u.b1, .int .i64 u.b2, .int .i64 u.b3, .int .i64 u.b4, .int .i64 u.b5, .int .i64 u.b6, .int .i64 u.b7, .slice po u.ps.length pc, .slice lo u.ls.length lc] : Array Value) 40 (0, 0))) := by rw [hu]; exact row_set _ N1.out
      have RPu : Hid (RowA (w22.setCell ⟨w15.heap.size, 3, none⟩ (.int .i64 z)) w.heap.size 136 4 (.slice po u.ps.length pc) u.ps.length (pcells u.ps)) := by rw [hu]; exact RowA.keepTy8 NP.out us (fun k h1 h2 => by subst h2; exact typed_box N1.out (by decide) rfl h1)
      have RLu : Hid (RowA (w22.setCell ⟨w15.heap.size, 3, none⟩ (.int .i64 z)) w.heap.size 140 2 (.slice lo u.ls.length lc) u.ls.length (lcells u.ls)) := by rw [hu]; exact RowA.keepTy8 NL.out us (fun k h1 h2 => by subst h2; exact typed_box N1.out (by decide) rfl h1)
      have hup : u.ps.length ≤ 61 := by rw [hu]; exact hyp
      have hul : u.ls.length ≤ 61 := by rw [hu]; exact hyl
      have c0 : w22.cell? ⟨w15.heap.size, 3, none⟩ = some (.int .i64 y.a3) := boxAt N1.out 3
      have c1 : w22.frozen? ⟨w15.heap.size, 3, none⟩ = false := boxFz N1.out 3
      have hrF := hr22.keep us (by omega) (fun k h => by omega)
      have UF := hide (U22.out.transN us (fun k h => by omega))
      clear hu N0 N1 NP NL U22 us hr22
      have H1s := hide (all_of_list (List.all_eq_true.2 (wd_one u po lo u.ps.length pc u.ls.length lc)))
      go_wp2_with (first | (refine wpList_load_row rfl 40 (.tmp 3) rfl w15.heap.size rfl _ _ (0, 0) _ M1.out Try.underlying40 rfl infoWd ?_) | (refine wpList_store_row rfl 40 (.tmp 2) (.tmp 84) rfl w.heap.size _ rfl rfl _ _ M0.out infoWd rfl H1s.out ?_))
      refine bodyPost_ret (v := .agg #[.int .i64 u.a0, .int .i64 u.a1, .int .i64 u.a2, .int .i64 u.a3, .int .i64 u.a4, .int .i64 u.a5, .int .i64 u.c0, .int .i64 u.c1, .int .i64 u.c2, .int .i64 u.c3, .int .i64 u.c4, .int .i64 u.c5, .int .i64 u.c6, .int .i64 u.c7, .int .i64 u.c8, .int .i64 u.c9, .int .i64 u.b0, .int .i64 u.b1, .int .i64 u.b2, .int .i64 u.b3, .int .i64 u.b4, .int .i64 u.b5, .int .i64 u.b6, .int .i64 u.b7, .slice po u.ps.length pc, .slice lo u.ls.length lc]) (results_cell_row Try.results70 _ _ w.heap.size _ _ (0, 0) _ rfl (setRow_heap _ _ _ _ _ _ M0.out) Try.underlying40 rfl infoWd) rfl ?_
      have u6 : Upd (fun j => j = w.heap.size) (w22.setCell ⟨w15.heap.size, 3, none⟩ (.int .i64 z)) ((w22.setCell ⟨w15.heap.size, 3, none⟩ (.int .i64 z)).setRow w.heap.size (#[.int .i64 u.a0, .int .i64 u.a1, .int .i64 u.a2, .int .i64 u.a3, .int .i64 u.a4, .int .i64 u.a5, .int .i64 u.c0, .int .i64 u.c1, .int .i64 u.c2, .int .i64 u.c3, .int .i64 u.c4, .int .i64 u.c5, .int .i64 u.c6, .int .i64 u.c7, .int .i64 u.c8, .int .i64 u.c9, .int .i64 u.b0, .int .i64 u.b1, .int .i64 u.b2, .int .i64 u.b3, .int .i64 u.b4, .int .i64 u.b5, .int .i64 u.b6, .int .i64 u.b7, .slice po u.ps.length pc, .slice lo u.ls.length lc] : Array Value)) := ⟨rfl, rfl, rfl, by simp, fun k _ h => setRow_other _ _ _ _ h⟩
      refine ⟨_, u, _, rfl, ⟨po, pc, lo, lc, rfl, ?_, ?_⟩, hup, hul, hrF.keep u6 (by omega) (fun k h => by omega), by omega, UF.out.transN u6 (fun k h => by omega)⟩
      · exact ((RowA.keepTy8 RPu.out u6 (fun k h1 h2 => by subst h2; exact typed_box M0.out (by decide) rfl h1)).row (by omega))
      · exact ((RowA.keepTy8 RLu.out u6 (fun k h1 h2 => by subst h2; exact typed_box M0.out (by decide) rfl h1)).row (by omega))
    · subst h
      have al := bal (Below.refl w21.heap.size w21) (.cells #[.int .i64 0, .int .i64 16] 3)
      have LA := hide (litAt w21 [0, 16] 3)
      have hr21a := hr21.keepB al
      go_wp2_with fail
      refine (pick_any w0 _ R _ 2 hr21a (by omega) (by omega) (by omega)).mono ?_
      rintro e w22 ⟨q22, rfl, hq22, hr22, hu22⟩
      obtain ⟨z, hz⟩ := LA.out q22 hq22
      have f0 : w22.cell? ⟨w21.heap.size, q22, none⟩ = some (.int .i64 z) := updCell hu22 hz (by omega)
      have hi : (q22 : Int) < 2 := by omega
      have N0 := hide (hu22.keeps (bKeeps al P0.out) (by omega))
      have N1 := hide (hu22.keeps (bKeeps al P1.out) (by omega))
      have NP := hide (RowA.keepTy8 (PP.out.keepB al) hu22 (fun k h1 h2 => by have := h1.1; omega))
      have NL := hide (RowA.keepTy8 (PL.out.keepB al) hu22 (fun k h1 h2 => by have := h1.1; omega))
      have U22 := hide ((U21.out.trans (Upd.ofBelow al)).trans hu22)
      have hz22 := hu22.size
      simp only [World.size_alloc] at hz22
      clear P0 P1 PP PL U21 hr21 hr21a hu22 al LA hz
      obtain ⟨u, hu⟩ : ∃ u : Wd, u = { y with a0 := z } := ⟨_, rfl⟩
      have us := Upd.setCell (S := fun j => j = w15.heap.size) w22 w15.heap.size 0 (.int .i64 z) rfl
      have M0 := hide (us.keeps N0.out (by omega))
      have M1 : Hid ((w22.setCell ⟨w15.heap.size, 0, none⟩ (.int .i64 z)).heap[w15.heap.size]? = some (.cells (#[.int .i64 u.a0, .int .i64 u.a1, .int .i64 u.a2, .int .i64 u.a3, .int .i64 u.a4, .int .i64 u.a5, .int .i64 u.c0, .int .i64 u.c1, .int .i64 u.c2, .int .i64 u.c3, .int .i64 u.c4, .int .i64 u.c5, .int .i64 u.c6, .int .i64 u.c7, .int .i64 u.c8, .int .i64 u.c9, .int .i64 u.b0, .int .i64 u.b1, .int .i64 u.b2, .int .i64 u.b3, .int .i64 u.b4, .int .i64 u.b5, .int .i64 u.b6, .int .i64 u.b7, .slice po u.ps.length pc, .slice lo u.ls.length lc] : Array Value) 40 (0, 0))) := by rw [hu]; exact row_set _ N1.out
      have RPu : Hid (RowA (w22.setCell ⟨w15.heap.size, 0, none⟩ (.int .i64 z)) w.heap.size 136 4 (.slice po u.ps.length pc) u.ps.length (pcells u.ps)) := by rw [hu]; exact RowA.keepTy8 NP.out us (fun k h1 h2 => by subst h2; exact typed_box N1.out (by decide) rfl h1)
      have RLu : Hid (RowA (w22.setCell ⟨w15.heap.size, 0, none⟩ (.int .i64 z)) w.heap.size 140 2 (.slice lo u.ls.length lc) u.ls.length (lcells u.ls)) := by rw [hu]; exact RowA.keepTy8 NL.out us (fun k h1 h2 => by subst h2; exact typed_box N1.out (by decide) rfl h1)
      have hup : u.ps.length ≤ 61 := by rw [hu]; exact hyp
      have hul : u.ls.length ≤ 61 := by rw [hu]; exact hyl
      have c0 : w22.cell? ⟨w15.heap.size, 0, none⟩ = some (.int .i64 y.a0) := boxAt N1.out 0
      have c1 : w22.frozen? ⟨w15.heap.size, 0, none⟩ = false := boxFz N1.out 0
      have hrF := hr22.keep us (by omega) (fun k h => by omega)
      have UF := hide (U22.out.transN us (fun k h => by omega))
      clear hu N0 N1 NP NL U22 us hr22
      have H1s := hide (all_of_list (List.all_eq_true.2 (wd_one u po lo u.ps.length pc u.ls.length lc)))
      go_wp2_with (first | (refine wpList_load_row rfl 40 (.tmp 3) rfl w15.heap.size rfl _ _ (0, 0) _ M1.out Try.underlying40 rfl infoWd ?_) | (refine wpList_store_row rfl 40 (.tmp 2) (.tmp 84) rfl w.heap.size _ rfl rfl _ _ M0.out infoWd rfl H1s.out ?_))
      refine bodyPost_ret (v := .agg #[.int .i64 u.a0, .int .i64 u.a1, .int .i64 u.a2, .int .i64 u.a3, .int .i64 u.a4, .int .i64 u.a5, .int .i64 u.c0, .int .i64 u.c1, .int .i64 u.c2, .int .i64 u.c3, .int .i64 u.c4, .int .i64 u.c5, .int .i64 u.c6, .int .i64 u.c7, .int .i64 u.c8, .int .i64 u.c9, .int .i64 u.b0, .int .i64 u.b1, .int .i64 u.b2, .int .i64 u.b3, .int .i64 u.b4, .int .i64 u.b5, .int .i64 u.b6, .int .i64 u.b7, .slice po u.ps.length pc, .slice lo u.ls.length lc]) (results_cell_row Try.results70 _ _ w.heap.size _ _ (0, 0) _ rfl (setRow_heap _ _ _ _ _ _ M0.out) Try.underlying40 rfl infoWd) rfl ?_
      have u6 : Upd (fun j => j = w.heap.size) (w22.setCell ⟨w15.heap.size, 0, none⟩ (.int .i64 z)) ((w22.setCell ⟨w15.heap.size, 0, none⟩ (.int .i64 z)).setRow w.heap.size (#[.int .i64 u.a0, .int .i64 u.a1, .int .i64 u.a2, .int .i64 u.a3, .int .i64 u.a4, .int .i64 u.a5, .int .i64 u.c0, .int .i64 u.c1, .int .i64 u.c2, .int .i64 u.c3, .int .i64 u.c4, .int .i64 u.c5, .int .i64 u.c6, .int .i64 u.c7, .int .i64 u.c8, .int .i64 u.c9, .int .i64 u.b0, .int .i64 u.b1, .int .i64 u.b2, .int .i64 u.b3, .int .i64 u.b4, .int .i64 u.b5, .int .i64 u.b6, .int .i64 u.b7, .slice po u.ps.length pc, .slice lo u.ls.length lc] : Array Value)) := ⟨rfl, rfl, rfl, by simp, fun k _ h => setRow_other _ _ _ _ h⟩
      refine ⟨_, u, _, rfl, ⟨po, pc, lo, lc, rfl, ?_, ?_⟩, hup, hul, hrF.keep u6 (by omega) (fun k h => by omega), by omega, UF.out.transN u6 (fun k h => by omega)⟩
      · exact ((RowA.keepTy8 RPu.out u6 (fun k h1 h2 => by subst h2; exact typed_box M0.out (by decide) rfl h1)).row (by omega))
      · exact ((RowA.keepTy8 RLu.out u6 (fun k h1 h2 => by subst h2; exact typed_box M0.out (by decide) rfl h1)).row (by omega))
    · obtain ⟨w22, hw⟩ : ∃ w22, w22 = w21 := ⟨_, rfl⟩
      subst hw
      have h0 : ((q21 : Int) == 0) = false := by simp; omega
      have h1 : ((q21 : Int) == 1) = false := by simp; omega
      have h2 : ((q21 : Int) == 2) = false := by simp; omega
      have h3 : ((q21 : Int) == 3) = false := by simp; omega
      have N0 := P0
      have N1 := P1
      have NP := PP
      have NL := PL
      have U22 := U21
      have hr22 := hr21
      clear P0 P1 PP PL U21 hr21
      obtain ⟨u, hu⟩ : ∃ u : Wd, u = y := ⟨_, rfl⟩
      subst hu
      have M0 := N0
      have M1 := N1
      have RPu := NP
      have RLu := NL
      have hup := hyp
      have hul := hyl
      have hrF := hr22
      have UF := U22
      clear N0 N1 NP NL U22 hr22
      have H1s := hide (all_of_list (List.all_eq_true.2 (wd_one u po lo u.ps.length pc u.ls.length lc)))
      go_wp2_with (first | (refine wpList_load_row rfl 40 (.tmp 3) rfl w15.heap.size rfl _ _ (0, 0) _ M1.out Try.underlying40 rfl infoWd ?_) | (refine wpList_store_row rfl 40 (.tmp 2) (.tmp 84) rfl w.heap.size _ rfl rfl _ _ M0.out infoWd rfl H1s.out ?_))
      refine bodyPost_ret (v := .agg #[.int .i64 u.a0, .int .i64 u.a1, .int .i64 u.a2, .int .i64 u.a3, .int .i64 u.a4, .int .i64 u.a5, .int .i64 u.c0, .int .i64 u.c1, .int .i64 u.c2, .int .i64 u.c3, .int .i64 u.c4, .int .i64 u.c5, .int .i64 u.c6, .int .i64 u.c7, .int .i64 u.c8, .int .i64 u.c9, .int .i64 u.b0, .int .i64 u.b1, .int .i64 u.b2, .int .i64 u.b3, .int .i64 u.b4, .int .i64 u.b5, .int .i64 u.b6, .int .i64 u.b7, .slice po u.ps.length pc, .slice lo u.ls.length lc]) (results_cell_row Try.results70 _ _ w.heap.size _ _ (0, 0) _ rfl (setRow_heap _ _ _ _ _ _ M0.out) Try.underlying40 rfl infoWd) rfl ?_
      have u6 : Upd (fun j => j = w.heap.size) w22 (w22.setRow w.heap.size (#[.int .i64 u.a0, .int .i64 u.a1, .int .i64 u.a2, .int .i64 u.a3, .int .i64 u.a4, .int .i64 u.a5, .int .i64 u.c0, .int .i64 u.c1, .int .i64 u.c2, .int .i64 u.c3, .int .i64 u.c4, .int .i64 u.c5, .int .i64 u.c6, .int .i64 u.c7, .int .i64 u.c8, .int .i64 u.c9, .int .i64 u.b0, .int .i64 u.b1, .int .i64 u.b2, .int .i64 u.b3, .int .i64 u.b4, .int .i64 u.b5, .int .i64 u.b6, .int .i64 u.b7, .slice po u.ps.length pc, .slice lo u.ls.length lc] : Array Value)) := ⟨rfl, rfl, rfl, by simp, fun k _ h => setRow_other _ _ _ _ h⟩
      refine ⟨_, u, _, rfl, ⟨po, pc, lo, lc, rfl, ?_, ?_⟩, hup, hul, hrF.keep u6 (by omega) (fun k h => by omega), by omega, UF.out.transN u6 (fun k h => by omega)⟩
      · exact ((RowA.keepTy8 RPu.out u6 (fun k h1 h2 => by subst h2; exact typed_box M0.out (by decide) rfl h1)).row (by omega))
      · exact ((RowA.keepTy8 RLu.out u6 (fun k h1 h2 => by subst h2; exact typed_box M0.out (by decide) rfl h1)).row (by omega))
  · have hq0 : ¬ (q16 : Int) = 0 := by omega
    have hq1 : ((q16 : Int) == 0) = false := by simpa using hq0
    go_wp2_with fail
    clear hq0 hq1
    obtain ⟨po, hpo⟩ : ∃ po : Option Addr, po = none := ⟨_, rfl⟩
    obtain ⟨lo, hlo⟩ : ∃ lo : Option Addr, lo = none := ⟨_, rfl⟩
    obtain ⟨pc, hpc⟩ : ∃ pc : Nat, pc = 0 := ⟨_, rfl⟩
    obtain ⟨lc, hlc⟩ : ∃ lc : Nat, lc = 0 := ⟨_, rfl⟩
    obtain ⟨y, hy⟩ : ∃ y : Wd, y = x := ⟨_, rfl⟩
    have T1' : Hid (w16.heap[w15.heap.size]? = some (.cells (#[.int .i64 y.a0, .int .i64 y.a1, .int .i64 y.a2, .int .i64 y.a3, .int .i64 y.a4, .int .i64 y.a5, .int .i64 y.c0, .int .i64 y.c1, .int .i64 y.c2, .int .i64 y.c3, .int .i64 y.c4, .int .i64 y.c5, .int .i64 y.c6, .int .i64 y.c7, .int .i64 y.c8, .int .i64 y.c9, .int .i64 y.b0, .int .i64 y.b1, .int .i64 y.b2, .int .i64 y.b3, .int .i64 y.b4, .int .i64 y.b5, .int .i64 y.b6, .int .i64 y.b7, .slice po y.ps.length pc, .slice lo y.ls.length lc] : Array Value) 40 (0, 0))) := by rw [hy, HXp.out, HXl.out, hpo, hlo, hpc, hlc]; exact L1.out
    have RP' : Hid (RowA w16 w.heap.size 136 4 (.slice po y.ps.length pc) y.ps.length (pcells y.ps)) := by rw [hy, HXp.out, hpo, hpc]; exact .inr ⟨rfl, rfl, _, rfl⟩
    have RL' : Hid (RowA w16 w.heap.size 140 2 (.slice lo y.ls.length lc) y.ls.length (lcells y.ls)) := by rw [hy, HXl.out, hlo, hlc]; exact .inr ⟨rfl, rfl, _, rfl⟩
    have hyp : y.ps.length ≤ 61 := by rw [hy, HXp.out]; simp
    have hyl : y.ls.length ≤ 61 := by rw [hy, HXl.out]; simp
    have T0 := L0
    have UT := U16
    have hrT := hr16
    have hzz : w15.heap.size < w16.heap.size := by omega
    clear hy hpo hlo hpc hlc L0 L1 U16 hr16
    refine (pick_any w0 _ R _ 20 hrT (by omega) (by omega) (by omega)).mono ?_
    rintro e w21 ⟨q21, rfl, hq21, hr21, hu21⟩
    have P0 := hide (hu21.keeps T0.out (by omega))
    have P1 := hide (hu21.keeps T1'.out (by omega))
    have PP := hide (RowA.keepTy8 RP'.out hu21 (fun k h1 h2 => by have := h1.1; omega))
    have PL := hide (RowA.keepTy8 RL'.out hu21 (fun k h1 h2 => by have := h1.1; omega))
    have U21 := hide (UT.out.trans hu21)
    have hz21 := hu21.size
    clear T0 T1' RP' RL' UT hrT hu21
    rcases (by omega : q21 = 0 ∨ q21 = 1 ∨ q21 = 2 ∨ q21 = 3 ∨ 4 ≤ q21) with h | h | h | h | h
    · subst h
      have al := bal (Below.refl w21.heap.size w21) (.cells #[.int .i64 (-1), .int .i64 5, .int .i64 100, .int .i64 103, .int .i64 104] 3)
      have LA := hide (litAt w21 [(-1), 5, 100, 103, 104] 3)
      have hr21a := hr21.keepB al
      go_wp2_with fail
      refine (pick_any w0 _ R _ 5 hr21a (by omega) (by omega) (by omega)).mono ?_
      rintro e w22 ⟨q22, rfl, hq22, hr22, hu22⟩
      obtain ⟨z, hz⟩ := LA.out q22 hq22
      have f0 : w22.cell? ⟨w21.heap.size, q22, none⟩ = some (.int .i64 z) := updCell hu22 hz (by omega)
      have hi : (q22 : Int) < 5 := by omega
      have N0 := hide (hu22.keeps (bKeeps al P0.out) (by omega))
      have N1 := hide (hu22.keeps (bKeeps al P1.out) (by omega))
      have NP := hide (RowA.keepTy8 (PP.out.keepB al) hu22 (fun k h1 h2 => by have := h1.1; omega))
      have NL := hide (RowA.keepTy8 (PL.out.keepB al) hu22 (fun k h1 h2 => by have := h1.1; omega))
      have U22 := hide ((U21.out.trans (Upd.ofBelow al)).trans hu22)
      have hz22 := hu22.size
      simp only [World.size_alloc] at hz22
      clear P0 P1 PP PL U21 hr21 hr21a hu22 al LA hz
      obtain ⟨u, hu⟩ : ∃ u : Wd, u = { y with a1 := z } := ⟨_, rfl⟩
      have us := Upd.setCell (S := fun j => j = w15.heap.size) w22 w15.heap.size 1 (.int .i64 z) rfl
      have M0 := hide (us.keeps N0.out (by omega))
      have M1 : Hid ((w22.setCell ⟨w15.heap.size, 1, none⟩ (.int .i64 z)).heap[w15.heap.size]? = some (.cells (#[.int .i64 u.a0, .int .i64 u.a1, .int .i64 u.a2, .int .i64 u.a3, .int .i64 u.a4, .int .i64 u.a5, .int .i64 u.c0, .int .i64 u.c1, .int .i64 u.c2, .int .i64 u.c3, .int .i64 u.c4, .int .i64 u.c5, .int .i64 u.c6, .int .i64 u.c7, .int .i64 u.c8, .int .i64 u.c9, .int .i64 u.b0, .int .i64 u.b1, .int .i64 u.b2, .int .i64 u.b3, .int .i64 u.b4, .int .i64 u.b5, .int .i64 u.b6, .int .i64 u.b7, .slice po u.ps.length pc, .slice lo u.ls.length lc] : Array Value) 40 (0, 0))) := by rw [hu]; exact row_set _ N1.out
      have RPu : Hid (RowA (w22.setCell ⟨w15.heap.size, 1, none⟩ (.int .i64 z)) w.heap.size 136 4 (.slice po u.ps.length pc) u.ps.length (pcells u.ps)) := by rw [hu]; exact RowA.keepTy8 NP.out us (fun k h1 h2 => by subst h2; exact typed_box N1.out (by decide) rfl h1)
      have RLu : Hid (RowA (w22.setCell ⟨w15.heap.size, 1, none⟩ (.int .i64 z)) w.heap.size 140 2 (.slice lo u.ls.length lc) u.ls.length (lcells u.ls)) := by rw [hu]; exact RowA.keepTy8 NL.out us (fun k h1 h2 => by subst h2; exact typed_box N1.out (by decide) rfl h1)
      have hup : u.ps.length ≤ 61 := by rw [hu]; exact hyp
      have hul : u.ls.length ≤ 61 := by rw [hu]; exact hyl
      have c0 : w22.cell? ⟨w15.heap.size, 1, none⟩ = some (.int .i64 y.a1) := boxAt N1.out 1
      have c1 : w22.frozen? ⟨w15.heap.size, 1, none⟩ = false := boxFz N1.out 1
      have hrF := hr22.keep us (by omega) (fun k h => by omega)
      have UF := hide (U22.out.transN us (fun k h => by omega))
      clear hu N0 N1 NP NL U22 us hr22
      have H1s := hide (all_of_list (List.all_eq_true.2 (wd_one u po lo u.ps.length pc u.ls.length lc)))
      go_wp2_with (first | (refine wpList_load_row rfl 40 (.tmp 3) rfl w15.heap.size rfl _ _ (0, 0) _ M1.out Try.underlying40 rfl infoWd ?_) | (refine wpList_store_row rfl 40 (.tmp 2) (.tmp 84) rfl w.heap.size _ rfl rfl _ _ M0.out infoWd rfl H1s.out ?_))
      refine bodyPost_ret (v := .agg #[.int .i64 u.a0, .int .i64 u.a1, .int .i64 u.a2, .int .i64 u.a3, .int .i64 u.a4, .int .i64 u.a5, .int .i64 u.c0, .int .i64 u.c1, .int .i64 u.c2, .int .i64 u.c3, .int .i64 u.c4, .int .i64 u.c5, .int .i64 u.c6, .int .i64 u.c7, .int .i64 u.c8, .int .i64 u.c9, .int .i64 u.b0, .int .i64 u.b1, .int .i64 u.b2, .int .i64 u.b3, .int .i64 u.b4, .int .i64 u.b5, .int .i64 u.b6, .int .i64 u.b7, .slice po u.ps.length pc, .slice lo u.ls.length lc]) (results_cell_row Try.results70 _ _ w.heap.size _ _ (0, 0) _ rfl (setRow_heap _ _ _ _ _ _ M0.out) Try.underlying40 rfl infoWd) rfl ?_
      have u6 : Upd (fun j => j = w.heap.size) (w22.setCell ⟨w15.heap.size, 1, none⟩ (.int .i64 z)) ((w22.setCell ⟨w15.heap.size, 1, none⟩ (.int .i64 z)).setRow w.heap.size (#[.int .i64 u.a0, .int .i64 u.a1, .int .i64 u.a2, .int .i64 u.a3, .int .i64 u.a4, .int .i64 u.a5, .int .i64 u.c0, .int .i64 u.c1, .int .i64 u.c2, .int .i64 u.c3, .int .i64 u.c4, .int .i64 u.c5, .int .i64 u.c6, .int .i64 u.c7, .int .i64 u.c8, .int .i64 u.c9, .int .i64 u.b0, .int .i64 u.b1, .int .i64 u.b2, .int .i64 u.b3, .int .i64 u.b4, .int .i64 u.b5, .int .i64 u.b6, .int .i64 u.b7, .slice po u.ps.length pc, .slice lo u.ls.length lc] : Array Value)) := ⟨rfl, rfl, rfl, by simp, fun k _ h => setRow_other _ _ _ _ h⟩
      refine ⟨_, u, _, rfl, ⟨po, pc, lo, lc, rfl, ?_, ?_⟩, hup, hul, hrF.keep u6 (by omega) (fun k h => by omega), by omega, UF.out.transN u6 (fun k h => by omega)⟩
      · exact ((RowA.keepTy8 RPu.out u6 (fun k h1 h2 => by subst h2; exact typed_box M0.out (by decide) rfl h1)).row (by omega))
      · exact ((RowA.keepTy8 RLu.out u6 (fun k h1 h2 => by subst h2; exact typed_box M0.out (by decide) rfl h1)).row (by omega))
    · subst h
      have al := bal (Below.refl w21.heap.size w21) (.cells #[.int .i64 0, .int .i64 (-1), .int .i64 (-2), .int .i64 60, .int .i64 61] 3)
      have LA := hide (litAt w21 [0, (-1), (-2), 60, 61] 3)
      have hr21a := hr21.keepB al
      go_wp2_with fail
      refine (pick_any w0 _ R _ 5 hr21a (by omega) (by omega) (by omega)).mono ?_
      rintro e w22 ⟨q22, rfl, hq22, hr22, hu22⟩
      obtain ⟨z, hz⟩ := LA.out q22 hq22
      have f0 : w22.cell? ⟨w21.heap.size, q22, none⟩ = some (.int .i64 z) := updCell hu22 hz (by omega)
      have hi : (q22 : Int) < 5 := by omega
      have N0 := hide (hu22.keeps (bKeeps al P0.out) (by omega))
      have N1 := hide (hu22.keeps (bKeeps al P1.out) (by omega))
      have NP := hide (RowA.keepTy8 (PP.out.keepB al) hu22 (fun k h1 h2 => by have := h1.1; omega))
      have NL := hide (RowA.keepTy8 (PL.out.keepB al) hu22 (fun k h1 h2 => by have := h1.1; omega))
      have U22 := hide ((U21.out.trans (Upd.ofBelow al)).trans hu22)
      have hz22 := hu22.size
      simp only [World.size_alloc] at hz22
      clear P0 P1 PP PL U21 hr21 hr21a hu22 al LA hz
      obtain ⟨u, hu⟩ : ∃ u : Wd, u = { y with a4 := z } := ⟨_, rfl⟩
      have us := Upd.setCell (S := fun j => j = w15.heap.size) w22 w15.heap.size 4 (.int .i64 z) rfl
      have M0 := hide (us.keeps N0.out (by omega))
      have M1 : Hid ((w22.setCell ⟨w15.heap.size, 4, none⟩ (.int .i64 z)).heap[w15.heap.size]? = some (.cells (#[.int .i64 u.a0, .int .i64 u.a1, .int .i64 u.a2, .int .i64 u.a3, .int .i64 u.a4, .int .i64 u.a5, .int .i64 u.c0, .int .i64 u.c1, .int .i64 u.c2, .int .i64 u.c3, .int .i64 u.c4, .int .i64 u.c5, .int .i64 u.c6, .int .i64 u.c7, .int .i64 u.c8, .int .i64 u.c9, .int .i64 u.b0, .int .i64 u.b1, .int .i64 u.b2, .int .i64 u.b3, .int .i64 u.b4, .int .i64 u.b5, .int .i64 u.b6, .int .i64 u.b7, .slice po u.ps.length pc, .slice lo u.ls.length lc] : Array Value) 40 (0, 0))) := by rw [hu]; exact row_set _ N1.out
      have RPu : Hid (RowA (w22.setCell ⟨w15.heap.size, 4, none⟩ (.int .i64 z)) w.heap.size 136 4 (.slice po u.ps.length pc) u.ps.length (pcells u.ps)) := by rw [hu]; exact RowA.keepTy8 NP.out us (fun k h1 h2 => by subst h2; exact typed_box N1.out (by decide) rfl h1)
      have RLu : Hid (RowA (w22.setCell ⟨w15.heap.size, 4, none⟩ (.int .i64 z)) w.heap.size 140 2 (.slice lo u.ls.length lc) u.ls.length (lcells u.ls)) := by rw [hu]; exact RowA.keepTy8 NL.out us (fun k h1 h2 => by subst h2; exact typed_box N1.out (by decide) rfl h1)
      have hup : u.ps.length ≤ 61 := by rw [hu]; exact hyp
      have hul : u.ls.length ≤ 61 := by rw [hu]; exact hyl
      have c0 : w22.cell? ⟨w15.heap.size, 4, none⟩ = some (.int .i64 y.a4) := boxAt N1.out 4
      have c1 : w22.frozen? ⟨w15.heap.size, 4, none⟩ = false := boxFz N1.out 4
      have hrF := hr22.keep us (by omega) (fun k h => by omega)
      have UF := hide (U22.out.transN us (fun k h => by omega))
      clear hu N0 N1 NP NL U22 us hr22
      have H1s := hide (all_of_list (List.all_eq_true.2 (wd_one u po lo u.ps.length pc u.ls.length lc)))
      go_wp2_with (first | (refine wpList_load_row rfl 40 (.tmp 3) rfl w15.heap.size rfl _ _ (0, 0) _ M1.out Try.underlying40 rfl infoWd ?_) | (refine wpList_store_row rfl 40 (.tmp 2) (.tmp 84) rfl w.heap.size _ rfl rfl _ _ M0.out infoWd rfl H1s.out ?_))
      refine bodyPost_ret (v := .agg #[.int .i64 u.a0, .int .i64 u.a1, .int .i64 u.a2, .int .i64 u.a3, .int .i64 u.a4, .int .i64 u.a5, .int .i64 u.c0, .int .i64 u.c1, .int .i64 u.c2, .int .i64 u.c3, .int .i64 u.c4, .int .i64 u.c5, .int .i64 u.c6, .int .i64 u.c7, .int .i64 u.c8, .int .i64 u.c9, .int .i64 u.b0, .int .i64 u.b1, .int .i64 u.b2, .int .i64 u.b3, .int .i64 u.b4, .int .i64 u.b5, .int .i64 u.b6, .int .i64 u.b7, .slice po u.ps.length pc, .slice lo u.ls.length lc]) (results_cell_row Try.results70 _ _ w.heap.size _ _ (0, 0) _ rfl (setRow_heap _ _ _ _ _ _ M0.out) Try.underlying40 rfl infoWd) rfl ?_
      have u6 : Upd (fun j => j = w.heap.size) (w22.setCell ⟨w15.heap.size, 4, none⟩ (.int .i64 z)) ((w22.setCell ⟨w15.heap.size, 4, none⟩ (.int .i64 z)).setRow w.heap.size (#[.int .i64 u.a0, .int .i64 u.a1, .int .i64 u.a2, .int .i64 u.a3, .int .i64 u.a4, .int .i64 u.a5, .int .i64 u.c0, .int .i64 u.c1, .int .i64 u.c2, .int .i64 u.c3, .int .i64 u.c4, .int .i64 u.c5, .int .i64 u.c6, .int .i64 u.c7, .int .i64 u.c8, .int .i64 u.c9, .int .i64 u.b0, .int .i64 u.b1, .int .i64 u.b2, .int .i64 u.b3, .int .i64 u.b4, .int .i64 u.b5, .int .i64 u.b6, .int .i64 u.b7, .slice po u.ps.length pc, .slice lo u.ls.length lc] : Array Value)) := ⟨rfl, rfl, rfl, by simp, fun k _ h => setRow_other _ _ _ _ h⟩
      refine ⟨_, u, _, rfl, ⟨po, pc, lo, lc, rfl, ?_, ?_⟩, hup, hul, hrF.keep u6 (by omega) (fun k h => by omega), by omega, UF.out.transN u6 (fun k h => by omega)⟩
      · exact ((RowA.keepTy8 RPu.out u6 (fun k h1 h2 => by subst h2; exact typed_box M0.out (by decide) rfl h1)).row (by omega))
      · exact ((RowA.keepTy8 RLu.out u6 (fun k h1 h2 => by subst h2; exact typed_box M0.out (by decide) rfl h1)).row (by omega))
    · subst h
      have al := bal (Below.refl w21.heap.size w21) (.cells #[.int .i64 0, .int .i64 (-1), .int .i64 99999, .int .i64 100000] 3)
      have LA := hide (litAt w21 [0, (-1), 99999, 100000] 3)
      have hr21a := hr21.keepB al
      go_wp2_with fail
      refine (pick_any w0 _ R _ 4 hr21a (by omega) (by omega) (by omega)).mono ?_
      rintro e w22 ⟨q22, rfl, hq22, hr22, hu22⟩
      obtain ⟨z, hz⟩ := LA.out q22 hq22
      have f0 : w22.cell? ⟨w21.heap.size, q22, none⟩ = some (.int .i64 z) := updCell hu22 hz (by omega)
      have hi : (q22 : Int) < 4 := by omega
      have N0 := hide (hu22.keeps (bKeeps al P0.out) (by omega))
      have N1 := hide (hu22.keeps (bKeeps al P1.out) (by omega))
      have NP := hide (RowA.keepTy8 (PP.out.keepB al) hu22 (fun k h1 h2 => by have := h1.1; omega))
      have NL := hide (RowA.keepTy8 (PL.out.keepB al) hu22 (fun k h1 h2 => by have := h1.1; omega))
      have U22 := hide ((U21.out.trans (Upd.ofBelow al)).trans hu22)
      have hz22 := hu22.size
      simp only [World.size_alloc] at hz22
      clear P0 P1 PP PL U21 hr21 hr21a hu22 al LA hz
      obtain ⟨u, hu⟩ : ∃ u : Wd, u = { y with a3 := z } := ⟨_, rfl⟩
      have us := Upd.setCell (S := fun j => j = w15.heap.size) w22 w15.heap.size 3 (.int .i64 z) rfl
      have M0 := hide (us.keeps N0.out (by omega))
      have M1 : Hid ((w22.setCell ⟨w15.heap.size, 3, none⟩ (.int .i64 z)).heap[w15.heap.size]? = some (.cells (#[.int .i64 u.a0, .int .i64 u.a1, .int .i64 u.a2, .int .i64 u.a3, .int .i64 u.a4, .int .i64 u.a5, .int .i64 u.c0, .int .i64 u.c1, .int .i64 u.c2, .int .i64 u.c3, .int .i64 u.c4, .int .i64 u.c5, .int .i64 u.c6, .int .i64 u.c7, .int .i64 u.c8, .int .i64 u.c9, .int .i64 u.b0, .int .i64 u.b1, .int .i64 u.b2, .int .i64 u.b3, .int .i64 u.b4, .int .i64 u.b5, .int .i64 u.b6, .int .i64 u.b7, .slice po u.ps.length pc, .slice lo u.ls.length lc] : Array Value) 40 (0, 0))) := by rw [hu]; exact row_set _ N1.out
      have RPu : Hid (RowA (w22.setCell ⟨w15.heap.size, 3, none⟩ (.int .i64 z)) w.heap.size 136 4 (.slice po u.ps.length pc) u.ps.length (pcells u.ps)) := by rw [hu]; exact RowA.keepTy8 NP.out us (fun k h1 h2 => by subst h2; exact typed_box N1.out (by decide) rfl h1)
      have RLu : Hid (RowA (w22.setCell ⟨w15.heap.size, 3, none⟩ (.int .i64 z)) w.heap.size 140 2 (.slice lo u.ls.length lc) u.ls.length (lcells u.ls)) := by rw [hu]; exact RowA.keepTy8 NL.out us (fun k h1 h2 => by subst h2; exact typed_box N1.out (by decide) rfl h1)
      have hup : u.ps.length ≤ 61 := by rw [hu]; exact hyp
      have hul : u.ls.length ≤ 61 := by rw [hu]; exact hyl
      have c0 : w22.cell? ⟨w15.heap.size, 3, none⟩ = some (.int .i64 y.a3) := boxAt N1.out 3
      have c1 : w22.frozen? ⟨w15.heap.size, 3, none⟩ = false := boxFz N1.out 3
      have hrF := hr22.keep us (by omega) (fun k h => by omega)
      have UF := hide (U22.out.transN us (fun k h => by omega))
      clear hu N0 N1 NP NL U22 us hr22
      have H1s := hide (all_of_list (List.all_eq_true.2 (wd_one u po lo u.ps.length pc u.ls.length lc)))
      go_wp2_with (first | (refine wpList_load_row rfl 40 (.tmp 3) rfl w15.heap.size rfl _ _ (0, 0) _ M1.out Try.underlying40 rfl infoWd ?_) | (refine wpList_store_row rfl 40 (.tmp 2) (.tmp 84) rfl w.heap.size _ rfl rfl _ _ M0.out infoWd rfl H1s.out ?_))
      refine bodyPost_ret (v := .agg #[.int .i64 u.a0, .int .i64 u.a1, .int .i64 u.a2, .int .i64 u.a3, .int .i64 u.a4, .int .i64 u.a5, .int .i64 u.c0, .int .i64 u.c1, .int .i64 u.c2, .int .i64 u.c3, .int .i64 u.c4, .int .i64 u.c5, .int .i64 u.c6, .int .i64 u.c7, .int .i64 u.c8, .int .i64 u.c9, .int .i64 u.b0, .int .i64 u.b1, .int .i64 u.b2, .int .i64 u.b3, .int .i64 u.b4, .int .i64 u.b5, .int .i64 u.b6, .int .i64 u.b7, .slice po u.ps.length pc, .slice lo u.ls.length lc]) (results_cell_row Try.results70 _ _ w.heap.size _ _ (0, 0) _ rfl (setRow_heap _ _ _ _ _ _ M0.out) Try.underlying40 rfl infoWd) rfl ?_
      have u6 : Upd (fun j => j = w.heap.size) (w22.setCell ⟨w15.heap.size, 3, none⟩ (.int .i64 z)) ((w22.setCell ⟨w15.heap.size, 3, none⟩ (.int .i64 z)).setRow w.heap.size (#[.int .i64 u.a0, .int .i64 u.a1, .int .i64 u.a2, .int .i64 u.a3, .int .i64 u.a4, .int .i64 u.a5, .int .i64 u.c0, .int .i64 u.c1, .int .i64 u.c2, .int .i64 u.c3, .int .i64 u.c4, .int .i64 u.c5, .int .i64 u.c6, .int .i64 u.c7, .int .i64 u.c8, .int .i64 u.c9, .int .i64 u.b0, .int .i64 u.b1, .int .i64 u.b2, .int .i64 u.b3, .int .i64 u.b4, .int .i64 u.b5, .int .i64 u.b6, .int .i64 u.b7, .slice po u.ps.length pc, .slice lo u.ls.length lc] : Array Value)) := ⟨rfl, rfl, rfl, by simp, fun k _ h => setRow_other _ _ _ _ h⟩
      refine ⟨_, u, _, rfl, ⟨po, pc, lo, lc, rfl, ?_, ?_⟩, hup, hul, hrF.keep u6 (by omega) (fun k h => by omega), by omega, UF.out.transN u6 (fun k h => by omega)⟩
      · exact ((RowA.keepTy8 RPu.out u6 (fun k h1 h2 => by subst h2; exact typed_box M0.out (by decide) rfl h1)).row (by omega))
      · exact ((RowA.keepTy8 RLu.out u6 (fun k h1 h2 => by subst h2; exact typed_box M0.out (by decide) rfl h1)).row (by omega))
    · subst h
      have al := bal (Below.refl w21.heap.size w21) (.cells #[.int .i64 0, .int .i64 16] 3)
      have LA := hide (litAt w21 [0, 16] 3)
      have hr21a := hr21.keepB al
      go_wp2_with fail
      refine (pick_any w0 _ R _ 2 hr21a (by omega) (by omega) (by omega)).mono ?_
      rintro e w22 ⟨q22, rfl, hq22, hr22, hu22⟩
      obtain ⟨z, hz⟩ := LA.out q22 hq22
      have f0 : w22.cell? ⟨w21.heap.size, q22, none⟩ = some (.int .i64 z) := updCell hu22 hz (by omega)
      have hi : (q22 : Int) < 2 := by omega
      have N0 := hide (hu22.keeps (bKeeps al P0.out) (by omega))
      have N1 := hide (hu22.keeps (bKeeps al P1.out) (by omega))
      have NP := hide (RowA.keepTy8 (PP.out.keepB al) hu22 (fun k h1 h2 => by have := h1.1; omega))
      have NL := hide (RowA.keepTy8 (PL.out.keepB al) hu22 (fun k h1 h2 => by have := h1.1; omega))
      have U22 := hide ((U21.out.trans (Upd.ofBelow al)).trans hu22)
      have hz22 := hu22.size
      simp only [World.size_alloc] at hz22
      clear P0 P1 PP PL U21 hr21 hr21a hu22 al LA hz
      obtain ⟨u, hu⟩ : ∃ u : Wd, u = { y with a0 := z } := ⟨_, rfl⟩
      have us := Upd.setCell (S := fun j => j = w15.heap.size) w22 w15.heap.size 0 (.int .i64 z) rfl
      have M0 := hide (us.keeps N0.out (by omega))
      have M1 : Hid ((w22.setCell ⟨w15.heap.size, 0, none⟩ (.int .i64 z)).heap[w15.heap.size]? = some (.cells (#[.int .i64 u.a0, .int .i64 u.a1, .int .i64 u.a2, .int .i64 u.a3, .int .i64 u.a4, .int .i64 u.a5, .int .i64 u.c0, .int .i64 u.c1, .int .i64 u.c2, .int .i64 u.c3, .int .i64 u.c4, .int .i64 u.c5, .int .i64 u.c6, .int .i64 u.c7, .int .i64 u.c8, .int .i64 u.c9, .int .i64 u.b0, .int .i64 u.b1, .int .i64 u.b2, .int .i64 u.b3, .int .i64 u.b4, .int .i64 u.b5, .int .i64 u.b6, .int .i64 u.b7, .slice po u.ps.length pc, .slice lo u.ls.length lc] : Array Value) 40 (0, 0))) := by rw [hu]; exact row_set _ N1.out
      have RPu : Hid (RowA (w22.setCell ⟨w15.heap.size, 0, none⟩ (.int .i64 z)) w.heap.size 136 4 (.slice po u.ps.length pc) u.ps.length (pcells u.ps)) := by rw [hu]; exact RowA.keepTy8 NP.out us (fun k h1 h2 => by subst h2; exact typed_box N1.out (by decide) rfl h1)
      have RLu : Hid (RowA (w22.setCell ⟨w15.heap.size, 0, none⟩ (.int .i64 z)) w.heap.size 140 2 (.slice lo u.ls.length lc) u.ls.length (lcells u.ls)) := by rw [hu]; exact RowA.keepTy8 NL.out us (fun k h1 h2 => by subst h2; exact typed_box N1.out (by decide) rfl h1)
      have hup : u.ps.length ≤ 61 := by rw [hu]; exact hyp
      have hul : u.ls.length ≤ 61 := by rw [hu]; exact hyl
      have c0 : w22.cell? ⟨w15.heap.size, 0, none⟩ = some (.int .i64 y.a0) := boxAt N1.out 0
      have c1 : w22.frozen? ⟨w15.heap.size, 0, none⟩ = false := boxFz N1.out 0
      have hrF := hr22.keep us (by omega) (fun k h => by omega)
      have UF := hide (U22.out.transN us (fun k h => by omega))
      clear hu N0 N1 NP NL U22 us hr22
      have H1s := hide (all_of_list (List.all_eq_true.2 (wd_one u po lo u.ps.length pc u.ls.length lc)))
      go_wp2_with (first | (refine wpList_load_row rfl 40 (.tmp 3) rfl w15.heap.size rfl _ _ (0, 0) _ M1.out Try.underlying40 rfl infoWd ?_) | (refine wpList_store_row rfl 40 (.tmp 2) (.tmp 84) rfl w.heap.size _ rfl rfl _ _ M0.out infoWd rfl H1s.out ?_))
      refine bodyPost_ret (v := .agg #[.int .i64 u.a0, .int .i64 u.a1, .int .i64 u.a2, .int .i64 u.a3, .int .i64 u.a4, .int .i64 u.a5, .int .i64 u.c0, .int .i64 u.c1, .int .i64 u.c2, .int .i64 u.c3, .int .i64 u.c4, .int .i64 u.c5, .int .i64 u.c6, .int .i64 u.c7, .int .i64 u.c8, .int .i64 u.c9, .int .i64 u.b0, .int .i64 u.b1, .int .i64 u.b2, .int .i64 u.b3, .int .i64 u.b4, .int .i64 u.b5, .int .i64 u.b6, .int .i64 u.b7, .slice po u.ps.length pc, .slice lo u.ls.length lc]) (results_cell_row Try.results70 _ _ w.heap.size _ _ (0, 0) _ rfl (setRow_heap _ _ _ _ _ _ M0.out) Try.underlying40 rfl infoWd) rfl ?_
      have u6 : Upd (fun j => j = w.heap.size) (w22.setCell ⟨w15.heap.size, 0, none⟩ (.int .i64 z)) ((w22.setCell ⟨w15.heap.size, 0, none⟩ (.int .i64 z)).setRow w.heap.size (#[.int .i64 u.a0, .int .i64 u.a1, .int .i64 u.a2, .int .i64 u.a3, .int .i64 u.a4, .int .i64 u.a5, .int .i64 u.c0, .int .i64 u.c1, .int .i64 u.c2, .int .i64 u.c3, .int .i64 u.c4, .int .i64 u.c5, .int .i64 u.c6, .int .i64 u.c7, .int .i64 u.c8, .int .i64 u.c9, .int .i64 u.b0, .int .i64 u.b1, .int .i64 u.b2, .int .i64 u.b3, .int .i64 u.b4, .int .i64 u.b5, .int .i64 u.b6, .int .i64 u.b7, .slice po u.ps.length pc, .slice lo u.ls.length lc] : Array Value)) := ⟨rfl, rfl, rfl, by simp, fun k _ h => setRow_other _ _ _ _ h⟩
      refine ⟨_, u, _, rfl, ⟨po, pc, lo, lc, rfl, ?_, ?_⟩, hup, hul, hrF.keep u6 (by omega) (fun k h => by omega), by omega, UF.out.transN u6 (fun k h => by omega)⟩
      · exact ((RowA.keepTy8 RPu.out u6 (fun k h1 h2 => by subst h2; exact typed_box M0.out (by decide) rfl h1)).row (by omega))
      · exact ((RowA.keepTy8 RLu.out u6 (fun k h1 h2 => by subst h2; exact typed_box M0.out (by decide) rfl h1)).row (by omega))
    · obtain ⟨w22, hw⟩ : ∃ w22, w22 = w21 := ⟨_, rfl⟩
      subst hw
      have h0 : ((q21 : Int) == 0) = false := by simp; omega
      have h1 : ((q21 : Int) == 1) = false := by simp; omega
      have h2 : ((q21 : Int) == 2) = false := by simp; omega
      have h3 : ((q21 : Int) == 3) = false := by simp; omega
      have N0 := P0
      have N1 := P1
      have NP := PP
      have NL := PL
      have U22 := U21
      have hr22 := hr21
      clear P0 P1 PP PL U21 hr21
      obtain ⟨u, hu⟩ : ∃ u : Wd, u = y := ⟨_, rfl⟩
      subst hu
      have M0 := N0
      have M1 := N1
      have RPu := NP
      have RLu := NL
      have hup := hyp
      have hul := hyl
      have hrF := hr22
      have UF := U22
      clear N0 N1 NP NL U22 hr22
      have H1s := hide (all_of_list (List.all_eq_true.2 (wd_one u po lo u.ps.length pc u.ls.length lc)))
      go_wp2_with (first | (refine wpList_load_row rfl 40 (.tmp 3) rfl w15.heap.size rfl _ _ (0, 0) _ M1.out Try.underlying40 rfl infoWd ?_) | (refine wpList_store_row rfl 40 (.tmp 2) (.tmp 84) rfl w.heap.size _ rfl rfl _ _ M0.out infoWd rfl H1s.out ?_))
      refine bodyPost_ret (v := .agg #[.int .i64 u.a0, .int .i64 u.a1, .int .i64 u.a2, .int .i64 u.a3, .int .i64 u.a4, .int .i64 u.a5, .int .i64 u.c0, .int .i64 u.c1, .int .i64 u.c2, .int .i64 u.c3, .int .i64 u.c4, .int .i64 u.c5, .int .i64 u.c6, .int .i64 u.c7, .int .i64 u.c8, .int .i64 u.c9, .int .i64 u.b0, .int .i64 u.b1, .int .i64 u.b2, .int .i64 u.b3, .int .i64 u.b4, .int .i64 u.b5, .int .i64 u.b6, .int .i64 u.b7, .slice po u.ps.length pc, .slice lo u.ls.length lc]) (results_cell_row Try.results70 _ _ w.heap.size _ _ (0, 0) _ rfl (setRow_heap _ _ _ _ _ _ M0.out) Try.underlying40 rfl infoWd) rfl ?_
      have u6 : Upd (fun j => j = w.heap.size) w22 (w22.setRow w.heap.size (#[.int .i64 u.a0, .int .i64 u.a1, .int .i64 u.a2, .int .i64 u.a3, .int .i64 u.a4, .int .i64 u.a5, .int .i64 u.c0, .int .i64 u.c1, .int .i64 u.c2, .int .i64 u.c3, .int .i64 u.c4, .int .i64 u.c5, .int .i64 u.c6, .int .i64 u.c7, .int .i64 u.c8, .int .i64 u.c9, .int .i64 u.b0, .int .i64 u.b1, .int .i64 u.b2, .int .i64 u.b3, .int .i64 u.b4, .int .i64 u.b5, .int .i64 u.b6, .int .i64 u.b7, .slice po u.ps.length pc, .slice lo u.ls.length lc] : Array Value)) := ⟨rfl, rfl, rfl, by simp, fun k _ h => setRow_other _ _ _ _ h⟩
      refine ⟨_, u, _, rfl, ⟨po, pc, lo, lc, rfl, ?_, ?_⟩, hup, hul, hrF.keep u6 (by omega) (fun k h => by omega), by omega, UF.out.transN u6 (fun k h => by omega)⟩
      · exact ((RowA.keepTy8 RPu.out u6 (fun k h1 h2 => by subst h2; exact typed_box M0.out (by decide) rfl h1)).row (by omega))
      · exact ((RowA.keepTy8 RLu.out u6 (fun k h1 h2 => by subst h2; exact typed_box M0.out (by decide) rfl h1)).row (by omega))

end Go.Proofs.Ytiigcokbmggdkaa

/- A voter that is drawn: contracts; no statement of the seat is proved here. -/
namespace Go.Proofs.Ytiigcokbmggdkaa
open Go.RowKit

theorem upd_mix {S T : Nat → Prop} {a b c : World} (h : Upd S a b) (k : Upd T b c) (hT : ∀ j, T j → S j ∨ a.heap.size ≤ j) : Upd S a c :=
  ⟨k.os.trans h.os, k.tape.trans h.tape, k.output.trans h.output, Nat.le_trans h.size k.size,
    fun i hi hS => (k.block i (Nat.lt_of_lt_of_le hi h.size) (fun ht => by rcases hT i ht with h1 | h1; exact hS h1; omega)).trans (h.block i hi hS)⟩
/-- A word's kind, put into its cells. -/
theorem WdR.kind {w : World} {cs : Array Value} {x : Wd} (z : Int) (h : WdR w (.agg cs) x) : WdR w (.agg (cs.setIfInBounds 0 (.int .i64 z))) { x with a0 := z } := by
  obtain ⟨po, pc, lo, lc, e, h1, h2⟩ := h
  injection e with e
  subst e
  exact ⟨po, pc, lo, lc, rfl, h1, h2⟩
theorem setKind_size {cs : Array Value} (z : Int) : (cs.setIfInBounds 0 (.int .i64 z)).size = cs.size := by simp

set_option maxRecDepth 100000 in
set_option maxHeartbeats 8000000 in
theorem l72Voter_any (w0 w : World) (R p : Nat) (hr : Rd w0 w R p) (hp : p ≤ 600000) :
    Calls Try.prog 118 #[.pointer (some ⟨R, 0, none⟩)] w fun e w' => ∃ (v : Value) (P : Int) (xs : List Pp) (p' : Nat), e = .returned v ∧ VtA w' w.heap.size v P xs ∧ xs.length ≤ 5 ∧ Rd w0 w' R p' ∧ p' ≤ p + 20010 ∧ Upd (fun j => j = R) w w' := by
  obtain ⟨hRl, hR0, hw0⟩ := hr.lt
  go_enter Try.func118, Try.ntmps118
  go_upto_region 2 with fail
  generalize hW : World.alloc _ _ = W
  have al : Below w.heap.size w W := by rw [← hW]; exact bal (bal (Below.refl _ _) _) _
  have B0 : Hid (W.heap[w.heap.size]? = some (.cells #[.int .i64 0, .slice none 0 0] 35 (0, 0))) := by show _ = _; rw [← hW]; exact al2_0 w _ _
  have B1 : Hid (W.heap[w.heap.size + 1]? = some (.cells #[.int .i64 0, .slice none 0 0] 35 (0, 0))) := by show _ = _; rw [← hW]; exact al2_1 w _ _
  have ltW := heap_lt B1.out
  clear hW
  have hr0 := hr.keepB al
  clear hr
  go_wp2_with fail
  refine (pick_any w0 _ R _ 6 hr0 (by omega) (by omega) (by omega)).mono ?_
  rintro e w1 ⟨q1, rfl, hq1, hr1, hu1⟩
  have z1 := hu1.size
  have A0 := hide (hu1.keeps B0.out (by omega))
  have A1 := hide (hu1.keeps B1.out (by omega))
  have U1 := hide (hu1.mono (T := fun j => j = R ∨ j = w.heap.size + 1) (fun _ h => .inl h))
  clear hr0 hu1 B1
  go_wp2
  go_loopw [4] (fun i wr => ∃ (k : Nat) (P : Int) (xs : List Pp) (so : Option Addr) (sc p' : Nat), k ≤ 5 ∧ i = .int .i64 k ∧ wr.heap[w.heap.size + 1]? = some (.cells #[.int .i64 P, .slice so xs.length sc] 35 (0, 0)) ∧ xs.length ≤ sc ∧ RowA wr W.heap.size 56 12 (.slice so xs.length sc) xs.length (ppcells xs) ∧ xs.length + k ≤ 5 ∧ Rd w0 wr R p' ∧ p' + k * 4001 ≤ p + 1 + 20005 ∧ Upd (fun j => j = R ∨ j = w.heap.size + 1) W wr) (fun i _ => (intOf i).toNat)
  case atStart => exact ⟨q1, 0, [], none, 0, p + 1, by omega, rfl, A1.out, Nat.le_refl _, .inr ⟨rfl, rfl, _, rfl⟩, by simp; omega, hr1, by omega, U1.out⟩
  case round =>
    obtain ⟨k, P, xs, so, sc, p', hk, rfl, hbox, hcap, hrow, hlen, hrd, hp', hup⟩ := hrel
    have HB := hide hbox
    have HR := hide hrow
    have zr := hup.size
    clear hbox hrow
    by_cases h0 : 0 < k
    · obtain ⟨k', rfl⟩ : ∃ k', k = k' + 1 := ⟨k - 1, by omega⟩
      have hi : (0 : Int) < ((k' + 1 : Nat) : Int) := by omega
      go_wp2_with fail
      refine (l72Word_any w0 wr R p' hrd (by omega)).mono ?_
      rintro e w2 ⟨v2, x, p2, rfl, d2, -, -, hr2, hp2, hu2⟩
      obtain ⟨cs, rfl, hs, h1⟩ := d2.reads.agg
      have D2 := hide (wdIn d2)
      have HI := hide (infoAt infoWd hs)
      have HZ := hide (zero26.trans hs.symm)
      have H1s := hide h1
      have z2 := hu2.size
      have C2 := hide (hu2.keeps HB.out (by omega))
      have R2 := hide (HR.out.keep hu2 (fun j h1 h2 => by omega))
      have a2 := bal (Below.refl w2.heap.size w2) (.cells cs 40)
      have N2 := hide (heap_alloc_new w2 (.cells cs 40))
      have D2 := hide (D2.out.keepB a2)
      have C2 := hide (bKeeps a2 C2.out)
      have R2 := hide (R2.out.keepB a2)
      have hr2 := hr2.keepB a2
      have U2 := hide (hup.trans ((hu2.mono (T := fun j => j = R ∨ j = w.heap.size + 1) (fun _ h => .inl h)).trans (Upd.ofBelow a2)))
      have e0 : ∃ u, cs[0]? = some u := ⟨cs[0]'(by omega), by simp [show 0 < cs.size by omega]⟩
      obtain ⟨u0, hu0⟩ := e0
      have GI := hide (infoAt infoWd ((setKind_size (cs := cs) 0).trans hs))
      clear d2 hu2 HB HR hrd
      go_upto_region 6 with (refine wpList_store_row rfl 40 (.tmp 5) (.tmp 14) rfl w2.heap.size cs rfl rfl _ _ (heap_alloc_new w2 _) HI.out HZ.out H1s.out ?_; rw [World.setRow_alloc_new])
      generalize hX : w2.alloc (.cells cs 40) = X2 at N2 D2 C2 R2 hr2 U2 a2 ⊢
      have zX := a2.size
      have ltN := heap_lt N2.out
      clear hX a2
      have al3 := bal (Below.refl X2.heap.size X2) (.cells #[.int .i64 1, .int .i64 3, .int .i64 3] 3)
      have LA := hide (litAt X2 [1, 3, 3] 3)
      have hr3 := hr2.keepB al3
      go_wp2_with fail
      refine (pick_any w0 _ R _ 3 hr3 (by omega) (by omega) (by omega)).mono ?_
      rintro e w4 ⟨q4, rfl, hq4, hr4, hu4⟩
      obtain ⟨z, hz⟩ := LA.out q4 hq4
      have f0 : w4.cell? ⟨X2.heap.size, q4, none⟩ = some (.int .i64 z) := updCell hu4 hz (by omega)
      have hi4 : (q4 : Int) < 3 := by omega
      have N4 := hide (hu4.keeps (bKeeps al3 N2.out) (by omega))
      have C4 := hide (hu4.keeps (bKeeps al3 C2.out) (by omega))
      have R4 := hide ((R2.out.keepB al3).keep hu4 (fun j h1 h2 => by omega))
      have D4 := hide ((D2.out.keepB al3).keep hu4 (fun j h1 h2 => by omega))
      have U4 := hide (U2.out.trans ((Upd.ofBelow al3).trans (hu4.mono (T := fun j => j = R ∨ j = w.heap.size + 1) (fun _ h => .inl h))))
      have z4 := hu4.size
      simp only [World.size_alloc] at z4
      have c0 : w4.cell? ⟨w2.heap.size, 0, none⟩ = some u0 := (boxAt N4.out 0).trans hu0
      have c1 : w4.frozen? ⟨w2.heap.size, 0, none⟩ = false := boxFz N4.out 0
      clear LA hz hr3 hu4 al3 N2 C2 R2 D2 U2 hr2
      go_upto_region 7 with fail
      generalize hV : World.setCell _ _ _ = V5
      have u5 : Upd (fun j => j = w2.heap.size) w4 V5 := by rw [← hV]; exact Upd.setCell _ _ _ _ rfl
      have N5 : Hid (V5.heap[w2.heap.size]? = some (.cells (cs.setIfInBounds 0 (.int .i64 z)) 40 (0, 0))) := by show _ = _; rw [← hV]; exact row_set _ N4.out
      have D5 := hide ((D4.out.keep u5 (fun j h1 h2 => by omega)).reads.kind z)
      have C5 := hide (u5.keeps C4.out (by omega))
      have R5 := hide (RowA.keepTy8 R4.out u5 (fun j h1 h2 => by subst h2; exact typed_box N4.out (by decide) rfl h1))
      have hr5 := hr4.keep u5 (by omega) (fun j h => by omega)
      have U5 := hide (U4.out.transN u5 (fun j h => by omega))
      have z5 := u5.size
      obtain ⟨y, hy⟩ : ∃ y : Wd, { x with a0 := z } = y := ⟨_, rfl⟩
      rw [hy] at D5
      obtain ⟨R', hR'⟩ : ∃ R', voteR P xs 0 y = R' := ⟨_, rfl⟩
      have hRl' : R'.2.1.length ≤ xs.length + 1 := by rw [← hR']; exact (voteR_flat P xs 0 y).2.2
      have cV := specSynVoteA_any (.agg #[.int .i64 P, .slice so xs.length sc]) P xs 0 (.agg (cs.setIfInBounds 0 (.int .i64 z))) y V5 ⟨so, sc, rfl, (R5.out.row (by omega)).reads⟩ D5.out (by omega)
      rw [hR'] at cV
      have GI5 : Hid ((Try.prog.info? 40).map (·.size) = some (cs.setIfInBounds 0 (.int .i64 z)).size) := infoAt infoWd ((setKind_size (cs := cs) z).trans hs)
      clear hV hy hR' c0 c1 f0 N4 D4 C4 R4 hr4 U4 u5
      go_wp2_with (first
        | (refine wpList_load_row rfl 35 (.tmp 3) rfl (w.heap.size + 1) rfl _ _ (0, 0) _ C5.out Try.underlying35 rfl infoSv2 ?_)
        | (refine wpList_load_row rfl 40 (.tmp 5) rfl w2.heap.size rfl _ (cs.setIfInBounds 0 (.int .i64 z)) (0, 0) _ N5.out Try.underlying40 rfl GI5.out ?_))
      refine cV.mono ?_
      rintro e w6 ⟨v6, y6, rfl, ⟨so6, sc6, rfl, hcap6, r6⟩, -, b6⟩
      have C6 := hide (bKeeps b6 C5.out)
      have z6 := b6.size
      have s7 := updRow w6 (w.heap.size + 1) #[.int .i64 R'.1, .slice so6 R'.2.1.length sc6]
      have N7 := hide (setRow_heap _ _ _ #[.int .i64 R'.1, .slice so6 R'.2.1.length sc6] _ _ C6.out)
      have R7 := hide ((r6.mono (show W.heap.size ≤ V5.heap.size by omega)).keep s7 (fun j h1 h2 => by omega))
      have hr7 := (hr5.keepB b6).keep s7 (by omega) (fun j h => by omega)
      have U7 := hide ((U5.out.trans (Upd.ofBelow b6)).trans (s7.mono (T := fun j => j = R ∨ j = w.heap.size + 1) (fun _ h => .inr h)))
      clear r6 s7 hr5 U5 b6 C5 R5 N5 D5 cV
      go_wp2_with (refine wpList_store_row rfl 35 (.tmp 3) (.tmp 25) rfl (w.heap.size + 1) #[.int .i64 R'.1, .slice so6 R'.2.1.length sc6] rfl rfl _ _ C6.out infoSv2 (show (2 : Nat) = 2 from rfl) (all_of_list rfl) ?_)
      go_roundw
      case rel => exact ⟨k', R'.1, R'.2.1, so6, sc6, _, by omega, by go_num, N7.out, hcap6, R7.out, by omega, hr7, by omega, U7.out⟩
      case measure => simp [intOf] <;> omega
    · have s8 := updRow wr w.heap.size #[.int .i64 P, .slice so xs.length sc]
      have hb0 := hide (hup.keeps B0.out (by omega))
      go_wp2_with (first
        | (refine wpList_load_row rfl 35 (.tmp 3) rfl (w.heap.size + 1) rfl _ _ (0, 0) _ HB.out Try.underlying35 rfl infoSv2 ?_)
        | (refine wpList_store_row rfl 35 (.tmp 2) (.tmp 28) rfl w.heap.size #[.int .i64 P, .slice so xs.length sc] rfl rfl _ _ hb0.out infoSv2 (show (2 : Nat) = 2 from rfl) (all_of_list rfl) ?_))
      refine bodyPost_ret (v := .agg #[.int .i64 P, .slice so xs.length sc]) (results_cell_row Try.results118 _ _ w.heap.size _ _ (0, 0) _ rfl (setRow_heap _ _ _ _ _ _ hb0.out) Try.underlying35 rfl infoSv2) rfl ?_
      refine ⟨_, P, xs, p', rfl, ⟨so, sc, rfl, hcap, (HR.out.keep s8 (fun j h1 h2 => by omega)).mono (by omega)⟩, by omega, hrd.keep s8 (by omega) (fun j h => by omega), by omega, ?_⟩
      exact upd_mix (upd_mix (Upd.ofBelow al) hup (fun j h => by omega)) s8 (fun j h => .inr (by omega))

end Go.Proofs.Ytiigcokbmggdkaa

/- A voter that is drawn, whatever: a contract; no statement of the seat is proved here. (Written by wip/tools/mkvd.py.) -/
namespace Go.Proofs.Ytiigcokbmggdkaa
open Go.RowKit

theorem builtOne : Try.prog.built 56 [(0, .int .i64 1), (1, .int .i64 1)] = some (#[.int .i64 1, .int .i64 1, .int .i64 zeroW.c0, .int .i64 zeroW.c1, .int .i64 zeroW.c2, .int .i64 zeroW.c3, .int .i64 zeroW.c4, .int .i64 zeroW.c5, .int .i64 zeroW.c6, .int .i64 zeroW.c7, .int .i64 zeroW.c8, .int .i64 zeroW.c9] : Array Value) := by kernel_rfl
theorem wpList_builtOne {ops : Array Oper} {rest : List Oper} {o : Oper} {a : Act} {w : World} {Q : Exit → Act → World → Prop} (hg : o.guard = none) (parts : Array (Nat × Operand)) (ho : o.op = .build 56 parts)
    (hp : (parts.map fun (i, x) => (i, a.eval x)).toList = [(0, .int .i64 1), (1, .int .i64 1)])
    (h : wpList Try.prog ops Q rest (a.put o.dst (.agg (#[.int .i64 1, .int .i64 1, .int .i64 zeroW.c0, .int .i64 zeroW.c1, .int .i64 zeroW.c2, .int .i64 zeroW.c3, .int .i64 zeroW.c4, .int .i64 zeroW.c5, .int .i64 zeroW.c6, .int .i64 zeroW.c7, .int .i64 zeroW.c8, .int .i64 zeroW.c9] : Array Value))) w) : wpList Try.prog ops Q (o :: rest) a w :=
  wpList_build hg 56 parts ho (by rw [hp, builtOne]; rfl) (by rw [hp, builtOne]; exact h)

set_option maxRecDepth 100000 in
set_option maxHeartbeats 8000000 in
theorem l72VoterAny_any (w0 w : World) (R p : Nat) (hr : Rd w0 w R p) (hp : p ≤ 600000) :
    Calls Try.prog 72 #[.pointer (some ⟨R, 0, none⟩)] w fun e w' => ∃ (v : Value) (P : Int) (xs : List Pp) (p' : Nat), e = .returned v ∧ VtO w' (fun k => w.heap.size ≤ k) v P xs ∧ xs.length ≤ 6 ∧ Rd w0 w' R p' ∧ p' ≤ p + 20020 ∧ Upd (fun j => j = R) w w' := by
  obtain ⟨hRl, hR0, hw0⟩ := hr.lt
  obtain ⟨i1, gi, gz0, gz1, gz2⟩ := info_parts infoPp
  go_enter Try.func72, Try.ntmps72
  go_upto_region 1 with fail
  generalize hW : World.alloc _ _ = W
  have al : Below w.heap.size w W := by rw [← hW]; exact bal (Below.refl _ _) _
  have B0 : Hid (W.heap[w.heap.size]? = some (.cells #[.int .i64 0, .slice none 0 0] 35 (0, 0))) := by show _ = _; rw [← hW]; exact al1_0 w _
  have ltW := heap_lt B0.out
  clear hW
  have hr0 := hr.keepB al
  clear hr
  go_wp2_with fail
  refine (l72Voter_any w0 W R p hr0 (by omega)).mono ?_
  rintro e w1 ⟨v1, P, xs, p1, rfl, ⟨so, sc, rfl, hcap, row1⟩, hl1, hr1, hp1, hu1⟩
  have z1 := hu1.size
  have A0 := hide (hu1.keeps B0.out (by omega))
  have a1 := bal (Below.refl w1.heap.size w1) (.cells #[.int .i64 P, .slice so xs.length sc] 35)
  have N1 := hide (heap_alloc_new w1 (.cells #[.int .i64 P, .slice so xs.length sc] 35))
  have A0 := hide (bKeeps a1 A0.out)
  have R1 := hide (row1.keepB a1)
  have hr1 := hr1.keepB a1
  have U1 : Upd (fun j => j = R) w (w1.alloc (.cells #[.int .i64 P, .slice so xs.length sc] 35)) := ((Upd.ofBelow al).trans hu1).trans (Upd.ofBelow a1)
  clear row1 hu1 hr0 B0
  go_upto_region 2 with (refine wpList_store_row rfl 35 (.tmp 3) (.tmp 5) rfl w1.heap.size #[.int .i64 P, .slice so xs.length sc] rfl rfl _ _ (heap_alloc_new w1 _) infoSv2 (show (2 : Nat) = 2 from rfl) (all_of_list rfl) ?_; rw [World.setRow_alloc_new])
  generalize hX : w1.alloc (.cells #[.int .i64 P, .slice so xs.length sc] 35) = X at N1 A0 R1 hr1 U1 a1 ⊢
  have zX := a1.size
  have ltN := heap_lt N1.out
  clear hX a1
  generalize w1.heap.size = g at z1 zX ltN N1 ⊢
  go_wp2_with fail
  refine (pick_any w0 _ R _ 12 hr1 (by omega) (by omega) (by omega)).mono ?_
  rintro e w3 ⟨q, rfl, hq, hr3, hu3⟩
  have z3 := hu3.size
  have A3 := hide (hu3.keeps A0.out (by omega))
  have N3 := hide (hu3.keeps N1.out (by omega))
  have R3 := hide (R1.out.keep hu3 (fun j h1 h2 => by omega))
  have U3 := U1.trans hu3
  clear A0 N1 R1 hr1 hu3 U1
  rcases (by omega : q = 0 ∨ q = 1 ∨ 2 ≤ q) with h | h | h
  · subst h
    have al4 := bal (Below.refl w3.heap.size w3) (.cells #[.int .i64 (-1), .int .i64 0, .int .i64 100000] 3)
    have LA := hide (litAt w3 [(-1), 0, 100000] 3)
    have hr4 := hr3.keepB al4
    go_wp2_with fail
    refine (pick_any w0 _ R _ 3 hr4 (by omega) (by omega) (by omega)).mono ?_
    rintro e w5 ⟨q5, rfl, hq5, hr5, hu5⟩
    obtain ⟨z, hz⟩ := LA.out q5 hq5
    have f0 : w5.cell? ⟨w3.heap.size, q5, none⟩ = some (.int .i64 z) := updCell hu5 hz (by omega)
    have hi5 : (q5 : Int) < 3 := by omega
    have A5 := hide (hu5.keeps (bKeeps al4 A3.out) (by omega))
    have N5 := hide (hu5.keeps (bKeeps al4 N3.out) (by omega))
    have R5 := hide ((R3.out.keepB al4).keep hu5 (fun j h1 h2 => by omega))
    have U5 := (U3.trans (Upd.ofBelow al4)).trans hu5
    have z5 := hu5.size
    simp only [World.size_alloc] at z5
    have c0 : w5.cell? ⟨g, 0, none⟩ = some (.int .i64 P) := boxAt N5.out 0
    have c1 : w5.frozen? ⟨g, 0, none⟩ = false := boxFz N5.out 0
    clear LA hz hr4 hu5 al4 A3 N3 R3 U3 hr3
    go_upto_region 7 with fail
    generalize hV : World.setCell _ _ _ = V
    have u6 : Upd (fun j => j = g) w5 V := by rw [← hV]; exact Upd.setCell _ _ _ _ rfl
    have N6 : Hid (V.heap[g]? = some (.cells #[.int .i64 z, .slice so xs.length sc] 35 (0, 0))) := by show _ = _; rw [← hV]; exact row_set _ N5.out
    have A6 := hide (u6.keeps A5.out (by omega))
    have R6 := hide (rowA_keep_box (by decide) R5.out N5.out u6)
    have hr6 := hr5.keep u6 (by omega) (fun j h => by omega)
    have U6 := upd_mix U5 u6 (fun j h => .inr (by omega))
    have z6 := u6.size
    clear hV c0 c1 f0 N5 A5 R5 hr5 U5
    have s9 := updRow V w.heap.size #[.int .i64 z, .slice so xs.length sc]
    go_wp2_with (first
      | (refine wpList_load_row rfl 35 (.tmp 3) rfl g rfl _ _ (0, 0) _ N6.out Try.underlying35 rfl infoSv2 ?_)
      | (refine wpList_store_row rfl 35 (.tmp 2) (.tmp 24) rfl w.heap.size #[.int .i64 z, .slice so xs.length sc] rfl rfl _ _ A6.out infoSv2 (show (2 : Nat) = 2 from rfl) (all_of_list rfl) ?_))
    refine bodyPost_ret (v := .agg #[.int .i64 z, .slice so xs.length sc]) (results_cell_row Try.results72 _ _ w.heap.size _ _ (0, 0) _ rfl (setRow_heap _ _ _ _ _ _ A6.out) Try.underlying35 rfl infoSv2) rfl ?_
    refine ⟨_, z, xs, _, rfl, ⟨so, sc, rfl, hcap, ?_⟩, by omega, hr6.keep s9 (by omega) (fun j h => by omega), by omega, upd_mix U6 s9 (fun j h => .inr (by omega))⟩
    exact ((R6.out.row (by omega)).keep s9 (fun j h1 h2 => by omega)).mono (fun j _ h => by omega)
  · subst h
    have l1 : w3.cell? ⟨g, 1, none⟩ = some (.slice so xs.length sc) := boxAt N3.out 1
    have al4 := bal (Below.refl w3.heap.size w3) (.cells (#[.int .i64 1, .int .i64 1, .int .i64 zeroW.c0, .int .i64 zeroW.c1, .int .i64 zeroW.c2, .int .i64 zeroW.c3, .int .i64 zeroW.c4, .int .i64 zeroW.c5, .int .i64 zeroW.c6, .int .i64 zeroW.c7, .int .i64 zeroW.c8, .int .i64 zeroW.c9] : Array Value) 56)
    have rowV := R3.out.keepB al4
    have NV := hide (newV_cells w3 (1, 1, zeroW) 56)
    have N4 := hide (bKeeps al4 N3.out)
    have A4 := hide (bKeeps al4 A3.out)
    go_wp2_with (first
      | (refine wpList_builtOne rfl _ rfl ?hp ?_; (case hp => ((conv => lhs; simp only [List.map_toArray, List.map_cons, List.map_nil]); rfl)))
      | (at_builtin; refine wpList_appendA _ rfl _ _ 33 rfl W.heap.size 56 i1 (.agg #[.int .i64 0, .int .i64 0, .int .i64 0, .int .i64 0, .int .i64 0, .int .i64 0, .int .i64 0, .int .i64 0, .int .i64 0, .int .i64 0, .int .i64 0, .int .i64 0]) 12 96 Try.underlying33 gi gz0 gz1 gz2 rfl (by decide) _ xs.length (ppcells xs) rfl rowV ⟨w3.heap.size, 0, none⟩ 1 1 (ppcell (1, 1, zeroW)) rfl rfl NV.out (ppcell_one _) (by decide) ?q63 ?qby ?qbase ?_))
    case q63 => unfold maxLen; omega
    case qby => omega
    case qbase => first | omega | (simp; omega)
    intro v5 w5 r5 u5
    obtain ⟨so5, sc5, rfl, hcap5⟩ := owns_shape r5
    have N5 := hide (typed_keeps (by decide) u5 N4.out)
    have A5 := hide (typed_keeps (by decide) u5 A4.out)
    have R5 := hide (show RowA w5 W.heap.size 56 12 _ _ _ from .inl r5)
    have hr5 := (hr3.keepB al4).keep u5 (fun h => by have := h.1; omega) (fun j h => by have := h.1; omega)
    have U5 := upd_mix (U3.trans (Upd.ofBelow al4)) u5 (fun j h => .inr (by have := h.1; omega))
    have z5 := u5.size
    simp only [World.size_alloc] at z5
    have c0 : w5.cell? ⟨g, 1, none⟩ = some (.slice so xs.length sc) := boxAt N5.out 1
    have c1 : w5.frozen? ⟨g, 1, none⟩ = false := boxFz N5.out 1
    clear l1 al4 rowV NV N4 A4 r5 u5 A3 N3 R3 hr3 U3
    go_upto_region 7 with fail
    generalize hV : World.setCell _ _ _ = V
    have u6 : Upd (fun j => j = g) w5 V := by rw [← hV]; exact Upd.setCell _ _ _ _ rfl
    have N6 : Hid (V.heap[g]? = some (.cells #[.int .i64 P, .slice so5 (xs.length + 1) sc5] 35 (0, 0))) := by show _ = _; rw [← hV]; exact row_set _ N5.out
    have A6 := hide (u6.keeps A5.out (by omega))
    have R6 := hide (rowA_keep_box (by decide) R5.out N5.out u6)
    have hr6 := hr5.keep u6 (by omega) (fun j h => by omega)
    have U6 := upd_mix U5 u6 (fun j h => .inr (by omega))
    have z6 := u6.size
    clear hV c0 c1 N5 A5 R5 hr5 U5
    have s9 := updRow V w.heap.size #[.int .i64 P, .slice so5 (xs.length + 1) sc5]
    go_wp2_with (first
      | (refine wpList_load_row rfl 35 (.tmp 3) rfl g rfl _ _ (0, 0) _ N6.out Try.underlying35 rfl infoSv2 ?_)
      | (refine wpList_store_row rfl 35 (.tmp 2) (.tmp 24) rfl w.heap.size #[.int .i64 P, .slice so5 (xs.length + 1) sc5] rfl rfl _ _ A6.out infoSv2 (show (2 : Nat) = 2 from rfl) (all_of_list rfl) ?_))
    refine bodyPost_ret (v := .agg #[.int .i64 P, .slice so5 (xs.length + 1) sc5]) (results_cell_row Try.results72 _ _ w.heap.size _ _ (0, 0) _ rfl (setRow_heap _ _ _ _ _ _ A6.out) Try.underlying35 rfl infoSv2) rfl ?_
    refine ⟨_, P, (xs ++ [(1, 1, zeroW)]), _, rfl, ⟨so5, sc5, by rw [List.length_append]; rfl, by rw [List.length_append]; exact hcap5, ?_⟩, by rw [List.length_append]; simp; omega, hr6.keep s9 (by omega) (fun j h => by omega), by omega, upd_mix U6 s9 (fun j h => .inr (by omega))⟩
    have r9 := ((R6.out.row (by omega)).keep s9 (fun j h1 h2 => by omega)).mono (T := fun k => w.heap.size ≤ k) (fun j _ h => by omega)
    simpa [ppcells, List.flatMap_append] using r9
  · have h1 : ((q : Int) == 0) = false := by simp; omega
    have h2 : ((q : Int) == 1) = false := by simp; omega
    have s9 := updRow w3 w.heap.size #[.int .i64 P, .slice so xs.length sc]
    go_wp2_with (first
      | (refine wpList_load_row rfl 35 (.tmp 3) rfl g rfl _ _ (0, 0) _ N3.out Try.underlying35 rfl infoSv2 ?_)
      | (refine wpList_store_row rfl 35 (.tmp 2) (.tmp 24) rfl w.heap.size #[.int .i64 P, .slice so xs.length sc] rfl rfl _ _ A3.out infoSv2 (show (2 : Nat) = 2 from rfl) (all_of_list rfl) ?_))
    refine bodyPost_ret (v := .agg #[.int .i64 P, .slice so xs.length sc]) (results_cell_row Try.results72 _ _ w.heap.size _ _ (0, 0) _ rfl (setRow_heap _ _ _ _ _ _ A3.out) Try.underlying35 rfl infoSv2) rfl ?_
    refine ⟨_, P, xs, _, rfl, ⟨so, sc, rfl, hcap, ?_⟩, by omega, hr3.keep s9 (by omega) (fun j h => by omega), by omega, upd_mix U3 s9 (fun j h => .inr (by omega))⟩
    exact ((R3.out.row (by omega)).keep s9 (fun j h1 h2 => by omega)).mono (fun j _ h => by omega)
end Go.Proofs.Ytiigcokbmggdkaa
