/- Contracts and plain facts that the claims of this seat lean on (texts XD2, XDP, XZ, OkLaw, Arg, ArgD, ArgB); no statement of the seat is proved here. -/
import Derived.Test.YtafojnjpllpjjaaPk14
import Derived.Test.YtafojnjpllpjjaaPk12
import Derived.Laws.BytesArg
import Derived.Test.YtafojnjpllpjjaaPk13
import Derived.Test.YtafojnjpllpjjaaPk1
import Derived.ProofKit
import Derived.OpenShut
import Derived.ShutString
import Derived.ChangeOld
import Derived.Below
import Derived.Lib.SmallJoins
import Derived.Deep.Strs
import Derived.Deep.SlicePairs
import Derived.ChangeSlices

/- A word that is drawn: contracts; no statement of the seat is proved here. -/
namespace Go.Proofs.Ytafojnjpllpjjaa
open Go.RowKit

theorem built34 (a0 a1 a2 a3 a4 a5 c0 c1 c2 c3 c4 c5 c6 c7 c8 c9 b0 b1 b2 b3 b4 b5 b6 b7 : Int) : Try.prog.built 34 [(0, .int .i64 a0), (1, .int .i64 a1), (2, .int .i64 a2), (3, .int .i64 a3), (4, .int .i64 a4), (5, .int .i64 a5), (6, .agg #[.int .i64 c0, .int .i64 c1, .int .i64 c2, .int .i64 c3, .int .i64 c4, .int .i64 c5, .int .i64 c6, .int .i64 c7, .int .i64 c8, .int .i64 c9]), (7, .int .i64 b0), (8, .int .i64 b1), (9, .int .i64 b2), (10, .int .i64 b3), (11, .int .i64 b4), (12, .int .i64 b5), (13, .int .i64 b6), (14, .int .i64 b7)] = some #[.int .i64 a0, .int .i64 a1, .int .i64 a2, .int .i64 a3, .int .i64 a4, .int .i64 a5, .int .i64 c0, .int .i64 c1, .int .i64 c2, .int .i64 c3, .int .i64 c4, .int .i64 c5, .int .i64 c6, .int .i64 c7, .int .i64 c8, .int .i64 c9, .int .i64 b0, .int .i64 b1, .int .i64 b2, .int .i64 b3, .int .i64 b4, .int .i64 b5, .int .i64 b6, .int .i64 b7, .slice none 0 0, .slice none 0 0] := by kernel_rfl
theorem wpList_built34 {ops : Array Oper} {rest : List Oper} {o : Oper} {a : Act} {w : World} {Q : Exit → Act → World → Prop} (a0 a1 a2 a3 a4 a5 c0 c1 c2 c3 c4 c5 c6 c7 c8 c9 b0 b1 b2 b3 b4 b5 b6 b7 : Int) (hg : o.guard = none) (parts : Array (Nat × Operand)) (ho : o.op = .build 34 parts)
    (hp : (parts.map fun (i, x) => (i, a.eval x)).toList = [(0, .int .i64 a0), (1, .int .i64 a1), (2, .int .i64 a2), (3, .int .i64 a3), (4, .int .i64 a4), (5, .int .i64 a5), (6, .agg #[.int .i64 c0, .int .i64 c1, .int .i64 c2, .int .i64 c3, .int .i64 c4, .int .i64 c5, .int .i64 c6, .int .i64 c7, .int .i64 c8, .int .i64 c9]), (7, .int .i64 b0), (8, .int .i64 b1), (9, .int .i64 b2), (10, .int .i64 b3), (11, .int .i64 b4), (12, .int .i64 b5), (13, .int .i64 b6), (14, .int .i64 b7)])
    (h : wpList Try.prog ops Q rest (a.put o.dst (.agg #[.int .i64 a0, .int .i64 a1, .int .i64 a2, .int .i64 a3, .int .i64 a4, .int .i64 a5, .int .i64 c0, .int .i64 c1, .int .i64 c2, .int .i64 c3, .int .i64 c4, .int .i64 c5, .int .i64 c6, .int .i64 c7, .int .i64 c8, .int .i64 c9, .int .i64 b0, .int .i64 b1, .int .i64 b2, .int .i64 b3, .int .i64 b4, .int .i64 b5, .int .i64 b6, .int .i64 b7, .slice none 0 0, .slice none 0 0])) w) : wpList Try.prog ops Q (o :: rest) a w :=
  wpList_build hg 34 parts ho (by rw [hp, built34]; rfl) (by rw [hp, built34]; exact h)

set_option maxRecDepth 100000 in
set_option maxHeartbeats 12000000 in
theorem l72Word_any (w0 w : World) (R p : Nat) (hr : Rd w0 w R p) (hp : p ≤ 700000) :
    Calls Try.prog 52 #[.pointer (some ⟨R, 0, none⟩)] w fun e w' => ∃ (v : Value) (x : Wd) (p' : Nat), e = .returned v ∧ WdO w' (fun k => w.heap.size ≤ k) v x ∧ x.ps.length ≤ 61 ∧ x.ls.length ≤ 61 ∧ Rd w0 w' R p' ∧ p' ≤ p + 4000 ∧ Upd (fun j => j = R) w w' := by
  obtain ⟨hRl, hR0, hw0⟩ := hr.lt
  have al0 := bal (Below.refl w.heap.size w) (.cells #[.int .i64 0, .int .i64 0, .int .i64 0, .int .i64 0, .int .i64 0, .int .i64 0, .int .i64 0, .int .i64 0, .int .i64 0, .int .i64 0, .int .i64 0, .int .i64 0, .int .i64 0, .int .i64 0, .int .i64 0, .int .i64 0, .int .i64 0, .int .i64 0, .int .i64 0, .int .i64 0, .int .i64 0, .int .i64 0, .int .i64 0, .int .i64 0, .slice none 0 0, .slice none 0 0] 34)
  have hr0 := hr.keepB al0
  have U0 : Upd (fun j => j = R) (w.alloc (.cells #[.int .i64 0, .int .i64 0, .int .i64 0, .int .i64 0, .int .i64 0, .int .i64 0, .int .i64 0, .int .i64 0, .int .i64 0, .int .i64 0, .int .i64 0, .int .i64 0, .int .i64 0, .int .i64 0, .int .i64 0, .int .i64 0, .int .i64 0, .int .i64 0, .int .i64 0, .int .i64 0, .int .i64 0, .int .i64 0, .int .i64 0, .int .i64 0, .slice none 0 0, .slice none 0 0] 34)) (w.alloc (.cells #[.int .i64 0, .int .i64 0, .int .i64 0, .int .i64 0, .int .i64 0, .int .i64 0, .int .i64 0, .int .i64 0, .int .i64 0, .int .i64 0, .int .i64 0, .int .i64 0, .int .i64 0, .int .i64 0, .int .i64 0, .int .i64 0, .int .i64 0, .int .i64 0, .int .i64 0, .int .i64 0, .int .i64 0, .int .i64 0, .int .i64 0, .int .i64 0, .slice none 0 0, .slice none 0 0] 34)) := Upd.refl _ _
  have G := hide (heap_alloc_new w (.cells #[.int .i64 0, .int .i64 0, .int .i64 0, .int .i64 0, .int .i64 0, .int .i64 0, .int .i64 0, .int .i64 0, .int .i64 0, .int .i64 0, .int .i64 0, .int .i64 0, .int .i64 0, .int .i64 0, .int .i64 0, .int .i64 0, .int .i64 0, .int .i64 0, .int .i64 0, .int .i64 0, .int .i64 0, .int .i64 0, .int .i64 0, .int .i64 0, .slice none 0 0, .slice none 0 0] 34))
  clear hr
  go_enter Try.func52, Try.ntmps52
  go_wp2_with fail
  refine (pick_any w0 _ R _ 15 hr0 (by omega) (by omega) (by omega)).mono ?_
  rintro e w1 ⟨q1, rfl, -, hr1, hu1⟩
  have U1 := U0.trans hu1
  clear hr0 hu1 U0
  go_wp2_with fail
  refine (pick_any w0 _ R _ 5 hr1 (by omega) (by omega) (by omega)).mono ?_
  rintro e w2 ⟨q2, rfl, -, hr2, hu2⟩
  have U2 := U1.trans hu2
  clear hr1 hu2 U1
  go_wp2_with fail
  refine (pick_any w0 _ R _ 5 hr2 (by omega) (by omega) (by omega)).mono ?_
  rintro e w3 ⟨q3, rfl, -, hr3, hu3⟩
  have U3 := U2.trans hu3
  clear hr2 hu3 U2
  go_wp2_with fail
  refine (pick_any w0 _ R _ 40 hr3 (by omega) (by omega) (by omega)).mono ?_
  rintro e w4 ⟨q4, rfl, -, hr4, hu4⟩
  have U4 := U3.trans hu4
  clear hr3 hu4 U3
  go_wp2_with fail
  refine (pick_any w0 _ R _ 4 hr4 (by omega) (by omega) (by omega)).mono ?_
  rintro e w5 ⟨q5, rfl, -, hr5, hu5⟩
  have U5 := U4.trans hu5
  clear hr4 hu5 U4
  go_wp2_with fail
  refine (pick_any w0 _ R _ 7 hr5 (by omega) (by omega) (by omega)).mono ?_
  rintro e w6 ⟨q6, rfl, -, hr6, hu6⟩
  have U6 := U5.trans hu6
  clear hr5 hu6 U5
  go_wp2_with fail
  refine (l72Cmd_any w0 _ R _ hr6 (by omega)).mono ?_
  rintro e w7 ⟨C, p7, rfl, hr7, hp7, hu7⟩
  have U7 := U6.trans hu7
  clear hr6 hu7 U6
  go_wp2_with fail
  refine (pick_any w0 _ R _ 3 hr7 (by omega) (by omega) (by omega)).mono ?_
  rintro e w8 ⟨q8, rfl, -, hr8, hu8⟩
  have U8 := U7.trans hu8
  clear hr7 hu8 U7
  go_wp2_with fail
  refine (pick_any w0 _ R _ 3 hr8 (by omega) (by omega) (by omega)).mono ?_
  rintro e w9 ⟨q9, rfl, -, hr9, hu9⟩
  have U9 := U8.trans hu9
  clear hr8 hu9 U8
  go_wp2_with fail
  refine (pick_any w0 _ R _ 4 hr9 (by omega) (by omega) (by omega)).mono ?_
  rintro e w10 ⟨q10, rfl, -, hr10, hu10⟩
  have U10 := U9.trans hu10
  clear hr9 hu10 U9
  go_wp2_with fail
  refine (pick_any w0 _ R _ 4 hr10 (by omega) (by omega) (by omega)).mono ?_
  rintro e w11 ⟨q11, rfl, -, hr11, hu11⟩
  have U11 := U10.trans hu11
  clear hr10 hu11 U10
  go_wp2_with fail
  refine (pick_any w0 _ R _ 2 hr11 (by omega) (by omega) (by omega)).mono ?_
  rintro e w12 ⟨q12, rfl, -, hr12, hu12⟩
  have U12 := U11.trans hu12
  clear hr11 hu12 U11
  go_wp2_with fail
  refine (pick_any w0 _ R _ 3 hr12 (by omega) (by omega) (by omega)).mono ?_
  rintro e w13 ⟨q13, rfl, -, hr13, hu13⟩
  have U13 := U12.trans hu13
  clear hr12 hu13 U12
  go_wp2_with fail
  refine (pick_any w0 _ R _ 3 hr13 (by omega) (by omega) (by omega)).mono ?_
  rintro e w14 ⟨q14, rfl, -, hr14, hu14⟩
  have U14 := U13.trans hu14
  clear hr13 hu14 U13
  go_wp2_with fail
  refine (l72Num_any w0 _ R _ hr14 (by omega)).mono ?_
  rintro e w15 ⟨z15, rfl, hr15, hu15⟩
  have U15 := U14.trans hu15
  clear hr14 hu15 U14
  have G0 := hide (U15.keeps G.out (by omega))
  have z15s := U15.size
  simp only [World.size_alloc] at z15s
  have UU := hide ((Upd.ofBelow al0).trans U15)
  have hRl15 := hr15.lt.1
  clear G U15 al0
  go_wp2_with (first
    | (refine wpList_built34 (wrap64 (1 + (q1 : Int))) (q2 : Int) (q3 : Int) (wrap64 (1 + (q4 : Int))) (wrap64 (1 + (q5 : Int))) (q6 : Int) C.c0 C.c1 C.c2 C.c3 C.c4 C.c5 C.c6 C.c7 C.c8 C.c9 (q8 : Int) (wrap64 (1 + (q9 : Int))) (q10 : Int) (wrap64 (1 + (q11 : Int))) (wrap64 (1 + (q12 : Int))) (q13 : Int) (q14 : Int) z15 rfl _ rfl ?hp ?_; (case hp => ((conv => lhs; simp only [List.map_toArray, List.map_cons, List.map_nil]); rfl)))
    | (refine wpList_store_row rfl 34 (.tmp 3) (.tmp 40) rfl w15.heap.size _ rfl rfl _ _ (heap_alloc_new w15 _) infoWd (show (26 : Nat) = 26 from rfl) (all_of_list rfl) ?_; rw [World.setRow_alloc_new]))
  generalize hW : World.alloc _ _ = W
  have K1 : ∃ x : Wd, x.ps = [] ∧ x.ls = [] ∧ W.heap[w15.heap.size]? = some (.cells (#[.int .i64 x.a0, .int .i64 x.a1, .int .i64 x.a2, .int .i64 x.a3, .int .i64 x.a4, .int .i64 x.a5, .int .i64 x.c0, .int .i64 x.c1, .int .i64 x.c2, .int .i64 x.c3, .int .i64 x.c4, .int .i64 x.c5, .int .i64 x.c6, .int .i64 x.c7, .int .i64 x.c8, .int .i64 x.c9, .int .i64 x.b0, .int .i64 x.b1, .int .i64 x.b2, .int .i64 x.b3, .int .i64 x.b4, .int .i64 x.b5, .int .i64 x.b6, .int .i64 x.b7, .slice none 0 0, .slice none 0 0] : Array Value) 34 (0, 0)) := by
    rw [← hW]
    exact ⟨⟨_, _, _, _, _, _, _, _, _, _, _, _, _, _, _, _, _, _, _, _, _, _, _, _, [], []⟩, rfl, rfl, heap_alloc_new w15 _⟩
  have alc : Below w15.heap.size w15 W := by rw [← hW]; exact bal (Below.refl _ _) _
  have zW : W.heap.size = w15.heap.size + 1 := by rw [← hW]; simp
  clear hW
  generalize Value.agg _ = A0
  obtain ⟨x, hxp, hxl, K1⟩ := K1
  have HXp := hide hxp
  have HXl := hide hxl
  have HK1 := hide K1
  have K0 := hide (bKeeps alc G0.out)
  have hrc := hr15.keepB alc
  refine (pick_any w0 _ R _ 3 hrc (by omega) (by omega) (by omega)).mono ?_
  rintro e w16 ⟨q16, rfl, hq16, hr16, hu16⟩
  have L0 := hide (hu16.keeps K0.out (by omega))
  have L1 := hide (hu16.keeps HK1.out (by omega))
  have U16 := hide ((UU.out.trans (Upd.ofBelow alc)).trans hu16)
  have hz16 := hu16.size
  clear hr15 G0 K0 K1 HK1 hrc alc hu16 UU hxp hxl
  by_cases h16 : q16 = 0
  · subst h16
    go_wp2_with fail
    refine (l72PiecesAny_any w0 _ R _ hr16 (by omega)).mono ?_
    rintro e w17 ⟨v17, ps, p17, rfl, row17, hl17, hr17, hp17, hu17⟩
    obtain ⟨po, pc, rfl, -⟩ := row17.room
    have M0 := hide (hu17.keeps L0.out (by omega))
    have M1 := hide (hu17.keeps L1.out (by omega))
    have c0 : w17.cell? ⟨w15.heap.size, 24, none⟩ = some (.slice none 0 0) := boxAt M1.out 24
    have c1 : w17.frozen? ⟨w15.heap.size, 24, none⟩ = false := boxFz M1.out 24
    have us := Upd.setCell (S := fun j => j = w15.heap.size) w17 w15.heap.size 24 (.slice po ps.length pc) rfl
    have N0 := hide (us.keeps M0.out (by omega))
    have N1 : Hid ((w17.setCell ⟨w15.heap.size, 24, none⟩ (.slice po ps.length pc)).heap[w15.heap.size]? = some (.cells (#[.int .i64 x.a0, .int .i64 x.a1, .int .i64 x.a2, .int .i64 x.a3, .int .i64 x.a4, .int .i64 x.a5, .int .i64 x.c0, .int .i64 x.c1, .int .i64 x.c2, .int .i64 x.c3, .int .i64 x.c4, .int .i64 x.c5, .int .i64 x.c6, .int .i64 x.c7, .int .i64 x.c8, .int .i64 x.c9, .int .i64 x.b0, .int .i64 x.b1, .int .i64 x.b2, .int .i64 x.b3, .int .i64 x.b4, .int .i64 x.b5, .int .i64 x.b6, .int .i64 x.b7, .slice po ps.length pc, .slice none 0 0] : Array Value) 34 (0, 0))) := row_set _ M1.out
    have RP := hide (RowA.keepTy8 (row17.base (b' := w.heap.size) (by omega)) us (fun k h1 h2 => by subst h2; exact typed_box M1.out (by decide) rfl h1))
    have hrN := hr17.keep us (by omega) (fun k h => by omega)
    have UN := hide ((U16.out.trans hu17).transN us (fun k h => by omega))
    have hz17 := hu17.size
    clear L0 L1 U16 hr16 hu17 row17 M0 M1
    go_wp2_with fail
    clear c0 c1
    generalize w17.setCell ⟨w15.heap.size, 24, none⟩ (.slice po ps.length pc) = V at us N0 N1 RP hrN UN ⊢
    have hzV := us.size
    refine (l72Last_any w0 _ R _ hrN (by omega)).mono ?_
    rintro e w18 ⟨v18, ls, p18, rfl, row18, hl18, hr18, hp18, hu18⟩
    obtain ⟨lo, lc, rfl, -⟩ := row18.room
    have M0 := hide (hu18.keeps N0.out (by omega))
    have M1 := hide (hu18.keeps N1.out (by omega))
    have c0 : w18.cell? ⟨w15.heap.size, 25, none⟩ = some (.slice none 0 0) := boxAt M1.out 25
    have c1 : w18.frozen? ⟨w15.heap.size, 25, none⟩ = false := boxFz M1.out 25
    have ut := Upd.setCell (S := fun j => j = w15.heap.size) w18 w15.heap.size 25 (.slice lo ls.length lc) rfl
    have T0 := hide (ut.keeps M0.out (by omega))
    have T1 : Hid ((w18.setCell ⟨w15.heap.size, 25, none⟩ (.slice lo ls.length lc)).heap[w15.heap.size]? = some (.cells (#[.int .i64 x.a0, .int .i64 x.a1, .int .i64 x.a2, .int .i64 x.a3, .int .i64 x.a4, .int .i64 x.a5, .int .i64 x.c0, .int .i64 x.c1, .int .i64 x.c2, .int .i64 x.c3, .int .i64 x.c4, .int .i64 x.c5, .int .i64 x.c6, .int .i64 x.c7, .int .i64 x.c8, .int .i64 x.c9, .int .i64 x.b0, .int .i64 x.b1, .int .i64 x.b2, .int .i64 x.b3, .int .i64 x.b4, .int .i64 x.b5, .int .i64 x.b6, .int .i64 x.b7, .slice po ps.length pc, .slice lo ls.length lc] : Array Value) 34 (0, 0))) := row_set _ M1.out
    have RP2 := hide (RowA.keepTy8 (RowA.keepTy8 RP.out hu18 (fun k h1 h2 => by have := h1.1; omega)) ut (fun k h1 h2 => by subst h2; exact typed_box M1.out (by decide) rfl h1))
    have RL2 := hide (RowA.keepTy8 (row18.base (b' := w.heap.size) (by omega)) ut (fun k h1 h2 => by subst h2; exact typed_box M1.out (by decide) rfl h1))
    have hrT := hr18.keep ut (by omega) (fun k h => by omega)
    have UT := hide ((UN.out.trans hu18).transN ut (fun k h => by omega))
    have hz18 := hu18.size
    clear us N0 N1 RP hrN UN hu18 row18 M0 M1
    go_wp2_with fail
    clear c0 c1
    generalize w18.setCell ⟨w15.heap.size, 25, none⟩ (.slice lo ls.length lc) = Y at ut T0 T1 RP2 RL2 hrT UT ⊢
    have hzY := ut.size
    obtain ⟨y, hy⟩ : ∃ y : Wd, y = { x with ps := ps, ls := ls } := ⟨_, rfl⟩
    have T1' : Hid (Y.heap[w15.heap.size]? = some (.cells (#[.int .i64 y.a0, .int .i64 y.a1, .int .i64 y.a2, .int .i64 y.a3, .int .i64 y.a4, .int .i64 y.a5, .int .i64 y.c0, .int .i64 y.c1, .int .i64 y.c2, .int .i64 y.c3, .int .i64 y.c4, .int .i64 y.c5, .int .i64 y.c6, .int .i64 y.c7, .int .i64 y.c8, .int .i64 y.c9, .int .i64 y.b0, .int .i64 y.b1, .int .i64 y.b2, .int .i64 y.b3, .int .i64 y.b4, .int .i64 y.b5, .int .i64 y.b6, .int .i64 y.b7, .slice po y.ps.length pc, .slice lo y.ls.length lc] : Array Value) 34 (0, 0))) := by rw [hy]; exact T1.out
    have RP' : Hid (RowA Y w.heap.size 83 4 (.slice po y.ps.length pc) y.ps.length (pcells y.ps)) := by rw [hy]; exact RP2.out
    have RL' : Hid (RowA Y w.heap.size 86 2 (.slice lo y.ls.length lc) y.ls.length (lcells y.ls)) := by rw [hy]; exact RL2.out
    have hyp : y.ps.length ≤ 61 := by rw [hy]; exact hl17
    have hyl : y.ls.length ≤ 61 := by rw [hy]; exact hl18
    have hpp : p18 ≤ p + 3990 := by omega
    have hzz : w15.heap.size < Y.heap.size := by omega
    clear hy T1 RP2 RL2 ut hl17 hl18
    refine (pick_any w0 _ R _ 20 hrT (by omega) (by omega) (by omega)).mono ?_
    rintro e w21 ⟨q21, rfl, hq21, hr21, hu21⟩
    have P0 := hide (hu21.keeps T0.out (by omega))
    have P1 := hide (hu21.keeps T1'.out (by omega))
    have PP := hide (RowA.keepTy8 RP'.out hu21 (fun k h1 h2 => by have := h1.1; omega))
    have PL := hide (RowA.keepTy8 RL'.out hu21 (fun k h1 h2 => by have := h1.1; omega))
    have U21 := hide (UT.out.trans hu21)
    have hz21 := hu21.size
    clear T0 T1' RP' RL' UT hrT hu21
    rcases (by omega : q21 = 0 ∨ q21 = 1 ∨ q21 = 2 ∨ q21 = 3 ∨ 4 ≤ q21) with h | h | h | h | h
    · subst h
      have al := bal (Below.refl w21.heap.size w21) (.cells #[.int .i64 (-1), .int .i64 5, .int .i64 100, .int .i64 103, .int .i64 104] 3)
      have LA := hide (litAt w21 [(-1), 5, 100, 103, 104] 3)
      have hr21a := hr21.keepB al
      go_wp2_with fail
      refine (pick_any w0 _ R _ 5 hr21a (by omega) (by omega) (by omega)).mono ?_
      rintro e w22 ⟨q22, rfl, hq22, hr22, hu22⟩
      obtain ⟨z, hz⟩ := LA.out q22 hq22
      have f0 : w22.cell? ⟨w21.heap.size, q22, none⟩ = some (.int .i64 z) := updCell hu22 hz (by omega)
      have hi : (q22 : Int) < 5 := by omega
      have N0 := hide (hu22.keeps (bKeeps al P0.out) (by omega))
      have N1 := hide (hu22.keeps (bKeeps al P1.out) (by omega))
      have NP := hide (RowA.keepTy8 (PP.out.keepB al) hu22 (fun k h1 h2 => by have := h1.1; omega))
      have NL := hide (RowA.keepTy8 (PL.out.keepB al) hu22 (fun k h1 h2 => by have := h1.1; omega))
      have U22 := hide ((U21.out.trans (Upd.ofBelow al)).trans hu22)
      have hz22 := hu22.size
      simp only [World.size_alloc] at hz22
      clear P0 P1 PP PL U21 hr21 hr21a hu22 al LA hz
      obtain ⟨u, hu⟩ : ∃ u : Wd, u = { y with a1 := z } := ⟨_, rfl⟩
      have us := Upd.setCell (S := fun j => j = w15.heap.size) w22 w15.heap.size 1 (.int .i64 z) rfl
      have M0 := hide (us.keeps N0.out (by omega))
      have M1 : Hid ((w22.setCell ⟨w15.heap.size, 1, none⟩ (.int .i64 z)).heap[w15.heap.size]? = some (.cells (#[.int .i64 u.a0, .int .i64 u.a1, .int .i64 u.a2, .int .i64 u.a3, .int .i64 u.a4, .int .i64 u.a5, .int .i64 u.c0, .int .i64 u.c1, .int .i64 u.c2, .int .i64 u.c3, .int .i64 u.c4, .int .i64 u.c5, .int .i64 u.c6, .int .i64 u.c7, .int .i64 u.c8, .int .i64 u.c9, .int .i64 u.b0, .int .i64 u.b1, .int .i64 u.b2, .int .i64 u.b3, .int .i64 u.b4, .int .i64 u.b5, .int .i64 u.b6, .int .i64 u.b7, .slice po u.ps.length pc, .slice lo u.ls.length lc] : Array Value) 34 (0, 0))) := by rw [hu]; exact row_set _ N1.out
      have RPu : Hid (RowA (w22.setCell ⟨w15.heap.size, 1, none⟩ (.int .i64 z)) w.heap.size 83 4 (.slice po u.ps.length pc) u.ps.length (pcells u.ps)) := by rw [hu]; exact RowA.keepTy8 NP.out us (fun k h1 h2 => by subst h2; exact typed_box N1.out (by decide) rfl h1)
      have RLu : Hid (RowA (w22.setCell ⟨w15.heap.size, 1, none⟩ (.int .i64 z)) w.heap.size 86 2 (.slice lo u.ls.length lc) u.ls.length (lcells u.ls)) := by rw [hu]; exact RowA.keepTy8 NL.out us (fun k h1 h2 => by subst h2; exact typed_box N1.out (by decide) rfl h1)
      have hup : u.ps.length ≤ 61 := by rw [hu]; exact hyp
      have hul : u.ls.length ≤ 61 := by rw [hu]; exact hyl
      have c0 : w22.cell? ⟨w15.heap.size, 1, none⟩ = some (.int .i64 y.a1) := boxAt N1.out 1
      have c1 : w22.frozen? ⟨w15.heap.size, 1, none⟩ = false := boxFz N1.out 1
      have hrF := hr22.keep us (by omega) (fun k h => by omega)
      have UF := hide (U22.out.transN us (fun k h => by omega))
      clear hu N0 N1 NP NL U22 us hr22
      have H1s := hide (all_of_list (List.all_eq_true.2 (wd_one u po lo u.ps.length pc u.ls.length lc)))
      go_wp2_with (first | (refine wpList_load_row rfl 34 (.tmp 3) rfl w15.heap.size rfl _ _ (0, 0) _ M1.out Try.underlying34 rfl infoWd ?_) | (refine wpList_store_row rfl 34 (.tmp 2) (.tmp 84) rfl w.heap.size _ rfl rfl _ _ M0.out infoWd rfl H1s.out ?_))
      refine bodyPost_ret (v := .agg #[.int .i64 u.a0, .int .i64 u.a1, .int .i64 u.a2, .int .i64 u.a3, .int .i64 u.a4, .int .i64 u.a5, .int .i64 u.c0, .int .i64 u.c1, .int .i64 u.c2, .int .i64 u.c3, .int .i64 u.c4, .int .i64 u.c5, .int .i64 u.c6, .int .i64 u.c7, .int .i64 u.c8, .int .i64 u.c9, .int .i64 u.b0, .int .i64 u.b1, .int .i64 u.b2, .int .i64 u.b3, .int .i64 u.b4, .int .i64 u.b5, .int .i64 u.b6, .int .i64 u.b7, .slice po u.ps.length pc, .slice lo u.ls.length lc]) (results_cell_row Try.results52 _ _ w.heap.size _ _ (0, 0) _ rfl (setRow_heap _ _ _ _ _ _ M0.out) Try.underlying34 rfl infoWd) rfl ?_
      have u6 : Upd (fun j => j = w.heap.size) (w22.setCell ⟨w15.heap.size, 1, none⟩ (.int .i64 z)) ((w22.setCell ⟨w15.heap.size, 1, none⟩ (.int .i64 z)).setRow w.heap.size (#[.int .i64 u.a0, .int .i64 u.a1, .int .i64 u.a2, .int .i64 u.a3, .int .i64 u.a4, .int .i64 u.a5, .int .i64 u.c0, .int .i64 u.c1, .int .i64 u.c2, .int .i64 u.c3, .int .i64 u.c4, .int .i64 u.c5, .int .i64 u.c6, .int .i64 u.c7, .int .i64 u.c8, .int .i64 u.c9, .int .i64 u.b0, .int .i64 u.b1, .int .i64 u.b2, .int .i64 u.b3, .int .i64 u.b4, .int .i64 u.b5, .int .i64 u.b6, .int .i64 u.b7, .slice po u.ps.length pc, .slice lo u.ls.length lc] : Array Value)) := ⟨rfl, rfl, rfl, by simp, fun k _ h => setRow_other _ _ _ _ h⟩
      refine ⟨_, u, _, rfl, ⟨po, pc, lo, lc, rfl, ?_, ?_⟩, hup, hul, hrF.keep u6 (by omega) (fun k h => by omega), by omega, UF.out.transN u6 (fun k h => by omega)⟩
      · exact ((RowA.keepTy8 RPu.out u6 (fun k h1 h2 => by subst h2; exact typed_box M0.out (by decide) rfl h1)).row (by omega))
      · exact ((RowA.keepTy8 RLu.out u6 (fun k h1 h2 => by subst h2; exact typed_box M0.out (by decide) rfl h1)).row (by omega))
    · subst h
      have al := bal (Below.refl w21.heap.size w21) (.cells #[.int .i64 0, .int .i64 (-1), .int .i64 (-2), .int .i64 60, .int .i64 61] 3)
      have LA := hide (litAt w21 [0, (-1), (-2), 60, 61] 3)
      have hr21a := hr21.keepB al
      go_wp2_with fail
      refine (pick_any w0 _ R _ 5 hr21a (by omega) (by omega) (by omega)).mono ?_
      rintro e w22 ⟨q22, rfl, hq22, hr22, hu22⟩
      obtain ⟨z, hz⟩ := LA.out q22 hq22
      have f0 : w22.cell? ⟨w21.heap.size, q22, none⟩ = some (.int .i64 z) := updCell hu22 hz (by omega)
      have hi : (q22 : Int) < 5 := by omega
      have N0 := hide (hu22.keeps (bKeeps al P0.out) (by omega))
      have N1 := hide (hu22.keeps (bKeeps al P1.out) (by omega))
      have NP := hide (RowA.keepTy8 (PP.out.keepB al) hu22 (fun k h1 h2 => by have := h1.1; omega))
      have NL := hide (RowA.keepTy8 (PL.out.keepB al) hu22 (fun k h1 h2 => by have := h1.1; omega))
      have U22 := hide ((U21.out.trans (Upd.ofBelow al)).trans hu22)
      have hz22 := hu22.size
      simp only [World.size_alloc] at hz22
      clear P0 P1 PP PL U21 hr21 hr21a hu22 al LA hz
      obtain ⟨u, hu⟩ : ∃ u : Wd, u = { y with a4 := z } := ⟨_, rfl⟩
      have us := Upd.setCell (S := fun j => j = w15.heap.size) w22 w15.heap.size 4 (.int .i64 z) rfl
      have M0 := hide (us.keeps N0.out (by omega))
      have M1 : Hid ((w22.setCell ⟨w15.heap.size, 4, none⟩ (.int .i64 z)).heap[w15.heap.size]? = some (.cells (#[.int .i64 u.a0, .int .i64 u.a1, .int .i64 u.a2, .int .i64 u.a3, .int .i64 u.a4, .int .i64 u.a5, .int .i64 u.c0, .int .i64 u.c1, .int .i64 u.c2, .int .i64 u.c3, .int .i64 u.c4, .int .i64 u.c5, .int .i64 u.c6, .int .i64 u.c7, .int .i64 u.c8, .int .i64 u.c9, .int .i64 u.b0, .int .i64 u.b1, .int .i64 u.b2, .int .i64 u.b3, .int .i64 u.b4, .int .i64 u.b5, .int .i64 u.b6, .int .i64 u.b7, .slice po u.ps.length pc, .slice lo u.ls.length lc] : Array Value) 34 (0, 0))) := by rw [hu]; exact row_set _ N1.out
      have RPu : Hid (RowA (w22.setCell ⟨w15.heap.size, 4, none⟩ (.int .i64 z)) w.heap.size 83 4 (.slice po u.ps.length pc) u.ps.length (pcells u.ps)) := by rw [hu]; exact RowA.keepTy8 NP.out us (fun k h1 h2 => by subst h2; exact typed_box N1.out (by decide) rfl h1)
      have RLu : Hid (RowA (w22.setCell ⟨w15.heap.size, 4, none⟩ (.int .i64 z)) w.heap.size 86 2 (.slice lo u.ls.length lc) u.ls.length (lcells u.ls)) := by rw [hu]; exact RowA.keepTy8 NL.out us (fun k h1 h2 => by subst h2; exact typed_box N1.out (by decide) rfl h1)
      have hup : u.ps.length ≤ 61 := by rw [hu]; exact hyp
      have hul : u.ls.length ≤ 61 := by rw [hu]; exact hyl
      have c0 : w22.cell? ⟨w15.heap.size, 4, none⟩ = some (.int .i64 y.a4) := boxAt N1.out 4
      have c1 : w22.frozen? ⟨w15.heap.size, 4, none⟩ = false := boxFz N1.out 4
      have hrF := hr22.keep us (by omega) (fun k h => by omega)
      have UF := hide (U22.out.transN us (fun k h => by omega))
      clear hu N0 N1 NP NL U22 us hr22
      have H1s := hide (all_of_list (List.all_eq_true.2 (wd_one u po lo u.ps.length pc u.ls.length lc)))
      go_wp2_with (first | (refine wpList_load_row rfl 34 (.tmp 3) rfl w15.heap.size rfl _ _ (0, 0) _ M1.out Try.underlying34 rfl infoWd ?_) | (refine wpList_store_row rfl 34 (.tmp 2) (.tmp 84) rfl w.heap.size _ rfl rfl _ _ M0.out infoWd rfl H1s.out ?_))
      refine bodyPost_ret (v := .agg #[.int .i64 u.a0, .int .i64 u.a1, .int .i64 u.a2, .int .i64 u.a3, .int .i64 u.a4, .int .i64 u.a5, .int .i64 u.c0, .int .i64 u.c1, .int .i64 u.c2, .int .i64 u.c3, .int .i64 u.c4, .int .i64 u.c5, .int .i64 u.c6, .int .i64 u.c7, .int .i64 u.c8, .int .i64 u.c9, .int .i64 u.b0, .int .i64 u.b1, .int .i64 u.b2, .int .i64 u.b3, .int .i64 u.b4, .int .i64 u.b5, .int .i64 u.b6, .int .i64 u.b7, .slice po u.ps.length pc, .slice lo u.ls.length lc]) (results_cell_row Try.results52 _ _ w.heap.size _ _ (0, 0) _ rfl (setRow_heap _ _ _ _ _ _ M0.out) Try.underlying34 rfl infoWd) rfl ?_
      have u6 : Upd (fun j => j = w.heap.size) (w22.setCell ⟨w15.heap.size, 4, none⟩ (.int .i64 z)) ((w22.setCell ⟨w15.heap.size, 4, none⟩ (.int .i64 z)).setRow w.heap.size (#[.int .i64 u.a0, .int .i64 u.a1, .int .i64 u.a2, .int .i64 u.a3, .int .i64 u.a4, .int .i64 u.a5, .int .i64 u.c0, .int .i64 u.c1, .int .i64 u.c2, .int .i64 u.c3, .int .i64 u.c4, .int .i64 u.c5, .int .i64 u.c6, .int .i64 u.c7, .int .i64 u.c8, .int .i64 u.c9, .int .i64 u.b0, .int .i64 u.b1, .int .i64 u.b2, .int .i64 u.b3, .int .i64 u.b4, .int .i64 u.b5, .int .i64 u.b6, .int .i64 u.b7, .slice po u.ps.length pc, .slice lo u.ls.length lc] : Array Value)) := ⟨rfl, rfl, rfl, by simp, fun k _ h => setRow_other _ _ _ _ h⟩
      refine ⟨_, u, _, rfl, ⟨po, pc, lo, lc, rfl, ?_, ?_⟩, hup, hul, hrF.keep u6 (by omega) (fun k h => by omega), by omega, UF.out.transN u6 (fun k h => by omega)⟩
      · exact ((RowA.keepTy8 RPu.out u6 (fun k h1 h2 => by subst h2; exact typed_box M0.out (by decide) rfl h1)).row (by omega))
      · exact ((RowA.keepTy8 RLu.out u6 (fun k h1 h2 => by subst h2; exact typed_box M0.out (by decide) rfl h1)).row (by omega))
    · subst h
      have al := bal (Below.refl w21.heap.size w21) (.cells #[.int .i64 0, .int .i64 (-1), .int .i64 99999, .int .i64 100000] 3)
      have LA := hide (litAt w21 [0, (-1), 99999, 100000] 3)
      have hr21a := hr21.keepB al
      go_wp2_with fail
      refine (pick_any w0 _ R _ 4 hr21a (by omega) (by omega) (by omega)).mono ?_
      rintro e w22 ⟨q22, rfl, hq22, hr22, hu22⟩
      obtain ⟨z, hz⟩ := LA.out q22 hq22
      have f0 : w22.cell? ⟨w21.heap.size, q22, none⟩ = some (.int .i64 z) := updCell hu22 hz (by omega)
      have hi : (q22 : Int) < 4 := by omega
      have N0 := hide (hu22.keeps (bKeeps al P0.out) (by omega))
      have N1 := hide (hu22.keeps (bKeeps al P1.out) (by omega))
      have NP := hide (RowA.keepTy8 (PP.out.keepB al) hu22 (fun k h1 h2 => by have := h1.1; omega))
      have NL := hide (RowA.keepTy8 (PL.out.keepB al) hu22 (fun k h1 h2 => by have := h1.1; omega))
      have U22 := hide ((U21.out.trans (Upd.ofBelow al)).trans hu22)
      have hz22 := hu22.size
      simp only [World.size_alloc] at hz22
      clear P0 P1 PP PL U21 hr21 hr21a hu22 al LA hz
      obtain ⟨u, hu⟩ : ∃ u : Wd, u = { y with a3 := z } := ⟨_, rfl⟩
      have us := Upd.setCell (S := fun j => j = w15.heap.size) w22 w15.heap.size 3 (.int .i64 z) rfl
      have M0 := hide (us.keeps N0.out (by omega))
      have M1 : Hid ((w22.setCell ⟨w15.heap.size, 3, none⟩ (.int .i64 z)).heap[w15.heap.size]? = some (.cells (#[.int .i64 u.a0, .int .i64 u.a1, .int .i64 u.a2, .int .i64 u.a3, .int .i64 u.a4, .int .i64 u.a5, .int .i64 u.c0, .int .i64 u.c1, .int .i64 u.c2, .int .i64 u.c3, .int .i64 u.c4, .int .i64 u.c5, .int .i64 u.c6, .int .i64 u.c7, .int .i64 u.c8, .int .i64 u.c9, .int .i64 u.b0, .int .i64 u.b1, .int .i64 u.b2, .int .i64 u.b3, .int .i64 u.b4, .int .i64 u.b5, .int .i64 u.b6, .int .i64 u.b7, .slice po u.ps.length pc, .slice lo u.ls.length lc] : Array Value) 34 (0, 0))) := by rw [hu]; exact row_set _ N1.out
      have RPu : Hid (RowA (w22.setCell ⟨w15.heap.size, 3, none⟩ (.int .i64 z)) w.heap.size 83 4 (.slice po u.ps.length pc) u.ps.length (pcells u.ps)) := by rw [hu]; exact RowA.keepTy8 NP.out us (fun k h1 h2 => by subst h2; exact typed_box N1.out (by decide) rfl h1)
      have RLu : Hid (RowA (w22.setCell ⟨w15.heap.size, 3, none⟩ (.int .i64 z)) w.heap.size 86 2 (.slice lo u.ls.length lc) u.ls.length (lcells u.ls)) := by rw [hu]; exact RowA.keepTy8 NL.out us (fun k h1 h2 => by subst h2; exact typed_box N1.out (by decide) rfl h1)
      have hup : u.ps.length ≤ 61 := by rw [hu]; exact hyp
      have hul : u.ls.length ≤ 61 := by rw [hu]; exact hyl
      have c0 : w22.cell? ⟨w15.heap.size, 3, none⟩ = some (.int .i64 y.a3) := boxAt N1.out 3
      have c1 : w22.frozen? ⟨w15.heap.size, 3, none⟩ = false := boxFz N1.out 3
      have hrF := hr22.keep us (by omega) (fun k h => by omega)
      have UF := hide (U22.out.transN us (fun k h => by omega))
      clear hu N0 N1 NP NL U22 us hr22
      have H1s := hide (all_of_list (List.all_eq_true.2 (wd_one u po lo u.ps.length pc u.ls.length lc)))
      go_wp2_with (first | (refine wpList_load_row rfl 34 (.tmp 3) rfl w15.heap.size rfl _ _ (0, 0) _ M1.out Try.underlying34 rfl infoWd ?_) | (refine wpList_store_row rfl 34 (.tmp 2) (.tmp 84) rfl w.heap.size _ rfl rfl _ _ M0.out infoWd rfl H1s.out ?_))
      refine bodyPost_ret (v := .agg #[.int .i64 u.a0, .int .i64 u.a1, .int .i64 u.a2, .int .i64 u.a3, .int .i64 u.a4, .int .i64 u.a5, .int .i64 u.c0, .int .i64 u.c1, .int .i64 u.c2, .int .i64 u.c3, .int .i64 u.c4, .int .i64 u.c5, .int .i64 u.c6, .int .i64 u.c7, .int .i64 u.c8, .int .i64 u.c9, .int .i64 u.b0, .int .i64 u.b1, .int .i64 u.b2, .int .i64 u.b3, .int .i64 u.b4, .int .i64 u.b5, .int .i64 u.b6, .int .i64 u.b7, .slice po u.ps.length pc, .slice lo u.ls.length lc]) (results_cell_row Try.results52 _ _ w.heap.size _ _ (0, 0) _ rfl (setRow_heap _ _ _ _ _ _ M0.out) Try.underlying34 rfl infoWd) rfl ?_
      have u6 : Upd (fun j => j = w.heap.size) (w22.setCell ⟨w15.heap.size, 3, none⟩ (.int .i64 z)) ((w22.setCell ⟨w15.heap.size, 3, none⟩ (.int .i64 z)).setRow w.heap.size (#[.int .i64 u.a0, .int .i64 u.a1, .int .i64 u.a2, .int .i64 u.a3, .int .i64 u.a4, .int .i64 u.a5, .int .i64 u.c0, .int .i64 u.c1, .int .i64 u.c2, .int .i64 u.c3, .int .i64 u.c4, .int .i64 u.c5, .int .i64 u.c6, .int .i64 u.c7, .int .i64 u.c8, .int .i64 u.c9, .int .i64 u.b0, .int .i64 u.b1, .int .i64 u.b2, .int .i64 u.b3, .int .i64 u.b4, .int .i64 u.b5, .int .i64 u.b6, .int .i64 u.b7, .slice po u.ps.length pc, .slice lo u.ls.length lc] : Array Value)) := ⟨rfl, rfl, rfl, by simp, fun k _ h => setRow_other _ _ _ _ h⟩
      refine ⟨_, u, _, rfl, ⟨po, pc, lo, lc, rfl, ?_, ?_⟩, hup, hul, hrF.keep u6 (by omega) (fun k h => by omega), by omega, UF.out.transN u6 (fun k h => by omega)⟩
      · exact ((RowA.keepTy8 RPu.out u6 (fun k h1 h2 => by subst h2; exact typed_box M0.out (by decide) rfl h1)).row (by omega))
      · exact ((RowA.keepTy8 RLu.out u6 (fun k h1 h2 => by subst h2; exact typed_box M0.out (by decide) rfl h1)).row (by omega))
    · subst h
      have al := bal (Below.refl w21.heap.size w21) (.cells #[.int .i64 0, .int .i64 16] 3)
      have LA := hide (litAt w21 [0, 16] 3)
      have hr21a := hr21.keepB al
      go_wp2_with fail
      refine (pick_any w0 _ R _ 2 hr21a (by omega) (by omega) (by omega)).mono ?_
      rintro e w22 ⟨q22, rfl, hq22, hr22, hu22⟩
      obtain ⟨z, hz⟩ := LA.out q22 hq22
      have f0 : w22.cell? ⟨w21.heap.size, q22, none⟩ = some (.int .i64 z) := updCell hu22 hz (by omega)
      have hi : (q22 : Int) < 2 := by omega
      have N0 := hide (hu22.keeps (bKeeps al P0.out) (by omega))
      have N1 := hide (hu22.keeps (bKeeps al P1.out) (by omega))
      have NP := hide (RowA.keepTy8 (PP.out.keepB al) hu22 (fun k h1 h2 => by have := h1.1; omega))
      have NL := hide (RowA.keepTy8 (PL.out.keepB al) hu22 (fun k h1 h2 => by have := h1.1; omega))
      have U22 := hide ((U21.out.trans (Upd.ofBelow al)).trans hu22)
      have hz22 := hu22.size
      simp only [World.size_alloc] at hz22
      clear P0 P1 PP PL U21 hr21 hr21a hu22 al LA hz
      obtain ⟨u, hu⟩ : ∃ u : Wd, u = { y with a0 := z } := ⟨_, rfl⟩
      have us := Upd.setCell (S := fun j => j = w15.heap.size) w22 w15.heap.size 0 (.int .i64 z) rfl
      have M0 := hide (us.keeps N0.out (by omega))
      have M1 : Hid ((w22.setCell ⟨w15.heap.size, 0, none⟩ (.int .i64 z)).heap[w15.heap.size]? = some (.cells (#[.int .i64 u.a0, .int .i64 u.a1, .int .i64 u.a2, .int .i64 u.a3, .int .i64 u.a4, .int .i64 u.a5, .int .i64 u.c0, .int .i64 u.c1, .int .i64 u.c2, .int .i64 u.c3, .int .i64 u.c4, .int .i64 u.c5, .int .i64 u.c6, .int .i64 u.c7, .int .i64 u.c8, .int .i64 u.c9, .int .i64 u.b0, .int .i64 u.b1, .int .i64 u.b2, .int .i64 u.b3, .int .i64 u.b4, .int .i64 u.b5, .int .i64 u.b6, .int .i64 u.b7, .slice po u.ps.length pc, .slice lo u.ls.length lc] : Array Value) 34 (0, 0))) := by rw [hu]; exact row_set _ N1.out
      have RPu : Hid (RowA (w22.setCell ⟨w15.heap.size, 0, none⟩ (.int .i64 z)) w.heap.size 83 4 (.slice po u.ps.length pc) u.ps.length (pcells u.ps)) := by rw [hu]; exact RowA.keepTy8 NP.out us (fun k h1 h2 => by subst h2; exact typed_box N1.out (by decide) rfl h1)
      have RLu : Hid (RowA (w22.setCell ⟨w15.heap.size, 0, none⟩ (.int .i64 z)) w.heap.size 86 2 (.slice lo u.ls.length lc) u.ls.length (lcells u.ls)) := by rw [hu]; exact RowA.keepTy8 NL.out us (fun k h1 h2 => by subst h2; exact typed_box N1.out (by decide) rfl h1)
      have hup : u.ps.length ≤ 61 := by rw [hu]; exact hyp
      have hul : u.ls.length ≤ 61 := by rw [hu]; exact hyl
      have c0 : w22.cell? ⟨w15.heap.size, 0, none⟩ = some (.int .i64 y.a0) := boxAt N1.out 0
      have c1 : w22.frozen? ⟨w15.heap.size, 0, none⟩ = false := boxFz N1.out 0
      have hrF := hr22.keep us (by omega) (fun k h => by omega)
      have UF := hide (U22.out.transN us (fun k h => by omega))
      clear hu N0 N1 NP NL U22 us hr22
      have H1s := hide (all_of_list (List.all_eq_true.2 (wd_one u po lo u.ps.length pc u.ls.length lc)))
      go_wp2_with (first | (refine wpList_load_row rfl 34 (.tmp 3) rfl w15.heap.size rfl _ _ (0, 0) _ M1.out Try.underlying34 rfl infoWd ?_) | (refine wpList_store_row rfl 34 (.tmp 2) (.tmp 84) rfl w.heap.size _ rfl rfl _ _ M0.out infoWd rfl H1s.out ?_))
      refine bodyPost_ret (v := .agg #[.int .i64 u.a0, .int .i64 u.a1, .int .i64 u.a2, .int .i64 u.a3, .int .i64 u.a4, .int .i64 u.a5, .int .i64 u.c0, .int .i64 u.c1, .int .i64 u.c2, .int .i64 u.c3, .int .i64 u.c4, .int .i64 u.c5, .int .i64 u.c6, .int .i64 u.c7, .int .i64 u.c8, .int .i64 u.c9, .int .i64 u.b0, .int .i64 u.b1, .int .i64 u.b2, .int .i64 u.b3, .int .i64 u.b4, .int .i64 u.b5, .int .i64 u.b6, .int .i64 u.b7, .slice po u.ps.length pc, .slice lo u.ls.length lc]) (results_cell_row Try.results52 _ _ w.heap.size _ _ (0, 0) _ rfl (setRow_heap _ _ _ _ _ _ M0.out) Try.underlying34 rfl infoWd) rfl ?_
      have u6 : Upd (fun j => j = w.heap.size) (w22.setCell ⟨w15.heap.size, 0, none⟩ (.int .i64 z)) ((w22.setCell ⟨w15.heap.size, 0, none⟩ (.int .i64 z)).setRow w.heap.size (#[.int .i64 u.a0, .int .i64 u.a1, .int .i64 u.a2, .int .i64 u.a3, .int .i64 u.a4, .int .i64 u.a5, .int .i64 u.c0, .int .i64 u.c1, .int .i64 u.c2, .int .i64 u.c3, .int .i64 u.c4, .int .i64 u.c5, .int .i64 u.c6, .int .i64 u.c7, .int .i64 u.c8, .int .i64 u.c9, .int .i64 u.b0, .int .i64 u.b1, .int .i64 u.b2, .int .i64 u.b3, .int .i64 u.b4, .int .i64 u.b5, .int .i64 u.b6, .int .i64 u.b7, .slice po u.ps.length pc, .slice lo u.ls.length lc] : Array Value)) := ⟨rfl, rfl, rfl, by simp, fun k _ h => setRow_other _ _ _ _ h⟩
      refine ⟨_, u, _, rfl, ⟨po, pc, lo, lc, rfl, ?_, ?_⟩, hup, hul, hrF.keep u6 (by omega) (fun k h => by omega), by omega, UF.out.transN u6 (fun k h => by omega)⟩
      · exact ((RowA.keepTy8 RPu.out u6 (fun k h1 h2 => by subst h2; exact typed_box M0.out (by decide) rfl h1)).row (by omega))
      · exact ((RowA.keepTy8 RLu.out u6 (fun k h1 h2 => by subst h2; exact typed_box M0.out (by decide) rfl h1)).row (by omega))
    · obtain ⟨w22, hw⟩ : ∃ w22, w22 = w21 := ⟨_, rfl⟩
      subst hw
      have h0 : ((q21 : Int) == 0) = false := by simp; omega
      have h1 : ((q21 : Int) == 1) = false := by simp; omega
      have h2 : ((q21 : Int) == 2) = false := by simp; omega
      have h3 : ((q21 : Int) == 3) = false := by simp; omega
      have N0 := P0
      have N1 := P1
      have NP := PP
      have NL := PL
      have U22 := U21
      have hr22 := hr21
      clear P0 P1 PP PL U21 hr21
      obtain ⟨u, hu⟩ : ∃ u : Wd, u = y := ⟨_, rfl⟩
      subst hu
      have M0 := N0
      have M1 := N1
      have RPu := NP
      have RLu := NL
      have hup := hyp
      have hul := hyl
      have hrF := hr22
      have UF := U22
      clear N0 N1 NP NL U22 hr22
      have H1s := hide (all_of_list (List.all_eq_true.2 (wd_one u po lo u.ps.length pc u.ls.length lc)))
      go_wp2_with (first | (refine wpList_load_row rfl 34 (.tmp 3) rfl w15.heap.size rfl _ _ (0, 0) _ M1.out Try.underlying34 rfl infoWd ?_) | (refine wpList_store_row rfl 34 (.tmp 2) (.tmp 84) rfl w.heap.size _ rfl rfl _ _ M0.out infoWd rfl H1s.out ?_))
      refine bodyPost_ret (v := .agg #[.int .i64 u.a0, .int .i64 u.a1, .int .i64 u.a2, .int .i64 u.a3, .int .i64 u.a4, .int .i64 u.a5, .int .i64 u.c0, .int .i64 u.c1, .int .i64 u.c2, .int .i64 u.c3, .int .i64 u.c4, .int .i64 u.c5, .int .i64 u.c6, .int .i64 u.c7, .int .i64 u.c8, .int .i64 u.c9, .int .i64 u.b0, .int .i64 u.b1, .int .i64 u.b2, .int .i64 u.b3, .int .i64 u.b4, .int .i64 u.b5, .int .i64 u.b6, .int .i64 u.b7, .slice po u.ps.length pc, .slice lo u.ls.length lc]) (results_cell_row Try.results52 _ _ w.heap.size _ _ (0, 0) _ rfl (setRow_heap _ _ _ _ _ _ M0.out) Try.underlying34 rfl infoWd) rfl ?_
      have u6 : Upd (fun j => j = w.heap.size) w22 (w22.setRow w.heap.size (#[.int .i64 u.a0, .int .i64 u.a1, .int .i64 u.a2, .int .i64 u.a3, .int .i64 u.a4, .int .i64 u.a5, .int .i64 u.c0, .int .i64 u.c1, .int .i64 u.c2, .int .i64 u.c3, .int .i64 u.c4, .int .i64 u.c5, .int .i64 u.c6, .int .i64 u.c7, .int .i64 u.c8, .int .i64 u.c9, .int .i64 u.b0, .int .i64 u.b1, .int .i64 u.b2, .int .i64 u.b3, .int .i64 u.b4, .int .i64 u.b5, .int .i64 u.b6, .int .i64 u.b7, .slice po u.ps.length pc, .slice lo u.ls.length lc] : Array Value)) := ⟨rfl, rfl, rfl, by simp, fun k _ h => setRow_other _ _ _ _ h⟩
      refine ⟨_, u, _, rfl, ⟨po, pc, lo, lc, rfl, ?_, ?_⟩, hup, hul, hrF.keep u6 (by omega) (fun k h => by omega), by omega, UF.out.transN u6 (fun k h => by omega)⟩
      · exact ((RowA.keepTy8 RPu.out u6 (fun k h1 h2 => by subst h2; exact typed_box M0.out (by decide) rfl h1)).row (by omega))
      · exact ((RowA.keepTy8 RLu.out u6 (fun k h1 h2 => by subst h2; exact typed_box M0.out (by decide) rfl h1)).row (by omega))
  · have hq0 : ¬ (q16 : Int) = 0 := by omega
    have hq1 : ((q16 : Int) == 0) = false := by simpa using hq0
    go_wp2_with fail
    clear hq0 hq1
    obtain ⟨po, hpo⟩ : ∃ po : Option Addr, po = none := ⟨_, rfl⟩
    obtain ⟨lo, hlo⟩ : ∃ lo : Option Addr, lo = none := ⟨_, rfl⟩
    obtain ⟨pc, hpc⟩ : ∃ pc : Nat, pc = 0 := ⟨_, rfl⟩
    obtain ⟨lc, hlc⟩ : ∃ lc : Nat, lc = 0 := ⟨_, rfl⟩
    obtain ⟨y, hy⟩ : ∃ y : Wd, y = x := ⟨_, rfl⟩
    have T1' : Hid (w16.heap[w15.heap.size]? = some (.cells (#[.int .i64 y.a0, .int .i64 y.a1, .int .i64 y.a2, .int .i64 y.a3, .int .i64 y.a4, .int .i64 y.a5, .int .i64 y.c0, .int .i64 y.c1, .int .i64 y.c2, .int .i64 y.c3, .int .i64 y.c4, .int .i64 y.c5, .int .i64 y.c6, .int .i64 y.c7, .int .i64 y.c8, .int .i64 y.c9, .int .i64 y.b0, .int .i64 y.b1, .int .i64 y.b2, .int .i64 y.b3, .int .i64 y.b4, .int .i64 y.b5, .int .i64 y.b6, .int .i64 y.b7, .slice po y.ps.length pc, .slice lo y.ls.length lc] : Array Value) 34 (0, 0))) := by rw [hy, HXp.out, HXl.out, hpo, hlo, hpc, hlc]; exact L1.out
    have RP' : Hid (RowA w16 w.heap.size 83 4 (.slice po y.ps.length pc) y.ps.length (pcells y.ps)) := by rw [hy, HXp.out, hpo, hpc]; exact .inr ⟨rfl, rfl, _, rfl⟩
    have RL' : Hid (RowA w16 w.heap.size 86 2 (.slice lo y.ls.length lc) y.ls.length (lcells y.ls)) := by rw [hy, HXl.out, hlo, hlc]; exact .inr ⟨rfl, rfl, _, rfl⟩
    have hyp : y.ps.length ≤ 61 := by rw [hy, HXp.out]; simp
    have hyl : y.ls.length ≤ 61 := by rw [hy, HXl.out]; simp
    have T0 := L0
    have UT := U16
    have hrT := hr16
    have hzz : w15.heap.size < w16.heap.size := by omega
    clear hy hpo hlo hpc hlc L0 L1 U16 hr16
    refine (pick_any w0 _ R _ 20 hrT (by omega) (by omega) (by omega)).mono ?_
    rintro e w21 ⟨q21, rfl, hq21, hr21, hu21⟩
    have P0 := hide (hu21.keeps T0.out (by omega))
    have P1 := hide (hu21.keeps T1'.out (by omega))
    have PP := hide (RowA.keepTy8 RP'.out hu21 (fun k h1 h2 => by have := h1.1; omega))
    have PL := hide (RowA.keepTy8 RL'.out hu21 (fun k h1 h2 => by have := h1.1; omega))
    have U21 := hide (UT.out.trans hu21)
    have hz21 := hu21.size
    clear T0 T1' RP' RL' UT hrT hu21
    rcases (by omega : q21 = 0 ∨ q21 = 1 ∨ q21 = 2 ∨ q21 = 3 ∨ 4 ≤ q21) with h | h | h | h | h
    · subst h
      have al := bal (Below.refl w21.heap.size w21) (.cells #[.int .i64 (-1), .int .i64 5, .int .i64 100, .int .i64 103, .int .i64 104] 3)
      have LA := hide (litAt w21 [(-1), 5, 100, 103, 104] 3)
      have hr21a := hr21.keepB al
      go_wp2_with fail
      refine (pick_any w0 _ R _ 5 hr21a (by omega) (by omega) (by omega)).mono ?_
      rintro e w22 ⟨q22, rfl, hq22, hr22, hu22⟩
      obtain ⟨z, hz⟩ := LA.out q22 hq22
      have f0 : w22.cell? ⟨w21.heap.size, q22, none⟩ = some (.int .i64 z) := updCell hu22 hz (by omega)
      have hi : (q22 : Int) < 5 := by omega
      have N0 := hide (hu22.keeps (bKeeps al P0.out) (by omega))
      have N1 := hide (hu22.keeps (bKeeps al P1.out) (by omega))
      have NP := hide (RowA.keepTy8 (PP.out.keepB al) hu22 (fun k h1 h2 => by have := h1.1; omega))
      have NL := hide (RowA.keepTy8 (PL.out.keepB al) hu22 (fun k h1 h2 => by have := h1.1; omega))
      have U22 := hide ((U21.out.trans (Upd.ofBelow al)).trans hu22)
      have hz22 := hu22.size
      simp only [World.size_alloc] at hz22
      clear P0 P1 PP PL U21 hr21 hr21a hu22 al LA hz
      obtain ⟨u, hu⟩ : ∃ u : Wd, u = { y with a1 := z } := ⟨_, rfl⟩
      have us := Upd.setCell (S := fun j => j = w15.heap.size) w22 w15.heap.size 1 (.int .i64 z) rfl
      have M0 := hide (us.keeps N0.out (by omega))
      have M1 : Hid ((w22.setCell ⟨w15.heap.size, 1, none⟩ (.int .i64 z)).heap[w15.heap.size]? = some (.cells (#[.int .i64 u.a0, .int .i64 u.a1, .int .i64 u.a2, .int .i64 u.a3, .int .i64 u.a4, .int .i64 u.a5, .int .i64 u.c0, .int .i64 u.c1, .int .i64 u.c2, .int .i64 u.c3, .int .i64 u.c4, .int .i64 u.c5, .int .i64 u.c6, .int .i64 u.c7, .int .i64 u.c8, .int .i64 u.c9, .int .i64 u.b0, .int .i64 u.b1, .int .i64 u.b2, .int .i64 u.b3, .int .i64 u.b4, .int .i64 u.b5, .int .i64 u.b6, .int .i64 u.b7, .slice po u.ps.length pc, .slice lo u.ls.length lc] : Array Value) 34 (0, 0))) := by rw [hu]; exact row_set _ N1.out
      have RPu : Hid (RowA (w22.setCell ⟨w15.heap.size, 1, none⟩ (.int .i64 z)) w.heap.size 83 4 (.slice po u.ps.length pc) u.ps.length (pcells u.ps)) := by rw [hu]; exact RowA.keepTy8 NP.out us (fun k h1 h2 => by subst h2; exact typed_box N1.out (by decide) rfl h1)
      have RLu : Hid (RowA (w22.setCell ⟨w15.heap.size, 1, none⟩ (.int .i64 z)) w.heap.size 86 2 (.slice lo u.ls.length lc) u.ls.length (lcells u.ls)) := by rw [hu]; exact RowA.keepTy8 NL.out us (fun k h1 h2 => by subst h2; exact typed_box N1.out (by decide) rfl h1)
      have hup : u.ps.length ≤ 61 := by rw [hu]; exact hyp
      have hul : u.ls.length ≤ 61 := by rw [hu]; exact hyl
      have c0 : w22.cell? ⟨w15.heap.size, 1, none⟩ = some (.int .i64 y.a1) := boxAt N1.out 1
      have c1 : w22.frozen? ⟨w15.heap.size, 1, none⟩ = false := boxFz N1.out 1
      have hrF := hr22.keep us (by omega) (fun k h => by omega)
      have UF := hide (U22.out.transN us (fun k h => by omega))
      clear hu N0 N1 NP NL U22 us hr22
      have H1s := hide (all_of_list (List.all_eq_true.2 (wd_one u po lo u.ps.length pc u.ls.length lc)))
      go_wp2_with (first | (refine wpList_load_row rfl 34 (.tmp 3) rfl w15.heap.size rfl _ _ (0, 0) _ M1.out Try.underlying34 rfl infoWd ?_) | (refine wpList_store_row rfl 34 (.tmp 2) (.tmp 84) rfl w.heap.size _ rfl rfl _ _ M0.out infoWd rfl H1s.out ?_))
      refine bodyPost_ret (v := .agg #[.int .i64 u.a0, .int .i64 u.a1, .int .i64 u.a2, .int .i64 u.a3, .int .i64 u.a4, .int .i64 u.a5, .int .i64 u.c0, .int .i64 u.c1, .int .i64 u.c2, .int .i64 u.c3, .int .i64 u.c4, .int .i64 u.c5, .int .i64 u.c6, .int .i64 u.c7, .int .i64 u.c8, .int .i64 u.c9, .int .i64 u.b0, .int .i64 u.b1, .int .i64 u.b2, .int .i64 u.b3, .int .i64 u.b4, .int .i64 u.b5, .int .i64 u.b6, .int .i64 u.b7, .slice po u.ps.length pc, .slice lo u.ls.length lc]) (results_cell_row Try.results52 _ _ w.heap.size _ _ (0, 0) _ rfl (setRow_heap _ _ _ _ _ _ M0.out) Try.underlying34 rfl infoWd) rfl ?_
      have u6 : Upd (fun j => j = w.heap.size) (w22.setCell ⟨w15.heap.size, 1, none⟩ (.int .i64 z)) ((w22.setCell ⟨w15.heap.size, 1, none⟩ (.int .i64 z)).setRow w.heap.size (#[.int .i64 u.a0, .int .i64 u.a1, .int .i64 u.a2, .int .i64 u.a3, .int .i64 u.a4, .int .i64 u.a5, .int .i64 u.c0, .int .i64 u.c1, .int .i64 u.c2, .int .i64 u.c3, .int .i64 u.c4, .int .i64 u.c5, .int .i64 u.c6, .int .i64 u.c7, .int .i64 u.c8, .int .i64 u.c9, .int .i64 u.b0, .int .i64 u.b1, .int .i64 u.b2, .int .i64 u.b3, .int .i64 u.b4, .int .i64 u.b5, .int .i64 u.b6, .int .i64 u.b7, .slice po u.ps.length pc, .slice lo u.ls.length lc] : Array Value)) := ⟨rfl, rfl, rfl, by simp, fun k _ h => setRow_other _ _ _ _ h⟩
      refine ⟨_, u, _, rfl, ⟨po, pc, lo, lc, rfl, ?_, ?_⟩, hup, hul, hrF.keep u6 (by omega) (fun k h => by omega), by omega, UF.out.transN u6 (fun k h => by omega)⟩
      · exact ((RowA.keepTy8 RPu.out u6 (fun k h1 h2 => by subst h2; exact typed_box M0.out (by decide) rfl h1)).row (by omega))
      · exact ((RowA.keepTy8 RLu.out u6 (fun k h1 h2 => by subst h2; exact typed_box M0.out (by decide) rfl h1)).row (by omega))
    · subst h
      have al := bal (Below.refl w21.heap.size w21) (.cells #[.int .i64 0, .int .i64 (-1), .int .i64 (-2), .int .i64 60, .int .i64 61] 3)
      have LA := hide (litAt w21 [0, (-1), (-2), 60, 61] 3)
      have hr21a := hr21.keepB al
      go_wp2_with fail
      refine (pick_any w0 _ R _ 5 hr21a (by omega) (by omega) (by omega)).mono ?_
      rintro e w22 ⟨q22, rfl, hq22, hr22, hu22⟩
      obtain ⟨z, hz⟩ := LA.out q22 hq22
      have f0 : w22.cell? ⟨w21.heap.size, q22, none⟩ = some (.int .i64 z) := updCell hu22 hz (by omega)
      have hi : (q22 : Int) < 5 := by omega
      have N0 := hide (hu22.keeps (bKeeps al P0.out) (by omega))
      have N1 := hide (hu22.keeps (bKeeps al P1.out) (by omega))
      have NP := hide (RowA.keepTy8 (PP.out.keepB al) hu22 (fun k h1 h2 => by have := h1.1; omega))
      have NL := hide (RowA.keepTy8 (PL.out.keepB al) hu22 (fun k h1 h2 => by have := h1.1; omega))
      have U22 := hide ((U21.out.trans (Upd.ofBelow al)).trans hu22)
      have hz22 := hu22.size
      simp only [World.size_alloc] at hz22
      clear P0 P1 PP PL U21 hr21 hr21a hu22 al LA hz
      obtain ⟨u, hu⟩ : ∃ u : Wd, u = { y with a4 := z } := ⟨_, rfl⟩
      have us := Upd.setCell (S := fun j => j = w15.heap.size) w22 w15.heap.size 4 (.int .i64 z) rfl
      have M0 := hide (us.keeps N0.out (by omega))
      have M1 : Hid ((w22.setCell ⟨w15.heap.size, 4, none⟩ (.int .i64 z)).heap[w15.heap.size]? = some (.cells (#[.int .i64 u.a0, .int .i64 u.a1, .int .i64 u.a2, .int .i64 u.a3, .int .i64 u.a4, .int .i64 u.a5, .int .i64 u.c0, .int .i64 u.c1, .int .i64 u.c2, .int .i64 u.c3, .int .i64 u.c4, .int .i64 u.c5, .int .i64 u.c6, .int .i64 u.c7, .int .i64 u.c8, .int .i64 u.c9, .int .i64 u.b0, .int .i64 u.b1, .int .i64 u.b2, .int .i64 u.b3, .int .i64 u.b4, .int .i64 u.b5, .int .i64 u.b6, .int .i64 u.b7, .slice po u.ps.length pc, .slice lo u.ls.length lc] : Array Value) 34 (0, 0))) := by rw [hu]; exact row_set _ N1.out
      have RPu : Hid (RowA (w22.setCell ⟨w15.heap.size, 4, none⟩ (.int .i64 z)) w.heap.size 83 4 (.slice po u.ps.length pc) u.ps.length (pcells u.ps)) := by rw [hu]; exact RowA.keepTy8 NP.out us (fun k h1 h2 => by subst h2; exact typed_box N1.out (by decide) rfl h1)
      have RLu : Hid (RowA (w22.setCell ⟨w15.heap.size, 4, none⟩ (.int .i64 z)) w.heap.size 86 2 (.slice lo u.ls.length lc) u.ls.length (lcells u.ls)) := by rw [hu]; exact RowA.keepTy8 NL.out us (fun k h1 h2 => by subst h2; exact typed_box N1.out (by decide) rfl h1)
      have hup : u.ps.length ≤ 61 := by rw [hu]; exact hyp
      have hul : u.ls.length ≤ 61 := by rw [hu]; exact hyl
      have c0 : w22.cell? ⟨w15.heap.size, 4, none⟩ = some (.int .i64 y.a4) := boxAt N1.out 4
      have c1 : w22.frozen? ⟨w15.heap.size, 4, none⟩ = false := boxFz N1.out 4
      have hrF := hr22.keep us (by omega) (fun k h => by omega)
      have UF := hide (U22.out.transN us (fun k h => by omega))
      clear hu N0 N1 NP NL U22 us hr22
      have H1s := hide (all_of_list (List.all_eq_true.2 (wd_one u po lo u.ps.length pc u.ls.length lc)))
      go_wp2_with (first | (refine wpList_load_row rfl 34 (.tmp 3) rfl w15.heap.size rfl _ _ (0, 0) _ M1.out Try.underlying34 rfl infoWd ?_) | (refine wpList_store_row rfl 34 (.tmp 2) (.tmp 84) rfl w.heap.size _ rfl rfl _ _ M0.out infoWd rfl H1s.out ?_))
      refine bodyPost_ret (v := .agg #[.int .i64 u.a0, .int .i64 u.a1, .int .i64 u.a2, .int .i64 u.a3, .int .i64 u.a4, .int .i64 u.a5, .int .i64 u.c0, .int .i64 u.c1, .int .i64 u.c2, .int .i64 u.c3, .int .i64 u.c4, .int .i64 u.c5, .int .i64 u.c6, .int .i64 u.c7, .int .i64 u.c8, .int .i64 u.c9, .int .i64 u.b0, .int .i64 u.b1, .int .i64 u.b2, .int .i64 u.b3, .int .i64 u.b4, .int .i64 u.b5, .int .i64 u.b6, .int .i64 u.b7, .slice po u.ps.length pc, .slice lo u.ls.length lc]) (results_cell_row Try.results52 _ _ w.heap.size _ _ (0, 0) _ rfl (setRow_heap _ _ _ _ _ _ M0.out) Try.underlying34 rfl infoWd) rfl ?_
      have u6 : Upd (fun j => j = w.heap.size) (w22.setCell ⟨w15.heap.size, 4, none⟩ (.int .i64 z)) ((w22.setCell ⟨w15.heap.size, 4, none⟩ (.int .i64 z)).setRow w.heap.size (#[.int .i64 u.a0, .int .i64 u.a1, .int .i64 u.a2, .int .i64 u.a3, .int .i64 u.a4, .int .i64 u.a5, .int .i64 u.c0, .int .i64 u.c1, .int .i64 u.c2, .int .i64 u.c3, .int .i64 u.c4, .int .i64 u.c5, .int .i64 u.c6, .int .i64 u.c7, .int .i64 u.c8, .int .i64 u.c9, .int .i64 u.b0, .int .i64 u.b1, .int .i64 u.b2, .int .i64 u.b3, .int .i64 u.b4, .int .i64 u.b5, .int .i64 u.b6, .int .i64 u.b7, .slice po u.ps.length pc, .slice lo u.ls.length lc] : Array Value)) := ⟨rfl, rfl, rfl, by simp, fun k _ h => setRow_other _ _ _ _ h⟩
      refine ⟨_, u, _, rfl, ⟨po, pc, lo, lc, rfl, ?_, ?_⟩, hup, hul, hrF.keep u6 (by omega) (fun k h => by omega), by omega, UF.out.transN u6 (fun k h => by omega)⟩
      · exact ((RowA.keepTy8 RPu.out u6 (fun k h1 h2 => by subst h2; exact typed_box M0.out (by decide) rfl h1)).row (by omega))
      · exact ((RowA.keepTy8 RLu.out u6 (fun k h1 h2 => by subst h2; exact typed_box M0.out (by decide) rfl h1)).row (by omega))
    · subst h
      have al := bal (Below.refl w21.heap.size w21) (.cells #[.int .i64 0, .int .i64 (-1), .int .i64 99999, .int .i64 100000] 3)
      have LA := hide (litAt w21 [0, (-1), 99999, 100000] 3)
      have hr21a := hr21.keepB al
      go_wp2_with fail
      refine (pick_any w0 _ R _ 4 hr21a (by omega) (by omega) (by omega)).mono ?_
      rintro e w22 ⟨q22, rfl, hq22, hr22, hu22⟩
      obtain ⟨z, hz⟩ := LA.out q22 hq22
      have f0 : w22.cell? ⟨w21.heap.size, q22, none⟩ = some (.int .i64 z) := updCell hu22 hz (by omega)
      have hi : (q22 : Int) < 4 := by omega
      have N0 := hide (hu22.keeps (bKeeps al P0.out) (by omega))
      have N1 := hide (hu22.keeps (bKeeps al P1.out) (by omega))
      have NP := hide (RowA.keepTy8 (PP.out.keepB al) hu22 (fun k h1 h2 => by have := h1.1; omega))
      have NL := hide (RowA.keepTy8 (PL.out.keepB al) hu22 (fun k h1 h2 => by have := h1.1; omega))
      have U22 := hide ((U21.out.trans (Upd.ofBelow al)).trans hu22)
      have hz22 := hu22.size
      simp only [World.size_alloc] at hz22
      clear P0 P1 PP PL U21 hr21 hr21a hu22 al LA hz
      obtain ⟨u, hu⟩ : ∃ u : Wd, u = { y with a3 := z } := ⟨_, rfl⟩
      have us := Upd.setCell (S := fun j => j = w15.heap.size) w22 w15.heap.size 3 (.int .i64 z) rfl
      have M0 := hide (us.keeps N0.out (by omega))
      have M1 : Hid ((w22.setCell ⟨w15.heap.size, 3, none⟩ (.int .i64 z)).heap[w15.heap.size]? = some (.cells (#[.int .i64 u.a0, .int .i64 u.a1, .int .i64 u.a2, .int .i64 u.a3, .int .i64 u.a4, .int .i64 u.a5, .int .i64 u.c0, .int .i64 u.c1, .int .i64 u.c2, .int .i64 u.c3, .int .i64 u.c4, .int .i64 u.c5, .int .i64 u.c6, .int .i64 u.c7, .int .i64 u.c8, .int .i64 u.c9, .int .i64 u.b0, .int .i64 u.b1, .int .i64 u.b2, .int .i64 u.b3, .int .i64 u.b4, .int .i64 u.b5, .int .i64 u.b6, .int .i64 u.b7, .slice po u.ps.length pc, .slice lo u.ls.length lc] : Array Value) 34 (0, 0))) := by rw [hu]; exact row_set _ N1.out
      have RPu : Hid (RowA (w22.setCell ⟨w15.heap.size, 3, none⟩ (.int .i64 z)) w.heap.size 83 4 (.slice po u.ps.length pc) u.ps.length (pcells u.ps)) := by rw [hu]; exact RowA.keepTy8 NP.out us (fun k h1 h2 => by subst h2; exact typed_box N1.out (by decide) rfl h1)
      have RLu : Hid (RowA (w22.setCell ⟨w15.heap.size, 3, none⟩ (.int .i64 z)) w.heap.size 86 2 (.slice lo u.ls.length lc) u.ls.length (lcells u.ls)) := by rw [hu]; exact RowA.keepTy8 NL.out us (fun k h1 h2 => by subst h2; exact typed_box N1.out (by decide) rfl h1)
      have hup : u.ps.length ≤ 61 := by rw [hu]; exact hyp
      have hul : u.ls.length ≤ 61 := by rw [hu]; exact hyl
      have c0 : w22.cell? ⟨w15.heap.size, 3, none⟩ = some (.int .i64 y.a3) := boxAt N1.out 3
      have c1 : w22.frozen? ⟨w15.heap.size, 3, none⟩ = false := boxFz N1.out 3
      have hrF := hr22.keep us (by omega) (fun k h => by omega)
      have UF := hide (U22.out.transN us (fun k h => by omega))
      clear hu N0 N1 NP NL U22 us hr22
      have H1s := hide (all_of_list (List.all_eq_true.2 (wd_one u po lo u.ps.length pc u.ls.length lc)))
      go_wp2_with (first | (refine wpList_load_row rfl 34 (.tmp 3) rfl w15.heap.size rfl _ _ (0, 0) _ M1.out Try.underlying34 rfl infoWd ?_) | (refine wpList_store_row rfl 34 (.tmp 2) (.tmp 84) rfl w.heap.size _ rfl rfl _ _ M0.out infoWd rfl H1s.out ?_))
      refine bodyPost_ret (v := .agg #[.int .i64 u.a0, .int .i64 u.a1, .int .i64 u.a2, .int .i64 u.a3, .int .i64 u.a4, .int .i64 u.a5, .int .i64 u.c0, .int .i64 u.c1, .int .i64 u.c2, .int .i64 u.c3, .int .i64 u.c4, .int .i64 u.c5, .int .i64 u.c6, .int .i64 u.c7, .int .i64 u.c8, .int .i64 u.c9, .int .i64 u.b0, .int .i64 u.b1, .int .i64 u.b2, .int .i64 u.b3, .int .i64 u.b4, .int .i64 u.b5, .int .i64 u.b6, .int .i64 u.b7, .slice po u.ps.length pc, .slice lo u.ls.length lc]) (results_cell_row Try.results52 _ _ w.heap.size _ _ (0, 0) _ rfl (setRow_heap _ _ _ _ _ _ M0.out) Try.underlying34 rfl infoWd) rfl ?_
      have u6 : Upd (fun j => j = w.heap.size) (w22.setCell ⟨w15.heap.size, 3, none⟩ (.int .i64 z)) ((w22.setCell ⟨w15.heap.size, 3, none⟩ (.int .i64 z)).setRow w.heap.size (#[.int .i64 u.a0, .int .i64 u.a1, .int .i64 u.a2, .int .i64 u.a3, .int .i64 u.a4, .int .i64 u.a5, .int .i64 u.c0, .int .i64 u.c1, .int .i64 u.c2, .int .i64 u.c3, .int .i64 u.c4, .int .i64 u.c5, .int .i64 u.c6, .int .i64 u.c7, .int .i64 u.c8, .int .i64 u.c9, .int .i64 u.b0, .int .i64 u.b1, .int .i64 u.b2, .int .i64 u.b3, .int .i64 u.b4, .int .i64 u.b5, .int .i64 u.b6, .int .i64 u.b7, .slice po u.ps.length pc, .slice lo u.ls.length lc] : Array Value)) := ⟨rfl, rfl, rfl, by simp, fun k _ h => setRow_other _ _ _ _ h⟩
      refine ⟨_, u, _, rfl, ⟨po, pc, lo, lc, rfl, ?_, ?_⟩, hup, hul, hrF.keep u6 (by omega) (fun k h => by omega), by omega, UF.out.transN u6 (fun k h => by omega)⟩
      · exact ((RowA.keepTy8 RPu.out u6 (fun k h1 h2 => by subst h2; exact typed_box M0.out (by decide) rfl h1)).row (by omega))
      · exact ((RowA.keepTy8 RLu.out u6 (fun k h1 h2 => by subst h2; exact typed_box M0.out (by decide) rfl h1)).row (by omega))
    · subst h
      have al := bal (Below.refl w21.heap.size w21) (.cells #[.int .i64 0, .int .i64 16] 3)
      have LA := hide (litAt w21 [0, 16] 3)
      have hr21a := hr21.keepB al
      go_wp2_with fail
      refine (pick_any w0 _ R _ 2 hr21a (by omega) (by omega) (by omega)).mono ?_
      rintro e w22 ⟨q22, rfl, hq22, hr22, hu22⟩
      obtain ⟨z, hz⟩ := LA.out q22 hq22
      have f0 : w22.cell? ⟨w21.heap.size, q22, none⟩ = some (.int .i64 z) := updCell hu22 hz (by omega)
      have hi : (q22 : Int) < 2 := by omega
      have N0 := hide (hu22.keeps (bKeeps al P0.out) (by omega))
      have N1 := hide (hu22.keeps (bKeeps al P1.out) (by omega))
      have NP := hide (RowA.keepTy8 (PP.out.keepB al) hu22 (fun k h1 h2 => by have := h1.1; omega))
      have NL := hide (RowA.keepTy8 (PL.out.keepB al) hu22 (fun k h1 h2 => by have := h1.1; omega))
      have U22 := hide ((U21.out.trans (Upd.ofBelow al)).trans hu22)
      have hz22 := hu22.size
      simp only [World.size_alloc] at hz22
      clear P0 P1 PP PL U21 hr21 hr21a hu22 al LA hz
      obtain ⟨u, hu⟩ : ∃ u : Wd, u = { y with a0 := z } := ⟨_, rfl⟩
      have us := Upd.setCell (S := fun j => j = w15.heap.size) w22 w15.heap.size 0 (.int .i64 z) rfl
      have M0 := hide (us.keeps N0.out (by omega))
      have M1 : Hid ((w22.setCell ⟨w15.heap.size, 0, none⟩ (.int .i64 z)).heap[w15.heap.size]? = some (.cells (#[.int .i64 u.a0, .int .i64 u.a1, .int .i64 u.a2, .int .i64 u.a3, .int .i64 u.a4, .int .i64 u.a5, .int .i64 u.c0, .int .i64 u.c1, .int .i64 u.c2, .int .i64 u.c3, .int .i64 u.c4, .int .i64 u.c5, .int .i64 u.c6, .int .i64 u.c7, .int .i64 u.c8, .int .i64 u.c9, .int .i64 u.b0, .int .i64 u.b1, .int .i64 u.b2, .int .i64 u.b3, .int .i64 u.b4, .int .i64 u.b5, .int .i64 u.b6, .int .i64 u.b7, .slice po u.ps.length pc, .slice lo u.ls.length lc] : Array Value) 34 (0, 0))) := by rw [hu]; exact row_set _ N1.out
      have RPu : Hid (RowA (w22.setCell ⟨w15.heap.size, 0, none⟩ (.int .i64 z)) w.heap.size 83 4 (.slice po u.ps.length pc) u.ps.length (pcells u.ps)) := by rw [hu]; exact RowA.keepTy8 NP.out us (fun k h1 h2 => by subst h2; exact typed_box N1.out (by decide) rfl h1)
      have RLu : Hid (RowA (w22.setCell ⟨w15.heap.size, 0, none⟩ (.int .i64 z)) w.heap.size 86 2 (.slice lo u.ls.length lc) u.ls.length (lcells u.ls)) := by rw [hu]; exact RowA.keepTy8 NL.out us (fun k h1 h2 => by subst h2; exact typed_box N1.out (by decide) rfl h1)
      have hup : u.ps.length ≤ 61 := by rw [hu]; exact hyp
      have hul : u.ls.length ≤ 61 := by rw [hu]; exact hyl
      have c0 : w22.cell? ⟨w15.heap.size, 0, none⟩ = some (.int .i64 y.a0) := boxAt N1.out 0
      have c1 : w22.frozen? ⟨w15.heap.size, 0, none⟩ = false := boxFz N1.out 0
      have hrF := hr22.keep us (by omega) (fun k h => by omega)
      have UF := hide (U22.out.transN us (fun k h => by omega))
      clear hu N0 N1 NP NL U22 us hr22
      have H1s := hide (all_of_list (List.all_eq_true.2 (wd_one u po lo u.ps.length pc u.ls.length lc)))
      go_wp2_with (first | (refine wpList_load_row rfl 34 (.tmp 3) rfl w15.heap.size rfl _ _ (0, 0) _ M1.out Try.underlying34 rfl infoWd ?_) | (refine wpList_store_row rfl 34 (.tmp 2) (.tmp 84) rfl w.heap.size _ rfl rfl _ _ M0.out infoWd rfl H1s.out ?_))
      refine bodyPost_ret (v := .agg #[.int .i64 u.a0, .int .i64 u.a1, .int .i64 u.a2, .int .i64 u.a3, .int .i64 u.a4, .int .i64 u.a5, .int .i64 u.c0, .int .i64 u.c1, .int .i64 u.c2, .int .i64 u.c3, .int .i64 u.c4, .int .i64 u.c5, .int .i64 u.c6, .int .i64 u.c7, .int .i64 u.c8, .int .i64 u.c9, .int .i64 u.b0, .int .i64 u.b1, .int .i64 u.b2, .int .i64 u.b3, .int .i64 u.b4, .int .i64 u.b5, .int .i64 u.b6, .int .i64 u.b7, .slice po u.ps.length pc, .slice lo u.ls.length lc]) (results_cell_row Try.results52 _ _ w.heap.size _ _ (0, 0) _ rfl (setRow_heap _ _ _ _ _ _ M0.out) Try.underlying34 rfl infoWd) rfl ?_
      have u6 : Upd (fun j => j = w.heap.size) (w22.setCell ⟨w15.heap.size, 0, none⟩ (.int .i64 z)) ((w22.setCell ⟨w15.heap.size, 0, none⟩ (.int .i64 z)).setRow w.heap.size (#[.int .i64 u.a0, .int .i64 u.a1, .int .i64 u.a2, .int .i64 u.a3, .int .i64 u.a4, .int .i64 u.a5, .int .i64 u.c0, .int .i64 u.c1, .int .i64 u.c2, .int .i64 u.c3, .int .i64 u.c4, .int .i64 u.c5, .int .i64 u.c6, .int .i64 u.c7, .int .i64 u.c8, .int .i64 u.c9, .int .i64 u.b0, .int .i64 u.b1, .int .i64 u.b2, .int .i64 u.b3, .int .i64 u.b4, .int .i64 u.b5, .int .i64 u.b6, .int .i64 u.b7, .slice po u.ps.length pc, .slice lo u.ls.length lc] : Array Value)) := ⟨rfl, rfl, rfl, by simp, fun k _ h => setRow_other _ _ _ _ h⟩
      refine ⟨_, u, _, rfl, ⟨po, pc, lo, lc, rfl, ?_, ?_⟩, hup, hul, hrF.keep u6 (by omega) (fun k h => by omega), by omega, UF.out.transN u6 (fun k h => by omega)⟩
      · exact ((RowA.keepTy8 RPu.out u6 (fun k h1 h2 => by subst h2; exact typed_box M0.out (by decide) rfl h1)).row (by omega))
      · exact ((RowA.keepTy8 RLu.out u6 (fun k h1 h2 => by subst h2; exact typed_box M0.out (by decide) rfl h1)).row (by omega))
    · obtain ⟨w22, hw⟩ : ∃ w22, w22 = w21 := ⟨_, rfl⟩
      subst hw
      have h0 : ((q21 : Int) == 0) = false := by simp; omega
      have h1 : ((q21 : Int) == 1) = false := by simp; omega
      have h2 : ((q21 : Int) == 2) = false := by simp; omega
      have h3 : ((q21 : Int) == 3) = false := by simp; omega
      have N0 := P0
      have N1 := P1
      have NP := PP
      have NL := PL
      have U22 := U21
      have hr22 := hr21
      clear P0 P1 PP PL U21 hr21
      obtain ⟨u, hu⟩ : ∃ u : Wd, u = y := ⟨_, rfl⟩
      subst hu
      have M0 := N0
      have M1 := N1
      have RPu := NP
      have RLu := NL
      have hup := hyp
      have hul := hyl
      have hrF := hr22
      have UF := U22
      clear N0 N1 NP NL U22 hr22
      have H1s := hide (all_of_list (List.all_eq_true.2 (wd_one u po lo u.ps.length pc u.ls.length lc)))
      go_wp2_with (first | (refine wpList_load_row rfl 34 (.tmp 3) rfl w15.heap.size rfl _ _ (0, 0) _ M1.out Try.underlying34 rfl infoWd ?_) | (refine wpList_store_row rfl 34 (.tmp 2) (.tmp 84) rfl w.heap.size _ rfl rfl _ _ M0.out infoWd rfl H1s.out ?_))
      refine bodyPost_ret (v := .agg #[.int .i64 u.a0, .int .i64 u.a1, .int .i64 u.a2, .int .i64 u.a3, .int .i64 u.a4, .int .i64 u.a5, .int .i64 u.c0, .int .i64 u.c1, .int .i64 u.c2, .int .i64 u.c3, .int .i64 u.c4, .int .i64 u.c5, .int .i64 u.c6, .int .i64 u.c7, .int .i64 u.c8, .int .i64 u.c9, .int .i64 u.b0, .int .i64 u.b1, .int .i64 u.b2, .int .i64 u.b3, .int .i64 u.b4, .int .i64 u.b5, .int .i64 u.b6, .int .i64 u.b7, .slice po u.ps.length pc, .slice lo u.ls.length lc]) (results_cell_row Try.results52 _ _ w.heap.size _ _ (0, 0) _ rfl (setRow_heap _ _ _ _ _ _ M0.out) Try.underlying34 rfl infoWd) rfl ?_
      have u6 : Upd (fun j => j = w.heap.size) w22 (w22.setRow w.heap.size (#[.int .i64 u.a0, .int .i64 u.a1, .int .i64 u.a2, .int .i64 u.a3, .int .i64 u.a4, .int .i64 u.a5, .int .i64 u.c0, .int .i64 u.c1, .int .i64 u.c2, .int .i64 u.c3, .int .i64 u.c4, .int .i64 u.c5, .int .i64 u.c6, .int .i64 u.c7, .int .i64 u.c8, .int .i64 u.c9, .int .i64 u.b0, .int .i64 u.b1, .int .i64 u.b2, .int .i64 u.b3, .int .i64 u.b4, .int .i64 u.b5, .int .i64 u.b6, .int .i64 u.b7, .slice po u.ps.length pc, .slice lo u.ls.length lc] : Array Value)) := ⟨rfl, rfl, rfl, by simp, fun k _ h => setRow_other _ _ _ _ h⟩
      refine ⟨_, u, _, rfl, ⟨po, pc, lo, lc, rfl, ?_, ?_⟩, hup, hul, hrF.keep u6 (by omega) (fun k h => by omega), by omega, UF.out.transN u6 (fun k h => by omega)⟩
      · exact ((RowA.keepTy8 RPu.out u6 (fun k h1 h2 => by subst h2; exact typed_box M0.out (by decide) rfl h1)).row (by omega))
      · exact ((RowA.keepTy8 RLu.out u6 (fun k h1 h2 => by subst h2; exact typed_box M0.out (by decide) rfl h1)).row (by omega))

end Go.Proofs.Ytafojnjpllpjjaa

/- DrawWordPack: a contract; no statement of the seat is proved here. -/
namespace Go.Proofs.Ytafojnjpllpjjaa
open Go.RowKit

set_option maxRecDepth 100000 in
set_option maxHeartbeats 4000000 in
theorem drawWordPack_any (w : World) (bo : Option Addr) (n cap : Nat) (bs : List Nat) (h : BytesIn w bo n cap bs) (hn : n ≤ 1048576) :
    Calls Try.prog 24 #[.slice bo n cap] w fun e w' => ∃ v x, e = .returned v ∧ WdO w' (fun k => w.heap.size < k) v x ∧ x.ps.length ≤ 61 ∧ x.ls.length ≤ 61 ∧ Below w.heap.size w w' := by
  have al0 := bal (Below.refl w.heap.size w) (.cells #[.int .i64 0, .int .i64 0, .int .i64 0, .int .i64 0, .int .i64 0, .int .i64 0, .int .i64 0, .int .i64 0, .int .i64 0, .int .i64 0, .int .i64 0, .int .i64 0, .int .i64 0, .int .i64 0, .int .i64 0, .int .i64 0, .int .i64 0, .int .i64 0, .int .i64 0, .int .i64 0, .int .i64 0, .int .i64 0, .int .i64 0, .int .i64 0, .slice none 0 0, .slice none 0 0] 34)
  have H0 := hide (heap_alloc_new w (.cells #[.int .i64 0, .int .i64 0, .int .i64 0, .int .i64 0, .int .i64 0, .int .i64 0, .int .i64 0, .int .i64 0, .int .i64 0, .int .i64 0, .int .i64 0, .int .i64 0, .int .i64 0, .int .i64 0, .int .i64 0, .int .i64 0, .int .i64 0, .int .i64 0, .int .i64 0, .int .i64 0, .int .i64 0, .int .i64 0, .int .i64 0, .int .i64 0, .slice none 0 0, .slice none 0 0] 34))
  have HB := hide (h.keep al0)
  clear h
  go_enter Try.func24, Try.ntmps24
  go_wp2_with fail
  refine (l6Open_any _ bo n cap bs HB.out hn).mono ?_
  rintro e w1 ⟨rfl, hr1, b1⟩
  have c1 := bAll al0 b1
  have z1 := b1.size
  simp only [World.size_alloc] at z1
  have H1 := hide (bKeeps b1 H0.out)
  rw [World.size_alloc] at hr1
  clear H0 HB al0 b1
  go_wp2_with fail
  refine (l72Word_any _ w1 (w.heap.size + 1) 0 hr1 (by omega)).mono ?_
  rintro e w2 ⟨v2, x, p', rfl, d2, hp2, hl2, -, -, hu2⟩
  obtain ⟨cs, rfl, hs, h1⟩ := d2.reads.agg
  have H2 := hide (hu2.keeps H1.out (by omega))
  have HI := hide (infoAt infoWd hs)
  have HZ := hide (zero26.trans hs.symm)
  have H1s := hide h1
  have D2 := hide d2
  clear hs h1 d2 hr1 H1
  go_wp2_with (refine wpList_store_row rfl 34 (.tmp 2) (.tmp 5) rfl w.heap.size cs rfl rfl _ _ H2.out HI.out HZ.out H1s.out ?_)
  refine bodyPost_ret (v := .agg cs) (results_cell_row Try.results24 _ _ w.heap.size _ _ (0, 0) _ rfl (setRow_heap _ _ _ _ _ _ H2.out) Try.underlying34 rfl HI.out) rfl ?_
  have u6 : Upd (fun j => j = w.heap.size) w2 (w2.setRow w.heap.size cs) := ⟨rfl, rfl, rfl, by simp, fun k _ h => setRow_other _ _ _ _ h⟩
  have c2 := c1.trans (hu2.below c1.size (fun k h => by omega))
  exact ⟨_, x, rfl, (D2.out.keep u6 (fun k h => by omega)).mono (fun k _ h => by omega), hp2, hl2, c2.trans (u6.below c2.size (fun k h => by omega))⟩

end Go.Proofs.Ytafojnjpllpjjaa

/- A row of bytes as a text; the walk of the law FnWordSize: the statement itself is proved elsewhere. -/
namespace Go.Proofs.Ytafojnjpllpjjaa
open Go.RowKit

def txt (bs : List Nat) : ByteArray := strOfNums (bs.map fun b : Nat => (b : Int))

theorem textOf {P : Program} {w : World} {v : Value} {n : Nat} {bs : List Nat} (h : RowR w 1 v n (byts bs)) (src e dst : TypeId) (hs : P.underlying src = some (.slice e)) (he : P.underlying e = some (.int .u8)) (hd : P.underlying dst = some .string) :
    (convert src dst v).run P w = .ok (.string (txt bs)) w := by
  obtain ⟨ao, cap, rfl, _, hl, h⟩ := h
  rw [byts_len] at hl
  by_cases h0 : 0 < n
  · obtain ⟨b, off, rfl, hc⟩ := h h0
    refine run_convert_bytes_arg (P := P) w src e hs he b off n cap _ (by simp; omega) (fun i hi => ?_) dst hd
    have hi' : i < bs.length := by omega
    rw [hc i _ (by rw [byts, List.getElem?_map, List.getElem?_eq_getElem hi']; rfl)]
    simp [List.getD, List.getElem?_eq_getElem hi']
  · obtain rfl : n = 0 := by omega
    obtain rfl : bs = [] := List.length_eq_zero_iff.1 (by omega)
    rw [run_convert_bytes_string w src dst e _ 0 cap hs he hd]
    cases ao
    · simp [Conv.bytesToString, txt, strOfNums]; rfl
    · rw [run_bytesToString w _ 0 cap [] (by simp [loadCells, loadCellsFrom, go_sem])]; rfl

set_option maxRecDepth 100000 in
set_option maxHeartbeats 8000000 in
theorem lawWordSize_walk (bo : Option Addr) (n cap : Nat) (bs : List Nat) (w : World) (h : BytesIn w bo n cap bs) :
    Calls Try.prog 8 #[.slice bo n cap] w fun e w' => e = .returned (.bool true) ∧ Below w.heap.size w w' := by
  by_cases hb1 : (n : Int) > 1048576
  · go_enter Try.func8, Try.ntmps8
    go_wp2
    go_ret
    exact ⟨rfl, Below.refl _ _⟩
  have HB := hide h
  clear h
  go_enter Try.func8, Try.ntmps8
  go_wp2_with fail
  refine (drawWordPack_any w bo n cap bs HB.out (by omega)).mono ?_
  rintro e w1 ⟨v, x, rfl, D, hp, hl, c1⟩
  have hpl := (packW_len x).1
  obtain ⟨pk, hpk⟩ : ∃ pk, packW x = pk := ⟨_, rfl⟩
  rw [hpk] at hpl
  have HPK := hide hpk
  clear hpk
  obtain ⟨po, pc, lo, lc, e0, hr1, hr2⟩ := D.reads
  subst e0
  have HR := hide D.reads
  obtain ⟨cs, e1, hs, h1⟩ := D.reads.agg
  have HE := hide e1
  injection e1 with e1
  have HC := hide e1
  have HI := hide (infoAt infoWd hs)
  have HZ := hide (zero26.trans hs.symm)
  have H1 := hide h1
  clear D hr1 hr2 h1 hs
  have al := bal (Below.refl w1.heap.size w1) (.cells cs 34)
  have B1 := hide (heap_alloc_new w1 (.cells cs 34))
  have HX := hide (HR.out.keep al)
  have c2 := bAll c1 al
  rw [HE.out]
  clear e1
  rw [HE.out] at HX
  have SC := fun v w h => specWordPack_any v x w h
  have IC := fun v w h => implWordPack_any v x w h
  rw [HPK.out] at SC IC
  have z1 := al.size
  rw [World.size_alloc] at z1
  clear al
  go_wp2_with (first
    | (refine wpList_store_row rfl 34 (.tmp 3) (.tmp 10) rfl w1.heap.size cs rfl rfl _ _ (heap_alloc_new w1 _) HI.out HZ.out H1.out ?_; rw [World.setRow_alloc_new])
    | (refine wpList_load_row rfl 34 (.tmp 3) rfl w1.heap.size rfl _ cs (0, 0) _ B1.out Try.underlying34 rfl HI.out ?_))
  refine (SC _ _ HX.out).mono ?_
  rintro e w3 ⟨vo3, co3, rfl, r3, b3⟩
  have c3 := bAll c2 b3
  have B3 := hide (bKeeps b3 B1.out)
  have HX3 := hide (HX.out.keep b3)
  have R3 := hide (r3.row (by omega)).reads
  clear b3 r3 c2 HX B1
  go_wp2_with (refine wpList_load_row rfl 34 (.tmp 3) rfl w1.heap.size rfl _ cs (0, 0) _ B3.out Try.underlying34 rfl HI.out ?_)
  refine (IC _ _ HX3.out).mono ?_
  rintro e w4 ⟨vo4, co4, rfl, r4, b4⟩
  have c4 := bAll c3 b4
  have t3 := textOf (P := Try.prog) (R3.out.keep b4) 38 5 9 Try.underlying38 Try.underlying5 Try.underlying9
  have t4 := textOf (P := Try.prog) (r4.row (by omega)).reads 38 5 9 Try.underlying38 Try.underlying5 Try.underlying9
  have B4 := bKeeps b4 B3.out
  rw [← HC.out] at B4
  have f24 := cell_of_row w4 w1.heap.size 24 _ _ _ B4
  have f25 := cell_of_row w4 w1.heap.size 25 _ _ _ B4
  have g24 : w4.cell? ⟨w1.heap.size, 24, none⟩ = some (.slice po x.ps.length pc) := f24.trans rfl
  have g25 : w4.cell? ⟨w1.heap.size, 25, none⟩ = some (.slice lo x.ls.length lc) := f25.trans rfl
  obtain ⟨np, hnp⟩ : ∃ q, x.ps.length = q := ⟨_, rfl⟩
  obtain ⟨nl, hnl⟩ : ∃ q, x.ls.length = q := ⟨_, rfl⟩
  obtain ⟨nk, hnk⟩ : ∃ q, pk.length = q := ⟨_, rfl⟩
  rw [hnp, hnl, hnk] at hpl
  rw [hnp] at g24 hp
  rw [hnl] at g25 hl
  rw [hnk] at t3 t4 ⊢
  clear hnp hnl hnk f24 f25 B4 b4 r4 c3 SC IC B3 R3 HX3 HZ H1 HI HE HC
  have hle : (nk : Int) ≤ 3 * (26 + 4 * (np : Int) + 2 * (nl : Int)) := by omega
  go_wp2
  go_ret
  exact ⟨rfl, c4⟩

end Go.Proofs.Ytafojnjpllpjjaa

/- What the law FnExactSecOk does: its walk; the statement itself is proved elsewhere. -/
namespace Go.Proofs.Ytafojnjpllpjjaa
open Go.RowKit

/-- What a disk that came in is known by: it reads so, and its texts have a length. -/
structure DiskIn (w : World) (v : Value) (kept : List ByteArray) (wait : List (Int × ByteArray)) : Prop where
  reads : DiskR w v kept wait
  kept : ∀ s ∈ kept, s.size ≤ 9223372036854775807
  wait : ∀ s ∈ wait, s.2.size ≤ 9223372036854775807

theorem DiskR.shape {w : World} {v : Value} {kept : List ByteArray} {wait : List (Int × ByteArray)} (h : DiskR w v kept wait) : ∃ ao ca ao' ca', v = .agg #[.slice ao kept.length ca, .slice ao' wait.length ca'] := by
  obtain ⟨vk, vw, rfl, ⟨ao, ca, rfl, -⟩, ⟨ao', ca', rfl, -⟩⟩ := h
  exact ⟨ao, ca, ao', ca', rfl⟩

end Go.Proofs.Ytafojnjpllpjjaa

/- How an argument that is a slice of texts, or of pairs of a number and a text, is opened; no statement of the seat is proved here. -/
namespace Go.Proofs.Ytafojnjpllpjjaa
open Go.ChangeShapes Go.WideShapes Go.ChangeAt Go.RowKit Go.Deep Go.Joins

section
variable {H : Type} {enc : TypeId × Value → H} {P : Program} {w : World} {base : Nat} {spare : Nat → Bool} {held : Bool}

theorem rowR_of_strs {t e : TypeId} {fuel : Nat} {v : Value} {x : DataW H × List MemPlace} (ht : P.underlying t = some (.slice e)) (he : P.underlying e = some .string) (hc : P.cellsOf e = 1)
    (h : DataW.trod enc P w base spare held fuel t [v] = some x) : ∃ ss : List ByteArray, RowR w 1 v ss.length (ss.map Value.string) ∧ ∀ s ∈ ss, s.size ≤ 9223372036854775807 := by
  rcases open_strs ht he hc h with ⟨hcs, _⟩ | ⟨a, len, cap, m, Sx, hcs, _, hl, hm, hmm, _, hx⟩
  · obtain rfl : v = .slice none 0 0 := by simpa using hcs
    exact ⟨[], RowR.nil _ _, by simp⟩
  · obtain rfl : v = .slice (some a) len cap := by simpa using hcs
    have hlm : len ≤ m := by rw [hmm]; split <;> omega
    unfold maxLen at hm hx
    refine ⟨(List.range len).map Sx, ⟨some a, cap, by simp, by simp; omega, by simp, fun h0 => ?_⟩, ?_⟩
    · simp only [List.length_map, List.length_range] at h0
      have h1 := (hx 0 (by omega)).1
      obtain ⟨b, off, spot⟩ := a
      have hspot : spot = none := by simpa [Addr.add] using World.cell?_spot h1
      subst hspot
      refine ⟨b, off, rfl, fun j u hj => ?_⟩
      have hj' : j < len := by have := (List.getElem?_eq_some_iff.1 hj).1; simpa using this
      have := (hx j (by omega)).1
      rw [Addr.add_lit] at this
      rw [this]
      simpa [hj'] using hj
    · intro s hs
      obtain ⟨i, hi, rfl⟩ := List.mem_map.1 hs
      have := List.mem_range.1 hi
      exact (hx i (by omega)).2

theorem rowR_of_pairs {t e : TypeId} {f0 f1 : Field} {fuel : Nat} {v : Value} {x : DataW H × List MemPlace} (ht : P.underlying t = some (.slice e)) (he : P.underlying e = some (.struct #[f0, f1]))
    (ce : P.cellsOf e = 2) (o0 : f0.offset = 0) (o1 : f1.offset = 1) (c0 : P.cellsOf f0.type = 1) (c1 : P.cellsOf f1.type = 1) (t0 : P.underlying f0.type = some (.int .i64)) (t1 : P.underlying f1.type = some .string)
    (h : DataW.trod enc P w base spare held fuel t [v] = some x) : ∃ xs : List (Int × ByteArray), RowR w 2 v xs.length (wcells xs) ∧ ∀ s ∈ xs, s.2.size ≤ 9223372036854775807 := by
  rcases open_slice_pairs ht he ce o0 o1 c0 c1 h with ⟨hcs, _⟩ | ⟨a, len, cap, m, n, V0, V1, D0, D1, P0, P1, hcs, _, hl, hm, hmm, _, hx⟩
  · obtain rfl : v = .slice none 0 0 := by simpa using hcs
    exact ⟨[], RowR.nil _ _, by simp⟩
  · obtain rfl : v = .slice (some a) len cap := by simpa using hcs
    have hlm : len ≤ m := by rw [hmm]; split <;> omega
    unfold maxLen at hm
    have each : ∀ i, i < m → ∃ y : Int × ByteArray, V0 i = .int .i64 y.1 ∧ V1 i = .string y.2 ∧ y.2.size ≤ 9223372036854775807 := fun i hi => by
      obtain ⟨_, _, h0, h1⟩ := hx i hi
      obtain ⟨q, e0, _, _⟩ := DataW.trod_int t0 h0
      obtain ⟨s, e1, _, hs⟩ := DataW.trod_string t1 h1
      unfold maxLen at hs
      exact ⟨(q, s), by simpa using e0, by simpa using e1, hs⟩
    obtain ⟨Y, hY⟩ := choose_lt each
    refine ⟨(List.range len).map Y, ⟨some a, cap, by simp, by simp; omega, by rw [wcells_len], fun h0 => ?_⟩, ?_⟩
    · simp only [List.length_map, List.length_range] at h0
      have h1 := (hx 0 (by omega)).1
      obtain ⟨b, off, spot⟩ := a
      have hspot : spot = none := by simpa [Addr.add] using World.cell?_spot h1
      subst hspot
      refine ⟨b, off, rfl, fun j u hj => ?_⟩
      have hj' : j < len * 2 := by have := (List.getElem?_eq_some_iff.1 hj).1; rw [wcells_len] at this; simpa using this
      have hw := wcells_at ((List.range len).map Y) (j / 2) (Y (j / 2)) (by simp [show j / 2 < len by omega])
      obtain ⟨q0, q1, _⟩ := hx (j / 2) (by omega)
      obtain ⟨y0, y1, _⟩ := hY (j / 2) (by omega)
      rw [Addr.add_lit] at q0 q1
      rcases Nat.mod_two_eq_zero_or_one j with ej | ej
      · rw [show 2 * (j / 2) = j by omega] at hw
        rw [show j / 2 * 2 = j by omega, y0] at q0
        rw [hw.1] at hj
        rw [q0]
        exact hj
      · rw [show 2 * (j / 2) + 1 = j by omega] at hw
        rw [show j / 2 * 2 + 1 = j by omega, y1] at q1
        rw [hw.2] at hj
        rw [q1]
        exact hj
    · intro s hs
      obtain ⟨i, hi, rfl⟩ := List.mem_map.1 hs
      have := List.mem_range.1 hi
      exact (hY i (by omega)).2.2
end

end Go.Proofs.Ytafojnjpllpjjaa

/- How a disk that is an argument is opened; no statement of the seat is proved here. -/
namespace Go.Proofs.Ytafojnjpllpjjaa
open Go.ChangeShapes Go.WideShapes Go.ChangeAt Go.RowKit Go.Deep Go.Joins

theorem seat_own : ownKnob Try.prog.godebug = none := by kernel_rfl
theorem seat_laidOut : laidOutB Try.prog = true := by kernel_rfl

end Go.Proofs.Ytafojnjpllpjjaa

/- How an argument that is a slice of bytes is opened; no statement of the seat is proved here. -/
namespace Go.Proofs.Ytafojnjpllpjjaa
open Go.ChangeShapes Go.WideShapes Go.ChangeAt Go.RowKit Go.Deep Go.Joins

section
variable {H : Type} {enc : TypeId × Value → H} {P : Program} {w : World} {base : Nat} {spare : Nat → Bool} {held : Bool}

theorem u8_wf {n : Int} (h : (Lit.int .u8 n).wf = true) : 0 ≤ n ∧ n < 256 := by
  simp only [Lit.wf, Bool.and_eq_true, decide_eq_true_eq] at h
  have h1 : IntKind.u8.min = 0 := by decide
  have h2 : IntKind.u8.max = 255 := by decide
  rw [h1, h2] at h
  omega

theorem bytesIn_of {t e : TypeId} {fuel : Nat} {v : Value} {x : DataW H × List MemPlace} (ht : P.underlying t = some (.slice e)) (he : P.underlying e = some (.int .u8)) (hc : P.cellsOf e = 1)
    (h : DataW.trod enc P w base spare held fuel t [v] = some x) : ∃ (bo : Option Addr) (n cap : Nat) (bs : List Nat), v = .slice bo n cap ∧ BytesIn w bo n cap bs := by
  rcases open_ints ht he hc h with ⟨hcs, _⟩ | ⟨a, len, cap, zs, hcs, _, hl, hm, hmm, _, hx, hwf⟩
  · obtain rfl : v = .slice none 0 0 := by simpa using hcs
    exact ⟨none, 0, 0, [], rfl, RowR.nil _ _, by simp, Nat.le_refl _⟩
  · obtain rfl : v = .slice (some a) len cap := by simpa using hcs
    have hlm : len ≤ zs.length := by rw [hmm]; split <;> omega
    unfold maxLen at hm
    refine ⟨some a, len, cap, (zs.take len).map Int.toNat, rfl, ⟨some a, cap, rfl, by omega, by simp; omega, fun h0 => ?_⟩, ?_, hl⟩
    · have h1 := hx 0 (by omega)
      obtain ⟨b, off, spot⟩ := a
      have hspot : spot = none := by simpa [Addr.add] using World.cell?_spot h1
      subst hspot
      refine ⟨b, off, rfl, fun j u hj => ?_⟩
      have hj' : j < len := by have := (List.getElem?_eq_some_iff.1 hj).1; simp at this; omega
      have h2 := hx j (by omega)
      rw [Addr.add_lit] at h2
      rw [h2]
      obtain ⟨z, hz⟩ := getAt zs j (by omega)
      have hb := u8_wf (hwf z (List.mem_of_getElem? hz))
      have e0 : (z.toNat : Int) = z := by omega
      rw [List.getElem?_map, List.getElem?_map, List.getElem?_take_of_lt hj', hz] at hj
      simp only [Option.map_some, e0] at hj
      simpa [List.getD, hz] using hj
    · intro b hb
      obtain ⟨z, hz, rfl⟩ := List.mem_map.1 hb
      have := u8_wf (hwf z (List.mem_of_mem_take hz))
      omega
end

end Go.Proofs.Ytafojnjpllpjjaa
