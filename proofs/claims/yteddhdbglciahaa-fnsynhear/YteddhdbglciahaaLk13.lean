/- Contracts and plain facts that this claim leans on (texts XQ, XD2, VD, VDV, SH3, HPf); no statement of the seat is proved here. -/
import Derived.Test.YteddhdbglciahaaLk8
import Derived.Test.YteddhdbglciahaaLk12
import Derived.Deep.DeepCutAuto
import Derived.Test.YteddhdbglciahaaLk11

/- Numbers written as bytes, in the program: contracts; no statement of the seat is proved here. -/
namespace Go.Proofs.Yteddhdbglciahaa
open Go.RowKit

theorem RowA.keepTy8 {w w' : World} {base : Nat} {e : TypeId} {size : Nat} {T : Nat → Prop} {v : Value} {n : Nat} {cs : List Value} (h : RowA w base e size v n cs) (hb : Upd T w w') (hT : ∀ k, typed w (fun k => base ≤ k) e k → ¬ T k) : RowA w' base e size v n cs := by
  rcases h with ⟨hl, h⟩ | h
  · refine .inl ⟨hl, ?_⟩
    rcases h with h | ⟨g, cap, cur, rfl, hg, hh, h1, h2, h3, h4⟩
    · exact .inl h
    · exact .inr ⟨g, cap, cur, rfl, hg, hb.keeps hh (hT g ⟨hg, cur, hh⟩), h1, h2, h3, h4⟩
  · exact .inr h

/-- What writing of bytes leaves as it was: all blocks that hold no bytes, but that of the slice. -/
def Still (w w' : World) (B : Nat) : Prop := ∀ k o, k < w.heap.size → k ≠ B → w.heap[k]? = some o → (∀ c, o ≠ .cells c 5 (0, 0)) → w'.heap[k]? = some o
theorem Still.trans {w w' w'' : World} {B : Nat} (h : Still w w' B) (g : Still w' w'' B) (hs : w.heap.size ≤ w'.heap.size) : Still w w'' B := fun k o hk hB ho hno => g k o (by omega) hB (h k o hk hB ho hno) hno

end Go.Proofs.Yteddhdbglciahaa

/- A word that is drawn: contracts; no statement of the seat is proved here. -/
namespace Go.Proofs.Yteddhdbglciahaa
open Go.RowKit

theorem built34 (a0 a1 a2 a3 a4 a5 c0 c1 c2 c3 c4 c5 c6 c7 c8 c9 b0 b1 b2 b3 b4 b5 b6 b7 : Int) : Try.prog.built 47 [(0, .int .i64 a0), (1, .int .i64 a1), (2, .int .i64 a2), (3, .int .i64 a3), (4, .int .i64 a4), (5, .int .i64 a5), (6, .agg #[.int .i64 c0, .int .i64 c1, .int .i64 c2, .int .i64 c3, .int .i64 c4, .int .i64 c5, .int .i64 c6, .int .i64 c7, .int .i64 c8, .int .i64 c9]), (7, .int .i64 b0), (8, .int .i64 b1), (9, .int .i64 b2), (10, .int .i64 b3), (11, .int .i64 b4), (12, .int .i64 b5), (13, .int .i64 b6), (14, .int .i64 b7)] = some #[.int .i64 a0, .int .i64 a1, .int .i64 a2, .int .i64 a3, .int .i64 a4, .int .i64 a5, .int .i64 c0, .int .i64 c1, .int .i64 c2, .int .i64 c3, .int .i64 c4, .int .i64 c5, .int .i64 c6, .int .i64 c7, .int .i64 c8, .int .i64 c9, .int .i64 b0, .int .i64 b1, .int .i64 b2, .int .i64 b3, .int .i64 b4, .int .i64 b5, .int .i64 b6, .int .i64 b7, .slice none 0 0, .slice none 0 0] := by kernel_rfl
theorem wpList_built34 {ops : Array Oper} {rest : List Oper} {o : Oper} {a : Act} {w : World} {Q : Exit → Act → World → Prop} (a0 a1 a2 a3 a4 a5 c0 c1 c2 c3 c4 c5 c6 c7 c8 c9 b0 b1 b2 b3 b4 b5 b6 b7 : Int) (hg : o.guard = none) (parts : Array (Nat × Operand)) (ho : o.op = .build 47 parts)
    (hp : (parts.map fun (i, x) => (i, a.eval x)).toList = [(0, .int .i64 a0), (1, .int .i64 a1), (2, .int .i64 a2), (3, .int .i64 a3), (4, .int .i64 a4), (5, .int .i64 a5), (6, .agg #[.int .i64 c0, .int .i64 c1, .int .i64 c2, .int .i64 c3, .int .i64 c4, .int .i64 c5, .int .i64 c6, .int .i64 c7, .int .i64 c8, .int .i64 c9]), (7, .int .i64 b0), (8, .int .i64 b1), (9, .int .i64 b2), (10, .int .i64 b3), (11, .int .i64 b4), (12, .int .i64 b5), (13, .int .i64 b6), (14, .int .i64 b7)])
    (h : wpList Try.prog ops Q rest (a.put o.dst (.agg #[.int .i64 a0, .int .i64 a1, .int .i64 a2, .int .i64 a3, .int .i64 a4, .int .i64 a5, .int .i64 c0, .int .i64 c1, .int .i64 c2, .int .i64 c3, .int .i64 c4, .int .i64 c5, .int .i64 c6, .int .i64 c7, .int .i64 c8, .int .i64 c9, .int .i64 b0, .int .i64 b1, .int .i64 b2, .int .i64 b3, .int .i64 b4, .int .i64 b5, .int .i64 b6, .int .i64 b7, .slice none 0 0, .slice none 0 0])) w) : wpList Try.prog ops Q (o :: rest) a w :=
  wpList_build hg 47 parts ho (by rw [hp, built34]; rfl) (by rw [hp, built34]; exact h)

set_option maxRecDepth 100000 in
set_option maxHeartbeats 12000000 in
theorem l72Word_any (w0 w : World) (R p : Nat) (hr : Rd w0 w R p) (hp : p ≤ 700000) :
    Calls Try.prog 69 #[.pointer (some ⟨R, 0, none⟩)] w fun e w' => ∃ (v : Value) (x : Wd) (p' : Nat), e = .returned v ∧ WdO w' (fun k => w.heap.size ≤ k) v x ∧ x.ps.length ≤ 61 ∧ x.ls.length ≤ 61 ∧ Rd w0 w' R p' ∧ p' ≤ p + 4000 ∧ Upd (fun j => j = R) w w' := by
  obtain ⟨hRl, hR0, hw0⟩ := hr.lt
  have al0 := bal (Below.refl w.heap.size w) (.cells #[.int .i64 0, .int .i64 0, .int .i64 0, .int .i64 0, .int .i64 0, .int .i64 0, .int .i64 0, .int .i64 0, .int .i64 0, .int .i64 0, .int .i64 0, .int .i64 0, .int .i64 0, .int .i64 0, .int .i64 0, .int .i64 0, .int .i64 0, .int .i64 0, .int .i64 0, .int .i64 0, .int .i64 0, .int .i64 0, .int .i64 0, .int .i64 0, .slice none 0 0, .slice none 0 0] 47)
  have hr0 := hr.keepB al0
  have U0 : Upd (fun j => j = R) (w.alloc (.cells #[.int .i64 0, .int .i64 0, .int .i64 0, .int .i64 0, .int .i64 0, .int .i64 0, .int .i64 0, .int .i64 0, .int .i64 0, .int .i64 0, .int .i64 0, .int .i64 0, .int .i64 0, .int .i64 0, .int .i64 0, .int .i64 0, .int .i64 0, .int .i64 0, .int .i64 0, .int .i64 0, .int .i64 0, .int .i64 0, .int .i64 0, .int .i64 0, .slice none 0 0, .slice none 0 0] 47)) (w.alloc (.cells #[.int .i64 0, .int .i64 0, .int .i64 0, .int .i64 0, .int .i64 0, .int .i64 0, .int .i64 0, .int .i64 0, .int .i64 0, .int .i64 0, .int .i64 0, .int .i64 0, .int .i64 0, .int .i64 0, .int .i64 0, .int .i64 0, .int .i64 0, .int .i64 0, .int .i64 0, .int .i64 0, .int .i64 0, .int .i64 0, .int .i64 0, .int .i64 0, .slice none 0 0, .slice none 0 0] 47)) := Upd.refl _ _
  have G := hide (heap_alloc_new w (.cells #[.int .i64 0, .int .i64 0, .int .i64 0, .int .i64 0, .int .i64 0, .int .i64 0, .int .i64 0, .int .i64 0, .int .i64 0, .int .i64 0, .int .i64 0, .int .i64 0, .int .i64 0, .int .i64 0, .int .i64 0, .int .i64 0, .int .i64 0, .int .i64 0, .int .i64 0, .int .i64 0, .int .i64 0, .int .i64 0, .int .i64 0, .int .i64 0, .slice none 0 0, .slice none 0 0] 47))
  clear hr
  go_enter Try.func69, Try.ntmps69
  go_wp2_with fail
  refine (pick_any w0 _ R _ 15 hr0 (by omega) (by omega) (by omega)).mono ?_
  rintro e w1 ⟨q1, rfl, -, hr1, hu1⟩
  have U1 := U0.trans hu1
  clear hr0 hu1 U0
  go_wp2_with fail
  refine (pick_any w0 _ R _ 5 hr1 (by omega) (by omega) (by omega)).mono ?_
  rintro e w2 ⟨q2, rfl, -, hr2, hu2⟩
  have U2 := U1.trans hu2
  clear hr1 hu2 U1
  go_wp2_with fail
  refine (pick_any w0 _ R _ 5 hr2 (by omega) (by omega) (by omega)).mono ?_
  rintro e w3 ⟨q3, rfl, -, hr3, hu3⟩
  have U3 := U2.trans hu3
  clear hr2 hu3 U2
  go_wp2_with fail
  refine (pick_any w0 _ R _ 40 hr3 (by omega) (by omega) (by omega)).mono ?_
  rintro e w4 ⟨q4, rfl, -, hr4, hu4⟩
  have U4 := U3.trans hu4
  clear hr3 hu4 U3
  go_wp2_with fail
  refine (pick_any w0 _ R _ 4 hr4 (by omega) (by omega) (by omega)).mono ?_
  rintro e w5 ⟨q5, rfl, -, hr5, hu5⟩
  have U5 := U4.trans hu5
  clear hr4 hu5 U4
  go_wp2_with fail
  refine (pick_any w0 _ R _ 7 hr5 (by omega) (by omega) (by omega)).mono ?_
  rintro e w6 ⟨q6, rfl, -, hr6, hu6⟩
  have U6 := U5.trans hu6
  clear hr5 hu6 U5
  go_wp2_with fail
  refine (l72Cmd_any w0 _ R _ hr6 (by omega)).mono ?_
  rintro e w7 ⟨C, p7, rfl, hr7, hp7, hu7⟩
  have U7 := U6.trans hu7
  clear hr6 hu7 U6
  go_wp2_with fail
  refine (pick_any w0 _ R _ 3 hr7 (by omega) (by omega) (by omega)).mono ?_
  rintro e w8 ⟨q8, rfl, -, hr8, hu8⟩
  have U8 := U7.trans hu8
  clear hr7 hu8 U7
  go_wp2_with fail
  refine (pick_any w0 _ R _ 3 hr8 (by omega) (by omega) (by omega)).mono ?_
  rintro e w9 ⟨q9, rfl, -, hr9, hu9⟩
  have U9 := U8.trans hu9
  clear hr8 hu9 U8
  go_wp2_with fail
  refine (pick_any w0 _ R _ 4 hr9 (by omega) (by omega) (by omega)).mono ?_
  rintro e w10 ⟨q10, rfl, -, hr10, hu10⟩
  have U10 := U9.trans hu10
  clear hr9 hu10 U9
  go_wp2_with fail
  refine (pick_any w0 _ R _ 4 hr10 (by omega) (by omega) (by omega)).mono ?_
  rintro e w11 ⟨q11, rfl, -, hr11, hu11⟩
  have U11 := U10.trans hu11
  clear hr10 hu11 U10
  go_wp2_with fail
  refine (pick_any w0 _ R _ 2 hr11 (by omega) (by omega) (by omega)).mono ?_
  rintro e w12 ⟨q12, rfl, -, hr12, hu12⟩
  have U12 := U11.trans hu12
  clear hr11 hu12 U11
  go_wp2_with fail
  refine (pick_any w0 _ R _ 3 hr12 (by omega) (by omega) (by omega)).mono ?_
  rintro e w13 ⟨q13, rfl, -, hr13, hu13⟩
  have U13 := U12.trans hu13
  clear hr12 hu13 U12
  go_wp2_with fail
  refine (pick_any w0 _ R _ 3 hr13 (by omega) (by omega) (by omega)).mono ?_
  rintro e w14 ⟨q14, rfl, -, hr14, hu14⟩
  have U14 := U13.trans hu14
  clear hr13 hu14 U13
  go_wp2_with fail
  refine (l72Num_any w0 _ R _ hr14 (by omega)).mono ?_
  rintro e w15 ⟨z15, rfl, hr15, hu15⟩
  have U15 := U14.trans hu15
  clear hr14 hu15 U14
  have G0 := hide (U15.keeps G.out (by omega))
  have z15s := U15.size
  simp only [World.size_alloc] at z15s
  have UU := hide ((Upd.ofBelow al0).trans U15)
  have hRl15 := hr15.lt.1
  clear G U15 al0
  go_wp2_with (first
    | (refine wpList_built34 (wrap64 (1 + (q1 : Int))) (q2 : Int) (q3 : Int) (wrap64 (1 + (q4 : Int))) (wrap64 (1 + (q5 : Int))) (q6 : Int) C.c0 C.c1 C.c2 C.c3 C.c4 C.c5 C.c6 C.c7 C.c8 C.c9 (q8 : Int) (wrap64 (1 + (q9 : Int))) (q10 : Int) (wrap64 (1 + (q11 : Int))) (wrap64 (1 + (q12 : Int))) (q13 : Int) (q14 : Int) z15 rfl _ rfl ?hp ?_; (case hp => ((conv => lhs; simp only [List.map_toArray, List.map_cons, List.map_nil]); rfl)))
    | (refine wpList_store_row rfl 47 (.tmp 3) (.tmp 40) rfl w15.heap.size _ rfl rfl _ _ (heap_alloc_new w15 _) infoWd (show (26 : Nat) = 26 from rfl) (all_of_list rfl) ?_; rw [World.setRow_alloc_new]))
  generalize hW : World.alloc _ _ = W
  have K1 : ∃ x : Wd, x.ps = [] ∧ x.ls = [] ∧ W.heap[w15.heap.size]? = some (.cells (#[.int .i64 x.a0, .int .i64 x.a1, .int .i64 x.a2, .int .i64 x.a3, .int .i64 x.a4, .int .i64 x.a5, .int .i64 x.c0, .int .i64 x.c1, .int .i64 x.c2, .int .i64 x.c3, .int .i64 x.c4, .int .i64 x.c5, .int .i64 x.c6, .int .i64 x.c7, .int .i64 x.c8, .int .i64 x.c9, .int .i64 x.b0, .int .i64 x.b1, .int .i64 x.b2, .int .i64 x.b3, .int .i64 x.b4, .int .i64 x.b5, .int .i64 x.b6, .int .i64 x.b7, .slice none 0 0, .slice none 0 0] : Array Value) 47 (0, 0)) := by
    rw [← hW]
    exact ⟨⟨_, _, _, _, _, _, _, _, _, _, _, _, _, _, _, _, _, _, _, _, _, _, _, _, [], []⟩, rfl, rfl, heap_alloc_new w15 _⟩
  have alc : Below w15.heap.size w15 W := by rw [← hW]; exact bal (Below.refl _ _) _
  have zW : W.heap.size = w15.heap.size + 1 := by rw [← hW]; simp
  clear hW
  generalize Value.agg _ = A0
  obtain ⟨x, hxp, hxl, K1⟩ := K1
  have HXp := hide hxp
  have HXl := hide hxl
  have HK1 := hide K1
  have K0 := hide (bKeeps alc G0.out)
  have hrc := hr15.keepB alc
  refine (pick_any w0 _ R _ 3 hrc (by omega) (by omega) (by omega)).mono ?_
  rintro e w16 ⟨q16, rfl, hq16, hr16, hu16⟩
  have L0 := hide (hu16.keeps K0.out (by omega))
  have L1 := hide (hu16.keeps HK1.out (by omega))
  have U16 := hide ((UU.out.trans (Upd.ofBelow alc)).trans hu16)
  have hz16 := hu16.size
  clear hr15 G0 K0 K1 HK1 hrc alc hu16 UU hxp hxl
  by_cases h16 : q16 = 0
  · subst h16
    go_wp2_with fail
    refine (l72PiecesAny_any w0 _ R _ hr16 (by omega)).mono ?_
    rintro e w17 ⟨v17, ps, p17, rfl, row17, hl17, hr17, hp17, hu17⟩
    obtain ⟨po, pc, rfl, -⟩ := row17.room
    have M0 := hide (hu17.keeps L0.out (by omega))
    have M1 := hide (hu17.keeps L1.out (by omega))
    have c0 : w17.cell? ⟨w15.heap.size, 24, none⟩ = some (.slice none 0 0) := boxAt M1.out 24
    have c1 : w17.frozen? ⟨w15.heap.size, 24, none⟩ = false := boxFz M1.out 24
    have us := Upd.setCell (S := fun j => j = w15.heap.size) w17 w15.heap.size 24 (.slice po ps.length pc) rfl
    have N0 := hide (us.keeps M0.out (by omega))
    have N1 : Hid ((w17.setCell ⟨w15.heap.size, 24, none⟩ (.slice po ps.length pc)).heap[w15.heap.size]? = some (.cells (#[.int .i64 x.a0, .int .i64 x.a1, .int .i64 x.a2, .int .i64 x.a3, .int .i64 x.a4, .int .i64 x.a5, .int .i64 x.c0, .int .i64 x.c1, .int .i64 x.c2, .int .i64 x.c3, .int .i64 x.c4, .int .i64 x.c5, .int .i64 x.c6, .int .i64 x.c7, .int .i64 x.c8, .int .i64 x.c9, .int .i64 x.b0, .int .i64 x.b1, .int .i64 x.b2, .int .i64 x.b3, .int .i64 x.b4, .int .i64 x.b5, .int .i64 x.b6, .int .i64 x.b7, .slice po ps.length pc, .slice none 0 0] : Array Value) 47 (0, 0))) := row_set _ M1.out
    have RP := hide (RowA.keepTy8 (row17.base (b' := w.heap.size) (by omega)) us (fun k h1 h2 => by subst h2; exact typed_box M1.out (by decide) rfl h1))
    have hrN := hr17.keep us (by omega) (fun k h => by omega)
    have UN := hide ((U16.out.trans hu17).transN us (fun k h => by omega))
    have hz17 := hu17.size
    clear L0 L1 U16 hr16 hu17 row17 M0 M1
    go_wp2_with fail
    clear c0 c1
    generalize w17.setCell ⟨w15.heap.size, 24, none⟩ (.slice po ps.length pc) = V at us N0 N1 RP hrN UN ⊢
    have hzV := us.size
    refine (l72Last_any w0 _ R _ hrN (by omega)).mono ?_
    rintro e w18 ⟨v18, ls, p18, rfl, row18, hl18, hr18, hp18, hu18⟩
    obtain ⟨lo, lc, rfl, -⟩ := row18.room
    have M0 := hide (hu18.keeps N0.out (by omega))
    have M1 := hide (hu18.keeps N1.out (by omega))
    have c0 : w18.cell? ⟨w15.heap.size, 25, none⟩ = some (.slice none 0 0) := boxAt M1.out 25
    have c1 : w18.frozen? ⟨w15.heap.size, 25, none⟩ = false := boxFz M1.out 25
    have ut := Upd.setCell (S := fun j => j = w15.heap.size) w18 w15.heap.size 25 (.slice lo ls.length lc) rfl
    have T0 := hide (ut.keeps M0.out (by omega))
    have T1 : Hid ((w18.setCell ⟨w15.heap.size, 25, none⟩ (.slice lo ls.length lc)).heap[w15.heap.size]? = some (.cells (#[.int .i64 x.a0, .int .i64 x.a1, .int .i64 x.a2, .int .i64 x.a3, .int .i64 x.a4, .int .i64 x.a5, .int .i64 x.c0, .int .i64 x.c1, .int .i64 x.c2, .int .i64 x.c3, .int .i64 x.c4, .int .i64 x.c5, .int .i64 x.c6, .int .i64 x.c7, .int .i64 x.c8, .int .i64 x.c9, .int .i64 x.b0, .int .i64 x.b1, .int .i64 x.b2, .int .i64 x.b3, .int .i64 x.b4, .int .i64 x.b5, .int .i64 x.b6, .int .i64 x.b7, .slice po ps.length pc, .slice lo ls.length lc] : Array Value) 47 (0, 0))) := row_set _ M1.out
    have RP2 := hide (RowA.keepTy8 (RowA.keepTy8 RP.out hu18 (fun k h1 h2 => by have := h1.1; omega)) ut (fun k h1 h2 => by subst h2; exact typed_box M1.out (by decide) rfl h1))
    have RL2 := hide (RowA.keepTy8 (row18.base (b' := w.heap.size) (by omega)) ut (fun k h1 h2 => by subst h2; exact typed_box M1.out (by decide) rfl h1))
    have hrT := hr18.keep ut (by omega) (fun k h => by omega)
    have UT := hide ((UN.out.trans hu18).transN ut (fun k h => by omega))
    have hz18 := hu18.size
    clear us N0 N1 RP hrN UN hu18 row18 M0 M1
    go_wp2_with fail
    clear c0 c1
    generalize w18.setCell ⟨w15.heap.size, 25, none⟩ (.slice lo ls.length lc) = Y at ut T0 T1 RP2 RL2 hrT UT ⊢
    have hzY := ut.size
    obtain ⟨y, hy⟩ : ∃ y : Wd, y = { x with ps := ps, ls := ls } := ⟨_, rfl⟩
    have T1' : Hid (Y.heap[w15.heap.size]? = some (.cells (#[.int .i64 y.a0, .int .i64 y.a1, .int .i64 y.a2, .int .i64 y.a3, .int .i64 y.a4, .int .i64 y.a5, .int .i64 y.c0, .int .i64 y.c1, .int .i64 y.c2, .int .i64 y.c3, .int .i64 y.c4, .int .i64 y.c5, .int .i64 y.c6, .int .i64 y.c7, .int .i64 y.c8, .int .i64 y.c9, .int .i64 y.b0, .int .i64 y.b1, .int .i64 y.b2, .int .i64 y.b3, .int .i64 y.b4, .int .i64 y.b5, .int .i64 y.b6, .int .i64 y.b7, .slice po y.ps.length pc, .slice lo y.ls.length lc] : Array Value) 47 (0, 0))) := by rw [hy]; exact T1.out
    have RP' : Hid (RowA Y w.heap.size 152 4 (.slice po y.ps.length pc) y.ps.length (pcells y.ps)) := by rw [hy]; exact RP2.out
    have RL' : Hid (RowA Y w.heap.size 156 2 (.slice lo y.ls.length lc) y.ls.length (lcells y.ls)) := by rw [hy]; exact RL2.out
    have hyp : y.ps.length ≤ 61 := by rw [hy]; exact hl17
    have hyl : y.ls.length ≤ 61 := by rw [hy]; exact hl18
    have hpp : p18 ≤ p + 3990 := by omega
    have hzz : w15.heap.size < Y.heap.size := by omega
    clear hy T1 RP2 RL2 ut hl17 hl18
    refine (pick_any w0 _ R _ 20 hrT (by omega) (by omega) (by omega)).mono ?_
    rintro e w21 ⟨q21, rfl, hq21, hr21, hu21⟩
    have P0 := hide (hu21.keeps T0.out (by omega))
    have P1 := hide (hu21.keeps T1'.out (by omega))
    have PP := hide (RowA.keepTy8 RP'.out hu21 (fun k h1 h2 => by have := h1.1; omega))
    have PL := hide (RowA.keepTy8 RL'.out hu21 (fun k h1 h2 => by have := h1.1; omega))
    have U21 := hide (UT.out.trans hu21)
    have hz21 := hu21.size
    clear T0 T1' RP' RL' UT hrT hu21
    rcases (by omega : q21 = 0 ∨ q21 = 1 ∨ q21 = 2 ∨ q21 = 3 ∨ 4 ≤ q21) with h | h | h | h | h
    · subst h
      have al := bal (Below.refl w21.heap.size w21) (.cells #[.int .i64 (-1), .int .i64 5, .int .i64 100, .int .i64 103, .int .i64 104] 3)
      have LA := hide (litAt w21 [(-1), 5, 100, 103, 104] 3)
      have hr21a := hr21.keepB al
      go_wp2_with fail
      refine (pick_any w0 _ R _ 5 hr21a (by omega) (by omega) (by omega)).mono ?_
      rintro e w22 ⟨q22, rfl, hq22, hr22, hu22⟩
      obtain ⟨z, hz⟩ := LA.out q22 hq22
      have f0 : w22.cell? ⟨w21.heap.size, q22, none⟩ = some (.int .i64 z) := updCell hu22 hz (by omega)
      have hi : (q22 : Int) < 5 := by omega
      have N0 := hide (hu22.keeps (bKeeps al P0.out) (by omega))
      have N1 := hide (hu22.keeps (bKeeps al P1.out) (by omega))
      have NP := hide (RowA.keepTy8 (PP.out.keepB al) hu22 (fun k h1 h2 => by have := h1.1; omega))
      have NL := hide (RowA.keepTy8 (PL.out.keepB al) hu22 (fun k h1 h2 => by have := h1.1; omega))
      have U22 := hide ((U21.out.trans (Upd.ofBelow al)).trans hu22)
      have hz22 := hu22.size
      simp only [World.size_alloc] at hz22
      clear P0 P1 PP PL U21 hr21 hr21a hu22 al LA hz
      obtain ⟨u, hu⟩ : ∃ u : Wd, u = { y with a1 := z } := ⟨_, rfl⟩
      have us := Upd.setCell (S := fun j => j = w15.heap.size) w22 w15.heap.size 1 (.int .i64 z) rfl
      have M0 := hide (us.keeps N0.out (by omega))
      have M1 : Hid ((w22.setCell ⟨w15.heap.size, 1, none⟩ (.int .i64 z)).heap[w15.heap.size]? = some (.cells (#[.int .i64 u.a0, .int .i64 u.a1, .int .i64 u.a2, .int .i64 u.a3, .int .i64 u.a4, .int .i64 u.a5, .int .i64 u.c0, .int .i64 u.c1, .int .i64 u.c2, .int .i64 u.c3, .int .i64 u.c4, .int .i64 u.c5, .int .i64 u.c6, .int .i64 u.c7, .int .i64 u.c8, .int .i64 u.c9, .int .i64 u.b0, .int .i64 u.b1, .int .i64 u.b2, .int .i64 u.b3, .int .i64 u.b4, .int .i64 u.b5, .int .i64 u.b6, .int .i64 u.b7, .slice po u.ps.length pc, .slice lo u.ls.length lc] : Array Value) 47 (0, 0))) := by rw [hu]; exact row_set _ N1.out
      have RPu : Hid (RowA (w22.setCell ⟨w15.heap.size, 1, none⟩ (.int .i64 z)) w.heap.size 152 4 (.slice po u.ps.length pc) u.ps.length (pcells u.ps)) := by rw [hu]; exact RowA.keepTy8 NP.out us (fun k h1 h2 => by subst h2; exact typed_box N1.out (by decide) rfl h1)
      have RLu : Hid (RowA (w22.setCell ⟨w15.heap.size, 1, none⟩ (.int .i64 z)) w.heap.size 156 2 (.slice lo u.ls.length lc) u.ls.length (lcells u.ls)) := by rw [hu]; exact RowA.keepTy8 NL.out us (fun k h1 h2 => by subst h2; exact typed_box N1.out (by decide) rfl h1)
      have hup : u.ps.length ≤ 61 := by rw [hu]; exact hyp
      have hul : u.ls.length ≤ 61 := by rw [hu]; exact hyl
      have c0 : w22.cell? ⟨w15.heap.size, 1, none⟩ = some (.int .i64 y.a1) := boxAt N1.out 1
      have c1 : w22.frozen? ⟨w15.heap.size, 1, none⟩ = false := boxFz N1.out 1
      have hrF := hr22.keep us (by omega) (fun k h => by omega)
      have UF := hide (U22.out.transN us (fun k h => by omega))
      clear hu N0 N1 NP NL U22 us hr22
      have H1s := hide (all_of_list (List.all_eq_true.2 (wd_one u po lo u.ps.length pc u.ls.length lc)))
      go_wp2_with (first | (refine wpList_load_row rfl 47 (.tmp 3) rfl w15.heap.size rfl _ _ (0, 0) _ M1.out Try.underlying47 rfl infoWd ?_) | (refine wpList_store_row rfl 47 (.tmp 2) (.tmp 84) rfl w.heap.size _ rfl rfl _ _ M0.out infoWd rfl H1s.out ?_))
      refine bodyPost_ret (v := .agg #[.int .i64 u.a0, .int .i64 u.a1, .int .i64 u.a2, .int .i64 u.a3, .int .i64 u.a4, .int .i64 u.a5, .int .i64 u.c0, .int .i64 u.c1, .int .i64 u.c2, .int .i64 u.c3, .int .i64 u.c4, .int .i64 u.c5, .int .i64 u.c6, .int .i64 u.c7, .int .i64 u.c8, .int .i64 u.c9, .int .i64 u.b0, .int .i64 u.b1, .int .i64 u.b2, .int .i64 u.b3, .int .i64 u.b4, .int .i64 u.b5, .int .i64 u.b6, .int .i64 u.b7, .slice po u.ps.length pc, .slice lo u.ls.length lc]) (results_cell_row Try.results69 _ _ w.heap.size _ _ (0, 0) _ rfl (setRow_heap _ _ _ _ _ _ M0.out) Try.underlying47 rfl infoWd) rfl ?_
      have u6 : Upd (fun j => j = w.heap.size) (w22.setCell ⟨w15.heap.size, 1, none⟩ (.int .i64 z)) ((w22.setCell ⟨w15.heap.size, 1, none⟩ (.int .i64 z)).setRow w.heap.size (#[.int .i64 u.a0, .int .i64 u.a1, .int .i64 u.a2, .int .i64 u.a3, .int .i64 u.a4, .int .i64 u.a5, .int .i64 u.c0, .int .i64 u.c1, .int .i64 u.c2, .int .i64 u.c3, .int .i64 u.c4, .int .i64 u.c5, .int .i64 u.c6, .int .i64 u.c7, .int .i64 u.c8, .int .i64 u.c9, .int .i64 u.b0, .int .i64 u.b1, .int .i64 u.b2, .int .i64 u.b3, .int .i64 u.b4, .int .i64 u.b5, .int .i64 u.b6, .int .i64 u.b7, .slice po u.ps.length pc, .slice lo u.ls.length lc] : Array Value)) := ⟨rfl, rfl, rfl, by simp, fun k _ h => setRow_other _ _ _ _ h⟩
      refine ⟨_, u, _, rfl, ⟨po, pc, lo, lc, rfl, ?_, ?_⟩, hup, hul, hrF.keep u6 (by omega) (fun k h => by omega), by omega, UF.out.transN u6 (fun k h => by omega)⟩
      · exact ((RowA.keepTy8 RPu.out u6 (fun k h1 h2 => by subst h2; exact typed_box M0.out (by decide) rfl h1)).row (by omega))
      · exact ((RowA.keepTy8 RLu.out u6 (fun k h1 h2 => by subst h2; exact typed_box M0.out (by decide) rfl h1)).row (by omega))
    · subst h
      have al := bal (Below.refl w21.heap.size w21) (.cells #[.int .i64 0, .int .i64 (-1), .int .i64 (-2), .int .i64 60, .int .i64 61] 3)
      have LA := hide (litAt w21 [0, (-1), (-2), 60, 61] 3)
      have hr21a := hr21.keepB al
      go_wp2_with fail
      refine (pick_any w0 _ R _ 5 hr21a (by omega) (by omega) (by omega)).mono ?_
      rintro e w22 ⟨q22, rfl, hq22, hr22, hu22⟩
      obtain ⟨z, hz⟩ := LA.out q22 hq22
      have f0 : w22.cell? ⟨w21.heap.size, q22, none⟩ = some (.int .i64 z) := updCell hu22 hz (by omega)
      have hi : (q22 : Int) < 5 := by omega
      have N0 := hide (hu22.keeps (bKeeps al P0.out) (by omega))
      have N1 := hide (hu22.keeps (bKeeps al P1.out) (by omega))
      have NP := hide (RowA.keepTy8 (PP.out.keepB al) hu22 (fun k h1 h2 => by have := h1.1; omega))
      have NL := hide (RowA.keepTy8 (PL.out.keepB al) hu22 (fun k h1 h2 => by have := h1.1; omega))
      have U22 := hide ((U21.out.trans (Upd.ofBelow al)).trans hu22)
      have hz22 := hu22.size
      simp only [World.size_alloc] at hz22
      clear P0 P1 PP PL U21 hr21 hr21a hu22 al LA hz
      obtain ⟨u, hu⟩ : ∃ u : Wd, u = { y with a4 := z } := ⟨_, rfl⟩
      have us := Upd.setCell (S := fun j => j = w15.heap.size) w22 w15.heap.size 4 (.int .i64 z) rfl
      have M0 := hide (us.keeps N0.out (by omega))
      have M1 : Hid ((w22.setCell ⟨w15.heap.size, 4, none⟩ (.int .i64 z)).heap[w15.heap.size]? = some (.cells (#[.int .i64 u.a0, .int .i64 u.a1, .int .i64 u.a2, .int .i64 u.a3, .int .i64 u.a4, .int .i64 u.a5, .int .i64 u.c0, .int .i64 u.c1, .int .i64 u.c2, .int .i64 u.c3, .int .i64 u.c4, .int .i64 u.c5, .int .i64 u.c6, .int .i64 u.c7, .int .i64 u.c8, .int .i64 u.c9, .int .i64 u.b0, .int .i64 u.b1, .int .i64 u.b2, .int .i64 u.b3, .int .i64 u.b4, .int .i64 u.b5, .int .i64 u.b6, .int .i64 u.b7, .slice po u.ps.length pc, .slice lo u.ls.length lc] : Array Value) 47 (0, 0))) := by rw [hu]; exact row_set _ N1.out
      have RPu : Hid (RowA (w22.setCell ⟨w15.heap.size, 4, none⟩ (.int .i64 z)) w.heap.size 152 4 (.slice po u.ps.length pc) u.ps.length (pcells u.ps)) := by rw [hu]; exact RowA.keepTy8 NP.out us (fun k h1 h2 => by subst h2; exact typed_box N1.out (by decide) rfl h1)
      have RLu : Hid (RowA (w22.setCell ⟨w15.heap.size, 4, none⟩ (.int .i64 z)) w.heap.size 156 2 (.slice lo u.ls.length lc) u.ls.length (lcells u.ls)) := by rw [hu]; exact RowA.keepTy8 NL.out us (fun k h1 h2 => by subst h2; exact typed_box N1.out (by decide) rfl h1)
      have hup : u.ps.length ≤ 61 := by rw [hu]; exact hyp
      have hul : u.ls.length ≤ 61 := by rw [hu]; exact hyl
      have c0 : w22.cell? ⟨w15.heap.size, 4, none⟩ = some (.int .i64 y.a4) := boxAt N1.out 4
      have c1 : w22.frozen? ⟨w15.heap.size, 4, none⟩ = false := boxFz N1.out 4
      have hrF := hr22.keep us (by omega) (fun k h => by omega)
      have UF := hide (U22.out.transN us (fun k h => by omega))
      clear hu N0 N1 NP NL U22 us hr22
      have H1s := hide (all_of_list (List.all_eq_true.2 (wd_one u po lo u.ps.length pc u.ls.length lc)))
      go_wp2_with (first | (refine wpList_load_row rfl 47 (.tmp 3) rfl w15.heap.size rfl _ _ (0, 0) _ M1.out Try.underlying47 rfl infoWd ?_) | (refine wpList_store_row rfl 47 (.tmp 2) (.tmp 84) rfl w.heap.size _ rfl rfl _ _ M0.out infoWd rfl H1s.out ?_))
      refine bodyPost_ret (v := .agg #[.int .i64 u.a0, .int .i64 u.a1, .int .i64 u.a2, .int .i64 u.a3, .int .i64 u.a4, .int .i64 u.a5, .int .i64 u.c0, .int .i64 u.c1, .int .i64 u.c2, .int .i64 u.c3, .int .i64 u.c4, .int .i64 u.c5, .int .i64 u.c6, .int .i64 u.c7, .int .i64 u.c8, .int .i64 u.c9, .int .i64 u.b0, .int .i64 u.b1, .int .i64 u.b2, .int .i64 u.b3, .int .i64 u.b4, .int .i64 u.b5, .int .i64 u.b6, .int .i64 u.b7, .slice po u.ps.length pc, .slice lo u.ls.length lc]) (results_cell_row Try.results69 _ _ w.heap.size _ _ (0, 0) _ rfl (setRow_heap _ _ _ _ _ _ M0.out) Try.underlying47 rfl infoWd) rfl ?_
      have u6 : Upd (fun j => j = w.heap.size) (w22.setCell ⟨w15.heap.size, 4, none⟩ (.int .i64 z)) ((w22.setCell ⟨w15.heap.size, 4, none⟩ (.int .i64 z)).setRow w.heap.size (#[.int .i64 u.a0, .int .i64 u.a1, .int .i64 u.a2, .int .i64 u.a3, .int .i64 u.a4, .int .i64 u.a5, .int .i64 u.c0, .int .i64 u.c1, .int .i64 u.c2, .int .i64 u.c3, .int .i64 u.c4, .int .i64 u.c5, .int .i64 u.c6, .int .i64 u.c7, .int .i64 u.c8, .int .i64 u.c9, .int .i64 u.b0, .int .i64 u.b1, .int .i64 u.b2, .int .i64 u.b3, .int .i64 u.b4, .int .i64 u.b5, .int .i64 u.b6, .int .i64 u.b7, .slice po u.ps.length pc, .slice lo u.ls.length lc] : Array Value)) := ⟨rfl, rfl, rfl, by simp, fun k _ h => setRow_other _ _ _ _ h⟩
      refine ⟨_, u, _, rfl, ⟨po, pc, lo, lc, rfl, ?_, ?_⟩, hup, hul, hrF.keep u6 (by omega) (fun k h => by omega), by omega, UF.out.transN u6 (fun k h => by omega)⟩
      · exact ((RowA.keepTy8 RPu.out u6 (fun k h1 h2 => by subst h2; exact typed_box M0.out (by decide) rfl h1)).row (by omega))
      · exact ((RowA.keepTy8 RLu.out u6 (fun k h1 h2 => by subst h2; exact typed_box M0.out (by decide) rfl h1)).row (by omega))
    · subst h
      have al := bal (Below.refl w21.heap.size w21) (.cells #[.int .i64 0, .int .i64 (-1), .int .i64 99999, .int .i64 100000] 3)
      have LA := hide (litAt w21 [0, (-1), 99999, 100000] 3)
      have hr21a := hr21.keepB al
      go_wp2_with fail
      refine (pick_any w0 _ R _ 4 hr21a (by omega) (by omega) (by omega)).mono ?_
      rintro e w22 ⟨q22, rfl, hq22, hr22, hu22⟩
      obtain ⟨z, hz⟩ := LA.out q22 hq22
      have f0 : w22.cell? ⟨w21.heap.size, q22, none⟩ = some (.int .i64 z) := updCell hu22 hz (by omega)
      have hi : (q22 : Int) < 4 := by omega
      have N0 := hide (hu22.keeps (bKeeps al P0.out) (by omega))
      have N1 := hide (hu22.keeps (bKeeps al P1.out) (by omega))
      have NP := hide (RowA.keepTy8 (PP.out.keepB al) hu22 (fun k h1 h2 => by have := h1.1; omega))
      have NL := hide (RowA.keepTy8 (PL.out.keepB al) hu22 (fun k h1 h2 => by have := h1.1; omega))
      have U22 := hide ((U21.out.trans (Upd.ofBelow al)).trans hu22)
      have hz22 := hu22.size
      simp only [World.size_alloc] at hz22
      clear P0 P1 PP PL U21 hr21 hr21a hu22 al LA hz
      obtain ⟨u, hu⟩ : ∃ u : Wd, u = { y with a3 := z } := ⟨_, rfl⟩
      have us := Upd.setCell (S := fun j => j = w15.heap.size) w22 w15.heap.size 3 (.int .i64 z) rfl
      have M0 := hide (us.keeps N0.out (by omega))
      have M1 : Hid ((w22.setCell ⟨w15.heap.size, 3, none⟩ (.int .i64 z)).heap[w15.heap.size]? = some (.cells (#[.int .i64 u.a0, .int .i64 u.a1, .int .i64 u.a2, .int .i64 u.a3, .int .i64 u.a4, .int .i64 u.a5, .int .i64 u.c0, .int .i64 u.c1, .int .i64 u.c2, .int .i64 u.c3, .int .i64 u.c4, .int .i64 u.c5, .int .i64 u.c6, .int .i64 u.c7, .int .i64 u.c8, .int .i64 u.c9, .int .i64 u.b0, .int .i64 u.b1, .int .i64 u.b2, .int .i64 u.b3, .int .i64 u.b4, .int .i64 u.b5, .int .i64 u.b6, .int .i64 u.b7, .slice po u.ps.length pc, .slice lo u.ls.length lc] : Array Value) 47 (0, 0))) := by rw [hu]; exact row_set _ N1.out
      have RPu : Hid (RowA (w22.setCell ⟨w15.heap.size, 3, none⟩ (.int .i64 z)) w.heap.size 152 4 (.slice po u.ps.length pc) u.ps.length (pcells u.ps)) := by rw [hu]; exact RowA.keepTy8 NP.out us (fun k h1 h2 => by subst h2; exact typed_box N1.out (by decide) rfl h1)
      have RLu : Hid (RowA (w22.setCell ⟨w15.heap.size, 3, none⟩ (.int .i64 z)) w.heap.size 156 2 (.slice lo u.ls.length lc) u.ls.length (lcells u.ls)) := by rw [hu]; exact RowA.keepTy8 NL.out us (fun k h1 h2 => by subst h2; exact typed_box N1.out (by decide) rfl h1)
      have hup : u.ps.length ≤ 61 := by rw [hu]; exact hyp
      have hul : u.ls.length ≤ 61 := by rw [hu]; exact hyl
      have c0 : w22.cell? ⟨w15.heap.size, 3, none⟩ = some (.int .i64 y.a3) := boxAt N1.out 3
      have c1 : w22.frozen? ⟨w15.heap.size, 3, none⟩ = false := boxFz N1.out 3
      have hrF := hr22.keep us (by omega) (fun k h => by omega)
      have UF := hide (U22.out.transN us (fun k h => by omega))
      clear hu N0 N1 NP NL U22 us hr22
      have H1s := hide (all_of_list (List.all_eq_true.2 (wd_one u po lo u.ps.length pc u.ls.length lc)))
      go_wp2_with (first | (refine wpList_load_row rfl 47 (.tmp 3) rfl w15.heap.size rfl _ _ (0, 0) _ M1.out Try.underlying47 rfl infoWd ?_) | (refine wpList_store_row rfl 47 (.tmp 2) (.tmp 84) rfl w.heap.size _ rfl rfl _ _ M0.out infoWd rfl H1s.out ?_))
      refine bodyPost_ret (v := .agg #[.int .i64 u.a0, .int .i64 u.a1, .int .i64 u.a2, .int .i64 u.a3, .int .i64 u.a4, .int .i64 u.a5, .int .i64 u.c0, .int .i64 u.c1, .int .i64 u.c2, .int .i64 u.c3, .int .i64 u.c4, .int .i64 u.c5, .int .i64 u.c6, .int .i64 u.c7, .int .i64 u.c8, .int .i64 u.c9, .int .i64 u.b0, .int .i64 u.b1, .int .i64 u.b2, .int .i64 u.b3, .int .i64 u.b4, .int .i64 u.b5, .int .i64 u.b6, .int .i64 u.b7, .slice po u.ps.length pc, .slice lo u.ls.length lc]) (results_cell_row Try.results69 _ _ w.heap.size _ _ (0, 0) _ rfl (setRow_heap _ _ _ _ _ _ M0.out) Try.underlying47 rfl infoWd) rfl ?_
      have u6 : Upd (fun j => j = w.heap.size) (w22.setCell ⟨w15.heap.size, 3, none⟩ (.int .i64 z)) ((w22.setCell ⟨w15.heap.size, 3, none⟩ (.int .i64 z)).setRow w.heap.size (#[.int .i64 u.a0, .int .i64 u.a1, .int .i64 u.a2, .int .i64 u.a3, .int .i64 u.a4, .int .i64 u.a5, .int .i64 u.c0, .int .i64 u.c1, .int .i64 u.c2, .int .i64 u.c3, .int .i64 u.c4, .int .i64 u.c5, .int .i64 u.c6, .int .i64 u.c7, .int .i64 u.c8, .int .i64 u.c9, .int .i64 u.b0, .int .i64 u.b1, .int .i64 u.b2, .int .i64 u.b3, .int .i64 u.b4, .int .i64 u.b5, .int .i64 u.b6, .int .i64 u.b7, .slice po u.ps.length pc, .slice lo u.ls.length lc] : Array Value)) := ⟨rfl, rfl, rfl, by simp, fun k _ h => setRow_other _ _ _ _ h⟩
      refine ⟨_, u, _, rfl, ⟨po, pc, lo, lc, rfl, ?_, ?_⟩, hup, hul, hrF.keep u6 (by omega) (fun k h => by omega), by omega, UF.out.transN u6 (fun k h => by omega)⟩
      · exact ((RowA.keepTy8 RPu.out u6 (fun k h1 h2 => by subst h2; exact typed_box M0.out (by decide) rfl h1)).row (by omega))
      · exact ((RowA.keepTy8 RLu.out u6 (fun k h1 h2 => by subst h2; exact typed_box M0.out (by decide) rfl h1)).row (by omega))
    · subst h
      have al := bal (Below.refl w21.heap.size w21) (.cells #[.int .i64 0, .int .i64 16] 3)
      have LA := hide (litAt w21 [0, 16] 3)
      have hr21a := hr21.keepB al
      go_wp2_with fail
      refine (pick_any w0 _ R _ 2 hr21a (by omega) (by omega) (by omega)).mono ?_
      rintro e w22 ⟨q22, rfl, hq22, hr22, hu22⟩
      obtain ⟨z, hz⟩ := LA.out q22 hq22
      have f0 : w22.cell? ⟨w21.heap.size, q22, none⟩ = some (.int .i64 z) := updCell hu22 hz (by omega)
      have hi : (q22 : Int) < 2 := by omega
      have N0 := hide (hu22.keeps (bKeeps al P0.out) (by omega))
      have N1 := hide (hu22.keeps (bKeeps al P1.out) (by omega))
      have NP := hide (RowA.keepTy8 (PP.out.keepB al) hu22 (fun k h1 h2 => by have := h1.1; omega))
      have NL := hide (RowA.keepTy8 (PL.out.keepB al) hu22 (fun k h1 h2 => by have := h1.1; omega))
      have U22 := hide ((U21.out.trans (Upd.ofBelow al)).trans hu22)
      have hz22 := hu22.size
      simp only [World.size_alloc] at hz22
      clear P0 P1 PP PL U21 hr21 hr21a hu22 al LA hz
      obtain ⟨u, hu⟩ : ∃ u : Wd, u = { y with a0 := z } := ⟨_, rfl⟩
      have us := Upd.setCell (S := fun j => j = w15.heap.size) w22 w15.heap.size 0 (.int .i64 z) rfl
      have M0 := hide (us.keeps N0.out (by omega))
      have M1 : Hid ((w22.setCell ⟨w15.heap.size, 0, none⟩ (.int .i64 z)).heap[w15.heap.size]? = some (.cells (#[.int .i64 u.a0, .int .i64 u.a1, .int .i64 u.a2, .int .i64 u.a3, .int .i64 u.a4, .int .i64 u.a5, .int .i64 u.c0, .int .i64 u.c1, .int .i64 u.c2, .int .i64 u.c3, .int .i64 u.c4, .int .i64 u.c5, .int .i64 u.c6, .int .i64 u.c7, .int .i64 u.c8, .int .i64 u.c9, .int .i64 u.b0, .int .i64 u.b1, .int .i64 u.b2, .int .i64 u.b3, .int .i64 u.b4, .int .i64 u.b5, .int .i64 u.b6, .int .i64 u.b7, .slice po u.ps.length pc, .slice lo u.ls.length lc] : Array Value) 47 (0, 0))) := by rw [hu]; exact row_set _ N1.out
      have RPu : Hid (RowA (w22.setCell ⟨w15.heap.size, 0, none⟩ (.int .i64 z)) w.heap.size 152 4 (.slice po u.ps.length pc) u.ps.length (pcells u.ps)) := by rw [hu]; exact RowA.keepTy8 NP.out us (fun k h1 h2 => by subst h2; exact typed_box N1.out (by decide) rfl h1)
      have RLu : Hid (RowA (w22.setCell ⟨w15.heap.size, 0, none⟩ (.int .i64 z)) w.heap.size 156 2 (.slice lo u.ls.length lc) u.ls.length (lcells u.ls)) := by rw [hu]; exact RowA.keepTy8 NL.out us (fun k h1 h2 => by subst h2; exact typed_box N1.out (by decide) rfl h1)
      have hup : u.ps.length ≤ 61 := by rw [hu]; exact hyp
      have hul : u.ls.length ≤ 61 := by rw [hu]; exact hyl
      have c0 : w22.cell? ⟨w15.heap.size, 0, none⟩ = some (.int .i64 y.a0) := boxAt N1.out 0
      have c1 : w22.frozen? ⟨w15.heap.size, 0, none⟩ = false := boxFz N1.out 0
      have hrF := hr22.keep us (by omega) (fun k h => by omega)
      have UF := hide (U22.out.transN us (fun k h => by omega))
      clear hu N0 N1 NP NL U22 us hr22
      have H1s := hide (all_of_list (List.all_eq_true.2 (wd_one u po lo u.ps.length pc u.ls.length lc)))
      go_wp2_with (first | (refine wpList_load_row rfl 47 (.tmp 3) rfl w15.heap.size rfl _ _ (0, 0) _ M1.out Try.underlying47 rfl infoWd ?_) | (refine wpList_store_row rfl 47 (.tmp 2) (.tmp 84) rfl w.heap.size _ rfl rfl _ _ M0.out infoWd rfl H1s.out ?_))
      refine bodyPost_ret (v := .agg #[.int .i64 u.a0, .int .i64 u.a1, .int .i64 u.a2, .int .i64 u.a3, .int .i64 u.a4, .int .i64 u.a5, .int .i64 u.c0, .int .i64 u.c1, .int .i64 u.c2, .int .i64 u.c3, .int .i64 u.c4, .int .i64 u.c5, .int .i64 u.c6, .int .i64 u.c7, .int .i64 u.c8, .int .i64 u.c9, .int .i64 u.b0, .int .i64 u.b1, .int .i64 u.b2, .int .i64 u.b3, .int .i64 u.b4, .int .i64 u.b5, .int .i64 u.b6, .int .i64 u.b7, .slice po u.ps.length pc, .slice lo u.ls.length lc]) (results_cell_row Try.results69 _ _ w.heap.size _ _ (0, 0) _ rfl (setRow_heap _ _ _ _ _ _ M0.out) Try.underlying47 rfl infoWd) rfl ?_
      have u6 : Upd (fun j => j = w.heap.size) (w22.setCell ⟨w15.heap.size, 0, none⟩ (.int .i64 z)) ((w22.setCell ⟨w15.heap.size, 0, none⟩ (.int .i64 z)).setRow w.heap.size (#[.int .i64 u.a0, .int .i64 u.a1, .int .i64 u.a2, .int .i64 u.a3, .int .i64 u.a4, .int .i64 u.a5, .int .i64 u.c0, .int .i64 u.c1, .int .i64 u.c2, .int .i64 u.c3, .int .i64 u.c4, .int .i64 u.c5, .int .i64 u.c6, .int .i64 u.c7, .int .i64 u.c8, .int .i64 u.c9, .int .i64 u.b0, .int .i64 u.b1, .int .i64 u.b2, .int .i64 u.b3, .int .i64 u.b4, .int .i64 u.b5, .int .i64 u.b6, .int .i64 u.b7, .slice po u.ps.length pc, .slice lo u.ls.length lc] : Array Value)) := ⟨rfl, rfl, rfl, by simp, fun k _ h => setRow_other _ _ _ _ h⟩
      refine ⟨_, u, _, rfl, ⟨po, pc, lo, lc, rfl, ?_, ?_⟩, hup, hul, hrF.keep u6 (by omega) (fun k h => by omega), by omega, UF.out.transN u6 (fun k h => by omega)⟩
      · exact ((RowA.keepTy8 RPu.out u6 (fun k h1 h2 => by subst h2; exact typed_box M0.out (by decide) rfl h1)).row (by omega))
      · exact ((RowA.keepTy8 RLu.out u6 (fun k h1 h2 => by subst h2; exact typed_box M0.out (by decide) rfl h1)).row (by omega))
    · obtain ⟨w22, hw⟩ : ∃ w22, w22 = w21 := ⟨_, rfl⟩
      subst hw
      have h0 : ((q21 : Int) == 0) = false := by simp; omega
      have h1 : ((q21 : Int) == 1) = false := by simp; omega
      have h2 : ((q21 : Int) == 2) = false := by simp; omega
      have h3 : ((q21 : Int) == 3) = false := by simp; omega
      have N0 := P0
      have N1 := P1
      have NP := PP
      have NL := PL
      have U22 := U21
      have hr22 := hr21
      clear P0 P1 PP PL U21 hr21
      obtain ⟨u, hu⟩ : ∃ u : Wd, u = y := ⟨_, rfl⟩
      subst hu
      have M0 := N0
      have M1 := N1
      have RPu := NP
      have RLu := NL
      have hup := hyp
      have hul := hyl
      have hrF := hr22
      have UF := U22
      clear N0 N1 NP NL U22 hr22
      have H1s := hide (all_of_list (List.all_eq_true.2 (wd_one u po lo u.ps.length pc u.ls.length lc)))
      go_wp2_with (first | (refine wpList_load_row rfl 47 (.tmp 3) rfl w15.heap.size rfl _ _ (0, 0) _ M1.out Try.underlying47 rfl infoWd ?_) | (refine wpList_store_row rfl 47 (.tmp 2) (.tmp 84) rfl w.heap.size _ rfl rfl _ _ M0.out infoWd rfl H1s.out ?_))
      refine bodyPost_ret (v := .agg #[.int .i64 u.a0, .int .i64 u.a1, .int .i64 u.a2, .int .i64 u.a3, .int .i64 u.a4, .int .i64 u.a5, .int .i64 u.c0, .int .i64 u.c1, .int .i64 u.c2, .int .i64 u.c3, .int .i64 u.c4, .int .i64 u.c5, .int .i64 u.c6, .int .i64 u.c7, .int .i64 u.c8, .int .i64 u.c9, .int .i64 u.b0, .int .i64 u.b1, .int .i64 u.b2, .int .i64 u.b3, .int .i64 u.b4, .int .i64 u.b5, .int .i64 u.b6, .int .i64 u.b7, .slice po u.ps.length pc, .slice lo u.ls.length lc]) (results_cell_row Try.results69 _ _ w.heap.size _ _ (0, 0) _ rfl (setRow_heap _ _ _ _ _ _ M0.out) Try.underlying47 rfl infoWd) rfl ?_
      have u6 : Upd (fun j => j = w.heap.size) w22 (w22.setRow w.heap.size (#[.int .i64 u.a0, .int .i64 u.a1, .int .i64 u.a2, .int .i64 u.a3, .int .i64 u.a4, .int .i64 u.a5, .int .i64 u.c0, .int .i64 u.c1, .int .i64 u.c2, .int .i64 u.c3, .int .i64 u.c4, .int .i64 u.c5, .int .i64 u.c6, .int .i64 u.c7, .int .i64 u.c8, .int .i64 u.c9, .int .i64 u.b0, .int .i64 u.b1, .int .i64 u.b2, .int .i64 u.b3, .int .i64 u.b4, .int .i64 u.b5, .int .i64 u.b6, .int .i64 u.b7, .slice po u.ps.length pc, .slice lo u.ls.length lc] : Array Value)) := ⟨rfl, rfl, rfl, by simp, fun k _ h => setRow_other _ _ _ _ h⟩
      refine ⟨_, u, _, rfl, ⟨po, pc, lo, lc, rfl, ?_, ?_⟩, hup, hul, hrF.keep u6 (by omega) (fun k h => by omega), by omega, UF.out.transN u6 (fun k h => by omega)⟩
      · exact ((RowA.keepTy8 RPu.out u6 (fun k h1 h2 => by subst h2; exact typed_box M0.out (by decide) rfl h1)).row (by omega))
      · exact ((RowA.keepTy8 RLu.out u6 (fun k h1 h2 => by subst h2; exact typed_box M0.out (by decide) rfl h1)).row (by omega))
  · have hq0 : ¬ (q16 : Int) = 0 := by omega
    have hq1 : ((q16 : Int) == 0) = false := by simpa using hq0
    go_wp2_with fail
    clear hq0 hq1
    obtain ⟨po, hpo⟩ : ∃ po : Option Addr, po = none := ⟨_, rfl⟩
    obtain ⟨lo, hlo⟩ : ∃ lo : Option Addr, lo = none := ⟨_, rfl⟩
    obtain ⟨pc, hpc⟩ : ∃ pc : Nat, pc = 0 := ⟨_, rfl⟩
    obtain ⟨lc, hlc⟩ : ∃ lc : Nat, lc = 0 := ⟨_, rfl⟩
    obtain ⟨y, hy⟩ : ∃ y : Wd, y = x := ⟨_, rfl⟩
    have T1' : Hid (w16.heap[w15.heap.size]? = some (.cells (#[.int .i64 y.a0, .int .i64 y.a1, .int .i64 y.a2, .int .i64 y.a3, .int .i64 y.a4, .int .i64 y.a5, .int .i64 y.c0, .int .i64 y.c1, .int .i64 y.c2, .int .i64 y.c3, .int .i64 y.c4, .int .i64 y.c5, .int .i64 y.c6, .int .i64 y.c7, .int .i64 y.c8, .int .i64 y.c9, .int .i64 y.b0, .int .i64 y.b1, .int .i64 y.b2, .int .i64 y.b3, .int .i64 y.b4, .int .i64 y.b5, .int .i64 y.b6, .int .i64 y.b7, .slice po y.ps.length pc, .slice lo y.ls.length lc] : Array Value) 47 (0, 0))) := by rw [hy, HXp.out, HXl.out, hpo, hlo, hpc, hlc]; exact L1.out
    have RP' : Hid (RowA w16 w.heap.size 152 4 (.slice po y.ps.length pc) y.ps.length (pcells y.ps)) := by rw [hy, HXp.out, hpo, hpc]; exact .inr ⟨rfl, rfl, _, rfl⟩
    have RL' : Hid (RowA w16 w.heap.size 156 2 (.slice lo y.ls.length lc) y.ls.length (lcells y.ls)) := by rw [hy, HXl.out, hlo, hlc]; exact .inr ⟨rfl, rfl, _, rfl⟩
    have hyp : y.ps.length ≤ 61 := by rw [hy, HXp.out]; simp
    have hyl : y.ls.length ≤ 61 := by rw [hy, HXl.out]; simp
    have T0 := L0
    have UT := U16
    have hrT := hr16
    have hzz : w15.heap.size < w16.heap.size := by omega
    clear hy hpo hlo hpc hlc L0 L1 U16 hr16
    refine (pick_any w0 _ R _ 20 hrT (by omega) (by omega) (by omega)).mono ?_
    rintro e w21 ⟨q21, rfl, hq21, hr21, hu21⟩
    have P0 := hide (hu21.keeps T0.out (by omega))
    have P1 := hide (hu21.keeps T1'.out (by omega))
    have PP := hide (RowA.keepTy8 RP'.out hu21 (fun k h1 h2 => by have := h1.1; omega))
    have PL := hide (RowA.keepTy8 RL'.out hu21 (fun k h1 h2 => by have := h1.1; omega))
    have U21 := hide (UT.out.trans hu21)
    have hz21 := hu21.size
    clear T0 T1' RP' RL' UT hrT hu21
    rcases (by omega : q21 = 0 ∨ q21 = 1 ∨ q21 = 2 ∨ q21 = 3 ∨ 4 ≤ q21) with h | h | h | h | h
    · subst h
      have al := bal (Below.refl w21.heap.size w21) (.cells #[.int .i64 (-1), .int .i64 5, .int .i64 100, .int .i64 103, .int .i64 104] 3)
      have LA := hide (litAt w21 [(-1), 5, 100, 103, 104] 3)
      have hr21a := hr21.keepB al
      go_wp2_with fail
      refine (pick_any w0 _ R _ 5 hr21a (by omega) (by omega) (by omega)).mono ?_
      rintro e w22 ⟨q22, rfl, hq22, hr22, hu22⟩
      obtain ⟨z, hz⟩ := LA.out q22 hq22
      have f0 : w22.cell? ⟨w21.heap.size, q22, none⟩ = some (.int .i64 z) := updCell hu22 hz (by omega)
      have hi : (q22 : Int) < 5 := by omega
      have N0 := hide (hu22.keeps (bKeeps al P0.out) (by omega))
      have N1 := hide (hu22.keeps (bKeeps al P1.out) (by omega))
      have NP := hide (RowA.keepTy8 (PP.out.keepB al) hu22 (fun k h1 h2 => by have := h1.1; omega))
      have NL := hide (RowA.keepTy8 (PL.out.keepB al) hu22 (fun k h1 h2 => by have := h1.1; omega))
      have U22 := hide ((U21.out.trans (Upd.ofBelow al)).trans hu22)
      have hz22 := hu22.size
      simp only [World.size_alloc] at hz22
      clear P0 P1 PP PL U21 hr21 hr21a hu22 al LA hz
      obtain ⟨u, hu⟩ : ∃ u : Wd, u = { y with a1 := z } := ⟨_, rfl⟩
      have us := Upd.setCell (S := fun j => j = w15.heap.size) w22 w15.heap.size 1 (.int .i64 z) rfl
      have M0 := hide (us.keeps N0.out (by omega))
      have M1 : Hid ((w22.setCell ⟨w15.heap.size, 1, none⟩ (.int .i64 z)).heap[w15.heap.size]? = some (.cells (#[.int .i64 u.a0, .int .i64 u.a1, .int .i64 u.a2, .int .i64 u.a3, .int .i64 u.a4, .int .i64 u.a5, .int .i64 u.c0, .int .i64 u.c1, .int .i64 u.c2, .int .i64 u.c3, .int .i64 u.c4, .int .i64 u.c5, .int .i64 u.c6, .int .i64 u.c7, .int .i64 u.c8, .int .i64 u.c9, .int .i64 u.b0, .int .i64 u.b1, .int .i64 u.b2, .int .i64 u.b3, .int .i64 u.b4, .int .i64 u.b5, .int .i64 u.b6, .int .i64 u.b7, .slice po u.ps.length pc, .slice lo u.ls.length lc] : Array Value) 47 (0, 0))) := by rw [hu]; exact row_set _ N1.out
      have RPu : Hid (RowA (w22.setCell ⟨w15.heap.size, 1, none⟩ (.int .i64 z)) w.heap.size 152 4 (.slice po u.ps.length pc) u.ps.length (pcells u.ps)) := by rw [hu]; exact RowA.keepTy8 NP.out us (fun k h1 h2 => by subst h2; exact typed_box N1.out (by decide) rfl h1)
      have RLu : Hid (RowA (w22.setCell ⟨w15.heap.size, 1, none⟩ (.int .i64 z)) w.heap.size 156 2 (.slice lo u.ls.length lc) u.ls.length (lcells u.ls)) := by rw [hu]; exact RowA.keepTy8 NL.out us (fun k h1 h2 => by subst h2; exact typed_box N1.out (by decide) rfl h1)
      have hup : u.ps.length ≤ 61 := by rw [hu]; exact hyp
      have hul : u.ls.length ≤ 61 := by rw [hu]; exact hyl
      have c0 : w22.cell? ⟨w15.heap.size, 1, none⟩ = some (.int .i64 y.a1) := boxAt N1.out 1
      have c1 : w22.frozen? ⟨w15.heap.size, 1, none⟩ = false := boxFz N1.out 1
      have hrF := hr22.keep us (by omega) (fun k h => by omega)
      have UF := hide (U22.out.transN us (fun k h => by omega))
      clear hu N0 N1 NP NL U22 us hr22
      have H1s := hide (all_of_list (List.all_eq_true.2 (wd_one u po lo u.ps.length pc u.ls.length lc)))
      go_wp2_with (first | (refine wpList_load_row rfl 47 (.tmp 3) rfl w15.heap.size rfl _ _ (0, 0) _ M1.out Try.underlying47 rfl infoWd ?_) | (refine wpList_store_row rfl 47 (.tmp 2) (.tmp 84) rfl w.heap.size _ rfl rfl _ _ M0.out infoWd rfl H1s.out ?_))
      refine bodyPost_ret (v := .agg #[.int .i64 u.a0, .int .i64 u.a1, .int .i64 u.a2, .int .i64 u.a3, .int .i64 u.a4, .int .i64 u.a5, .int .i64 u.c0, .int .i64 u.c1, .int .i64 u.c2, .int .i64 u.c3, .int .i64 u.c4, .int .i64 u.c5, .int .i64 u.c6, .int .i64 u.c7, .int .i64 u.c8, .int .i64 u.c9, .int .i64 u.b0, .int .i64 u.b1, .int .i64 u.b2, .int .i64 u.b3, .int .i64 u.b4, .int .i64 u.b5, .int .i64 u.b6, .int .i64 u.b7, .slice po u.ps.length pc, .slice lo u.ls.length lc]) (results_cell_row Try.results69 _ _ w.heap.size _ _ (0, 0) _ rfl (setRow_heap _ _ _ _ _ _ M0.out) Try.underlying47 rfl infoWd) rfl ?_
      have u6 : Upd (fun j => j = w.heap.size) (w22.setCell ⟨w15.heap.size, 1, none⟩ (.int .i64 z)) ((w22.setCell ⟨w15.heap.size, 1, none⟩ (.int .i64 z)).setRow w.heap.size (#[.int .i64 u.a0, .int .i64 u.a1, .int .i64 u.a2, .int .i64 u.a3, .int .i64 u.a4, .int .i64 u.a5, .int .i64 u.c0, .int .i64 u.c1, .int .i64 u.c2, .int .i64 u.c3, .int .i64 u.c4, .int .i64 u.c5, .int .i64 u.c6, .int .i64 u.c7, .int .i64 u.c8, .int .i64 u.c9, .int .i64 u.b0, .int .i64 u.b1, .int .i64 u.b2, .int .i64 u.b3, .int .i64 u.b4, .int .i64 u.b5, .int .i64 u.b6, .int .i64 u.b7, .slice po u.ps.length pc, .slice lo u.ls.length lc] : Array Value)) := ⟨rfl, rfl, rfl, by simp, fun k _ h => setRow_other _ _ _ _ h⟩
      refine ⟨_, u, _, rfl, ⟨po, pc, lo, lc, rfl, ?_, ?_⟩, hup, hul, hrF.keep u6 (by omega) (fun k h => by omega), by omega, UF.out.transN u6 (fun k h => by omega)⟩
      · exact ((RowA.keepTy8 RPu.out u6 (fun k h1 h2 => by subst h2; exact typed_box M0.out (by decide) rfl h1)).row (by omega))
      · exact ((RowA.keepTy8 RLu.out u6 (fun k h1 h2 => by subst h2; exact typed_box M0.out (by decide) rfl h1)).row (by omega))
    · subst h
      have al := bal (Below.refl w21.heap.size w21) (.cells #[.int .i64 0, .int .i64 (-1), .int .i64 (-2), .int .i64 60, .int .i64 61] 3)
      have LA := hide (litAt w21 [0, (-1), (-2), 60, 61] 3)
      have hr21a := hr21.keepB al
      go_wp2_with fail
      refine (pick_any w0 _ R _ 5 hr21a (by omega) (by omega) (by omega)).mono ?_
      rintro e w22 ⟨q22, rfl, hq22, hr22, hu22⟩
      obtain ⟨z, hz⟩ := LA.out q22 hq22
      have f0 : w22.cell? ⟨w21.heap.size, q22, none⟩ = some (.int .i64 z) := updCell hu22 hz (by omega)
      have hi : (q22 : Int) < 5 := by omega
      have N0 := hide (hu22.keeps (bKeeps al P0.out) (by omega))
      have N1 := hide (hu22.keeps (bKeeps al P1.out) (by omega))
      have NP := hide (RowA.keepTy8 (PP.out.keepB al) hu22 (fun k h1 h2 => by have := h1.1; omega))
      have NL := hide (RowA.keepTy8 (PL.out.keepB al) hu22 (fun k h1 h2 => by have := h1.1; omega))
      have U22 := hide ((U21.out.trans (Upd.ofBelow al)).trans hu22)
      have hz22 := hu22.size
      simp only [World.size_alloc] at hz22
      clear P0 P1 PP PL U21 hr21 hr21a hu22 al LA hz
      obtain ⟨u, hu⟩ : ∃ u : Wd, u = { y with a4 := z } := ⟨_, rfl⟩
      have us := Upd.setCell (S := fun j => j = w15.heap.size) w22 w15.heap.size 4 (.int .i64 z) rfl
      have M0 := hide (us.keeps N0.out (by omega))
      have M1 : Hid ((w22.setCell ⟨w15.heap.size, 4, none⟩ (.int .i64 z)).heap[w15.heap.size]? = some (.cells (#[.int .i64 u.a0, .int .i64 u.a1, .int .i64 u.a2, .int .i64 u.a3, .int .i64 u.a4, .int .i64 u.a5, .int .i64 u.c0, .int .i64 u.c1, .int .i64 u.c2, .int .i64 u.c3, .int .i64 u.c4, .int .i64 u.c5, .int .i64 u.c6, .int .i64 u.c7, .int .i64 u.c8, .int .i64 u.c9, .int .i64 u.b0, .int .i64 u.b1, .int .i64 u.b2, .int .i64 u.b3, .int .i64 u.b4, .int .i64 u.b5, .int .i64 u.b6, .int .i64 u.b7, .slice po u.ps.length pc, .slice lo u.ls.length lc] : Array Value) 47 (0, 0))) := by rw [hu]; exact row_set _ N1.out
      have RPu : Hid (RowA (w22.setCell ⟨w15.heap.size, 4, none⟩ (.int .i64 z)) w.heap.size 152 4 (.slice po u.ps.length pc) u.ps.length (pcells u.ps)) := by rw [hu]; exact RowA.keepTy8 NP.out us (fun k h1 h2 => by subst h2; exact typed_box N1.out (by decide) rfl h1)
      have RLu : Hid (RowA (w22.setCell ⟨w15.heap.size, 4, none⟩ (.int .i64 z)) w.heap.size 156 2 (.slice lo u.ls.length lc) u.ls.length (lcells u.ls)) := by rw [hu]; exact RowA.keepTy8 NL.out us (fun k h1 h2 => by subst h2; exact typed_box N1.out (by decide) rfl h1)
      have hup : u.ps.length ≤ 61 := by rw [hu]; exact hyp
      have hul : u.ls.length ≤ 61 := by rw [hu]; exact hyl
      have c0 : w22.cell? ⟨w15.heap.size, 4, none⟩ = some (.int .i64 y.a4) := boxAt N1.out 4
      have c1 : w22.frozen? ⟨w15.heap.size, 4, none⟩ = false := boxFz N1.out 4
      have hrF := hr22.keep us (by omega) (fun k h => by omega)
      have UF := hide (U22.out.transN us (fun k h => by omega))
      clear hu N0 N1 NP NL U22 us hr22
      have H1s := hide (all_of_list (List.all_eq_true.2 (wd_one u po lo u.ps.length pc u.ls.length lc)))
      go_wp2_with (first | (refine wpList_load_row rfl 47 (.tmp 3) rfl w15.heap.size rfl _ _ (0, 0) _ M1.out Try.underlying47 rfl infoWd ?_) | (refine wpList_store_row rfl 47 (.tmp 2) (.tmp 84) rfl w.heap.size _ rfl rfl _ _ M0.out infoWd rfl H1s.out ?_))
      refine bodyPost_ret (v := .agg #[.int .i64 u.a0, .int .i64 u.a1, .int .i64 u.a2, .int .i64 u.a3, .int .i64 u.a4, .int .i64 u.a5, .int .i64 u.c0, .int .i64 u.c1, .int .i64 u.c2, .int .i64 u.c3, .int .i64 u.c4, .int .i64 u.c5, .int .i64 u.c6, .int .i64 u.c7, .int .i64 u.c8, .int .i64 u.c9, .int .i64 u.b0, .int .i64 u.b1, .int .i64 u.b2, .int .i64 u.b3, .int .i64 u.b4, .int .i64 u.b5, .int .i64 u.b6, .int .i64 u.b7, .slice po u.ps.length pc, .slice lo u.ls.length lc]) (results_cell_row Try.results69 _ _ w.heap.size _ _ (0, 0) _ rfl (setRow_heap _ _ _ _ _ _ M0.out) Try.underlying47 rfl infoWd) rfl ?_
      have u6 : Upd (fun j => j = w.heap.size) (w22.setCell ⟨w15.heap.size, 4, none⟩ (.int .i64 z)) ((w22.setCell ⟨w15.heap.size, 4, none⟩ (.int .i64 z)).setRow w.heap.size (#[.int .i64 u.a0, .int .i64 u.a1, .int .i64 u.a2, .int .i64 u.a3, .int .i64 u.a4, .int .i64 u.a5, .int .i64 u.c0, .int .i64 u.c1, .int .i64 u.c2, .int .i64 u.c3, .int .i64 u.c4, .int .i64 u.c5, .int .i64 u.c6, .int .i64 u.c7, .int .i64 u.c8, .int .i64 u.c9, .int .i64 u.b0, .int .i64 u.b1, .int .i64 u.b2, .int .i64 u.b3, .int .i64 u.b4, .int .i64 u.b5, .int .i64 u.b6, .int .i64 u.b7, .slice po u.ps.length pc, .slice lo u.ls.length lc] : Array Value)) := ⟨rfl, rfl, rfl, by simp, fun k _ h => setRow_other _ _ _ _ h⟩
      refine ⟨_, u, _, rfl, ⟨po, pc, lo, lc, rfl, ?_, ?_⟩, hup, hul, hrF.keep u6 (by omega) (fun k h => by omega), by omega, UF.out.transN u6 (fun k h => by omega)⟩
      · exact ((RowA.keepTy8 RPu.out u6 (fun k h1 h2 => by subst h2; exact typed_box M0.out (by decide) rfl h1)).row (by omega))
      · exact ((RowA.keepTy8 RLu.out u6 (fun k h1 h2 => by subst h2; exact typed_box M0.out (by decide) rfl h1)).row (by omega))
    · subst h
      have al := bal (Below.refl w21.heap.size w21) (.cells #[.int .i64 0, .int .i64 (-1), .int .i64 99999, .int .i64 100000] 3)
      have LA := hide (litAt w21 [0, (-1), 99999, 100000] 3)
      have hr21a := hr21.keepB al
      go_wp2_with fail
      refine (pick_any w0 _ R _ 4 hr21a (by omega) (by omega) (by omega)).mono ?_
      rintro e w22 ⟨q22, rfl, hq22, hr22, hu22⟩
      obtain ⟨z, hz⟩ := LA.out q22 hq22
      have f0 : w22.cell? ⟨w21.heap.size, q22, none⟩ = some (.int .i64 z) := updCell hu22 hz (by omega)
      have hi : (q22 : Int) < 4 := by omega
      have N0 := hide (hu22.keeps (bKeeps al P0.out) (by omega))
      have N1 := hide (hu22.keeps (bKeeps al P1.out) (by omega))
      have NP := hide (RowA.keepTy8 (PP.out.keepB al) hu22 (fun k h1 h2 => by have := h1.1; omega))
      have NL := hide (RowA.keepTy8 (PL.out.keepB al) hu22 (fun k h1 h2 => by have := h1.1; omega))
      have U22 := hide ((U21.out.trans (Upd.ofBelow al)).trans hu22)
      have hz22 := hu22.size
      simp only [World.size_alloc] at hz22
      clear P0 P1 PP PL U21 hr21 hr21a hu22 al LA hz
      obtain ⟨u, hu⟩ : ∃ u : Wd, u = { y with a3 := z } := ⟨_, rfl⟩
      have us := Upd.setCell (S := fun j => j = w15.heap.size) w22 w15.heap.size 3 (.int .i64 z) rfl
      have M0 := hide (us.keeps N0.out (by omega))
      have M1 : Hid ((w22.setCell ⟨w15.heap.size, 3, none⟩ (.int .i64 z)).heap[w15.heap.size]? = some (.cells (#[.int .i64 u.a0, .int .i64 u.a1, .int .i64 u.a2, .int .i64 u.a3, .int .i64 u.a4, .int .i64 u.a5, .int .i64 u.c0, .int .i64 u.c1, .int .i64 u.c2, .int .i64 u.c3, .int .i64 u.c4, .int .i64 u.c5, .int .i64 u.c6, .int .i64 u.c7, .int .i64 u.c8, .int .i64 u.c9, .int .i64 u.b0, .int .i64 u.b1, .int .i64 u.b2, .int .i64 u.b3, .int .i64 u.b4, .int .i64 u.b5, .int .i64 u.b6, .int .i64 u.b7, .slice po u.ps.length pc, .slice lo u.ls.length lc] : Array Value) 47 (0, 0))) := by rw [hu]; exact row_set _ N1.out
      have RPu : Hid (RowA (w22.setCell ⟨w15.heap.size, 3, none⟩ (.int .i64 z)) w.heap.size 152 4 (.slice po u.ps.length pc) u.ps.length (pcells u.ps)) := by rw [hu]; exact RowA.keepTy8 NP.out us (fun k h1 h2 => by subst h2; exact typed_box N1.out (by decide) rfl h1)
      have RLu : Hid (RowA (w22.setCell ⟨w15.heap.size, 3, none⟩ (.int .i64 z)) w.heap.size 156 2 (.slice lo u.ls.length lc) u.ls.length (lcells u.ls)) := by rw [hu]; exact RowA.keepTy8 NL.out us (fun k h1 h2 => by subst h2; exact typed_box N1.out (by decide) rfl h1)
      have hup : u.ps.length ≤ 61 := by rw [hu]; exact hyp
      have hul : u.ls.length ≤ 61 := by rw [hu]; exact hyl
      have c0 : w22.cell? ⟨w15.heap.size, 3, none⟩ = some (.int .i64 y.a3) := boxAt N1.out 3
      have c1 : w22.frozen? ⟨w15.heap.size, 3, none⟩ = false := boxFz N1.out 3
      have hrF := hr22.keep us (by omega) (fun k h => by omega)
      have UF := hide (U22.out.transN us (fun k h => by omega))
      clear hu N0 N1 NP NL U22 us hr22
      have H1s := hide (all_of_list (List.all_eq_true.2 (wd_one u po lo u.ps.length pc u.ls.length lc)))
      go_wp2_with (first | (refine wpList_load_row rfl 47 (.tmp 3) rfl w15.heap.size rfl _ _ (0, 0) _ M1.out Try.underlying47 rfl infoWd ?_) | (refine wpList_store_row rfl 47 (.tmp 2) (.tmp 84) rfl w.heap.size _ rfl rfl _ _ M0.out infoWd rfl H1s.out ?_))
      refine bodyPost_ret (v := .agg #[.int .i64 u.a0, .int .i64 u.a1, .int .i64 u.a2, .int .i64 u.a3, .int .i64 u.a4, .int .i64 u.a5, .int .i64 u.c0, .int .i64 u.c1, .int .i64 u.c2, .int .i64 u.c3, .int .i64 u.c4, .int .i64 u.c5, .int .i64 u.c6, .int .i64 u.c7, .int .i64 u.c8, .int .i64 u.c9, .int .i64 u.b0, .int .i64 u.b1, .int .i64 u.b2, .int .i64 u.b3, .int .i64 u.b4, .int .i64 u.b5, .int .i64 u.b6, .int .i64 u.b7, .slice po u.ps.length pc, .slice lo u.ls.length lc]) (results_cell_row Try.results69 _ _ w.heap.size _ _ (0, 0) _ rfl (setRow_heap _ _ _ _ _ _ M0.out) Try.underlying47 rfl infoWd) rfl ?_
      have u6 : Upd (fun j => j = w.heap.size) (w22.setCell ⟨w15.heap.size, 3, none⟩ (.int .i64 z)) ((w22.setCell ⟨w15.heap.size, 3, none⟩ (.int .i64 z)).setRow w.heap.size (#[.int .i64 u.a0, .int .i64 u.a1, .int .i64 u.a2, .int .i64 u.a3, .int .i64 u.a4, .int .i64 u.a5, .int .i64 u.c0, .int .i64 u.c1, .int .i64 u.c2, .int .i64 u.c3, .int .i64 u.c4, .int .i64 u.c5, .int .i64 u.c6, .int .i64 u.c7, .int .i64 u.c8, .int .i64 u.c9, .int .i64 u.b0, .int .i64 u.b1, .int .i64 u.b2, .int .i64 u.b3, .int .i64 u.b4, .int .i64 u.b5, .int .i64 u.b6, .int .i64 u.b7, .slice po u.ps.length pc, .slice lo u.ls.length lc] : Array Value)) := ⟨rfl, rfl, rfl, by simp, fun k _ h => setRow_other _ _ _ _ h⟩
      refine ⟨_, u, _, rfl, ⟨po, pc, lo, lc, rfl, ?_, ?_⟩, hup, hul, hrF.keep u6 (by omega) (fun k h => by omega), by omega, UF.out.transN u6 (fun k h => by omega)⟩
      · exact ((RowA.keepTy8 RPu.out u6 (fun k h1 h2 => by subst h2; exact typed_box M0.out (by decide) rfl h1)).row (by omega))
      · exact ((RowA.keepTy8 RLu.out u6 (fun k h1 h2 => by subst h2; exact typed_box M0.out (by decide) rfl h1)).row (by omega))
    · subst h
      have al := bal (Below.refl w21.heap.size w21) (.cells #[.int .i64 0, .int .i64 16] 3)
      have LA := hide (litAt w21 [0, 16] 3)
      have hr21a := hr21.keepB al
      go_wp2_with fail
      refine (pick_any w0 _ R _ 2 hr21a (by omega) (by omega) (by omega)).mono ?_
      rintro e w22 ⟨q22, rfl, hq22, hr22, hu22⟩
      obtain ⟨z, hz⟩ := LA.out q22 hq22
      have f0 : w22.cell? ⟨w21.heap.size, q22, none⟩ = some (.int .i64 z) := updCell hu22 hz (by omega)
      have hi : (q22 : Int) < 2 := by omega
      have N0 := hide (hu22.keeps (bKeeps al P0.out) (by omega))
      have N1 := hide (hu22.keeps (bKeeps al P1.out) (by omega))
      have NP := hide (RowA.keepTy8 (PP.out.keepB al) hu22 (fun k h1 h2 => by have := h1.1; omega))
      have NL := hide (RowA.keepTy8 (PL.out.keepB al) hu22 (fun k h1 h2 => by have := h1.1; omega))
      have U22 := hide ((U21.out.trans (Upd.ofBelow al)).trans hu22)
      have hz22 := hu22.size
      simp only [World.size_alloc] at hz22
      clear P0 P1 PP PL U21 hr21 hr21a hu22 al LA hz
      obtain ⟨u, hu⟩ : ∃ u : Wd, u = { y with a0 := z } := ⟨_, rfl⟩
      have us := Upd.setCell (S := fun j => j = w15.heap.size) w22 w15.heap.size 0 (.int .i64 z) rfl
      have M0 := hide (us.keeps N0.out (by omega))
      have M1 : Hid ((w22.setCell ⟨w15.heap.size, 0, none⟩ (.int .i64 z)).heap[w15.heap.size]? = some (.cells (#[.int .i64 u.a0, .int .i64 u.a1, .int .i64 u.a2, .int .i64 u.a3, .int .i64 u.a4, .int .i64 u.a5, .int .i64 u.c0, .int .i64 u.c1, .int .i64 u.c2, .int .i64 u.c3, .int .i64 u.c4, .int .i64 u.c5, .int .i64 u.c6, .int .i64 u.c7, .int .i64 u.c8, .int .i64 u.c9, .int .i64 u.b0, .int .i64 u.b1, .int .i64 u.b2, .int .i64 u.b3, .int .i64 u.b4, .int .i64 u.b5, .int .i64 u.b6, .int .i64 u.b7, .slice po u.ps.length pc, .slice lo u.ls.length lc] : Array Value) 47 (0, 0))) := by rw [hu]; exact row_set _ N1.out
      have RPu : Hid (RowA (w22.setCell ⟨w15.heap.size, 0, none⟩ (.int .i64 z)) w.heap.size 152 4 (.slice po u.ps.length pc) u.ps.length (pcells u.ps)) := by rw [hu]; exact RowA.keepTy8 NP.out us (fun k h1 h2 => by subst h2; exact typed_box N1.out (by decide) rfl h1)
      have RLu : Hid (RowA (w22.setCell ⟨w15.heap.size, 0, none⟩ (.int .i64 z)) w.heap.size 156 2 (.slice lo u.ls.length lc) u.ls.length (lcells u.ls)) := by rw [hu]; exact RowA.keepTy8 NL.out us (fun k h1 h2 => by subst h2; exact typed_box N1.out (by decide) rfl h1)
      have hup : u.ps.length ≤ 61 := by rw [hu]; exact hyp
      have hul : u.ls.length ≤ 61 := by rw [hu]; exact hyl
      have c0 : w22.cell? ⟨w15.heap.size, 0, none⟩ = some (.int .i64 y.a0) := boxAt N1.out 0
      have c1 : w22.frozen? ⟨w15.heap.size, 0, none⟩ = false := boxFz N1.out 0
      have hrF := hr22.keep us (by omega) (fun k h => by omega)
      have UF := hide (U22.out.transN us (fun k h => by omega))
      clear hu N0 N1 NP NL U22 us hr22
      have H1s := hide (all_of_list (List.all_eq_true.2 (wd_one u po lo u.ps.length pc u.ls.length lc)))
      go_wp2_with (first | (refine wpList_load_row rfl 47 (.tmp 3) rfl w15.heap.size rfl _ _ (0, 0) _ M1.out Try.underlying47 rfl infoWd ?_) | (refine wpList_store_row rfl 47 (.tmp 2) (.tmp 84) rfl w.heap.size _ rfl rfl _ _ M0.out infoWd rfl H1s.out ?_))
      refine bodyPost_ret (v := .agg #[.int .i64 u.a0, .int .i64 u.a1, .int .i64 u.a2, .int .i64 u.a3, .int .i64 u.a4, .int .i64 u.a5, .int .i64 u.c0, .int .i64 u.c1, .int .i64 u.c2, .int .i64 u.c3, .int .i64 u.c4, .int .i64 u.c5, .int .i64 u.c6, .int .i64 u.c7, .int .i64 u.c8, .int .i64 u.c9, .int .i64 u.b0, .int .i64 u.b1, .int .i64 u.b2, .int .i64 u.b3, .int .i64 u.b4, .int .i64 u.b5, .int .i64 u.b6, .int .i64 u.b7, .slice po u.ps.length pc, .slice lo u.ls.length lc]) (results_cell_row Try.results69 _ _ w.heap.size _ _ (0, 0) _ rfl (setRow_heap _ _ _ _ _ _ M0.out) Try.underlying47 rfl infoWd) rfl ?_
      have u6 : Upd (fun j => j = w.heap.size) (w22.setCell ⟨w15.heap.size, 0, none⟩ (.int .i64 z)) ((w22.setCell ⟨w15.heap.size, 0, none⟩ (.int .i64 z)).setRow w.heap.size (#[.int .i64 u.a0, .int .i64 u.a1, .int .i64 u.a2, .int .i64 u.a3, .int .i64 u.a4, .int .i64 u.a5, .int .i64 u.c0, .int .i64 u.c1, .int .i64 u.c2, .int .i64 u.c3, .int .i64 u.c4, .int .i64 u.c5, .int .i64 u.c6, .int .i64 u.c7, .int .i64 u.c8, .int .i64 u.c9, .int .i64 u.b0, .int .i64 u.b1, .int .i64 u.b2, .int .i64 u.b3, .int .i64 u.b4, .int .i64 u.b5, .int .i64 u.b6, .int .i64 u.b7, .slice po u.ps.length pc, .slice lo u.ls.length lc] : Array Value)) := ⟨rfl, rfl, rfl, by simp, fun k _ h => setRow_other _ _ _ _ h⟩
      refine ⟨_, u, _, rfl, ⟨po, pc, lo, lc, rfl, ?_, ?_⟩, hup, hul, hrF.keep u6 (by omega) (fun k h => by omega), by omega, UF.out.transN u6 (fun k h => by omega)⟩
      · exact ((RowA.keepTy8 RPu.out u6 (fun k h1 h2 => by subst h2; exact typed_box M0.out (by decide) rfl h1)).row (by omega))
      · exact ((RowA.keepTy8 RLu.out u6 (fun k h1 h2 => by subst h2; exact typed_box M0.out (by decide) rfl h1)).row (by omega))
    · obtain ⟨w22, hw⟩ : ∃ w22, w22 = w21 := ⟨_, rfl⟩
      subst hw
      have h0 : ((q21 : Int) == 0) = false := by simp; omega
      have h1 : ((q21 : Int) == 1) = false := by simp; omega
      have h2 : ((q21 : Int) == 2) = false := by simp; omega
      have h3 : ((q21 : Int) == 3) = false := by simp; omega
      have N0 := P0
      have N1 := P1
      have NP := PP
      have NL := PL
      have U22 := U21
      have hr22 := hr21
      clear P0 P1 PP PL U21 hr21
      obtain ⟨u, hu⟩ : ∃ u : Wd, u = y := ⟨_, rfl⟩
      subst hu
      have M0 := N0
      have M1 := N1
      have RPu := NP
      have RLu := NL
      have hup := hyp
      have hul := hyl
      have hrF := hr22
      have UF := U22
      clear N0 N1 NP NL U22 hr22
      have H1s := hide (all_of_list (List.all_eq_true.2 (wd_one u po lo u.ps.length pc u.ls.length lc)))
      go_wp2_with (first | (refine wpList_load_row rfl 47 (.tmp 3) rfl w15.heap.size rfl _ _ (0, 0) _ M1.out Try.underlying47 rfl infoWd ?_) | (refine wpList_store_row rfl 47 (.tmp 2) (.tmp 84) rfl w.heap.size _ rfl rfl _ _ M0.out infoWd rfl H1s.out ?_))
      refine bodyPost_ret (v := .agg #[.int .i64 u.a0, .int .i64 u.a1, .int .i64 u.a2, .int .i64 u.a3, .int .i64 u.a4, .int .i64 u.a5, .int .i64 u.c0, .int .i64 u.c1, .int .i64 u.c2, .int .i64 u.c3, .int .i64 u.c4, .int .i64 u.c5, .int .i64 u.c6, .int .i64 u.c7, .int .i64 u.c8, .int .i64 u.c9, .int .i64 u.b0, .int .i64 u.b1, .int .i64 u.b2, .int .i64 u.b3, .int .i64 u.b4, .int .i64 u.b5, .int .i64 u.b6, .int .i64 u.b7, .slice po u.ps.length pc, .slice lo u.ls.length lc]) (results_cell_row Try.results69 _ _ w.heap.size _ _ (0, 0) _ rfl (setRow_heap _ _ _ _ _ _ M0.out) Try.underlying47 rfl infoWd) rfl ?_
      have u6 : Upd (fun j => j = w.heap.size) w22 (w22.setRow w.heap.size (#[.int .i64 u.a0, .int .i64 u.a1, .int .i64 u.a2, .int .i64 u.a3, .int .i64 u.a4, .int .i64 u.a5, .int .i64 u.c0, .int .i64 u.c1, .int .i64 u.c2, .int .i64 u.c3, .int .i64 u.c4, .int .i64 u.c5, .int .i64 u.c6, .int .i64 u.c7, .int .i64 u.c8, .int .i64 u.c9, .int .i64 u.b0, .int .i64 u.b1, .int .i64 u.b2, .int .i64 u.b3, .int .i64 u.b4, .int .i64 u.b5, .int .i64 u.b6, .int .i64 u.b7, .slice po u.ps.length pc, .slice lo u.ls.length lc] : Array Value)) := ⟨rfl, rfl, rfl, by simp, fun k _ h => setRow_other _ _ _ _ h⟩
      refine ⟨_, u, _, rfl, ⟨po, pc, lo, lc, rfl, ?_, ?_⟩, hup, hul, hrF.keep u6 (by omega) (fun k h => by omega), by omega, UF.out.transN u6 (fun k h => by omega)⟩
      · exact ((RowA.keepTy8 RPu.out u6 (fun k h1 h2 => by subst h2; exact typed_box M0.out (by decide) rfl h1)).row (by omega))
      · exact ((RowA.keepTy8 RLu.out u6 (fun k h1 h2 => by subst h2; exact typed_box M0.out (by decide) rfl h1)).row (by omega))

end Go.Proofs.Yteddhdbglciahaa

/- A voter that is drawn: contracts; no statement of the seat is proved here. -/
namespace Go.Proofs.Yteddhdbglciahaa
open Go.RowKit

theorem upd_mix {S T : Nat → Prop} {a b c : World} (h : Upd S a b) (k : Upd T b c) (hT : ∀ j, T j → S j ∨ a.heap.size ≤ j) : Upd S a c :=
  ⟨k.os.trans h.os, k.tape.trans h.tape, k.output.trans h.output, Nat.le_trans h.size k.size,
    fun i hi hS => (k.block i (Nat.lt_of_lt_of_le hi h.size) (fun ht => by rcases hT i ht with h1 | h1; exact hS h1; omega)).trans (h.block i hi hS)⟩
/-- A word's kind, put into its cells. -/
theorem WdR.kind {w : World} {cs : Array Value} {x : Wd} (z : Int) (h : WdR w (.agg cs) x) : WdR w (.agg (cs.setIfInBounds 0 (.int .i64 z))) { x with a0 := z } := by
  obtain ⟨po, pc, lo, lc, e, h1, h2⟩ := h
  injection e with e
  subst e
  exact ⟨po, pc, lo, lc, rfl, h1, h2⟩
end Go.Proofs.Yteddhdbglciahaa

/- DrawSynVote: a contract; no statement of the seat is proved here. -/
namespace Go.Proofs.Yteddhdbglciahaa
open Go.RowKit

theorem results_cell_tmp_cell {fn : Func} {p q t : Tmp} {ty ty2 : TypeId} (h : fn.results = #[.cell p ty, .tmp t, .cell q ty2]) (tmps : Array Value) (P : Program) (w : World) :
    (results fn tmps).run P w =
      ((asAddr (tmps.getD p undef)).run P w).andThen fun a w₁ => ((loadVar ty a).run P w₁).andThen fun v w₂ => ((asAddr (tmps.getD q undef)).run P w₂).andThen fun a2 w₃ => ((loadVar ty2 a2).run P w₃).andThen fun v2 w₄ => .ok (.tuple #[v, tmps.getD t undef, v2]) w₄ := by
  simp only [results, h]
  simp [Sem.run_bind, Result.andThen]
theorem results_row_tmp_row {P : Program} {fn : Func} {p q t : Tmp} {ty ty2 : TypeId} (h : fn.results = #[.cell p ty, .tmp t, .cell q ty2]) (tmps : Array Value) (w : World) (g g2 : Nat) (t1 t2 : TypeId) (cs ds : Array Value) (fr fr2 : Nat × Nat) (d d2 : TypeDesc) (b : Value)
    (hp : tmps.getD p undef = .pointer (some ⟨g, 0, none⟩)) (hq : tmps.getD q undef = .pointer (some ⟨g2, 0, none⟩)) (hb : tmps.getD t undef = b) (hg : w.heap[g]? = some (.cells cs t1 fr)) (hg2 : w.heap[g2]? = some (.cells ds t2 fr2))
    (hu : P.underlying ty = some d) (hd : (match d with | .struct _ | .array _ _ => true | _ => false) = true) (hi : (P.info? ty).map (·.size) = some cs.size)
    (hu2 : P.underlying ty2 = some d2) (hd2 : (match d2 with | .struct _ | .array _ _ => true | _ => false) = true) (hi2 : (P.info? ty2).map (·.size) = some ds.size) :
    (results fn tmps).run P w = .ok (.tuple #[.agg cs, b, .agg ds]) w := by
  rw [results_cell_tmp_cell h, hp, hq, hb]
  simp [asAddr, Result.andThen, run_loadVar_row w g t1 ty cs fr d hg hu hd hi, run_loadVar_row w g2 t2 ty2 ds fr2 d2 hg2 hu2 hd2 hi2]


theorem WdO.kind {w : World} {S : Nat → Prop} {cs : Array Value} {x : Wd} (z : Int) (h : WdO w S (.agg cs) x) : WdO w S (.agg (cs.setIfInBounds 0 (.int .i64 z))) { x with a0 := z } := by
  obtain ⟨po, pc, lo, lc, e, h1, h2⟩ := h
  injection e with e
  subst e
  exact ⟨po, pc, lo, lc, rfl, h1, h2⟩
end Go.Proofs.Yteddhdbglciahaa

/- SynHear of the specification: a contract; no statement of the seat is proved here. (Written by wip/tools/mkhear.py.) -/
namespace Go.Proofs.Yteddhdbglciahaa
open Go.RowKit

/-- Does a seeker hear a word? -/
def hearC (k : Sk) (me : Int) (x : Wd) : Bool := okS k && (!(k.ph == 0) && (okW x && ((x.a3 == k.b) && ((x.a4 == k.s) && (inI x.a1 0 2 && (inI me 0 4 && !decide (x.a1 ∈ k.ys)))))))
def accW (me b s : Int) (c : Wd) : Wd := { zeroW with a0 := 3, a1 := me, a3 := b, a4 := s, c0 := c.c0, c1 := c.c1, c2 := c.c2, c3 := c.c3, c4 := c.c4, c5 := c.c5, c6 := c.c6, c7 := c.c7, c8 := c.c8, c9 := c.c9 }
/-- A seeker that was told of a vote. -/
def toldK (k : Sk) (x : Wd) : Sk := if k.p.2.1 < x.a5 then { k with p := (k.s, x.a5, x) } else k
/-- What a seeker does with a word. -/
def hearR (k : Sk) (me : Int) (x : Wd) : Sk × List Wd × Bool :=
  if hearC k me x = true then
    if k.ph = 1 ∧ x.a0 = 2 ∧ x.a5 < k.b then
      if k.ys.length = 0 then ({ toldK k x with ys := k.ys ++ [x.a1] }, [], false)
      else ({ toldK k x with ph := 2, ys := [] }, allTo (accW me k.b k.s (valW (toldK k x))) 3, false)
    else if k.ph = 2 ∧ x.a0 = 4 then ({ k with ys := k.ys ++ [x.a1] }, [], decide (k.ys.length = 1))
    else (k, [], false)
  else (k, [], false)
/-- What SynHear gives: a seeker and words, in memory of their own. -/
def HearO (w w' : World) (R : Sk × List Wd × Bool) (v u : Value) : Prop :=
  SkO w' (fun j => w.heap.size ≤ j) v R.1 ∧ Row w' 47 26 (fun j => w.heap.size ≤ j) u R.2.1.length (fwcells R.2.1) ∧ Below w.heap.size w w'

theorem results_cell_tmp_tmp {fn : Func} {p q t : Tmp} {ty : TypeId} (h : fn.results = #[.cell p ty, .tmp q, .tmp t]) (tmps : Array Value) (P : Program) (w : World) :
    (results fn tmps).run P w =
      ((asAddr (tmps.getD p undef)).run P w).andThen fun a w₁ => ((loadVar ty a).run P w₁).andThen fun v w₂ => .ok (.tuple #[v, tmps.getD q undef, tmps.getD t undef]) w₂ := by
  simp only [results, h]
  simp [Sem.run_bind, Result.andThen]
theorem results_row_tmp_tmp {P : Program} {fn : Func} {p q t : Tmp} {ty : TypeId} (h : fn.results = #[.cell p ty, .tmp q, .tmp t]) (tmps : Array Value) (w : World) (g : Nat) (t1 : TypeId) (cs : Array Value) (fr : Nat × Nat) (d : TypeDesc) (b c : Value)
    (hp : tmps.getD p undef = .pointer (some ⟨g, 0, none⟩)) (hq : tmps.getD q undef = b) (hb : tmps.getD t undef = c) (hg : w.heap[g]? = some (.cells cs t1 fr))
    (hu : P.underlying ty = some d) (hd : (match d with | .struct _ | .array _ _ => true | _ => false) = true) (hi : (P.info? ty).map (·.size) = some cs.size) :
    (results fn tmps).run P w = .ok (.tuple #[.agg cs, b, c]) w := by
  rw [results_cell_tmp_tmp h, hp, hq, hb]
  simp [asAddr, Result.andThen, run_loadVar_row w g t1 ty cs fr d hg hu hd hi]
theorem builtBest (s b : Int) (x : Wd) : Try.prog.built 37 [(0, .int .i64 s), (1, .int .i64 b), (2, .agg #[.int .i64 x.c0, .int .i64 x.c1, .int .i64 x.c2, .int .i64 x.c3, .int .i64 x.c4, .int .i64 x.c5, .int .i64 x.c6, .int .i64 x.c7, .int .i64 x.c8, .int .i64 x.c9])] = some (pparr (s, b, x)) := by kernel_rfl
theorem wpList_builtBest {ops : Array Oper} {rest : List Oper} {o : Oper} {a : Act} {w : World} {Q : Exit → Act → World → Prop} (s b : Int) (x : Wd) (hg : o.guard = none) (parts : Array (Nat × Operand)) (ho : o.op = .build 37 parts)
    (hp : (parts.map fun (i, x) => (i, a.eval x)).toList = [(0, .int .i64 s), (1, .int .i64 b), (2, .agg #[.int .i64 x.c0, .int .i64 x.c1, .int .i64 x.c2, .int .i64 x.c3, .int .i64 x.c4, .int .i64 x.c5, .int .i64 x.c6, .int .i64 x.c7, .int .i64 x.c8, .int .i64 x.c9])])
    (h : wpList Try.prog ops Q rest (a.put o.dst (.agg (pparr (s, b, x)))) w) : wpList Try.prog ops Q (o :: rest) a w :=
  wpList_build hg 37 parts ho (by rw [hp, builtBest]; rfl) (by rw [hp, builtBest]; exact h)
theorem builtAcc (me b s : Int) (c : Wd) : Try.prog.built 47 [(0, .int .i64 3), (1, .int .i64 me), (3, .int .i64 b), (4, .int .i64 s), (6, .agg (wcmd c))] = some (fwarr (accW me b s c)) := by kernel_rfl
theorem oneI (y : Int) : ∀ u ∈ ([.int .i64 y] : List Value), u.oneCell' = true := by
  intro u hu
  rw [List.mem_singleton.1 hu]
  rfl
theorem newI_cells (w : World) (y : Int) (e : TypeId) : ∀ j u, ([.int .i64 y] : List Value)[j]? = some u → (w.alloc (.cells #[.int .i64 y] e)).cell? ((⟨w.heap.size, 0, none⟩ : Addr).add j) = some u := by
  intro j u h
  rw [Addr.add_lit, Nat.zero_add, boxAt (al1_0 w _)]
  simpa using h

end Go.Proofs.Yteddhdbglciahaa

/- What a seeker does with a word, plainly: plain facts; no statement of the seat is proved here. -/
namespace Go.Proofs.Yteddhdbglciahaa

theorem hear_no {k : Sk} {me : Int} {x : Wd} (h : okS k = false) : hearR k me x = (k, [], false) := by
  rw [hearR, if_neg]
  simp [hearC, h]
theorem hear_chosen {k : Sk} {me : Int} {x : Wd} (h : (hearR k me x).2.2 = true) : k.ph = 2 ∧ (hearR k me x).1.ys.length = 2 ∧ (hearR k me x).2.1 = [] := by
  unfold hearR at h ⊢
  by_cases h1 : hearC k me x = true
  · rw [if_pos h1] at h ⊢
    by_cases h2 : k.ph = 1 ∧ x.a0 = 2 ∧ x.a5 < k.b
    · rw [if_pos h2] at h
      split at h <;> simp at h
    · rw [if_neg h2] at h ⊢
      by_cases h3 : k.ph = 2 ∧ x.a0 = 4
      · rw [if_pos h3] at h ⊢
        simp only [decide_eq_true_eq] at h
        exact ⟨h3.1, by simp [h], rfl⟩
      · rw [if_neg h3] at h
        simp at h
  · rw [if_neg h1] at h
    simp at h
theorem hear_words {k : Sk} {me : Int} {x : Wd} {i : Nat} {z : Wd} (h : (hearR k me x).2.1[i]? = some z) :
    z = { accW me k.b k.s (valW (hearR k me x).1) with a2 := (i : Int) } := by
  unfold hearR at h ⊢
  by_cases h1 : hearC k me x = true
  · rw [if_pos h1] at h ⊢
    by_cases h2 : k.ph = 1 ∧ x.a0 = 2 ∧ x.a5 < k.b
    · rw [if_pos h2] at h ⊢
      by_cases h4 : k.ys.length = 0
      · rw [if_pos h4] at h
        simp at h
      · rw [if_neg h4] at h ⊢
        simp only [allTo, List.getElem?_map] at h
        have hi : i < 3 := by
          rcases Nat.lt_or_ge i 3 with h | h'
          · exact h
          · rw [List.getElem?_eq_none (by simpa using h')] at h
            simp at h
        rw [List.getElem?_range hi] at h
        simp only [Option.map_some, Option.some.injEq] at h
        exact h.symm
    · rw [if_neg h2] at h
      split at h <;> simp at h
  · rw [if_neg h1] at h
    simp at h
theorem hear_m {k : Sk} {me : Int} {x : Wd} : (hearR k me x).1.m = k.m := by
  unfold hearR toldK
  repeat' split
  all_goals rfl
theorem told_may {k : Sk} {x : Wd} (h : mayS k = true) (hx : okW x = true) (hb : x.a5 < k.b) : bestI (toldK k x) = true ∧ k.p.2.1 ≤ (toldK k x).p.2.1 := by
  simp only [mayS, Bool.and_eq_true] at h
  obtain ⟨h1, h2, h3, h4⟩ := h
  unfold toldK
  by_cases hc : k.p.2.1 < x.a5
  · rw [if_pos hc]
    refine ⟨?_, Int.le_of_lt hc⟩
    simp only [bestI, Bool.or_eq_true, Bool.and_eq_true, decide_eq_true_eq]
    right
    have hc0 : 0 ≤ k.p.2.1 := by
      simp only [bestI, Bool.or_eq_true, Bool.and_eq_true] at h4
      rcases h4 with h4 | h4
      · simp only [isZP, Bool.and_eq_true, beq_iff_eq] at h4
        omega
      · simp only [ppI, inI, Bool.and_eq_true, decide_eq_true_eq] at h4
        omega
    simp only [okW, Bool.and_eq_true] at hx
    simp only [ppI, inI, Bool.and_eq_true, decide_eq_true_eq] at h1 ⊢
    refine ⟨⟨⟨h1.1.1, h1.1.2⟩, ⟨by omega, by omega⟩, hx.2.2.2.2.1⟩, trivial, hb⟩
  · rw [if_neg hc]
    exact ⟨h4, Int.le_refl _⟩
theorem told_rest (k : Sk) (x : Wd) : (toldK k x).s = k.s ∧ (toldK k x).b = k.b ∧ (toldK k x).m = k.m ∧ (toldK k x).ys = k.ys ∧ (toldK k x).ph = k.ph := by
  unfold toldK
  split <;> exact ⟨rfl, rfl, rfl, rfl, rfl⟩
theorem hear_ok {k : Sk} {me : Int} {x : Wd} (h : okS k = true) (hc : (hearR k me x).2.2 = false) : okS (hearR k me x).1 = true ∧ k.p.2.1 ≤ (hearR k me x).1.p.2.1 ∧ k.ph ≤ (hearR k me x).1.ph := by
  unfold hearR at hc ⊢
  by_cases h1 : hearC k me x = true
  · rw [if_pos h1] at hc ⊢
    simp only [hearC, Bool.and_eq_true] at h1
    obtain ⟨-, hp, hx, -, -, hf, -, -⟩ := h1
    have hm : mayS k = true := by
      simp only [okS, Bool.or_eq_true] at h
      rcases h with h | h
      · simp only [noS, Bool.and_eq_true, beq_iff_eq] at h
        rw [h.2.2.1] at hp
        simp at hp
      · exact h
    have hy : yesI k.ys = true := by
      simp only [mayS, Bool.and_eq_true] at hm
      exact hm.2.2.1
    have happ : k.ys.length = 0 → yesI (k.ys ++ [x.a1]) = true := fun h0 => by
      have e : k.ys = [] := List.length_eq_zero_iff.1 h0
      simp [yesI, e, hf]
    by_cases h2 : k.ph = 1 ∧ x.a0 = 2 ∧ x.a5 < k.b
    · rw [if_pos h2] at hc ⊢
      have ht := told_may hm hx h2.2.2
      obtain ⟨t1, t2, t3, t4, t5⟩ := told_rest k x
      simp only [mayS, Bool.and_eq_true] at hm
      by_cases h4 : k.ys.length = 0
      · rw [if_pos h4]
        refine ⟨?_, ht.2, by show k.ph ≤ (toldK k x).ph; omega⟩
        simp only [okS, Bool.or_eq_true]
        right
        simp only [mayS, Bool.and_eq_true]
        refine ⟨?_, ?_, happ h4, ?_⟩
        · show ppI ((toldK k x).s, (toldK k x).b, (toldK k x).m) = true
          rw [t1, t2, t3]; exact hm.1
        · show inI (toldK k x).ph 1 2 = true
          rw [t5]; exact hm.2.1
        · exact ht.1
      · rw [if_neg h4]
        refine ⟨?_, ht.2, by show k.ph ≤ 2; omega⟩
        simp only [okS, Bool.or_eq_true]
        right
        simp only [mayS, Bool.and_eq_true]
        refine ⟨?_, by decide, by decide, ?_⟩
        · show ppI ((toldK k x).s, (toldK k x).b, (toldK k x).m) = true
          rw [t1, t2, t3]; exact hm.1
        · exact ht.1
    · rw [if_neg h2] at hc ⊢
      by_cases h3 : k.ph = 2 ∧ x.a0 = 4
      · rw [if_pos h3] at hc ⊢
        have h0 : k.ys.length = 0 := by
          simp only [decide_eq_false_iff_not] at hc
          simp only [yesI, Bool.or_eq_true, Bool.and_eq_true, decide_eq_true_eq] at hy
          omega
        refine ⟨?_, Int.le_refl _, Int.le_refl _⟩
        simp only [okS, Bool.or_eq_true]
        right
        simp only [mayS, Bool.and_eq_true] at hm ⊢
        exact ⟨hm.1, hm.2.1, happ h0, hm.2.2.2⟩
      · rw [if_neg h3]
        exact ⟨h, Int.le_refl _, Int.le_refl _⟩
  · rw [if_neg h1]
    exact ⟨h, Int.le_refl _, Int.le_refl _⟩

end Go.Proofs.Yteddhdbglciahaa
