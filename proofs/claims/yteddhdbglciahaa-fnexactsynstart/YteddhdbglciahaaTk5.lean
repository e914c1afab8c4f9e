/- Contracts and plain facts that this claim leans on (texts STw); no statement of the seat is proved here. -/
import Derived.Test.YteddhdbglciahaaST2P

/- What the law FnExactSynStart does: its walk; the statement itself is proved elsewhere. -/
namespace Go.Proofs.Yteddhdbglciahaa
open Go.RowKit

theorem three_of {v : Value} {n : Nat} (h : ∃ ao cap, v = .slice ao n cap) (hn : n = 3) : ∃ ao cap, v = .slice ao 3 cap := by subst hn; exact h

set_option maxRecDepth 100000 in
set_option maxHeartbeats 16000000 in
theorem synStart_walk (w : World) :
    Calls Try.prog 5 #[] w fun e w' => e = .returned (.bool true) ∧ Below w.heap.size w w' := by
  obtain ⟨E, hE⟩ : ∃ E, E = eC5 1 zeroC := ⟨_, rfl⟩
  have hE2 : eC5 1 zeroC ≤ 1099511627776 := by decide
  have cM := fun base D v0 v1 v2 V h => markSynCouncil_own base D v0 v1 v2 (.slice none 0 0) (.slice none 0 0) zeroC V h rfl hE2
  have cH := fun v0 v1 v2 V h => heldSynCouncil_own v0 v1 v2 (.slice none 0 0) (.slice none 0 0) zeroC V h hE2
  rw [← hE] at cM cH
  have g1 : decide ((E : Int) < 0) = false := decide_eq_false (by omega)
  have g2 : decide ((E : Int) ≠ (E : Int)) = false := decide_eq_false (by omega)
  clear hE hE2
  go_enter Try.func5, Try.ntmps5
  -- the specification
  go_wp2_with fail
  refine (specSynStart_any w).mono ?_
  rintro e V1 ⟨v0, v1, v2, rfl, r1, b1⟩
  obtain ⟨o0, c0, rfl⟩ := three_of r1.shapes.1 rfl
  obtain ⟨o1, c1, rfl⟩ := three_of r1.shapes.2.1 rfl
  obtain ⟨o2, c2, rfl⟩ := three_of r1.shapes.2.2.1 rfl
  have a1 := bal (Below.refl V1.heap.size V1) (.cells #[.slice o0 3 c0, .slice o1 3 c1, .slice o2 3 c2, .slice none 0 0, .slice none 0 0] 65)
  have N1 := hide (heap_alloc_new V1 (.cells #[.slice o0 3 c0, .slice o1 3 c1, .slice o2 3 c2, .slice none 0 0, .slice none 0 0] 65))
  have R1 := hide (r1.keep a1)
  go_upto_region 2 with (refine wpList_store_row rfl 65 (.tmp 1) (.tmp 6) rfl V1.heap.size #[.slice o0 3 c0, .slice o1 3 c1, .slice o2 3 c2, .slice none 0 0, .slice none 0 0] rfl rfl _ _ (heap_alloc_new V1 _) infoCnI (show (5 : Nat) = 5 from rfl) (all_of_list rfl) ?_; rw [World.setRow_alloc_new])
  generalize hX : V1.alloc (.cells #[.slice o0 3 c0, .slice o1 3 c1, .slice o2 3 c2, .slice none 0 0, .slice none 0 0] 65) = X1 at a1 N1 R1 ⊢
  have l1 := heap_lt N1.out
  generalize V1.heap.size = h1 at N1 l1 ⊢
  have b1' := bAll b1 a1
  clear hX r1 b1 a1
  -- the program
  go_wp2_with fail
  refine (implSynStart_any X1).mono ?_
  rintro e V2 ⟨u0, u1, u2, D, rfl, r2, b2⟩
  obtain ⟨p0, d0, rfl⟩ := three_of r2.reads.shapes.1 rfl
  obtain ⟨p1, d1, rfl⟩ := three_of r2.reads.shapes.2.1 rfl
  obtain ⟨p2, d2, rfl⟩ := three_of r2.reads.shapes.2.2.1 rfl
  have a2 := bal (Below.refl V2.heap.size V2) (.cells #[.slice p0 3 d0, .slice p1 3 d1, .slice p2 3 d2, .slice none 0 0, .slice none 0 0] 65)
  have N2 := hide (heap_alloc_new V2 (.cells #[.slice p0 3 d0, .slice p1 3 d1, .slice p2 3 d2, .slice none 0 0, .slice none 0 0] 65))
  have R2 := hide (r2.keepB a2)
  have D2 := hide r2.1
  go_upto_region 3 with (refine wpList_store_row rfl 65 (.tmp 2) (.tmp 7) rfl V2.heap.size #[.slice p0 3 d0, .slice p1 3 d1, .slice p2 3 d2, .slice none 0 0, .slice none 0 0] rfl rfl _ _ (heap_alloc_new V2 _) infoCnI (show (5 : Nat) = 5 from rfl) (all_of_list rfl) ?_; rw [World.setRow_alloc_new])
  generalize hX : V2.alloc (.cells #[.slice p0 3 d0, .slice p1 3 d1, .slice p2 3 d2, .slice none 0 0, .slice none 0 0] 65) = X2 at a2 N2 R2 ⊢
  have b2' := bAll b2 a2
  have z2 := b2.size
  generalize V2.heap.size = h2 at N2 D2 z2 ⊢
  have Z2 := hide z2
  clear hX r2 b2 a2 z2
  have n1 := bKeeps b2' N1.out
  have n2 := N2.out
  go_wp2_with (first | (refine wpList_load_row rfl 65 (.tmp 2) rfl h2 rfl _ #[.slice p0 3 d0, .slice p1 3 d1, .slice p2 3 d2, .slice none 0 0, .slice none 0 0] (0, 0) _ n2 Try.underlying65 rfl infoCnI ?_) | (refine wpList_load_row rfl 65 (.tmp 1) rfl h1 rfl _ #[.slice o0 3 c0, .slice o1 3 c1, .slice o2 3 c2, .slice none 0 0, .slice none 0 0] (0, 0) _ n1 Try.underlying65 rfl infoCnI ?_))
  refine (eqSynCouncil_true _ _ zeroC X2 ⟨_, _, _, _, _, rfl, R2.out.reads⟩ ⟨_, _, _, _, _, rfl, R1.out.keep b2'⟩).mono ?_
  rintro e V3 ⟨rfl, b3⟩
  have n2 := bKeeps b3 N2.out
  have R2 := hide (R2.out.keepB b3)
  have b3' := bAll b2' b3
  clear n1 b2' b3
  go_wp2_with (refine wpList_load_row rfl 65 (.tmp 2) rfl h2 rfl _ #[.slice p0 3 d0, .slice p1 3 d1, .slice p2 3 d2, .slice none 0 0, .slice none 0 0] (0, 0) _ n2 Try.underlying65 rfl infoCnI ?_)
  refine (cM _ D _ _ _ V3 R2.out).mono ?_
  rintro e V4 ⟨rfl, r4, u4⟩
  have b4' : Below X1.heap.size X1 V4 := b3'.trans (u4.below b3'.size (fun b h => by obtain ⟨i, h⟩ := h; exact (D2.out i b h).1))
  have n2 := u4.keeps n2 (fun h => by obtain ⟨i, h⟩ := h; have := (D2.out i _ h).2; omega)
  have N2 := hide n2
  have R4 := hide r4
  clear r4 u4 b3' cM
  go_wp2_with (refine wpList_load_row rfl 65 (.tmp 2) rfl h2 rfl _ #[.slice p0 3 d0, .slice p1 3 d1, .slice p2 3 d2, .slice none 0 0, .slice none 0 0] (0, 0) _ n2 Try.underlying65 rfl infoCnI ?_)
  refine (cH _ _ _ V4 R4.out.reads).mono ?_
  rintro e V5 ⟨rfl, b5⟩
  have N2 := hide (bKeeps b5 N2.out)
  have R5 := hide (R4.out.keepB b5)
  have b5' := bAll b4' b5
  clear n2 b4' b5 R4
  go_wp2_with fail
  refine (implSynStart_any V5).mono ?_
  rintro e V6 ⟨t0, t1, t2, D6, rfl, r6, b6⟩
  obtain ⟨q0, e0, rfl⟩ := three_of r6.reads.shapes.1 rfl
  obtain ⟨q1, e1, rfl⟩ := three_of r6.reads.shapes.2.1 rfl
  obtain ⟨q2, e2, rfl⟩ := three_of r6.reads.shapes.2.2.1 rfl
  have a6 := bal (Below.refl V6.heap.size V6) (.cells #[.slice q0 3 e0, .slice q1 3 e1, .slice q2 3 e2, .slice none 0 0, .slice none 0 0] 65)
  have N6 := hide (heap_alloc_new V6 (.cells #[.slice q0 3 e0, .slice q1 3 e1, .slice q2 3 e2, .slice none 0 0, .slice none 0 0] 65))
  have R6 := hide (r6.keepB a6)
  go_upto_region 14 with (refine wpList_store_row rfl 65 (.tmp 5) (.tmp 23) rfl V6.heap.size #[.slice q0 3 e0, .slice q1 3 e1, .slice q2 3 e2, .slice none 0 0, .slice none 0 0] rfl rfl _ _ (heap_alloc_new V6 _) infoCnI (show (5 : Nat) = 5 from rfl) (all_of_list rfl) ?_; rw [World.setRow_alloc_new])
  generalize hX : V6.alloc (.cells #[.slice q0 3 e0, .slice q1 3 e1, .slice q2 3 e2, .slice none 0 0, .slice none 0 0] 65) = X6 at a6 N6 R6 ⊢
  have b6' := bAll b6 a6
  generalize V6.heap.size = h6 at N6 ⊢
  have N2 := hide (bKeeps b6' N2.out)
  have R5 := hide (R5.out.keepB b6')
  have b7' := bAll b5' b6'
  clear hX r6 b6 a6 b5' b6'
  have n1 := bKeeps b7' N1.out
  have n6 := N6.out
  go_wp2_with (first | (refine wpList_load_row rfl 65 (.tmp 5) rfl h6 rfl _ #[.slice q0 3 e0, .slice q1 3 e1, .slice q2 3 e2, .slice none 0 0, .slice none 0 0] (0, 0) _ n6 Try.underlying65 rfl infoCnI ?_) | (refine wpList_load_row rfl 65 (.tmp 1) rfl h1 rfl _ #[.slice o0 3 c0, .slice o1 3 c1, .slice o2 3 c2, .slice none 0 0, .slice none 0 0] (0, 0) _ n1 Try.underlying65 rfl infoCnI ?_))
  refine (eqSynCouncil_true _ _ zeroC X6 ⟨_, _, _, _, _, rfl, R6.out.reads⟩ ⟨_, _, _, _, _, rfl, R1.out.keep b7'⟩).mono ?_
  rintro e V8 ⟨rfl, b8⟩
  have n2 := bKeeps b8 N2.out
  have R8 := hide (R5.out.keepB b8)
  have b8' := bAll b7' b8
  clear n1 n6 b7' b8 R5
  go_wp2_with (refine wpList_load_row rfl 65 (.tmp 2) rfl h2 rfl _ #[.slice p0 3 d0, .slice p1 3 d1, .slice p2 3 d2, .slice none 0 0, .slice none 0 0] (0, 0) _ n2 Try.underlying65 rfl infoCnI ?_)
  refine (cH _ _ _ V8 R8.out.reads).mono ?_
  rintro e V9 ⟨rfl, b9⟩
  have b9' := bAll b1' (bAll b8' b9)
  clear cH n2
  go_wp2
  go_ret
  exact ⟨rfl, b9'⟩

end Go.Proofs.Yteddhdbglciahaa
