/- Contracts and plain facts that this claim leans on (texts CHw, OkLaw, ArgD, ArgP, ArgL, ArgW, ArgV, ArgI, ArgS, ArgN); no statement of the seat is proved here. -/
import Derived.Test.YteddhdbglciahaaGreatCH2P
import Derived.Test.YteddhdbglciahaaGreatCH3P
import Derived.Test.YteddhdbglciahaaGreatZk1
import Derived.ProofKit
import Derived.OpenShut
import Derived.ShutString
import Derived.ChangeOld
import Derived.Below
import Derived.Lib.SmallJoins
import Derived.Deep.Strs
import Derived.Deep.SlicePairs
import Derived.Deep.Slices
import Derived.Test.YteddhdbglciahaaGreatZk8
import Derived.ChangeSlices
import Derived.Test.YteddhdbglciahaaGreatZk11
import Derived.Test.YteddhdbglciahaaGreatZk12

/- What the law FnExactSynChosen does: its walk; the statement itself is proved elsewhere. (Written by wip/tools/mkch.py.) -/
namespace Go.Proofs.YteddhdbglciahaaGreat
open Go.RowKit

theorem CnR.cells' {w : World} {v : Value} {c : Cn} (h : CnR w v c) : ∃ cs : Array Value, v = .agg cs ∧ cs.size = 5 ∧ cs.all (·.oneCell') = true := by
  obtain ⟨v0, v1, v2, v3, v4, rfl, h⟩ := h
  obtain ⟨⟨a0, k0, rfl⟩, ⟨a1, k1, rfl⟩, ⟨a2, k2, rfl⟩, ⟨a3, k3, rfl⟩, ⟨a4, k4, rfl⟩⟩ := h.shapes
  exact ⟨_, rfl, rfl, all_of_list rfl⟩

set_option maxRecDepth 100000 in
set_option maxHeartbeats 8000000 in
theorem synChosen_walk (v : Value) (c : Cn) (s : Int) (w : World) (h : CnR w v c) :
    Calls Tryz.prog 3 #[v, .int .i64 s] w fun e w' => e = .returned (.bool true) ∧ Below w.heap.size w w' := by
  obtain ⟨R, hR⟩ : ∃ R, chosR s c = R := ⟨_, rfl⟩
  have cS := fun v w h => specSynChosen_any v c s w h
  have cI := fun v w h => implSynChosen_any v c s w h
  rw [hR] at cS cI
  clear hR
  obtain ⟨x, j⟩ := R
  have HV := hide h
  obtain ⟨cs, rfl, hs, -⟩ := h.cells'
  have HI := hide (infoAt infoCnL hs)
  clear h hs
  go_enter Tryz.func3, Tryz.ntmps3
  go_upto_region 1 with fail
  generalize hW : World.alloc _ _ = W
  have al : Below w.heap.size w W := by rw [← hW]; exact bal (Below.refl _ _) _
  have B0 : Hid (W.heap[w.heap.size]? = some (.cells cs 28 (0, 0))) := by show _ = _; rw [← hW]; exact al1_0 w _
  have V0 := hide (HV.out.keep al)
  clear hW HV
  go_wp2_with (refine wpList_load_row rfl 28 (.tmp 2) rfl w.heap.size rfl _ cs (0, 0) _ B0.out Tryz.underlying28 rfl HI.out ?_)
  refine (szSynCouncil_any _ c _ V0.out).mono ?_
  rintro e w1 ⟨r, rfl, hs, b1⟩
  rcases hs with hneg | ⟨hr0, hsm⟩
  · go_wp2
    go_ret
    exact ⟨rfl, bAll al b1⟩
  have hge : ¬ r < 0 := by omega
  have HS := hide hsm
  clear hr0 hsm
  have C1 := hide (bKeeps b1 B0.out)
  go_wp2_with (refine wpList_load_row rfl 28 (.tmp 2) rfl w.heap.size rfl _ cs (0, 0) _ C1.out Tryz.underlying28 rfl HI.out ?_)
  refine (toSynCouncil_any _ c _ (V0.out.keep b1) HS.out).mono ?_
  rintro e w2 ⟨v2, rfl, d2, b2⟩
  have b2 := bAll b1 b2
  go_wp2_with fail
  refine (cS _ _ d2.reads).mono ?_
  rintro e w3 ⟨rfl, b3⟩
  have b3 := bAll b2 b3
  have a3 := bal (Below.refl w3.heap.size w3) (.cells #[.int .i64 x.c0, .int .i64 x.c1, .int .i64 x.c2, .int .i64 x.c3, .int .i64 x.c4, .int .i64 x.c5, .int .i64 x.c6, .int .i64 x.c7, .int .i64 x.c8, .int .i64 x.c9] 31)
  have N6 := hide (heap_alloc_new w3 (.cells #[.int .i64 x.c0, .int .i64 x.c1, .int .i64 x.c2, .int .i64 x.c3, .int .i64 x.c4, .int .i64 x.c5, .int .i64 x.c6, .int .i64 x.c7, .int .i64 x.c8, .int .i64 x.c9] 31))
  have b3 := bAll b3 a3
  clear d2 b1 C1 cS
  go_upto_region 6 with (refine wpList_store_row rfl 31 (.tmp 6) (.tmp 21) rfl w3.heap.size #[.int .i64 x.c0, .int .i64 x.c1, .int .i64 x.c2, .int .i64 x.c3, .int .i64 x.c4, .int .i64 x.c5, .int .i64 x.c6, .int .i64 x.c7, .int .i64 x.c8, .int .i64 x.c9] rfl rfl _ _ (heap_alloc_new w3 _) infoCm5 (show (10 : Nat) = 10 from rfl) (all_of_list rfl) ?_; rw [World.setRow_alloc_new])
  generalize hX3 : w3.alloc (.cells #[.int .i64 x.c0, .int .i64 x.c1, .int .i64 x.c2, .int .i64 x.c3, .int .i64 x.c4, .int .i64 x.c5, .int .i64 x.c6, .int .i64 x.c7, .int .i64 x.c8, .int .i64 x.c9] 31) = X3 at N6 b3 a3 ⊢
  generalize w3.heap.size = g6 at N6 ⊢
  clear hX3 a3
  have C3 := hide (bKeeps b3 B0.out)
  go_wp2_with (refine wpList_load_row rfl 28 (.tmp 2) rfl w.heap.size rfl _ cs (0, 0) _ C3.out Tryz.underlying28 rfl HI.out ?_)
  refine (toSynCouncil_any _ c _ (V0.out.keep b3) HS.out).mono ?_
  rintro e w4 ⟨v4, rfl, d4, b4⟩
  have N6 := hide (bKeeps b4 N6.out)
  have b4 := bAll b3 b4
  obtain ⟨ds, rfl, hds, hd1⟩ := d4.reads.cells'
  have GI := hide (infoAt infoCnI hds)
  have GZ := hide ((show (#[.slice none 0 0, .slice none 0 0, .slice none 0 0, .slice none 0 0, .slice none 0 0] : Array Value).size = 5 from rfl).trans hds.symm)
  have G1 := hide hd1
  have a5 := bal (Below.refl w4.heap.size w4) (.cells ds 39)
  have A5 := hide (heap_alloc_new w4 (.cells ds 39))
  have X5 := hide (d4.reads.keep a5)
  have N6 := hide (bKeeps a5 N6.out)
  have b5 := bAll b4 a5
  clear d4 C3 hds hd1
  go_wp2_with (first
    | (refine wpList_store_row rfl 39 (.tmp 8) (.tmp 24) rfl w4.heap.size ds rfl rfl _ _ (heap_alloc_new w4 _) GI.out GZ.out G1.out ?_; rw [World.setRow_alloc_new])
    | (refine wpList_load_row rfl 39 (.tmp 8) rfl w4.heap.size rfl _ ds (0, 0) _ A5.out Tryz.underlying39 rfl GI.out ?_))
  refine (cI _ _ X5.out).mono ?_
  rintro e w6 ⟨rfl, b6⟩
  have a6 := bal (Below.refl w6.heap.size w6) (.cells #[.int .i64 x.c0, .int .i64 x.c1, .int .i64 x.c2, .int .i64 x.c3, .int .i64 x.c4, .int .i64 x.c5, .int .i64 x.c6, .int .i64 x.c7, .int .i64 x.c8, .int .i64 x.c9] 31)
  have N9 := hide (heap_alloc_new w6 (.cells #[.int .i64 x.c0, .int .i64 x.c1, .int .i64 x.c2, .int .i64 x.c3, .int .i64 x.c4, .int .i64 x.c5, .int .i64 x.c6, .int .i64 x.c7, .int .i64 x.c8, .int .i64 x.c9] 31))
  have b6 := bAll b6 a6
  have A6 := hide (bKeeps b6 A5.out)
  have X6 := hide (X5.out.keep b6)
  have N6 := hide (bKeeps b6 N6.out)
  have c6 := bAll b5 b6
  have B6 := hide (bKeeps c6 B0.out)
  have V6 := hide (V0.out.keep c6)
  clear b6 a5 A5 X5 b5 b4 b3 b2 cI
  go_upto_region 8 with (refine wpList_store_row rfl 31 (.tmp 9) (.tmp 29) rfl w6.heap.size #[.int .i64 x.c0, .int .i64 x.c1, .int .i64 x.c2, .int .i64 x.c3, .int .i64 x.c4, .int .i64 x.c5, .int .i64 x.c6, .int .i64 x.c7, .int .i64 x.c8, .int .i64 x.c9] rfl rfl _ _ (heap_alloc_new w6 _) infoCm5 (show (10 : Nat) = 10 from rfl) (all_of_list rfl) ?_; rw [World.setRow_alloc_new])
  generalize hX6 : w6.alloc (.cells #[.int .i64 x.c0, .int .i64 x.c1, .int .i64 x.c2, .int .i64 x.c3, .int .i64 x.c4, .int .i64 x.c5, .int .i64 x.c6, .int .i64 x.c7, .int .i64 x.c8, .int .i64 x.c9] 31) = X7 at N9 A6 X6 N6 c6 B6 V6 a6 ⊢
  generalize w6.heap.size = g9 at N9 ⊢
  clear hX6 a6
  have hjj : (j != j) = false := by simp
  go_wp2_with (first
    | (refine wpList_load_row rfl 31 (.tmp 9) rfl g9 rfl _ #[.int .i64 x.c0, .int .i64 x.c1, .int .i64 x.c2, .int .i64 x.c3, .int .i64 x.c4, .int .i64 x.c5, .int .i64 x.c6, .int .i64 x.c7, .int .i64 x.c8, .int .i64 x.c9] (0, 0) _ N9.out Tryz.underlying31 rfl infoCm5 ?_)
    | (refine wpList_load_row rfl 31 (.tmp 6) rfl g6 rfl _ #[.int .i64 x.c0, .int .i64 x.c1, .int .i64 x.c2, .int .i64 x.c3, .int .i64 x.c4, .int .i64 x.c5, .int .i64 x.c6, .int .i64 x.c7, .int .i64 x.c8, .int .i64 x.c9] (0, 0) _ N6.out Tryz.underlying31 rfl infoCm5 ?_))
  refine (eqCmd_true x _).mono ?_
  rintro e w8 ⟨rfl, b8⟩
  have A6 := hide (bKeeps b8 A6.out)
  have X6 := hide (X6.out.keep b8)
  have B6 := hide (bKeeps b8 B6.out)
  have V6 := hide (V6.out.keep b8)
  have c6 := bAll c6 b8
  clear N6 N9 b8
  go_upto_region 10 with fail
  have dd := bDrewB (Below.refl w8.heap.size w8)
  refine wp_region_noPanic ?_
  refine wp_region_held_drew (S := (fun w' => w'.heap[w4.heap.size]? = some (.cells ds 39 (0, 0)) ∧ w'.heap[w.heap.size]? = some (.cells cs 28 (0, 0)))) (by kernel_rfl) ?_ (fun hHeld => ?_)
  · exact ⟨bKeeps dd A6.out, bKeeps dd B6.out⟩
  refine wpAnyH_take (i := 0) (v := .agg ds) rfl (by kernel_rfl) (by kernel_rfl) (by kernel_rfl) (fun _ _ _ h => h) (yields_row rfl 39 (.tmp 8) rfl (w4.heap.size) rfl _ ds _ (fun _ h => h.1) Tryz.underlying39 rfl GI.out) (by assumption) ?_
  simp only [Act.put, List.getElem_toArray, List.getElem_cons_zero, List.setIfInBounds_toArray, List.set_cons_zero, List.set_cons_succ]
  refine wpAnyH_take (i := 1) (v := .agg cs) rfl (by kernel_rfl) (by kernel_rfl) (by kernel_rfl) (fun _ _ _ h => h) (yields_row rfl 28 (.tmp 2) rfl (w.heap.size) rfl _ cs _ (fun _ h => h.2) Tryz.underlying28 rfl HI.out) (by assumption) ?_
  simp only [Act.put, List.getElem_toArray, List.getElem_cons_zero, List.getElem_cons_succ, List.setIfInBounds_toArray, List.set_cons_zero, List.set_cons_succ]
  refine wpAnyH_ready (rs := [2]) (by kernel_rfl) (by simp) ?_
  refine AllReadyH.cons rfl (fun K hK => ?_) AllReadyH.nil
  go_simp
  (go_at_call 7; refine (toSynCouncil_any _ c _ (V6.out.keep dd) HS.out).mono ?_; rintro e w9 ⟨v9, rfl, d9, b9⟩; have b9' := bAll dd b9)
  refine hK.out _ _ ?_ (fun hHeld => ?_)
  · exact ⟨bKeeps b9' A6.out, bKeeps b9' B6.out⟩
  clear hK K
  refine wpAnyH_ready (rs := [3]) (by kernel_rfl) (by simp) ?_
  refine AllReadyH.cons rfl (fun K hK => ?_) AllReadyH.nil
  go_simp
  (go_at_call 10; refine (eqSynCouncil_true _ _ c _ (X6.out.keep b9') d9.reads).mono ?_; rintro e w10 ⟨rfl, b10⟩; have b10' := bAll b9' b10)
  refine hK.out _ _ ?_ (fun hHeld => ?_)
  · exact ⟨bKeeps b10' A6.out, bKeeps b10' B6.out⟩
  clear hK K
  refine wpAnyH_take (i := 4) (v := ?v1) rfl (by kernel_rfl) (by kernel_rfl) (by kernel_rfl) (fun _ _ _ h => h) (Or.inl ⟨by rfl, ?hy1⟩) (by assumption) ?rest1
  case hy1 => ((intro w hSw; (try dsimp only at hSw); (try simp only [List.getElem_toArray, List.getElem_cons_zero, List.getElem_cons_succ]); go_simp; first | done | (with_reducible rfl)))
  simp only [Act.put, List.getElem_toArray, List.getElem_cons_zero, List.getElem_cons_succ, List.setIfInBounds_toArray, List.set_cons_zero, List.set_cons_succ]
  refine wpAnyH_done (by kernel_rfl) ?_ _
  refine NoPanic.normal ?_
  go_wp2
  go_ret
  exact ⟨rfl, bAll al (bAll c6 b10')⟩

end Go.Proofs.YteddhdbglciahaaGreat

/- What the law FnExactSecOk does: its walk; the statement itself is proved elsewhere. -/
namespace Go.Proofs.YteddhdbglciahaaGreat
open Go.RowKit

theorem DiskR.shape {w : World} {v : Value} {kept : List ByteArray} {wait : List (Int × ByteArray)} (h : DiskR w v kept wait) : ∃ ao ca ao' ca', v = .agg #[.slice ao kept.length ca, .slice ao' wait.length ca'] := by
  obtain ⟨vk, vw, rfl, ⟨ao, ca, rfl, -⟩, ⟨ao', ca', rfl, -⟩⟩ := h
  exact ⟨ao, ca, ao', ca', rfl⟩

end Go.Proofs.YteddhdbglciahaaGreat

/- How a disk that is an argument is opened; no statement of the seat is proved here. -/
namespace Go.Proofs.YteddhdbglciahaaGreat
open Go.ChangeShapes Go.WideShapes Go.ChangeAt Go.RowKit Go.Deep Go.Joins

theorem seat_own : ownKnob Tryz.prog.godebug = none := by kernel_rfl
theorem seat_laidOut : laidOutB Tryz.prog = true := by kernel_rfl

end Go.Proofs.YteddhdbglciahaaGreat

/- How an argument that is a slice of pieces is opened; no statement of the seat is proved here. -/
namespace Go.Proofs.YteddhdbglciahaaGreat
open Go.ChangeShapes Go.WideShapes Go.ChangeAt Go.RowKit Go.Deep Go.Joins

section
variable {H : Type} {enc : TypeId × Value → H} {P : Program} {w : World} {base : Nat} {spare : Nat → Bool} {held : Bool}

theorem rowR_of_pieces {t e : TypeId} {f0 f1 f2 f3 : Field} {fuel : Nat} {v : Value} {x : DataW H × List MemPlace} (ht : P.underlying t = some (.slice e)) (he : P.underlying e = some (.struct #[f0, f1, f2, f3]))
    (ce : P.cellsOf e = 4) (o0 : f0.offset = 0) (o1 : f1.offset = 1) (o2 : f2.offset = 2) (o3 : f3.offset = 3) (c0 : P.cellsOf f0.type = 1) (c1 : P.cellsOf f1.type = 1) (c2 : P.cellsOf f2.type = 1) (c3 : P.cellsOf f3.type = 1)
    (t0 : P.underlying f0.type = some (.int .i64)) (t1 : P.underlying f1.type = some (.int .i64)) (t2 : P.underlying f2.type = some (.int .i64)) (t3 : P.underlying f3.type = some (.int .i64))
    (h : DataW.trod enc P w base spare held fuel t [v] = some x) : ∃ (so : Option Addr) (sc : Nat) (xs : List Pc), v = .slice so xs.length sc ∧ xs.length ≤ sc ∧ RowR w 4 (.slice so xs.length sc) xs.length (pcells xs) := by
  rcases open_slice ht h with ⟨hcs, _⟩ | ⟨a, len, cap, m, n, D, Pl, hcs, _, hl, hm, hmm, _, hx⟩
  · obtain rfl : v = .slice none 0 0 := by simpa using hcs
    exact ⟨none, 0, [], rfl, Nat.le_refl _, RowR.nil _ _⟩
  · obtain rfl : v = .slice (some a) len cap := by simpa using hcs
    have hlm : len ≤ m := by rw [hmm]; split <;> omega
    unfold maxLen at hm
    have each : ∀ i, i < m → ∃ y : Pc, w.cell? (a.add (i * 4)) = some (.int .i64 y.1) ∧ w.cell? (a.add (i * 4 + 1)) = some (.int .i64 y.2.1) ∧ w.cell? (a.add (i * 4 + 2)) = some (.int .i64 y.2.2.1) ∧ w.cell? (a.add (i * 4 + 3)) = some (.int .i64 y.2.2.2) := fun i hi => by
      obtain ⟨cs', h1, h2⟩ := hx i hi
      rw [ce] at h1
      obtain ⟨_, hlen, hcell⟩ := World.cells?_some h1
      obtain ⟨y0, y1, y2, y3, k, _, _, q0, q1, q2, q3⟩ := trod_struct4 he h2
      rw [o0, c0] at q0
      rw [o1, c1] at q1
      rw [o2, c2] at q2
      rw [o3, c3] at q3
      match cs', hlen with
      | [v0, v1, v2, v3], _ =>
        obtain ⟨z0, e0, _, _⟩ := DataW.trod_int t0 q0
        obtain ⟨z1, e1, _, _⟩ := DataW.trod_int t1 q1
        obtain ⟨z2, e2, _, _⟩ := DataW.trod_int t2 q2
        obtain ⟨z3, e3, _, _⟩ := DataW.trod_int t3 q3
        simp at e0 e1 e2 e3
        subst e0 e1 e2 e3
        have g0 := hcell 0 (by omega)
        have g1 := hcell 1 (by omega)
        have g2 := hcell 2 (by omega)
        have g3 := hcell 3 (by omega)
        rw [Addr.add_add] at g0 g1 g2 g3
        exact ⟨(z0, z1, z2, z3), by simpa using g0, by simpa using g1, by simpa using g2, by simpa using g3⟩
    obtain ⟨Y, hY⟩ := choose_lt each
    have hlen : ((List.range len).map Y).length = len := by simp
    refine ⟨some a, cap, (List.range len).map Y, by rw [hlen], by rw [hlen]; exact hl, ⟨some a, cap, rfl, by omega, pcells_len _, fun h0 => ?_⟩⟩
    rw [hlen] at h0
    have h1 := (hY 0 (by omega)).1
    obtain ⟨b, off, spot⟩ := a
    have hspot : spot = none := by simpa [Addr.add] using World.cell?_spot h1
    subst hspot
    refine ⟨b, off, rfl, fun j u hj => ?_⟩
    have hj' : j < len * 4 := by have := (List.getElem?_eq_some_iff.1 hj).1; rw [pcells_len, hlen] at this; exact this
    have hw := fun i hi => fm_at pcell_len ((List.range len).map Y) (j / 4) (Y (j / 4)) i (by simp [show j / 4 < len by omega]) hi
    obtain ⟨q0, q1, q2, q3⟩ := hY (j / 4) (by omega)
    rw [Addr.add_lit] at q0 q1 q2 q3
    rcases (by omega : j = j / 4 * 4 ∨ j = j / 4 * 4 + 1 ∨ j = j / 4 * 4 + 2 ∨ j = j / 4 * 4 + 3) with e | e | e | e
    · have h2 := hw 0 (by omega)
      rw [Nat.add_zero, ← e] at h2
      rw [← e] at q0
      have h3 := h2.symm.trans hj
      rw [q0]
      exact h3
    · have h2 := hw 1 (by omega)
      rw [← e] at h2
      rw [← e] at q1
      have h3 := h2.symm.trans hj
      rw [q1]
      exact h3
    · have h2 := hw 2 (by omega)
      rw [← e] at h2
      rw [← e] at q2
      have h3 := h2.symm.trans hj
      rw [q2]
      exact h3
    · have h2 := hw 3 (by omega)
      rw [← e] at h2
      rw [← e] at q3
      have h3 := h2.symm.trans hj
      rw [q3]
      exact h3
end

end Go.Proofs.YteddhdbglciahaaGreat

/- How an argument that is a slice of lasts is opened; no statement of the seat is proved here. -/
namespace Go.Proofs.YteddhdbglciahaaGreat
open Go.ChangeShapes Go.WideShapes Go.ChangeAt Go.RowKit Go.Deep Go.Joins

section
variable {H : Type} {enc : TypeId × Value → H} {P : Program} {w : World} {base : Nat} {spare : Nat → Bool} {held : Bool}

theorem rowR_of_lasts {t e : TypeId} {f0 f1 : Field} {fuel : Nat} {v : Value} {x : DataW H × List MemPlace} (ht : P.underlying t = some (.slice e)) (he : P.underlying e = some (.struct #[f0, f1]))
    (ce : P.cellsOf e = 2) (o0 : f0.offset = 0) (o1 : f1.offset = 1) (c0 : P.cellsOf f0.type = 1) (c1 : P.cellsOf f1.type = 1)
    (t0 : P.underlying f0.type = some (.int .i64)) (t1 : P.underlying f1.type = some (.int .i64))
    (h : DataW.trod enc P w base spare held fuel t [v] = some x) : ∃ (so : Option Addr) (sc : Nat) (xs : List Lc), v = .slice so xs.length sc ∧ xs.length ≤ sc ∧ RowR w 2 (.slice so xs.length sc) xs.length (lcells xs) := by
  rcases open_slice ht h with ⟨hcs, _⟩ | ⟨a, len, cap, m, n, D, Pl, hcs, _, hl, hm, hmm, _, hx⟩
  · obtain rfl : v = .slice none 0 0 := by simpa using hcs
    exact ⟨none, 0, [], rfl, Nat.le_refl _, RowR.nil _ _⟩
  · obtain rfl : v = .slice (some a) len cap := by simpa using hcs
    have hlm : len ≤ m := by rw [hmm]; split <;> omega
    unfold maxLen at hm
    have each : ∀ i, i < m → ∃ y : Lc, w.cell? (a.add (i * 2)) = some (.int .i64 y.1) ∧ w.cell? (a.add (i * 2 + 1)) = some (.int .i64 y.2) := fun i hi => by
      obtain ⟨cs', h1, h2⟩ := hx i hi
      rw [ce] at h1
      obtain ⟨_, hlen, hcell⟩ := World.cells?_some h1
      obtain ⟨y0, y1, k, _, _, q0, q1⟩ := trod_struct2 he h2
      rw [o0, c0] at q0
      rw [o1, c1] at q1
      match cs', hlen with
      | [v0, v1], _ =>
        obtain ⟨z0, e0, _, _⟩ := DataW.trod_int t0 q0
        obtain ⟨z1, e1, _, _⟩ := DataW.trod_int t1 q1
        simp at e0 e1
        subst e0 e1
        have g0 := hcell 0 (by omega)
        have g1 := hcell 1 (by omega)
        rw [Addr.add_add] at g0 g1
        exact ⟨(z0, z1), by simpa using g0, by simpa using g1⟩
    obtain ⟨Y, hY⟩ := choose_lt each
    have hlen : ((List.range len).map Y).length = len := by simp
    refine ⟨some a, cap, (List.range len).map Y, by rw [hlen], by rw [hlen]; exact hl, ⟨some a, cap, rfl, by omega, lcells_len _, fun h0 => ?_⟩⟩
    rw [hlen] at h0
    have h1 := (hY 0 (by omega)).1
    obtain ⟨b, off, spot⟩ := a
    have hspot : spot = none := by simpa [Addr.add] using World.cell?_spot h1
    subst hspot
    refine ⟨b, off, rfl, fun j u hj => ?_⟩
    have hj' : j < len * 2 := by have := (List.getElem?_eq_some_iff.1 hj).1; rw [lcells_len, hlen] at this; exact this
    have hw := fun i hi => fm_at lcell_len ((List.range len).map Y) (j / 2) (Y (j / 2)) i (by simp [show j / 2 < len by omega]) hi
    obtain ⟨q0, q1⟩ := hY (j / 2) (by omega)
    rw [Addr.add_lit] at q0 q1
    rcases (by omega : j = j / 2 * 2 ∨ j = j / 2 * 2 + 1) with e | e
    · have h2 := hw 0 (by omega)
      rw [Nat.add_zero, ← e] at h2
      rw [← e] at q0
      have h3 := h2.symm.trans hj
      rw [q0]
      exact h3
    · have h2 := hw 1 (by omega)
      rw [← e] at h2
      rw [← e] at q1
      have h3 := h2.symm.trans hj
      rw [q1]
      exact h3
end

end Go.Proofs.YteddhdbglciahaaGreat

/- How a word that is an argument is opened; no statement of the seat is proved here. -/
namespace Go.Proofs.YteddhdbglciahaaGreat
open Go.ChangeShapes Go.WideShapes Go.ChangeAt Go.RowKit Go.Deep Go.Joins

theorem at_of {l : List Value} {o : Nat} {u : Value} (e : (l.drop o).take 1 = [u]) : l[o]? = some u := by
  have := congrArg (fun m => m[0]?) e
  simpa using this
theorem of_at {l : List Value} {o : Nat} {u : Value} (h : l[o]? = some u) : (l.drop o).take 1 = [u] := by
  obtain ⟨hl, e⟩ := List.getElem?_eq_some_iff.1 h
  rw [List.drop_eq_getElem_cons hl, e]
  rfl

section
variable {H : Type} {enc : TypeId × Value → H} {P : Program} {w : World} {base : Nat} {spare : Nat → Bool} {held : Bool}

theorem intAt {n o i : Nat} {t : TypeId} {l : List Value} {xs : List (DataW H × List MemPlace)} (ht : P.underlying t = some (.int .i64)) (hc : P.cellsOf t = 1)
    (hq : DataW.trod enc P w base spare held n t ((l.drop o).take (P.cellsOf t)) = xs[i]?) (hi : i < xs.length) : ∃ z : Int, l[o]? = some (.int .i64 z) := by
  rw [hc, List.getElem?_eq_getElem hi] at hq
  obtain ⟨z, e, _, _⟩ := DataW.trod_int ht hq
  exact ⟨z, at_of e⟩
end

end Go.Proofs.YteddhdbglciahaaGreat

/- How a voter that is an argument is opened; no statement of the seat is proved here. -/
namespace Go.Proofs.YteddhdbglciahaaGreat
open Go.ChangeShapes Go.WideShapes Go.ChangeAt Go.RowKit Go.Deep Go.Joins

section
variable {H : Type} {enc : TypeId × Value → H} {w : World} {base : Nat} {spare : Nat → Bool} {held : Bool}

set_option maxRecDepth 100000 in
set_option maxHeartbeats 4000000 in
theorem paper_of {fuel : Nat} {l : List Value} {y : DataW H × List MemPlace} (hf : DataW.trod enc Tryz.prog w base spare held fuel 108 l = some y) (hl : l.length = 12) : ∃ p : Pp, l = ppcell p := by
  have hc10 : Tryz.prog.cellsOf 44 = 10 := by kernel_rfl
  have hc1 : Tryz.prog.cellsOf 3 = 1 := by kernel_rfl
  obtain ⟨xs, n, -, -, -, hxl, hq⟩ := DataW.trod_struct Tryz.underlying108 hf
  have hxl' : xs.length = 3 := hxl
  clear hxl
  obtain ⟨s, hs⟩ := intAt (o := 0) (i := 0) Tryz.underlying3 hc1 (hq 0 _ rfl) (by omega)
  obtain ⟨b, hb⟩ := intAt (o := 1) (i := 1) Tryz.underlying3 hc1 (hq 1 _ rfl) (by omega)
  have q6 : DataW.trod enc Tryz.prog w base spare held n 44 ((l.drop 2).take (Tryz.prog.cellsOf 44)) = xs[2]? := hq 2 _ rfl
  obtain ⟨y6, hy6⟩ : ∃ y, xs[2]? = some y := ⟨xs[2]'(by omega), List.getElem?_eq_getElem _⟩
  rw [hc10, hy6] at q6
  obtain ⟨zs, n2, -, -, -, hzl, hz⟩ := DataW.trod_struct Tryz.underlying44 q6
  have hzl' : zs.length = 10 := hzl
  clear hzl
  have sub : ∀ k u, k < 10 → ((l.drop 2).take 10)[k]? = some u → l[2 + k]? = some u := by
    intro k u hk hu
    rw [List.getElem?_take_of_lt hk, List.getElem?_drop] at hu
    exact hu
  obtain ⟨c0, hc_0⟩ := intAt (o := 0) (i := 0) Tryz.underlying3 hc1 (hz 0 _ rfl) (by omega)
  obtain ⟨c1, hc_1⟩ := intAt (o := 1) (i := 1) Tryz.underlying3 hc1 (hz 1 _ rfl) (by omega)
  obtain ⟨c2, hc_2⟩ := intAt (o := 2) (i := 2) Tryz.underlying3 hc1 (hz 2 _ rfl) (by omega)
  obtain ⟨c3, hc_3⟩ := intAt (o := 3) (i := 3) Tryz.underlying3 hc1 (hz 3 _ rfl) (by omega)
  obtain ⟨c4, hc_4⟩ := intAt (o := 4) (i := 4) Tryz.underlying3 hc1 (hz 4 _ rfl) (by omega)
  obtain ⟨c5, hc_5⟩ := intAt (o := 5) (i := 5) Tryz.underlying3 hc1 (hz 5 _ rfl) (by omega)
  obtain ⟨c6, hc_6⟩ := intAt (o := 6) (i := 6) Tryz.underlying3 hc1 (hz 6 _ rfl) (by omega)
  obtain ⟨c7, hc_7⟩ := intAt (o := 7) (i := 7) Tryz.underlying3 hc1 (hz 7 _ rfl) (by omega)
  obtain ⟨c8, hc_8⟩ := intAt (o := 8) (i := 8) Tryz.underlying3 hc1 (hz 8 _ rfl) (by omega)
  obtain ⟨c9, hc_9⟩ := intAt (o := 9) (i := 9) Tryz.underlying3 hc1 (hz 9 _ rfl) (by omega)
  refine ⟨(s, b, ⟨0, 0, 0, 0, 0, 0, c0, c1, c2, c3, c4, c5, c6, c7, c8, c9, 0, 0, 0, 0, 0, 0, 0, 0, [], []⟩), ?_⟩
  apply List.ext_getElem?
  intro j
  by_cases hj : j < 12
  · rcases (by omega : j = 0 ∨ j = 1 ∨ j = 2 ∨ j = 3 ∨ j = 4 ∨ j = 5 ∨ j = 6 ∨ j = 7 ∨ j = 8 ∨ j = 9 ∨ j = 10 ∨ j = 11) with rfl | rfl | rfl | rfl | rfl | rfl | rfl | rfl | rfl | rfl | rfl | rfl
    · exact hs
    · exact hb
    · exact sub 0 _ (by omega) hc_0
    · exact sub 1 _ (by omega) hc_1
    · exact sub 2 _ (by omega) hc_2
    · exact sub 3 _ (by omega) hc_3
    · exact sub 4 _ (by omega) hc_4
    · exact sub 5 _ (by omega) hc_5
    · exact sub 6 _ (by omega) hc_6
    · exact sub 7 _ (by omega) hc_7
    · exact sub 8 _ (by omega) hc_8
    · exact sub 9 _ (by omega) hc_9
  · rw [List.getElem?_eq_none (by omega), List.getElem?_eq_none (by rw [ppcell_len]; omega)]

set_option maxRecDepth 100000 in
theorem rowR_of_papers {fuel : Nat} {v : Value} {x : DataW H × List MemPlace} (h : DataW.trod enc Tryz.prog w base spare held fuel 26 [v] = some x) : ∃ (so : Option Addr) (sc : Nat) (xs : List Pp), v = .slice so xs.length sc ∧ xs.length ≤ sc ∧ RowR w 12 (.slice so xs.length sc) xs.length (ppcells xs) := by
  have ce : Tryz.prog.cellsOf 108 = 12 := by kernel_rfl
  rcases open_slice Tryz.underlying26 h with ⟨hcs, _⟩ | ⟨a, len, cap, m, n, D, Pl, hcs, _, hl, hm, hmm, _, hx⟩
  · obtain rfl : v = .slice none 0 0 := by simpa using hcs
    exact ⟨none, 0, [], rfl, Nat.le_refl _, RowR.nil _ _⟩
  · obtain rfl : v = .slice (some a) len cap := by simpa using hcs
    have hlm : len ≤ m := by rw [hmm]; split <;> omega
    unfold maxLen at hm
    have each : ∀ i, i < m → ∃ p : Pp, ∀ r u, (ppcell p)[r]? = some u → w.cell? (a.add (i * 12 + r)) = some u := fun i hi => by
      obtain ⟨cs', h1, h2⟩ := hx i hi
      rw [ce] at h1
      obtain ⟨_, hlen, hcell⟩ := World.cells?_some h1
      obtain ⟨p, rfl⟩ := paper_of h2 hlen
      refine ⟨p, fun r u hr => ?_⟩
      have hr' : r < 12 := by have := (List.getElem?_eq_some_iff.1 hr).1; rwa [ppcell_len] at this
      have g := hcell r (by omega)
      rw [Addr.add_add] at g
      rw [g]
      first | exact hr | simpa [List.getD, hr] using hr
    have : Inhabited Pp := ⟨(0, 0, zeroW)⟩
    obtain ⟨Y, hY⟩ := choose_lt each
    have hlen : ((List.range len).map Y).length = len := by simp
    refine ⟨some a, cap, (List.range len).map Y, by rw [hlen], by rw [hlen]; exact hl, ⟨some a, cap, rfl, by omega, ppcells_len _, fun h0 => ?_⟩⟩
    rw [hlen] at h0
    have h1 := hY 0 (by omega) 0 _ rfl
    obtain ⟨b, off, spot⟩ := a
    have hspot : spot = none := by simpa [Addr.add] using World.cell?_spot h1
    subst hspot
    refine ⟨b, off, rfl, fun j u hj => ?_⟩
    have hj' : j < len * 12 := by have := (List.getElem?_eq_some_iff.1 hj).1; rw [ppcells_len, hlen] at this; exact this
    have hw := fm_at ppcell_len ((List.range len).map Y) (j / 12) (Y (j / 12)) (j % 12) (by simp [show j / 12 < len by omega]) (by omega)
    have e : j / 12 * 12 + j % 12 = j := by omega
    rw [e] at hw
    have q := hY (j / 12) (by omega) (j % 12) u (by rw [← hw]; exact hj)
    rw [e, Addr.add_lit] at q
    exact q
end

end Go.Proofs.YteddhdbglciahaaGreat

/- How an argument that is a slice of numbers is opened; no statement of the seat is proved here. -/
namespace Go.Proofs.YteddhdbglciahaaGreat
open Go.ChangeShapes Go.WideShapes Go.ChangeAt Go.RowKit Go.Deep Go.Joins

section
variable {H : Type} {enc : TypeId × Value → H} {P : Program} {w : World} {base : Nat} {spare : Nat → Bool} {held : Bool}

theorem rowR_of_ints {t e : TypeId} {fuel : Nat} {v : Value} {x : DataW H × List MemPlace} (ht : P.underlying t = some (.slice e)) (he : P.underlying e = some (.int .i64)) (hc : P.cellsOf e = 1)
    (h : DataW.trod enc P w base spare held fuel t [v] = some x) : ∃ (ko : Option Addr) (kc : Nat) (ks : List Int), v = .slice ko ks.length kc ∧ RowR w 1 (.slice ko ks.length kc) ks.length (ks.map (Value.int .i64)) := by
  rcases open_ints ht he hc h with ⟨hcs, _⟩ | ⟨a, len, cap, zs, hcs, _, hl, hm, hmm, _, hx, _⟩
  · obtain rfl : v = .slice none 0 0 := by simpa using hcs
    exact ⟨none, 0, [], rfl, RowR.nil _ _⟩
  · obtain rfl : v = .slice (some a) len cap := by simpa using hcs
    have hlm : len ≤ zs.length := by rw [hmm]; split <;> omega
    unfold maxLen at hm
    have hlen : (zs.take len).length = len := by simp; omega
    refine ⟨some a, cap, zs.take len, by rw [hlen], some a, cap, rfl, by omega, by simp, fun h0 => ?_⟩
    have h1 := hx 0 (by omega)
    obtain ⟨b, off, spot⟩ := a
    have hspot : spot = none := by simpa [Addr.add] using World.cell?_spot h1
    subst hspot
    refine ⟨b, off, rfl, fun j u hj => ?_⟩
    have hj' : j < len := by have := (List.getElem?_eq_some_iff.1 hj).1; simp at this; omega
    have h2 := hx j (by omega)
    rw [Addr.add_lit] at h2
    rw [h2]
    rw [List.getElem?_map, List.getElem?_take_of_lt hj'] at hj
    simpa [List.getD, show j < zs.length by omega] using hj
end

end Go.Proofs.YteddhdbglciahaaGreat

/- How a seeker, and a command, that is an argument is opened; no statement of the seat is proved here. -/
namespace Go.Proofs.YteddhdbglciahaaGreat
open Go.ChangeShapes Go.WideShapes Go.ChangeAt Go.RowKit Go.Deep Go.Joins

section
variable {H : Type} {enc : TypeId × Value → H} {w : World} {base : Nat} {spare : Nat → Bool} {held : Bool}

set_option maxRecDepth 100000 in
set_option maxHeartbeats 4000000 in
theorem cmdL_of {fuel : Nat} {l : List Value} {y : DataW H × List MemPlace} (hf : DataW.trod enc Tryz.prog w base spare held fuel 44 l = some y) (hl : l.length = 10) : ∃ x : Wd, l = (#[.int .i64 x.c0, .int .i64 x.c1, .int .i64 x.c2, .int .i64 x.c3, .int .i64 x.c4, .int .i64 x.c5, .int .i64 x.c6, .int .i64 x.c7, .int .i64 x.c8, .int .i64 x.c9] : Array Value).toList := by
  have hc1 : Tryz.prog.cellsOf 3 = 1 := by kernel_rfl
  obtain ⟨zs, n2, -, -, -, hzl, hz⟩ := DataW.trod_struct Tryz.underlying44 hf
  have hzl' : zs.length = 10 := hzl
  clear hzl
  obtain ⟨c0, hc_0⟩ := intAt (o := 0) (i := 0) Tryz.underlying3 hc1 (hz 0 _ rfl) (by omega)
  obtain ⟨c1, hc_1⟩ := intAt (o := 1) (i := 1) Tryz.underlying3 hc1 (hz 1 _ rfl) (by omega)
  obtain ⟨c2, hc_2⟩ := intAt (o := 2) (i := 2) Tryz.underlying3 hc1 (hz 2 _ rfl) (by omega)
  obtain ⟨c3, hc_3⟩ := intAt (o := 3) (i := 3) Tryz.underlying3 hc1 (hz 3 _ rfl) (by omega)
  obtain ⟨c4, hc_4⟩ := intAt (o := 4) (i := 4) Tryz.underlying3 hc1 (hz 4 _ rfl) (by omega)
  obtain ⟨c5, hc_5⟩ := intAt (o := 5) (i := 5) Tryz.underlying3 hc1 (hz 5 _ rfl) (by omega)
  obtain ⟨c6, hc_6⟩ := intAt (o := 6) (i := 6) Tryz.underlying3 hc1 (hz 6 _ rfl) (by omega)
  obtain ⟨c7, hc_7⟩ := intAt (o := 7) (i := 7) Tryz.underlying3 hc1 (hz 7 _ rfl) (by omega)
  obtain ⟨c8, hc_8⟩ := intAt (o := 8) (i := 8) Tryz.underlying3 hc1 (hz 8 _ rfl) (by omega)
  obtain ⟨c9, hc_9⟩ := intAt (o := 9) (i := 9) Tryz.underlying3 hc1 (hz 9 _ rfl) (by omega)
  refine ⟨⟨0, 0, 0, 0, 0, 0, c0, c1, c2, c3, c4, c5, c6, c7, c8, c9, 0, 0, 0, 0, 0, 0, 0, 0, [], []⟩, ?_⟩
  apply List.ext_getElem?
  intro j
  by_cases hj : j < 10
  · rcases (by omega : j = 0 ∨ j = 1 ∨ j = 2 ∨ j = 3 ∨ j = 4 ∨ j = 5 ∨ j = 6 ∨ j = 7 ∨ j = 8 ∨ j = 9) with rfl | rfl | rfl | rfl | rfl | rfl | rfl | rfl | rfl | rfl
    · exact hc_0
    · exact hc_1
    · exact hc_2
    · exact hc_3
    · exact hc_4
    · exact hc_5
    · exact hc_6
    · exact hc_7
    · exact hc_8
    · exact hc_9
  · rw [List.getElem?_eq_none (by omega), List.getElem?_eq_none (by show 10 ≤ j; omega)]
end

end Go.Proofs.YteddhdbglciahaaGreat

/- How a council that is an argument is opened; no statement of the seat is proved here. (Written by wip/tools/mkargn.py.) -/
namespace Go.Proofs.YteddhdbglciahaaGreat
open Go.ChangeShapes Go.WideShapes Go.ChangeAt Go.RowKit Go.Deep Go.Joins

section
variable {H : Type} {enc : TypeId × Value → H} {w : World} {base : Nat} {spare : Nat → Bool} {held : Bool}

set_option maxRecDepth 100000 in
set_option maxHeartbeats 4000000 in
theorem wdL_of {fuel : Nat} {l : List Value} {y : DataW H × List MemPlace} (hf0 : DataW.trod enc Tryz.prog w base spare held fuel 115 l = some y) (hl : l.length = 26) : ∃ x, WdR w (.agg l.toArray) x := by
  obtain ⟨cs, rfl⟩ : ∃ cs : Array Value, l = cs.toList := ⟨l.toArray, rfl⟩
  have hsz : cs.size = Tryz.prog.cellsOf 115 := by rw [show Tryz.prog.cellsOf 115 = 26 by kernel_rfl]; simpa using hl
  have hf := hf0
  show ∃ x, WdR w (.agg cs) x
  have hc26 : Tryz.prog.cellsOf 115 = 26 := by kernel_rfl
  have hc10 : Tryz.prog.cellsOf 44 = 10 := by kernel_rfl
  have hc1 : Tryz.prog.cellsOf 3 = 1 := by kernel_rfl
  have hcp : Tryz.prog.cellsOf 112 = 1 := by kernel_rfl
  have hcl : Tryz.prog.cellsOf 113 = 1 := by kernel_rfl
  rw [hc26] at hsz
  obtain ⟨xs, n, -, -, -, hxl, hq⟩ := DataW.trod_struct Tryz.underlying115 hf
  have hxl' : xs.length = 17 := hxl
  clear hxl
  obtain ⟨a0, ha0⟩ := intAt (o := 0) (i := 0) Tryz.underlying3 hc1 (hq 0 _ rfl) (by omega)
  obtain ⟨a1, ha1⟩ := intAt (o := 1) (i := 1) Tryz.underlying3 hc1 (hq 1 _ rfl) (by omega)
  obtain ⟨a2, ha2⟩ := intAt (o := 2) (i := 2) Tryz.underlying3 hc1 (hq 2 _ rfl) (by omega)
  obtain ⟨a3, ha3⟩ := intAt (o := 3) (i := 3) Tryz.underlying3 hc1 (hq 3 _ rfl) (by omega)
  obtain ⟨a4, ha4⟩ := intAt (o := 4) (i := 4) Tryz.underlying3 hc1 (hq 4 _ rfl) (by omega)
  obtain ⟨a5, ha5⟩ := intAt (o := 5) (i := 5) Tryz.underlying3 hc1 (hq 5 _ rfl) (by omega)
  obtain ⟨b0, hb0⟩ := intAt (o := 16) (i := 7) Tryz.underlying3 hc1 (hq 7 _ rfl) (by omega)
  obtain ⟨b1, hb1⟩ := intAt (o := 17) (i := 8) Tryz.underlying3 hc1 (hq 8 _ rfl) (by omega)
  obtain ⟨b2, hb2⟩ := intAt (o := 18) (i := 9) Tryz.underlying3 hc1 (hq 9 _ rfl) (by omega)
  obtain ⟨b3, hb3⟩ := intAt (o := 19) (i := 10) Tryz.underlying3 hc1 (hq 10 _ rfl) (by omega)
  obtain ⟨b4, hb4⟩ := intAt (o := 20) (i := 11) Tryz.underlying3 hc1 (hq 11 _ rfl) (by omega)
  obtain ⟨b5, hb5⟩ := intAt (o := 21) (i := 12) Tryz.underlying3 hc1 (hq 12 _ rfl) (by omega)
  obtain ⟨b6, hb6⟩ := intAt (o := 22) (i := 13) Tryz.underlying3 hc1 (hq 13 _ rfl) (by omega)
  obtain ⟨b7, hb7⟩ := intAt (o := 23) (i := 14) Tryz.underlying3 hc1 (hq 14 _ rfl) (by omega)
  have q6 : DataW.trod enc Tryz.prog w base spare held n 44 ((cs.toList.drop 6).take (Tryz.prog.cellsOf 44)) = xs[6]? := hq 6 _ rfl
  obtain ⟨y6, hy6⟩ : ∃ y, xs[6]? = some y := ⟨xs[6]'(by omega), List.getElem?_eq_getElem _⟩
  rw [hc10, hy6] at q6
  obtain ⟨zs, n2, -, -, -, hzl, hz⟩ := DataW.trod_struct Tryz.underlying44 q6
  have hzl' : zs.length = 10 := hzl
  clear hzl
  have sub : ∀ k u, k < 10 → ((cs.toList.drop 6).take 10)[k]? = some u → cs.toList[6 + k]? = some u := by
    intro k u hk hu
    rw [List.getElem?_take_of_lt hk, List.getElem?_drop] at hu
    exact hu
  obtain ⟨c0, hc_0⟩ := intAt (o := 0) (i := 0) Tryz.underlying3 hc1 (hz 0 _ rfl) (by omega)
  obtain ⟨c1, hc_1⟩ := intAt (o := 1) (i := 1) Tryz.underlying3 hc1 (hz 1 _ rfl) (by omega)
  obtain ⟨c2, hc_2⟩ := intAt (o := 2) (i := 2) Tryz.underlying3 hc1 (hz 2 _ rfl) (by omega)
  obtain ⟨c3, hc_3⟩ := intAt (o := 3) (i := 3) Tryz.underlying3 hc1 (hz 3 _ rfl) (by omega)
  obtain ⟨c4, hc_4⟩ := intAt (o := 4) (i := 4) Tryz.underlying3 hc1 (hz 4 _ rfl) (by omega)
  obtain ⟨c5, hc_5⟩ := intAt (o := 5) (i := 5) Tryz.underlying3 hc1 (hz 5 _ rfl) (by omega)
  obtain ⟨c6, hc_6⟩ := intAt (o := 6) (i := 6) Tryz.underlying3 hc1 (hz 6 _ rfl) (by omega)
  obtain ⟨c7, hc_7⟩ := intAt (o := 7) (i := 7) Tryz.underlying3 hc1 (hz 7 _ rfl) (by omega)
  obtain ⟨c8, hc_8⟩ := intAt (o := 8) (i := 8) Tryz.underlying3 hc1 (hz 8 _ rfl) (by omega)
  obtain ⟨c9, hc_9⟩ := intAt (o := 9) (i := 9) Tryz.underlying3 hc1 (hz 9 _ rfl) (by omega)
  obtain ⟨vp, hvp⟩ : ∃ u, cs.toList[24]? = some u := ⟨cs.toList[24]'(by simp; omega), List.getElem?_eq_getElem _⟩
  obtain ⟨vl, hvl⟩ : ∃ u, cs.toList[25]? = some u := ⟨cs.toList[25]'(by simp; omega), List.getElem?_eq_getElem _⟩
  have qp := hq 15 _ rfl
  obtain ⟨yp, hyp⟩ : ∃ y, xs[15]? = some y := ⟨xs[15]'(by omega), List.getElem?_eq_getElem _⟩
  have ql := hq 16 _ rfl
  obtain ⟨yl, hyl⟩ : ∃ y, xs[16]? = some y := ⟨xs[16]'(by omega), List.getElem?_eq_getElem _⟩
  have qp' : DataW.trod enc Tryz.prog w base spare held n 112 ((cs.toList.drop 24).take (Tryz.prog.cellsOf 112)) = xs[15]? := qp
  have ql' : DataW.trod enc Tryz.prog w base spare held n 113 ((cs.toList.drop 25).take (Tryz.prog.cellsOf 113)) = xs[16]? := ql
  rw [hcp, of_at hvp, hyp] at qp'
  rw [hcl, of_at hvl, hyl] at ql'
  obtain ⟨po, pc, ps, rfl, -, hps⟩ := rowR_of_pieces Tryz.underlying112 Tryz.underlying185 (by kernel_rfl) rfl rfl rfl rfl (by kernel_rfl) (by kernel_rfl) (by kernel_rfl) (by kernel_rfl) Tryz.underlying3 Tryz.underlying3 Tryz.underlying3 Tryz.underlying3 qp'
  obtain ⟨lo, lc, ls, rfl, -, hls⟩ := rowR_of_lasts Tryz.underlying113 Tryz.underlying187 (by kernel_rfl) rfl rfl (by kernel_rfl) (by kernel_rfl) Tryz.underlying3 Tryz.underlying3 ql'
  refine ⟨⟨a0, a1, a2, a3, a4, a5, c0, c1, c2, c3, c4, c5, c6, c7, c8, c9, b0, b1, b2, b3, b4, b5, b6, b7, ps, ls⟩, po, pc, lo, lc, ?_, hps, hls⟩
  congr 1
  apply Array.ext_getElem?
  intro j
  rw [← Array.getElem?_toList]
  by_cases hj : j < 26
  · rcases (by omega : j = 0 ∨ j = 1 ∨ j = 2 ∨ j = 3 ∨ j = 4 ∨ j = 5 ∨ j = 6 ∨ j = 7 ∨ j = 8 ∨ j = 9 ∨ j = 10 ∨ j = 11 ∨ j = 12 ∨ j = 13 ∨ j = 14 ∨ j = 15 ∨ j = 16 ∨ j = 17 ∨ j = 18 ∨ j = 19 ∨ j = 20 ∨ j = 21 ∨ j = 22 ∨ j = 23 ∨ j = 24 ∨ j = 25) with rfl | rfl | rfl | rfl | rfl | rfl | rfl | rfl | rfl | rfl | rfl | rfl | rfl | rfl | rfl | rfl | rfl | rfl | rfl | rfl | rfl | rfl | rfl | rfl | rfl | rfl
    · exact ha0
    · exact ha1
    · exact ha2
    · exact ha3
    · exact ha4
    · exact ha5
    · exact sub 0 _ (by omega) hc_0
    · exact sub 1 _ (by omega) hc_1
    · exact sub 2 _ (by omega) hc_2
    · exact sub 3 _ (by omega) hc_3
    · exact sub 4 _ (by omega) hc_4
    · exact sub 5 _ (by omega) hc_5
    · exact sub 6 _ (by omega) hc_6
    · exact sub 7 _ (by omega) hc_7
    · exact sub 8 _ (by omega) hc_8
    · exact sub 9 _ (by omega) hc_9
    · exact hb0
    · exact hb1
    · exact hb2
    · exact hb3
    · exact hb4
    · exact hb5
    · exact hb6
    · exact hb7
    · exact hvp
    · exact hvl
  · rw [List.getElem?_eq_none (by simp; omega), Array.getElem?_eq_none (by show 26 ≤ j; omega)]

set_option maxRecDepth 100000 in
set_option maxHeartbeats 4000000 in
theorem vtL_of {fuel : Nat} {l : List Value} {y : DataW H × List MemPlace} (hf0 : DataW.trod enc Tryz.prog w base spare held fuel 105 l = some y) (hl : l.length = 2) : ∃ P xs, VtR w (.agg l.toArray) P xs := by
  obtain ⟨cs, rfl⟩ : ∃ cs : Array Value, l = cs.toList := ⟨l.toArray, rfl⟩
  have hsz : cs.size = Tryz.prog.cellsOf 105 := by rw [show Tryz.prog.cellsOf 105 = 2 by kernel_rfl]; simpa using hl
  have hf := hf0
  show ∃ P xs, VtR w (.agg cs) P xs
  have hc2 : Tryz.prog.cellsOf 105 = 2 := by kernel_rfl
  have hc1 : Tryz.prog.cellsOf 3 = 1 := by kernel_rfl
  have hcp : Tryz.prog.cellsOf 26 = 1 := by kernel_rfl
  rw [hc2] at hsz
  obtain ⟨xs, n, -, -, -, hxl, hq⟩ := DataW.trod_struct Tryz.underlying105 hf
  have hxl' : xs.length = 2 := hxl
  clear hxl
  obtain ⟨P, hP⟩ := intAt (o := 0) (i := 0) Tryz.underlying3 hc1 (hq 0 _ rfl) (by omega)
  obtain ⟨vp, hvp⟩ : ∃ u, cs.toList[1]? = some u := ⟨cs.toList[1]'(by simp; omega), List.getElem?_eq_getElem _⟩
  have qp : DataW.trod enc Tryz.prog w base spare held n 26 ((cs.toList.drop 1).take (Tryz.prog.cellsOf 26)) = xs[1]? := hq 1 _ rfl
  obtain ⟨yp, hyp⟩ : ∃ y, xs[1]? = some y := ⟨xs[1]'(by omega), List.getElem?_eq_getElem _⟩
  rw [hcp, of_at hvp, hyp] at qp
  obtain ⟨po, pc, ps, rfl, -, hps⟩ := rowR_of_papers qp
  refine ⟨P, ps, po, pc, ?_, hps⟩
  congr 1
  apply Array.ext_getElem?
  intro j
  rw [← Array.getElem?_toList]
  by_cases hj : j < 2
  · rcases (by omega : j = 0 ∨ j = 1) with rfl | rfl
    · exact hP
    · exact hvp
  · rw [List.getElem?_eq_none (by simp; omega), Array.getElem?_eq_none (by show 2 ≤ j; omega)]

set_option maxRecDepth 100000 in
set_option maxHeartbeats 4000000 in
theorem skL_of {fuel : Nat} {l : List Value} {y : DataW H × List MemPlace} (hf0 : DataW.trod enc Tryz.prog w base spare held fuel 110 l = some y) (hl : l.length = 26) : ∃ k, SkR w (.agg l.toArray) k := by
  obtain ⟨cs, rfl⟩ : ∃ cs : Array Value, l = cs.toList := ⟨l.toArray, rfl⟩
  have hsz : cs.size = Tryz.prog.cellsOf 110 := by rw [show Tryz.prog.cellsOf 110 = 26 by kernel_rfl]; simpa using hl
  have hf := hf0
  show ∃ k, SkR w (.agg cs) k
  have hc26 : Tryz.prog.cellsOf 110 = 26 := by kernel_rfl
  have hc1 : Tryz.prog.cellsOf 3 = 1 := by kernel_rfl
  have hcm : Tryz.prog.cellsOf 44 = 10 := by kernel_rfl
  have hcp : Tryz.prog.cellsOf 108 = 12 := by kernel_rfl
  have hcy : Tryz.prog.cellsOf 23 = 1 := by kernel_rfl
  rw [hc26] at hsz
  obtain ⟨xs, n, -, -, -, hxl, hq⟩ := DataW.trod_struct Tryz.underlying110 hf
  have hxl' : xs.length = 6 := hxl
  clear hxl
  obtain ⟨s, hs⟩ := intAt (o := 0) (i := 0) Tryz.underlying3 hc1 (hq 0 _ rfl) (by omega)
  obtain ⟨b, hb⟩ := intAt (o := 1) (i := 1) Tryz.underlying3 hc1 (hq 1 _ rfl) (by omega)
  obtain ⟨ph, hph⟩ := intAt (o := 2) (i := 2) Tryz.underlying3 hc1 (hq 2 _ rfl) (by omega)
  have q3 : DataW.trod enc Tryz.prog w base spare held n 44 ((cs.toList.drop 3).take (Tryz.prog.cellsOf 44)) = xs[3]? := hq 3 _ rfl
  obtain ⟨y3, hy3⟩ : ∃ y, xs[3]? = some y := ⟨xs[3]'(by omega), List.getElem?_eq_getElem _⟩
  rw [hcm, hy3] at q3
  obtain ⟨m, hm⟩ := cmdL_of q3 (by simp; omega)
  have q4 : DataW.trod enc Tryz.prog w base spare held n 108 ((cs.toList.drop 13).take (Tryz.prog.cellsOf 108)) = xs[4]? := hq 4 _ rfl
  obtain ⟨y4, hy4⟩ : ∃ y, xs[4]? = some y := ⟨xs[4]'(by omega), List.getElem?_eq_getElem _⟩
  rw [hcp, hy4] at q4
  obtain ⟨pp, hpp⟩ := paper_of q4 (by simp; omega)
  obtain ⟨vy, hvy⟩ : ∃ u, cs.toList[25]? = some u := ⟨cs.toList[25]'(by simp; omega), List.getElem?_eq_getElem _⟩
  have q5 : DataW.trod enc Tryz.prog w base spare held n 23 ((cs.toList.drop 25).take (Tryz.prog.cellsOf 23)) = xs[5]? := hq 5 _ rfl
  obtain ⟨y5, hy5⟩ : ∃ y, xs[5]? = some y := ⟨xs[5]'(by omega), List.getElem?_eq_getElem _⟩
  rw [hcy, of_at hvy, hy5] at q5
  obtain ⟨yo, yc, ys, rfl, hys⟩ := rowR_of_ints Tryz.underlying23 Tryz.underlying3 hc1 q5
  refine ⟨⟨s, b, ph, m, pp, ys⟩, yo, yc, ?_, hys⟩
  have sub : ∀ (o k N : Nat) (u : Value), k < N → ((cs.toList.drop o).take N)[k]? = some u → cs.toList[o + k]? = some u := by
    intro o k N u hk hu
    rw [List.getElem?_take_of_lt hk, List.getElem?_drop] at hu
    exact hu
  congr 1
  apply Array.ext_getElem?
  intro j
  rw [← Array.getElem?_toList]
  by_cases hj : j < 26
  · by_cases h0 : j < 3
    · rcases (by omega : j = 0 ∨ j = 1 ∨ j = 2) with rfl | rfl | rfl
      · exact hs
      · exact hb
      · exact hph
    by_cases h1 : j < 13
    · obtain ⟨i, rfl⟩ : ∃ i, j = 3 + i := ⟨j - 3, by omega⟩
      obtain ⟨u, hu⟩ : ∃ u, ((#[.int .i64 m.c0, .int .i64 m.c1, .int .i64 m.c2, .int .i64 m.c3, .int .i64 m.c4, .int .i64 m.c5, .int .i64 m.c6, .int .i64 m.c7, .int .i64 m.c8, .int .i64 m.c9] : Array Value).toList)[i]? = some u := ⟨_, List.getElem?_eq_getElem (by show i < 10; omega)⟩
      rw [sub 3 i 10 u (by omega) (by rw [hm]; exact hu)]
      rcases (by omega : i = 0 ∨ i = 1 ∨ i = 2 ∨ i = 3 ∨ i = 4 ∨ i = 5 ∨ i = 6 ∨ i = 7 ∨ i = 8 ∨ i = 9) with rfl | rfl | rfl | rfl | rfl | rfl | rfl | rfl | rfl | rfl <;> exact hu.symm
    by_cases h2 : j < 25
    · obtain ⟨i, rfl⟩ : ∃ i, j = 13 + i := ⟨j - 13, by omega⟩
      obtain ⟨u, hu⟩ : ∃ u, (ppcell pp)[i]? = some u := ⟨_, List.getElem?_eq_getElem (by rw [ppcell_len]; omega)⟩
      rw [sub 13 i 12 u (by omega) (by rw [hpp]; exact hu)]
      rcases (by omega : i = 0 ∨ i = 1 ∨ i = 2 ∨ i = 3 ∨ i = 4 ∨ i = 5 ∨ i = 6 ∨ i = 7 ∨ i = 8 ∨ i = 9 ∨ i = 10 ∨ i = 11) with rfl | rfl | rfl | rfl | rfl | rfl | rfl | rfl | rfl | rfl | rfl | rfl <;> exact hu.symm
    · obtain rfl : j = 25 := by omega
      exact hvy
  · rw [List.getElem?_eq_none (by simp; omega), Array.getElem?_eq_none (by show 26 ≤ j; omega)]

theorem rowE_of {α : Type} [Inhabited α] {E : World → Value → α → Prop} {t e : TypeId} {size fuel : Nat} {v : Value} {x : DataW H × List MemPlace} (ht : Tryz.prog.underlying t = some (.slice e)) (ce : Tryz.prog.cellsOf e = size) (hs : 0 < size)
    (one : ∀ (n : Nat) (l : List Value) (y : DataW H × List MemPlace), DataW.trod enc Tryz.prog w base spare held n e l = some y → l.length = size → ∃ x, E w (.agg l.toArray) x)
    (hagg : ∀ v x, E w v x → ∃ cs : Array Value, v = .agg cs ∧ cs.size = size ∧ cs.all (·.oneCell') = true)
    (h : DataW.trod enc Tryz.prog w base spare held fuel t [v] = some x) : ∃ xs : List α, RowE w size E v xs := by
  rcases open_slice ht h with ⟨hcs, _⟩ | ⟨a, len, cap, m, n, D, Pl, hcs, _, hl, hm, hmm, _, hx⟩
  · obtain rfl : v = .slice none 0 0 := by simpa using hcs
    exact ⟨[], none, 0, rfl, by simp, fun h => by simp at h⟩
  · obtain rfl : v = .slice (some a) len cap := by simpa using hcs
    have hlm : len ≤ m := by rw [hmm]; split <;> omega
    unfold maxLen at hm
    have each : ∀ i, i < m → ∃ x : α, ∃ cs : Array Value, cs.size = size ∧ cs.all (·.oneCell') = true ∧ (∀ r u, cs[r]? = some u → w.cell? (a.add (i * size + r)) = some u) ∧ E w (.agg cs) x := fun i hi => by
      obtain ⟨cs', h1, h2⟩ := hx i hi
      rw [ce] at h1
      obtain ⟨_, hlen, hcell⟩ := World.cells?_some h1
      obtain ⟨y, hy⟩ := one _ _ _ h2 hlen
      obtain ⟨ds, e1, e2, e3⟩ := hagg _ _ hy
      injection e1 with e1
      refine ⟨y, cs'.toArray, by simpa using hlen, by rw [e1]; exact e3, fun r u hr => ?_, hy⟩
      have hr2 : cs'[r]? = some u := by simpa using hr
      have hr' : r < size := by have := (List.getElem?_eq_some_iff.1 hr2).1; omega
      have g := hcell r (by omega)
      rw [Addr.add_add] at g
      rw [g]
      first | exact hr2 | simpa [List.getD, hr2] using hr2
    obtain ⟨Y, hY⟩ := choose_lt each
    have hlen : ((List.range len).map Y).length = len := by simp
    refine ⟨(List.range len).map Y, some a, cap, by rw [hlen], by rw [hlen]; omega, fun h0 => ?_⟩
    rw [hlen] at h0
    obtain ⟨cs0, s0, -, q0, -⟩ := hY 0 (by omega)
    obtain ⟨u0, hu0⟩ : ∃ u, cs0[0]? = some u := ⟨cs0[0]'(by omega), by simp [show 0 < cs0.size by omega]⟩
    have h1 := q0 0 u0 hu0
    obtain ⟨b, off, spot⟩ := a
    have hspot : spot = none := by simpa [Addr.add] using World.cell?_spot h1
    subst hspot
    refine ⟨b, off, rfl, fun j x hj => ?_⟩
    have hj' : j < len := by have := (List.getElem?_eq_some_iff.1 hj).1; rw [hlen] at this; exact this
    have e : Y j = x := by
      rw [List.getElem?_map, List.getElem?_range hj'] at hj
      simpa using hj
    subst e
    obtain ⟨cs, s1, s2, q, s3⟩ := hY j (by omega)
    refine ⟨cs, s1, s2, fun i u hi => ?_, s3⟩
    have g := q i u hi
    rw [Addr.add_lit] at g
    rw [Nat.add_assoc]
    exact g
end

instance : Inhabited Wd := ⟨zeroW⟩
instance : Inhabited Sk := ⟨zeroK⟩
instance : Inhabited (Int × List Pp) := ⟨(0, [])⟩

set_option maxRecDepth 100000 in
set_option maxHeartbeats 4000000 in
theorem cnR_of {H : Type} {enc : TypeId × Value → H} {w : World} {base : Nat} {spare : Nat → Bool} {held : Bool} {r : Reach} {b0 : Nat} {v : Value} {d : DataW H} {p : List MemPlace}
    (hv : Value.okWide Tryz.prog w r b0 28 v) (h : DataW.Trod enc Tryz.prog w base spare held 28 v d p) : ∃ c, CnR w v c := by
  obtain ⟨cs, rfl, hsz⟩ := okWide_struct Tryz.underlying28 hv
  obtain ⟨fuel, hf⟩ := h
  have hc5 : Tryz.prog.cellsOf 28 = 5 := by kernel_rfl
  rw [hc5] at hsz
  obtain ⟨xs, n, -, -, -, hxl, hq⟩ := DataW.trod_struct Tryz.underlying28 hf
  have hxl' : xs.length = 5 := hxl
  clear hxl
  obtain ⟨v0, hv0⟩ : ∃ u, cs.toList[0]? = some u := ⟨cs.toList[0]'(by simp; omega), List.getElem?_eq_getElem _⟩
  have q0 : DataW.trod enc Tryz.prog w base spare held n 22 ((cs.toList.drop 0).take (Tryz.prog.cellsOf 22)) = xs[0]? := hq 0 _ rfl
  obtain ⟨y0, hy0⟩ : ∃ y, xs[0]? = some y := ⟨xs[0]'(by omega), List.getElem?_eq_getElem _⟩
  rw [show Tryz.prog.cellsOf 22 = 1 by kernel_rfl, of_at hv0, hy0] at q0
  obtain ⟨v1, hv1⟩ : ∃ u, cs.toList[1]? = some u := ⟨cs.toList[1]'(by simp; omega), List.getElem?_eq_getElem _⟩
  have q1 : DataW.trod enc Tryz.prog w base spare held n 23 ((cs.toList.drop 1).take (Tryz.prog.cellsOf 23)) = xs[1]? := hq 1 _ rfl
  obtain ⟨y1, hy1⟩ : ∃ y, xs[1]? = some y := ⟨xs[1]'(by omega), List.getElem?_eq_getElem _⟩
  rw [show Tryz.prog.cellsOf 23 = 1 by kernel_rfl, of_at hv1, hy1] at q1
  obtain ⟨v2, hv2⟩ : ∃ u, cs.toList[2]? = some u := ⟨cs.toList[2]'(by simp; omega), List.getElem?_eq_getElem _⟩
  have q2 : DataW.trod enc Tryz.prog w base spare held n 24 ((cs.toList.drop 2).take (Tryz.prog.cellsOf 24)) = xs[2]? := hq 2 _ rfl
  obtain ⟨y2, hy2⟩ : ∃ y, xs[2]? = some y := ⟨xs[2]'(by omega), List.getElem?_eq_getElem _⟩
  rw [show Tryz.prog.cellsOf 24 = 1 by kernel_rfl, of_at hv2, hy2] at q2
  obtain ⟨v3, hv3⟩ : ∃ u, cs.toList[3]? = some u := ⟨cs.toList[3]'(by simp; omega), List.getElem?_eq_getElem _⟩
  have q3 : DataW.trod enc Tryz.prog w base spare held n 25 ((cs.toList.drop 3).take (Tryz.prog.cellsOf 25)) = xs[3]? := hq 3 _ rfl
  obtain ⟨y3, hy3⟩ : ∃ y, xs[3]? = some y := ⟨xs[3]'(by omega), List.getElem?_eq_getElem _⟩
  rw [show Tryz.prog.cellsOf 25 = 1 by kernel_rfl, of_at hv3, hy3] at q3
  obtain ⟨v4, hv4⟩ : ∃ u, cs.toList[4]? = some u := ⟨cs.toList[4]'(by simp; omega), List.getElem?_eq_getElem _⟩
  have q4 : DataW.trod enc Tryz.prog w base spare held n 26 ((cs.toList.drop 4).take (Tryz.prog.cellsOf 26)) = xs[4]? := hq 4 _ rfl
  obtain ⟨y4, hy4⟩ : ∃ y, xs[4]? = some y := ⟨xs[4]'(by omega), List.getElem?_eq_getElem _⟩
  rw [show Tryz.prog.cellsOf 26 = 1 by kernel_rfl, of_at hv4, hy4] at q4
  obtain ⟨vs, h0⟩ := rowE_of (E := VxR) (size := 2) Tryz.underlying22 (by kernel_rfl) (by omega) (fun n l y hf hl => by obtain ⟨P, xs, h⟩ := vtL_of hf hl; exact ⟨(P, xs), h⟩) (fun v x h => VxR.agg h) q0
  obtain ⟨so1, sc1, rs, rfl, h1⟩ := rowR_of_ints Tryz.underlying23 Tryz.underlying3 (by kernel_rfl) q1
  obtain ⟨ks, h2⟩ := rowE_of (E := SkR) (size := 26) Tryz.underlying24 (by kernel_rfl) (by omega) (fun n l y hf hl => skL_of hf hl) (fun v x h => SkR.agg h) q2
  obtain ⟨ws, h3⟩ := rowE_of (E := WdR) (size := 26) Tryz.underlying25 (by kernel_rfl) (by omega) (fun n l y hf hl => wdL_of hf hl) (fun v x h => WdR.agg h) q3
  obtain ⟨so4, sc4, ts, rfl, -, h4⟩ := rowR_of_papers q4
  refine ⟨⟨vs, rs, ks, ws, ts⟩, v0, _, v2, v3, _, ?_, ⟨h0, h1, h2, h3, h4⟩⟩
  congr 1
  apply Array.ext_getElem?
  intro j
  rw [← Array.getElem?_toList]
  by_cases hj : j < 5
  · rcases (by omega : j = 0 ∨ j = 1 ∨ j = 2 ∨ j = 3 ∨ j = 4) with rfl | rfl | rfl | rfl | rfl
    · exact hv0
    · exact hv1
    · exact hv2
    · exact hv3
    · exact hv4
  · rw [List.getElem?_eq_none (by simp; omega), Array.getElem?_eq_none (by show 5 ≤ j; omega)]

end Go.Proofs.YteddhdbglciahaaGreat
