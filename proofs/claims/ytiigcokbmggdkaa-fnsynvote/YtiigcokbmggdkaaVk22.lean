/- Contracts and plain facts that this claim leans on (texts VDV, VDW, XLw, OkLaw); no statement of the seat is proved here. -/
import Derived.Test.YtiigcokbmggdkaaVk21
import Derived.Test.YtiigcokbmggdkaaVk20
import Derived.Test.YtiigcokbmggdkaaVk10
import Derived.Test.YtiigcokbmggdkaaVk12
import Derived.Test.YtiigcokbmggdkaaVk1
import Derived.ProofKit
import Derived.OpenShut
import Derived.ShutString
import Derived.ChangeOld
import Derived.Below
import Derived.Lib.SmallJoins
import Derived.Deep.Strs
import Derived.Deep.SlicePairs

/- DrawSynVote: a contract; no statement of the seat is proved here. -/
namespace Go.Proofs.Ytiigcokbmggdkaa
open Go.RowKit

theorem results_cell_tmp_cell {fn : Func} {p q t : Tmp} {ty ty2 : TypeId} (h : fn.results = #[.cell p ty, .tmp t, .cell q ty2]) (tmps : Array Value) (P : Program) (w : World) :
    (results fn tmps).run P w =
      ((asAddr (tmps.getD p undef)).run P w).andThen fun a w₁ => ((loadVar ty a).run P w₁).andThen fun v w₂ => ((asAddr (tmps.getD q undef)).run P w₂).andThen fun a2 w₃ => ((loadVar ty2 a2).run P w₃).andThen fun v2 w₄ => .ok (.tuple #[v, tmps.getD t undef, v2]) w₄ := by
  simp only [results, h]
  simp [Sem.run_bind, Result.andThen]
theorem results_row_tmp_row {P : Program} {fn : Func} {p q t : Tmp} {ty ty2 : TypeId} (h : fn.results = #[.cell p ty, .tmp t, .cell q ty2]) (tmps : Array Value) (w : World) (g g2 : Nat) (t1 t2 : TypeId) (cs ds : Array Value) (fr fr2 : Nat × Nat) (d d2 : TypeDesc) (b : Value)
    (hp : tmps.getD p undef = .pointer (some ⟨g, 0, none⟩)) (hq : tmps.getD q undef = .pointer (some ⟨g2, 0, none⟩)) (hb : tmps.getD t undef = b) (hg : w.heap[g]? = some (.cells cs t1 fr)) (hg2 : w.heap[g2]? = some (.cells ds t2 fr2))
    (hu : P.underlying ty = some d) (hd : (match d with | .struct _ | .array _ _ => true | _ => false) = true) (hi : (P.info? ty).map (·.size) = some cs.size)
    (hu2 : P.underlying ty2 = some d2) (hd2 : (match d2 with | .struct _ | .array _ _ => true | _ => false) = true) (hi2 : (P.info? ty2).map (·.size) = some ds.size) :
    (results fn tmps).run P w = .ok (.tuple #[.agg cs, b, .agg ds]) w := by
  rw [results_cell_tmp_cell h, hp, hq, hb]
  simp [asAddr, Result.andThen, run_loadVar_row w g t1 ty cs fr d hg hu hd hi, run_loadVar_row w g2 t2 ty2 ds fr2 d2 hg2 hu2 hd2 hi2]


theorem WdO.kind {w : World} {S : Nat → Prop} {cs : Array Value} {x : Wd} (z : Int) (h : WdO w S (.agg cs) x) : WdO w S (.agg (cs.setIfInBounds 0 (.int .i64 z))) { x with a0 := z } := by
  obtain ⟨po, pc, lo, lc, e, h1, h2⟩ := h
  injection e with e
  subst e
  exact ⟨po, pc, lo, lc, rfl, h1, h2⟩
theorem kind_one {cs : Array Value} (z : Int) (h : cs.all (·.oneCell') = true) : (cs.setIfInBounds 0 (.int .i64 z)).all (·.oneCell') = true := by
  rw [Array.all_eq_true_iff_forall_mem] at h ⊢
  intro u hu
  rcases Array.mem_or_eq_of_mem_setIfInBounds hu with h1 | h1
  · exact h u h1
  · rw [h1]; rfl

set_option maxRecDepth 100000 in
set_option maxHeartbeats 16000000 in
theorem drawSynVote_any (w : World) (bo : Option Addr) (n cap : Nat) (bs : List Nat) (h : BytesIn w bo n cap bs) (hn : n ≤ 1048576) :
    Calls Try.prog 21 #[.slice bo n cap] w fun e w' => ∃ (v : Value) (P : Int) (xs : List Pp) (me : Int) (y : Value) (x : Wd), e = .returned (.tuple #[v, .int .i64 me, y]) ∧ VtO w' (fun k => w.heap.size ≤ k) v P xs ∧ xs.length ≤ 6 ∧ WdO w' (fun k => w.heap.size ≤ k) y x ∧ x.ps.length ≤ 61 ∧ x.ls.length ≤ 61 ∧ Below w.heap.size w w' := by
  have HB := hide h
  clear h
  go_enter Try.func21, Try.ntmps21
  go_upto_region 1 with fail
  generalize hW : World.alloc _ _ = W
  have al : Below w.heap.size w W := by rw [← hW]; exact bal (bal (Below.refl _ _) _) _
  have B0 : Hid (W.heap[w.heap.size]? = some (.cells #[.int .i64 0, .slice none 0 0] 35 (0, 0))) := by show _ = _; rw [← hW]; exact al2_0 w _ _
  have B1 : Hid (W.heap[w.heap.size + 1]? = some (.cells #[.int .i64 0, .int .i64 0, .int .i64 0, .int .i64 0, .int .i64 0, .int .i64 0, .int .i64 0, .int .i64 0, .int .i64 0, .int .i64 0, .int .i64 0, .int .i64 0, .int .i64 0, .int .i64 0, .int .i64 0, .int .i64 0, .int .i64 0, .int .i64 0, .int .i64 0, .int .i64 0, .int .i64 0, .int .i64 0, .int .i64 0, .int .i64 0, .slice none 0 0, .slice none 0 0] 40 (0, 0))) := by show _ = _; rw [← hW]; exact al2_1 w _ _
  have ltW := heap_lt B1.out
  clear hW
  go_wp2_with fail
  refine (l6Open_any W bo n cap bs (HB.out.keep al) hn).mono ?_
  rintro e w1 ⟨rfl, hr1, b1⟩
  obtain ⟨R, hR⟩ : ∃ R, W.heap.size = R := ⟨_, rfl⟩
  have z1 := b1.size
  rw [hR] at hr1
  have hRl := hr1.lt.1
  have hWR : W.heap.size ≤ R := by omega
  have hRW : R ≤ W.heap.size := by omega
  have c1 : Below W.heap.size W w1 := b1
  rw [hR]
  clear hR HB b1
  go_wp2_with fail
  refine (l72Word_any W w1 R 0 hr1 (by omega)).mono ?_
  rintro e w2 ⟨v2, x, p2, rfl, d2, hxp, hxl, hr2, hp2, hu2⟩
  obtain ⟨cs, rfl, hs, h1⟩ := d2.reads.agg
  have D2 := hide (wdIn d2)
  have HI := hide (infoAt infoWd hs)
  have HZ := hide (zero26.trans hs.symm)
  have H1s := hide h1
  have z2 := hu2.size
  have c2 := c1.trans (hu2.below c1.size (fun j h => by omega))
  have a2 := bal (Below.refl w2.heap.size w2) (.cells cs 40)
  have N2 := hide (heap_alloc_new w2 (.cells cs 40))
  have D2 := hide (D2.out.keepB a2)
  have hr2 := hr2.keepB a2
  have c2 := c2.trans (a2.mono c2.size)
  obtain ⟨u0, hu0⟩ : ∃ u, cs[0]? = some u := ⟨cs[0]'(by omega), by simp [show 0 < cs.size by omega]⟩
  have HS := hide hs
  clear d2 hu2 hr1 c1
  go_upto_region 3 with (refine wpList_store_row rfl 40 (.tmp 6) (.tmp 10) rfl w2.heap.size cs rfl rfl _ _ (heap_alloc_new w2 _) HI.out HZ.out H1s.out ?_; rw [World.setRow_alloc_new])
  generalize hX : w2.alloc (.cells cs 40) = X at N2 D2 hr2 c2 a2 ⊢
  have zX := a2.size
  have ltN := heap_lt N2.out
  clear hX a2
  generalize w2.heap.size = g at z2 zX ltN N2 D2 ⊢
  go_wp2_with fail
  refine (pick_any W _ R _ 6 hr2 (by omega) (by omega) (by omega)).mono ?_
  rintro e w3 ⟨q, rfl, hq, hr3, hu3⟩
  have z3 := hu3.size
  have N3 := hide (hu3.keeps N2.out (by omega))
  have D3 := hide (D2.out.keep hu3 (fun j h1 h2 => by omega))
  have c3 := c2.trans (hu3.below c2.size (fun j h => by omega))
  clear N2 D2 hr2 hu3 c2
  by_cases h0 : q = 0
  · subst h0
    go_wp2
    have dd := bDrewB (Below.refl w3.heap.size w3)
    have hrd := hr3.keepB dd
    have zdd := dd.size
    have c0 : Below W.heap.size W w3.drew := c3.trans (dd.mono c3.size)
    refine wp_region_noPanic ?_
    refine wp_region_held_drew (S := (fun w' => w'.heap[g]? = some (.cells cs 40 (0, 0)))) (by kernel_rfl) ?_ (fun hHeld => ?_)
    · exact bKeeps dd N3.out
    refine wpAnyH_take (i := 0) (v := ?v1) rfl (by kernel_rfl) (by kernel_rfl) (by kernel_rfl) (fun _ _ _ h => h) (Or.inl ⟨by rfl, ?hy1⟩) (by assumption) ?rest1
    case hy1 => ((intro w hSw; (try dsimp only at hSw); (try simp only [List.getElem_toArray, List.getElem_cons_zero]); go_simp; first | done | (with_reducible rfl)))
    simp only [Act.put, List.getElem_toArray, List.getElem_cons_zero, List.setIfInBounds_toArray, List.set_cons_zero, List.set_cons_succ]
    refine wpAnyH_take (i := 2) (v := ?v2) rfl (by kernel_rfl) (by kernel_rfl) (by kernel_rfl) (fun _ _ _ h => h) (Or.inl ⟨by rfl, ?hy2⟩) (by assumption) ?rest2
    case hy2 => ((intro w hSw; (try dsimp only at hSw); (try simp only [List.getElem_toArray, List.getElem_cons_zero, List.getElem_cons_succ]); go_simp; first | done | (with_reducible rfl)))
    simp only [Act.put, List.getElem_toArray, List.getElem_cons_zero, List.getElem_cons_succ, List.setIfInBounds_toArray, List.set_cons_zero, List.set_cons_succ]
    refine wpAnyH_take (i := 4) (v := ?v3) rfl (by kernel_rfl) (by kernel_rfl) (by kernel_rfl) (fun _ _ _ h => h) (Or.inl ⟨by rfl, ?hy3⟩) (by assumption) ?rest3
    case hy3 => ((intro w hSw; (try dsimp only at hSw); (try simp only [List.getElem_toArray, List.getElem_cons_zero, List.getElem_cons_succ]); go_simp; first | done | (with_reducible rfl)))
    simp only [Act.put, List.getElem_toArray, List.getElem_cons_zero, List.getElem_cons_succ, List.setIfInBounds_toArray, List.set_cons_zero, List.set_cons_succ]
    refine wpAnyH_take (i := 9) (v := .agg cs) rfl (by kernel_rfl) (by kernel_rfl) (by kernel_rfl) (fun _ _ _ h => h) (yields_row rfl 40 (.tmp 6) rfl (g) rfl _ cs _ (fun _ h => h) Try.underlying40 rfl HI.out) (by assumption) ?_
    simp only [Act.put, List.getElem_toArray, List.getElem_cons_zero, List.getElem_cons_succ, List.setIfInBounds_toArray, List.set_cons_zero, List.set_cons_succ]
    refine wpAnyH_ready (rs := [1]) (by kernel_rfl) (by simp) ?_
    refine AllReadyH.cons rfl (fun K hK => ?_) AllReadyH.nil
    go_simp
    (go_at_call 72; refine (l72VoterAny_any W _ R _ hrd (by omega)).mono ?_; rintro e w7 ⟨v7, P, xs, p7, rfl, d7, hl7, hr7, hp7, hu7⟩; have n7 := hu7.keeps (bKeeps dd N3.out) (by omega); have z7 := hu7.size; have c7 := c0.trans (hu7.below c0.size (fun j h => by omega)))
    refine hK.out _ _ ?_ (fun hHeld => ?_)
    · exact n7
    clear hK K
    refine wpAnyH_ready (rs := [3]) (by kernel_rfl) (by simp) ?_
    refine AllReadyH.cons rfl (fun K hK => ?_) AllReadyH.nil
    go_simp
    (go_at_call 71; refine (pick_any W _ R _ 3 hr7 (by omega) (by omega) (by omega)).mono ?_; rintro e w8 ⟨q8, rfl, hq8, hr8, hu8⟩; have n8 := hu8.keeps n7 (by omega); have z8 := hu8.size; have c8 := c7.trans (hu8.below c7.size (fun j h => by omega)))
    refine hK.out _ _ ?_ (fun hHeld => ?_)
    · exact n8
    clear hK K
    refine wpAnyH_ready (rs := [5]) (by kernel_rfl) (by simp) ?_
    refine AllReadyH.cons rfl (fun K hK => ?_) AllReadyH.nil
    go_simp
    (go_at_call 71; refine (pick_any W _ R _ 12 hr8 (by omega) (by omega) (by omega)).mono ?_; rintro e w9 ⟨q9, rfl, hq9, hr9, hu9⟩; have n9 := hu9.keeps n8 (by omega); have z9 := hu9.size; have c9 := c8.trans (hu9.below c8.size (fun j h => by omega)))
    refine hK.out _ _ ?_ (fun hHeld => ?_)
    · exact n9
    clear hK K
    refine wpAnyH_take (i := 6) (v := ?v4) rfl (by kernel_rfl) (by kernel_rfl) (by kernel_rfl) (fun _ _ _ h => h) (Or.inl ⟨by rfl, ?hy4⟩) (by assumption) ?rest4
    case hy4 => ((intro w hSw; (try dsimp only at hSw); (try simp only [List.getElem_toArray, List.getElem_cons_zero, List.getElem_cons_succ]); go_simp; first | done | (with_reducible rfl)))
    simp only [Act.put, List.getElem_toArray, List.getElem_cons_zero, List.getElem_cons_succ, List.setIfInBounds_toArray, List.set_cons_zero, List.set_cons_succ]
    refine wpAnyH_take (i := 7) (v := ?v5) rfl (by kernel_rfl) (by kernel_rfl) (by kernel_rfl) (fun _ _ _ h => h) (Or.inl ⟨by rfl, ?hy5⟩) (by assumption) ?rest5
    case hy5 => ((intro w hSw; (try dsimp only at hSw); (try simp only [List.getElem_toArray, List.getElem_cons_zero, List.getElem_cons_succ]); go_simp; first | done | (with_reducible rfl)))
    simp only [Act.put, List.getElem_toArray, List.getElem_cons_zero, List.getElem_cons_succ, List.setIfInBounds_toArray, List.set_cons_zero, List.set_cons_succ]
    refine wpAnyH_take (i := 8) (v := ?v6) rfl (by kernel_rfl) (by kernel_rfl) (by kernel_rfl) (fun _ _ _ h => h) (Or.inl ⟨by rfl, ?hy6⟩) (by assumption) ?rest6
    case hy6 => ((intro w hSw; (try dsimp only at hSw); (try simp only [List.getElem_toArray, List.getElem_cons_zero, List.getElem_cons_succ]); go_simp; first | done | (with_reducible rfl)))
    simp only [Act.put, List.getElem_toArray, List.getElem_cons_zero, List.getElem_cons_succ, List.setIfInBounds_toArray, List.set_cons_zero, List.set_cons_succ]
    obtain ⟨so7, sc7, rfl, hcap7, r7⟩ := d7
    have A0 := hide (bKeeps c9 B0.out)
    have A1 := hide (bKeeps c9 B1.out)
    have s10 := updRow w9 w.heap.size #[.int .i64 P, .slice so7 xs.length sc7]
    have s12 := updRow (w9.setRow w.heap.size #[.int .i64 P, .slice so7 xs.length sc7]) (w.heap.size + 1) cs
    have A1b := hide (s10.keeps A1.out (by omega))
    refine wpAnyH_ready (rs := [10]) (by kernel_rfl) (by simp) ?_
    refine AllReadyH.cons rfl (fun K hK => ?_) AllReadyH.nil
    (refine wp_store_row 35 (.tmp 2) (.tmp 21) rfl w.heap.size #[.int .i64 P, .slice so7 xs.length sc7] rfl rfl _ _ A0.out infoSv2 (show (2 : Nat) = 2 from rfl) (all_of_list rfl) ?_)
    refine hK.out _ _ ?_ (fun hHeld => ?_)
    · exact s10.keeps n9 (by omega)
    clear hK K
    refine wpAnyH_take (i := 11) (v := ?v7) rfl (by kernel_rfl) (by kernel_rfl) (by kernel_rfl) (fun _ _ _ h => h) (Or.inl ⟨by rfl, ?y7⟩) (by assumption) ?r7
    case y7 => (intro w hSw; go_simp; first | done | (with_reducible rfl))
    simp only [Act.put, List.getElem_toArray, List.getElem_cons_zero, List.getElem_cons_succ, List.setIfInBounds_toArray, List.set_cons_zero, List.set_cons_succ]
    refine wpAnyH_ready (rs := [12]) (by kernel_rfl) (by simp) ?_
    refine AllReadyH.cons rfl (fun K hK => ?_) AllReadyH.nil
    (refine wp_store_row 40 (.tmp 4) (.tmp 29) rfl (w.heap.size + 1) cs rfl rfl _ _ A1b.out HI.out HZ.out H1s.out ?_)
    refine hK.out _ _ ?_ (fun hHeld => ?_)
    · exact s12.keeps (s10.keeps n9 (by omega)) (by omega)
    clear hK K
    refine wpAnyH_done (by kernel_rfl) ?_ _
    refine NoPanic.normal ?_
    clear hHeld
    go_wp2_with fail
    refine bodyPost_ret (v := .tuple #[.agg #[.int .i64 P, .slice so7 xs.length sc7], .int .i64 _, .agg cs]) (results_row_tmp_row Try.results21 _ _ w.heap.size (w.heap.size + 1) _ _ _ _ (0, 0) (0, 0) _ _ _ rfl rfl rfl (s12.keeps (setRow_heap _ _ _ _ _ _ A0.out) (by omega)) (setRow_heap _ _ _ _ _ _ A1b.out) Try.underlying35 rfl infoSv2 Try.underlying40 rfl HI.out) rfl ?_
    have cw := bAll al c9
    have z10 := s10.size
    have d12 := ((((((D3.out.keepB dd).keep hu7 (fun j h1 h2 => by omega)).keep hu8 (fun j h1 h2 => by omega)).keep hu9 (fun j h1 h2 => by omega)).keep s10 (fun j h1 h2 => by omega)).keep s12 (fun j h1 h2 => by omega)).mono (T := fun k => w.heap.size ≤ k) (fun j _ h => by omega)
    have r12 := ((((r7.keep hu8 (fun j h1 h2 => by omega)).keep hu9 (fun j h1 h2 => by omega)).keep s10 (fun j h1 h2 => by omega)).keep s12 (fun j h1 h2 => by omega)).mono (T := fun k => w.heap.size ≤ k) (fun j _ h => by omega)
    exact ⟨_, P, xs, _, _, _, rfl, ⟨so7, sc7, rfl, hcap7, r12⟩, hl7, d12, hxp, hxl, (cw.trans (s10.below cw.size (fun j h => by omega))).trans (s12.below (Nat.le_trans cw.size z10) (fun j h => by omega))⟩
  · have hq0 : decide ((q : Int) > 0) = true := by simp; omega
    have al4 := bal (Below.refl w3.heap.size w3) (.cells #[.int .i64 1, .int .i64 3] 3)
    have LA := hide (litAt w3 [1, 3] 3)
    have hr4 := hr3.keepB al4
    go_wp2_with fail
    refine (pick_any W _ R _ 2 hr4 (by omega) (by omega) (by omega)).mono ?_
    rintro e w5 ⟨q5, rfl, hq5, hr5, hu5⟩
    obtain ⟨z, hz⟩ := LA.out q5 hq5
    have f0 : w5.cell? ⟨w3.heap.size, q5, none⟩ = some (.int .i64 z) := updCell hu5 hz (by omega)
    have hi5 : (q5 : Int) < 2 := by omega
    have N5 := hide (hu5.keeps (bKeeps al4 N3.out) (by omega))
    have D5 := hide ((D3.out.keepB al4).keep hu5 (fun j h1 h2 => by omega))
    have c5 := (c3.trans (al4.mono c3.size)).trans (hu5.below (c3.trans (al4.mono c3.size)).size (fun j h => by omega))
    have z5 := hu5.size
    simp only [World.size_alloc] at z5
    have e0 : w5.cell? ⟨g, 0, none⟩ = some u0 := (boxAt N5.out 0).trans hu0
    have e1 : w5.frozen? ⟨g, 0, none⟩ = false := boxFz N5.out 0
    clear LA hz hr4 hu5 al4 N3 D3 hr3 c3
    go_upto_region 5 with fail
    generalize hV : World.setCell _ _ _ = V
    have u6 : Upd (fun j => j = g) w5 V := by rw [← hV]; exact Upd.setCell _ _ _ _ rfl
    have N6 : Hid (V.heap[g]? = some (.cells (cs.setIfInBounds 0 (.int .i64 z)) 40 (0, 0))) := by show _ = _; rw [← hV]; exact row_set _ N5.out
    have D6 := hide (WdO.kind z (D5.out.keep u6 (fun j h1 h2 => by omega)))
    have c6 := c5.trans (u6.below c5.size (fun j h => by omega))
    have hr6 := hr5.keep u6 (by omega) (fun j h => by omega)
    have z6 := u6.size
    have I6 : Hid ((Try.prog.info? 40).map (·.size) = some (cs.setIfInBounds 0 (.int .i64 z)).size) := infoAt infoWd ((setKind_size (cs := cs) z).trans HS.out)
    have Z6 : Hid ((#[.int .i64 0, .int .i64 0, .int .i64 0, .int .i64 0, .int .i64 0, .int .i64 0, .int .i64 0, .int .i64 0, .int .i64 0, .int .i64 0, .int .i64 0, .int .i64 0, .int .i64 0, .int .i64 0, .int .i64 0, .int .i64 0, .int .i64 0, .int .i64 0, .int .i64 0, .int .i64 0, .int .i64 0, .int .i64 0, .int .i64 0, .int .i64 0, .slice none 0 0, .slice none 0 0] : Array Value).size = (cs.setIfInBounds 0 (.int .i64 z)).size) := zero26.trans ((setKind_size (cs := cs) z).trans HS.out).symm
    have O6 : Hid ((cs.setIfInBounds 0 (.int .i64 z)).all (·.oneCell') = true) := kind_one z H1s.out
    clear hV e0 e1 f0 N5 D5 c5 hr5
    go_wp2
    have dd := bDrewB (Below.refl V.heap.size V)
    have hrd := hr6.keepB dd
    have zdd := dd.size
    have c0 : Below W.heap.size W V.drew := c6.trans (dd.mono c6.size)
    refine wp_region_noPanic ?_
    refine wp_region_held_drew (S := (fun w' => w'.heap[g]? = some (.cells (cs.setIfInBounds 0 (.int .i64 z)) 40 (0, 0)))) (by kernel_rfl) ?_ (fun hHeld => ?_)
    · exact bKeeps dd N6.out
    refine wpAnyH_take (i := 0) (v := ?v8) rfl (by kernel_rfl) (by kernel_rfl) (by kernel_rfl) (fun _ _ _ h => h) (Or.inl ⟨by rfl, ?hy8⟩) (by assumption) ?rest8
    case hy8 => ((intro w hSw; (try dsimp only at hSw); (try simp only [List.getElem_toArray, List.getElem_cons_zero]); go_simp; first | done | (with_reducible rfl)))
    simp only [Act.put, List.getElem_toArray, List.getElem_cons_zero, List.setIfInBounds_toArray, List.set_cons_zero, List.set_cons_succ]
    refine wpAnyH_take (i := 2) (v := ?v9) rfl (by kernel_rfl) (by kernel_rfl) (by kernel_rfl) (fun _ _ _ h => h) (Or.inl ⟨by rfl, ?hy9⟩) (by assumption) ?rest9
    case hy9 => ((intro w hSw; (try dsimp only at hSw); (try simp only [List.getElem_toArray, List.getElem_cons_zero, List.getElem_cons_succ]); go_simp; first | done | (with_reducible rfl)))
    simp only [Act.put, List.getElem_toArray, List.getElem_cons_zero, List.getElem_cons_succ, List.setIfInBounds_toArray, List.set_cons_zero, List.set_cons_succ]
    refine wpAnyH_take (i := 4) (v := ?v10) rfl (by kernel_rfl) (by kernel_rfl) (by kernel_rfl) (fun _ _ _ h => h) (Or.inl ⟨by rfl, ?hy10⟩) (by assumption) ?rest10
    case hy10 => ((intro w hSw; (try dsimp only at hSw); (try simp only [List.getElem_toArray, List.getElem_cons_zero, List.getElem_cons_succ]); go_simp; first | done | (with_reducible rfl)))
    simp only [Act.put, List.getElem_toArray, List.getElem_cons_zero, List.getElem_cons_succ, List.setIfInBounds_toArray, List.set_cons_zero, List.set_cons_succ]
    refine wpAnyH_take (i := 9) (v := .agg (cs.setIfInBounds 0 (.int .i64 z))) rfl (by kernel_rfl) (by kernel_rfl) (by kernel_rfl) (fun _ _ _ h => h) (yields_row rfl 40 (.tmp 6) rfl (g) rfl _ (cs.setIfInBounds 0 (.int .i64 z)) _ (fun _ h => h) Try.underlying40 rfl I6.out) (by assumption) ?_
    simp only [Act.put, List.getElem_toArray, List.getElem_cons_zero, List.getElem_cons_succ, List.setIfInBounds_toArray, List.set_cons_zero, List.set_cons_succ]
    refine wpAnyH_ready (rs := [1]) (by kernel_rfl) (by simp) ?_
    refine AllReadyH.cons rfl (fun K hK => ?_) AllReadyH.nil
    go_simp
    (go_at_call 72; refine (l72VoterAny_any W _ R _ hrd (by omega)).mono ?_; rintro e w7 ⟨v7, P, xs, p7, rfl, d7, hl7, hr7, hp7, hu7⟩; have n7 := hu7.keeps (bKeeps dd N6.out) (by omega); have z7 := hu7.size; have c7 := c0.trans (hu7.below c0.size (fun j h => by omega)))
    refine hK.out _ _ ?_ (fun hHeld => ?_)
    · exact n7
    clear hK K
    refine wpAnyH_ready (rs := [3]) (by kernel_rfl) (by simp) ?_
    refine AllReadyH.cons rfl (fun K hK => ?_) AllReadyH.nil
    go_simp
    (go_at_call 71; refine (pick_any W _ R _ 3 hr7 (by omega) (by omega) (by omega)).mono ?_; rintro e w8 ⟨q8, rfl, hq8, hr8, hu8⟩; have n8 := hu8.keeps n7 (by omega); have z8 := hu8.size; have c8 := c7.trans (hu8.below c7.size (fun j h => by omega)))
    refine hK.out _ _ ?_ (fun hHeld => ?_)
    · exact n8
    clear hK K
    refine wpAnyH_ready (rs := [5]) (by kernel_rfl) (by simp) ?_
    refine AllReadyH.cons rfl (fun K hK => ?_) AllReadyH.nil
    go_simp
    (go_at_call 71; refine (pick_any W _ R _ 12 hr8 (by omega) (by omega) (by omega)).mono ?_; rintro e w9 ⟨q9, rfl, hq9, hr9, hu9⟩; have n9 := hu9.keeps n8 (by omega); have z9 := hu9.size; have c9 := c8.trans (hu9.below c8.size (fun j h => by omega)))
    refine hK.out _ _ ?_ (fun hHeld => ?_)
    · exact n9
    clear hK K
    refine wpAnyH_take (i := 6) (v := ?v11) rfl (by kernel_rfl) (by kernel_rfl) (by kernel_rfl) (fun _ _ _ h => h) (Or.inl ⟨by rfl, ?hy11⟩) (by assumption) ?rest11
    case hy11 => ((intro w hSw; (try dsimp only at hSw); (try simp only [List.getElem_toArray, List.getElem_cons_zero, List.getElem_cons_succ]); go_simp; first | done | (with_reducible rfl)))
    simp only [Act.put, List.getElem_toArray, List.getElem_cons_zero, List.getElem_cons_succ, List.setIfInBounds_toArray, List.set_cons_zero, List.set_cons_succ]
    refine wpAnyH_take (i := 7) (v := ?v12) rfl (by kernel_rfl) (by kernel_rfl) (by kernel_rfl) (fun _ _ _ h => h) (Or.inl ⟨by rfl, ?hy12⟩) (by assumption) ?rest12
    case hy12 => ((intro w hSw; (try dsimp only at hSw); (try simp only [List.getElem_toArray, List.getElem_cons_zero, List.getElem_cons_succ]); go_simp; first | done | (with_reducible rfl)))
    simp only [Act.put, List.getElem_toArray, List.getElem_cons_zero, List.getElem_cons_succ, List.setIfInBounds_toArray, List.set_cons_zero, List.set_cons_succ]
    refine wpAnyH_take (i := 8) (v := ?v13) rfl (by kernel_rfl) (by kernel_rfl) (by kernel_rfl) (fun _ _ _ h => h) (Or.inl ⟨by rfl, ?hy13⟩) (by assumption) ?rest13
    case hy13 => ((intro w hSw; (try dsimp only at hSw); (try simp only [List.getElem_toArray, List.getElem_cons_zero, List.getElem_cons_succ]); go_simp; first | done | (with_reducible rfl)))
    simp only [Act.put, List.getElem_toArray, List.getElem_cons_zero, List.getElem_cons_succ, List.setIfInBounds_toArray, List.set_cons_zero, List.set_cons_succ]
    obtain ⟨so7, sc7, rfl, hcap7, r7⟩ := d7
    have A0 := hide (bKeeps c9 B0.out)
    have A1 := hide (bKeeps c9 B1.out)
    have s10 := updRow w9 w.heap.size #[.int .i64 P, .slice so7 xs.length sc7]
    have s12 := updRow (w9.setRow w.heap.size #[.int .i64 P, .slice so7 xs.length sc7]) (w.heap.size + 1) (cs.setIfInBounds 0 (.int .i64 z))
    have A1b := hide (s10.keeps A1.out (by omega))
    refine wpAnyH_ready (rs := [10]) (by kernel_rfl) (by simp) ?_
    refine AllReadyH.cons rfl (fun K hK => ?_) AllReadyH.nil
    (refine wp_store_row 35 (.tmp 2) (.tmp 21) rfl w.heap.size #[.int .i64 P, .slice so7 xs.length sc7] rfl rfl _ _ A0.out infoSv2 (show (2 : Nat) = 2 from rfl) (all_of_list rfl) ?_)
    refine hK.out _ _ ?_ (fun hHeld => ?_)
    · exact s10.keeps n9 (by omega)
    clear hK K
    refine wpAnyH_take (i := 11) (v := ?v14) rfl (by kernel_rfl) (by kernel_rfl) (by kernel_rfl) (fun _ _ _ h => h) (Or.inl ⟨by rfl, ?y14⟩) (by assumption) ?r14
    case y14 => (intro w hSw; go_simp; first | done | (with_reducible rfl))
    simp only [Act.put, List.getElem_toArray, List.getElem_cons_zero, List.getElem_cons_succ, List.setIfInBounds_toArray, List.set_cons_zero, List.set_cons_succ]
    refine wpAnyH_ready (rs := [12]) (by kernel_rfl) (by simp) ?_
    refine AllReadyH.cons rfl (fun K hK => ?_) AllReadyH.nil
    (refine wp_store_row 40 (.tmp 4) (.tmp 29) rfl (w.heap.size + 1) (cs.setIfInBounds 0 (.int .i64 z)) rfl rfl _ _ A1b.out I6.out Z6.out O6.out ?_)
    refine hK.out _ _ ?_ (fun hHeld => ?_)
    · exact s12.keeps (s10.keeps n9 (by omega)) (by omega)
    clear hK K
    refine wpAnyH_done (by kernel_rfl) ?_ _
    refine NoPanic.normal ?_
    clear hHeld
    go_wp2_with fail
    refine bodyPost_ret (v := .tuple #[.agg #[.int .i64 P, .slice so7 xs.length sc7], .int .i64 _, .agg (cs.setIfInBounds 0 (.int .i64 z))]) (results_row_tmp_row Try.results21 _ _ w.heap.size (w.heap.size + 1) _ _ _ _ (0, 0) (0, 0) _ _ _ rfl rfl rfl (s12.keeps (setRow_heap _ _ _ _ _ _ A0.out) (by omega)) (setRow_heap _ _ _ _ _ _ A1b.out) Try.underlying35 rfl infoSv2 Try.underlying40 rfl I6.out) rfl ?_
    have cw := bAll al c9
    have z10 := s10.size
    have d12 := ((((((D6.out.keepB dd).keep hu7 (fun j h1 h2 => by omega)).keep hu8 (fun j h1 h2 => by omega)).keep hu9 (fun j h1 h2 => by omega)).keep s10 (fun j h1 h2 => by omega)).keep s12 (fun j h1 h2 => by omega)).mono (T := fun k => w.heap.size ≤ k) (fun j _ h => by omega)
    have r12 := ((((r7.keep hu8 (fun j h1 h2 => by omega)).keep hu9 (fun j h1 h2 => by omega)).keep s10 (fun j h1 h2 => by omega)).keep s12 (fun j h1 h2 => by omega)).mono (T := fun k => w.heap.size ≤ k) (fun j _ h => by omega)
    exact ⟨_, P, xs, _, _, _, rfl, ⟨so7, sc7, rfl, hcap7, r12⟩, hl7, d12, hxp, hxl, (cw.trans (s10.below cw.size (fun j h => by omega))).trans (s12.below (Nat.le_trans cw.size z10) (fun j h => by omega))⟩
end Go.Proofs.Ytiigcokbmggdkaa

/- What a voter does with a word, by the specification, as VS says it, out of VS2: contracts; no statement of the seat is proved here. -/
namespace Go.Proofs.Ytiigcokbmggdkaa
open Go.RowKit

theorem specSynVoteB_any (v : Value) (P : Int) (xs : List Pp) (me : Int) (y : Value) (x : Wd) (w : World) (hv : VtR w v P xs) (hx : WdR w y x) (hn : xs.length ≤ 1048576) :
    Calls Try.prog 11 #[v, .int .i64 me, y] w fun e w' => ∃ v' y', e = .returned (.tuple #[v', y', .bool (voteR P xs me x).2.2.2]) ∧ VoteO w (voteR P xs me x) v' y' w' := by
  refine (specSynVoteA_any v P xs me y x w hv hx hn).mono ?_
  rintro e w' ⟨v', y', he, ⟨so, sc, rfl, hc, r⟩, h2, h3⟩
  have hl := (voteR_flat P xs me x).2.2
  exact ⟨_, y', he, ⟨so, sc, rfl, hc, r.row (by omega)⟩, h2, h3⟩

end Go.Proofs.Ytiigcokbmggdkaa

/- How the laws compare words: contracts; no statement of the seat is proved here. -/
namespace Go.Proofs.Ytiigcokbmggdkaa
open Go.RowKit

set_option maxHeartbeats 1000000 in
theorem lpInts_true (va vb : Value) (n : Nat) (ss : List Int) (w : World) (ha : RowR w 1 va n (ss.map (Value.int .i64))) (hb : RowR w 1 vb n (ss.map (Value.int .i64))) :
    Calls Try.prog 74 #[va, vb] w fun e w' => e = .returned (.bool true) ∧ Below w.heap.size w w' := by
  obtain ⟨ao, ca, rfl, hn, hl, ha⟩ := ha
  obtain ⟨bo, cb, rfl, _, _, hb⟩ := hb
  go_enter Try.func74, Try.ntmps74
  go_wp2
  go_loopw [5] (fun i wr => ∃ k : Nat, k ≤ n ∧ i = .int .i64 k ∧ Below w.heap.size w wr) (fun i _ => n - (intOf i).toNat)
  case atStart => exact ⟨0, Nat.zero_le _, rfl, Below.refl _ _⟩
  case round =>
    obtain ⟨k, hk, rfl, hbel⟩ := hrel
    by_cases hlt : k < n
    · obtain ⟨b1, o1, rfl, hc1⟩ := ha (by omega)
      obtain ⟨b2, o2, rfl, hc2⟩ := hb (by omega)
      obtain ⟨s, hs⟩ : ∃ s, (ss.map (Value.int .i64))[k]? = some (.int .i64 s) := by
        simp only [List.length_map, Nat.mul_one] at hl
        exact ⟨ss[k]'(by omega), by simp [show k < ss.length by omega]⟩
      have g1 := hc1 k _ hs
      have g2 := hc2 k _ hs
      have f1 : wr.cell? ⟨b1, o1 + k, none⟩ = some (.int .i64 s) := (hbel.cell (p := ⟨b1, o1 + k, none⟩) (World.block_lt_of_cell? w _ g1)).trans g1
      have f2 : wr.cell? ⟨b2, o2 + k, none⟩ = some (.int .i64 s) := (hbel.cell (p := ⟨b2, o2 + k, none⟩) (World.block_lt_of_cell? w _ g2)).trans g2
      have hi : (k : Int) < (n : Int) := by omega
      clear ha hb hc1 hc2 hs g1 g2 hl
      go_wp2
      go_quiet (fail)
      go_wp2
      go_roundw
      case rel => exact ⟨k + 1, by omega, by go_num, below_drewN hbel _⟩
      case measure => simp [intOf]; omega
    · go_wp2
      go_ret
      exact ⟨rfl, hbel⟩

theorem rowOfInts {w : World} {g : Nat} {xs : List Int} {t : TypeId} {n : Nat} (h : w.heap[g]? = some (.cells (intsV xs).toArray t (0, 0))) (hn : xs.length = n) (hn' : n ≤ 1000) : RowR w 1 (.slice (some ⟨g, 0, none⟩) n n) n (xs.map (Value.int .i64)) := by
  refine ⟨_, _, rfl, by omega, by simp [hn], fun _ => ⟨g, 0, rfl, fun j u hj => ?_⟩⟩
  rw [Nat.zero_add, boxAt h j]
  simpa [intsV] using hj

def nums14 (x : Wd) : List Int := [x.a0, x.a1, x.a2, x.a3, x.a4, x.a5, x.b0, x.b1, x.b2, x.b3, x.b4, x.b5, x.b6, x.b7]

set_option maxRecDepth 100000 in
set_option maxHeartbeats 8000000 in
theorem lpWord_true (va vb : Value) (x : Wd) (w : World) (ha : WdR w va x) (hb : WdR w vb x) :
    Calls Try.prog 23 #[va, vb] w fun e w' => e = .returned (.bool true) ∧ Below w.heap.size w w' := by
  obtain ⟨po, pc, lo, lc, rfl, a1, a2⟩ := ha
  obtain ⟨po', pc', lo', lc', rfl, d1, d2⟩ := hb
  have A1 := hide a1
  have A2 := hide a2
  have D1 := hide d1
  have D2 := hide d2
  clear a1 a2 d1 d2
  go_enter Try.func23, Try.ntmps23
  go_wp2_with fail
  generalize hW : World.alloc _ _ = W
  have hal : Below w.heap.size w W := by rw [← hW]; exact bal (bal (bal (bal (Below.refl _ _) _) _) _) _
  have B0 : W.heap[w.heap.size]? = some (.cells (#[.int .i64 x.a0, .int .i64 x.a1, .int .i64 x.a2, .int .i64 x.a3, .int .i64 x.a4, .int .i64 x.a5, .int .i64 x.c0, .int .i64 x.c1, .int .i64 x.c2, .int .i64 x.c3, .int .i64 x.c4, .int .i64 x.c5, .int .i64 x.c6, .int .i64 x.c7, .int .i64 x.c8, .int .i64 x.c9, .int .i64 x.b0, .int .i64 x.b1, .int .i64 x.b2, .int .i64 x.b3, .int .i64 x.b4, .int .i64 x.b5, .int .i64 x.b6, .int .i64 x.b7, .slice po x.ps.length pc, .slice lo x.ls.length lc] : Array Value) 40 (0, 0)) := by rw [← hW]; exact heap_up _ (heap_up _ (al2_0 w _ _))
  have B1 : W.heap[w.heap.size + 1]? = some (.cells (#[.int .i64 x.a0, .int .i64 x.a1, .int .i64 x.a2, .int .i64 x.a3, .int .i64 x.a4, .int .i64 x.a5, .int .i64 x.c0, .int .i64 x.c1, .int .i64 x.c2, .int .i64 x.c3, .int .i64 x.c4, .int .i64 x.c5, .int .i64 x.c6, .int .i64 x.c7, .int .i64 x.c8, .int .i64 x.c9, .int .i64 x.b0, .int .i64 x.b1, .int .i64 x.b2, .int .i64 x.b3, .int .i64 x.b4, .int .i64 x.b5, .int .i64 x.b6, .int .i64 x.b7, .slice po' x.ps.length pc', .slice lo' x.ls.length lc'] : Array Value) 40 (0, 0)) := by rw [← hW]; exact heap_up _ (heap_up _ (al2_1 w _ _))
  have B2 : W.heap[w.heap.size + 1 + 1]? = some (.cells (intsV (nums14 x)).toArray 3 (0, 0)) := by rw [← hW]; exact heap_up _ (al3_2 w _ _ _)
  have B3 : W.heap[w.heap.size + 1 + 1 + 1]? = some (.cells (intsV (nums14 x)).toArray 3 (0, 0)) := by
    rw [← hW]
    have := al1_0 (((w.alloc (.cells (#[.int .i64 x.a0, .int .i64 x.a1, .int .i64 x.a2, .int .i64 x.a3, .int .i64 x.a4, .int .i64 x.a5, .int .i64 x.c0, .int .i64 x.c1, .int .i64 x.c2, .int .i64 x.c3, .int .i64 x.c4, .int .i64 x.c5, .int .i64 x.c6, .int .i64 x.c7, .int .i64 x.c8, .int .i64 x.c9, .int .i64 x.b0, .int .i64 x.b1, .int .i64 x.b2, .int .i64 x.b3, .int .i64 x.b4, .int .i64 x.b5, .int .i64 x.b6, .int .i64 x.b7, .slice po x.ps.length pc, .slice lo x.ls.length lc] : Array Value) 40)).alloc (.cells (#[.int .i64 x.a0, .int .i64 x.a1, .int .i64 x.a2, .int .i64 x.a3, .int .i64 x.a4, .int .i64 x.a5, .int .i64 x.c0, .int .i64 x.c1, .int .i64 x.c2, .int .i64 x.c3, .int .i64 x.c4, .int .i64 x.c5, .int .i64 x.c6, .int .i64 x.c7, .int .i64 x.c8, .int .i64 x.c9, .int .i64 x.b0, .int .i64 x.b1, .int .i64 x.b2, .int .i64 x.b3, .int .i64 x.b4, .int .i64 x.b5, .int .i64 x.b6, .int .i64 x.b7, .slice po' x.ps.length pc', .slice lo' x.ls.length lc'] : Array Value) 40)).alloc (.cells (intsV (nums14 x)).toArray 3)) (.cells (intsV (nums14 x)).toArray 3)
    rwa [World.size_alloc, World.size_alloc, World.size_alloc] at this
  clear hW
  have hli := lpInts_true _ _ 14 (nums14 x) W (rowOfInts B2 rfl (by omega)) (rowOfInts B3 rfl (by omega))
  have H0 := hide B0
  have H1 := hide B1
  clear B0 B1 B2 B3
  refine hli.mono ?_
  rintro e w1 ⟨rfl, b1⟩
  have c1 := bAll hal b1
  have C0 := hide (bKeeps b1 H0.out)
  have C1 := hide (bKeeps b1 H1.out)
  have hc0 := boxAt C0.out
  have hc1 := boxAt C1.out
  clear hli b1 hal H0 H1
  go_wp2_with fail
  clear hc0 hc1
  refine (lpPieces_true _ _ _ x.ps _ (A1.out.keep c1) (D1.out.keep c1)).mono ?_
  rintro e w2 ⟨rfl, b2⟩
  have hc0 := boxAt (bKeeps b2 C0.out)
  have hc1 := boxAt (bKeeps b2 C1.out)
  have c2 := bAll c1 b2
  go_wp2_with fail
  refine (lpLast_true _ _ _ x.ls _ (A2.out.keep c2) (D2.out.keep c2)).mono ?_
  rintro e w3 ⟨rfl, b3⟩
  go_wp2
  go_ret
  exact ⟨rfl, bAll c2 b3⟩

end Go.Proofs.Ytiigcokbmggdkaa

/- What the law FnExactSecOk does: its walk; the statement itself is proved elsewhere. -/
namespace Go.Proofs.Ytiigcokbmggdkaa
open Go.RowKit

theorem DiskR.shape {w : World} {v : Value} {kept : List ByteArray} {wait : List (Int × ByteArray)} (h : DiskR w v kept wait) : ∃ ao ca ao' ca', v = .agg #[.slice ao kept.length ca, .slice ao' wait.length ca'] := by
  obtain ⟨vk, vw, rfl, ⟨ao, ca, rfl, -⟩, ⟨ao', ca', rfl, -⟩⟩ := h
  exact ⟨ao, ca, ao', ca', rfl⟩

end Go.Proofs.Ytiigcokbmggdkaa
