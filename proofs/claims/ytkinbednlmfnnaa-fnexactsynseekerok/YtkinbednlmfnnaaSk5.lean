/- Contracts and plain facts that this claim leans on (texts SK4); no statement of the seat is proved here. -/
import Derived.Test.YtkinbednlmfnnaaSk4

/- SynSeekerOk of the program, whole: contracts; no statement of the seat is proved here. -/
namespace Go.Proofs.Ytkinbednlmfnnaa
open Go.RowKit

set_option maxRecDepth 100000 in
set_option maxHeartbeats 8000000 in
theorem maySeek_any (g : Nat) (k : Sk) (yo : Option Addr) (yc : Nat) (w : World) (hg : w.heap[g]? = some (.cells (skarr k (.slice yo k.ys.length yc)) 66 (0, 0))) (hr : RowR w 1 (.slice yo k.ys.length yc) k.ys.length (ints k.ys)) :
    Calls Try.prog 86 #[.pointer (some ⟨g, 0, none⟩)] w fun e w' => e = .returned (.bool (mayS k)) ∧ Below w.heap.size w w' := by
  have HG := hide hg
  have HR := hide hr
  obtain ⟨j1, hj1⟩ : ∃ j, ppI (k.s, k.b, k.m) = j := ⟨_, rfl⟩
  obtain ⟨j2, hj2⟩ : ∃ j, inI k.ph 1 2 = j := ⟨_, rfl⟩
  obtain ⟨j3, hj3⟩ : ∃ j, yesI k.ys = j := ⟨_, rfl⟩
  obtain ⟨j4, hj4⟩ : ∃ j, bestI k = j := ⟨_, rfl⟩
  have cF := fun V => synInForm_any k.s k.b k.m V
  have cW := fun V => blkWithin_any k.ph 1 2 V
  have cY := fun V h1 h2 => yesFits_any g k yo yc V h1 h2
  have cB := fun V h => bestFits_any g k (.slice yo k.ys.length yc) V h
  rw [hj1] at cF
  rw [hj2] at cW
  rw [hj3] at cY
  rw [hj4] at cB
  have hF : Hid (mayS k = (j1 && (j2 && (j3 && j4)))) := by show _ = _; rw [mayS, hj1, hj2, hj3, hj4]
  clear hj1 hj2 hj3 hj4 hg hr
  go_enter Try.func86, Try.ntmps86
  go_upto_region 1 with fail
  have dd := bDrewB (Below.refl w.heap.size w)
  have a1 : Below w.heap.size w (w.drew.alloc (.cells #[.int .i64 0, .int .i64 0, .int .i64 0, .int .i64 0, .int .i64 0, .int .i64 0, .int .i64 0, .int .i64 0, .int .i64 0, .int .i64 0, .int .i64 0, .int .i64 0] 56)) := bal dd _
  have fS : Hid (∀ V : World, Below w.heap.size w V → V.heap[g]? = some (.cells (skarr k (.slice yo k.ys.length yc)) 66 (0, 0)) ∧ V.cell? ⟨g, 0, none⟩ = some (.int .i64 k.s) ∧ V.cell? ⟨g, 1, none⟩ = some (.int .i64 k.b)) := fun V h => by
    have hh := bKeeps h HG.out
    obtain ⟨a0, a1, -, -, -, -, -, -⟩ := sk_cells hh
    exact ⟨hh, a0, a1⟩
  have r8 := updRow (w.drew.alloc (.cells #[.int .i64 0, .int .i64 0, .int .i64 0, .int .i64 0, .int .i64 0, .int .i64 0, .int .i64 0, .int .i64 0, .int .i64 0, .int .i64 0, .int .i64 0, .int .i64 0] 56)) w.heap.size (#[.int .i64 k.s, .int .i64 k.b, .int .i64 k.m.c0, .int .i64 k.m.c1, .int .i64 k.m.c2, .int .i64 k.m.c3, .int .i64 k.m.c4, .int .i64 k.m.c5, .int .i64 k.m.c6, .int .i64 k.m.c7, .int .i64 k.m.c8, .int .i64 k.m.c9] : Array Value)
  have b8 : Below w.heap.size w ((w.drew.alloc (.cells #[.int .i64 0, .int .i64 0, .int .i64 0, .int .i64 0, .int .i64 0, .int .i64 0, .int .i64 0, .int .i64 0, .int .i64 0, .int .i64 0, .int .i64 0, .int .i64 0] 56)).setRow w.heap.size (#[.int .i64 k.s, .int .i64 k.b, .int .i64 k.m.c0, .int .i64 k.m.c1, .int .i64 k.m.c2, .int .i64 k.m.c3, .int .i64 k.m.c4, .int .i64 k.m.c5, .int .i64 k.m.c6, .int .i64 k.m.c7, .int .i64 k.m.c8, .int .i64 k.m.c9] : Array Value)) := a1.trans (r8.below a1.size (fun j h => by omega))
  have N1 : Hid ((w.drew.alloc (.cells #[.int .i64 0, .int .i64 0, .int .i64 0, .int .i64 0, .int .i64 0, .int .i64 0, .int .i64 0, .int .i64 0, .int .i64 0, .int .i64 0, .int .i64 0, .int .i64 0] 56)).heap[w.heap.size]? = some (.cells #[.int .i64 0, .int .i64 0, .int .i64 0, .int .i64 0, .int .i64 0, .int .i64 0, .int .i64 0, .int .i64 0, .int .i64 0, .int .i64 0, .int .i64 0, .int .i64 0] 56 (0, 0))) := heap_alloc_new w.drew _
  have N2 := hide (setRow_heap _ _ _ (#[.int .i64 k.s, .int .i64 k.b, .int .i64 k.m.c0, .int .i64 k.m.c1, .int .i64 k.m.c2, .int .i64 k.m.c3, .int .i64 k.m.c4, .int .i64 k.m.c5, .int .i64 k.m.c6, .int .i64 k.m.c7, .int .i64 k.m.c8, .int .i64 k.m.c9] : Array Value) _ _ N1.out)
  refine wp_region_noPanic ?_
  refine wp_region_held_drew (S := (fun w' => w'.heap[g]? = some (.cells (skarr k (.slice yo k.ys.length yc)) 66 (0, 0)) ∧ w'.cell? ⟨g, 0, none⟩ = some (.int .i64 k.s) ∧ w'.cell? ⟨g, 1, none⟩ = some (.int .i64 k.b))) (by kernel_rfl) ?_ (fun hHeld => ?_)
  · exact fS.out _ dd
  refine wpAnyH_take (i := 0) (v := ?v1) rfl (by kernel_rfl) (by kernel_rfl) (by kernel_rfl) (fun _ _ _ h => h) (Or.inl ⟨by rfl, ?hy1⟩) (by assumption) ?rest1
  case hy1 => ((intro w hSw; (try dsimp only at hSw); (try simp only [List.getElem_toArray, List.getElem_cons_zero]); go_simp; first | done | (with_reducible rfl)))
  simp only [Act.put, List.getElem_toArray, List.getElem_cons_zero, List.setIfInBounds_toArray, List.set_cons_zero, List.set_cons_succ]
  refine wpAnyH_take (i := 1) (v := ?v2) rfl (by kernel_rfl) (by kernel_rfl) (by kernel_rfl) (fun _ _ _ h => h) (Or.inl ⟨by rfl, ?hy2⟩) (by assumption) ?rest2
  case hy2 => ((intro w hSw; (try dsimp only at hSw); (try simp only [List.getElem_toArray, List.getElem_cons_zero, List.getElem_cons_succ]); go_simp; first | done | (with_reducible rfl)))
  simp only [Act.put, List.getElem_toArray, List.getElem_cons_zero, List.getElem_cons_succ, List.setIfInBounds_toArray, List.set_cons_zero, List.set_cons_succ]
  refine wpAnyH_take (i := 2) (v := ?v3) rfl (by kernel_rfl) (by kernel_rfl) (by kernel_rfl) (fun _ _ _ h => h) (Or.inl ⟨by rfl, ?hy3⟩) (by assumption) ?rest3
  case hy3 => ((intro w hSw; (try dsimp only at hSw); (try simp only [List.getElem_toArray, List.getElem_cons_zero, List.getElem_cons_succ]); go_simp; first | done | (with_reducible rfl)))
  simp only [Act.put, List.getElem_toArray, List.getElem_cons_zero, List.getElem_cons_succ, List.setIfInBounds_toArray, List.set_cons_zero, List.set_cons_succ]
  refine wpAnyH_take (i := 3) (v := ?v4) rfl (by kernel_rfl) (by kernel_rfl) (by kernel_rfl) (fun _ _ _ h => h) (Or.inl ⟨by rfl, ?hy4⟩) (by assumption) ?rest4
  case hy4 => ((intro w hSw; (try dsimp only at hSw); (try simp only [List.getElem_toArray, List.getElem_cons_zero, List.getElem_cons_succ]); go_simp; first | done | (with_reducible rfl)))
  simp only [Act.put, List.getElem_toArray, List.getElem_cons_zero, List.getElem_cons_succ, List.setIfInBounds_toArray, List.set_cons_zero, List.set_cons_succ]
  refine wpAnyH_take (i := 4) (v := ?v5) rfl (by kernel_rfl) (by kernel_rfl) (by kernel_rfl) (fun _ _ _ h => h) (Or.inl ⟨by rfl, ?hy5⟩) (by assumption) ?rest5
  case hy5 => ((intro w hSw; (try dsimp only at hSw); (try simp only [List.getElem_toArray, List.getElem_cons_zero, List.getElem_cons_succ]); go_simp; first | done | (with_reducible rfl)))
  simp only [Act.put, List.getElem_toArray, List.getElem_cons_zero, List.getElem_cons_succ, List.setIfInBounds_toArray, List.set_cons_zero, List.set_cons_succ]
  refine wpAnyH_take (i := 5) (v := ?v6) rfl (by kernel_rfl) (by kernel_rfl) (by kernel_rfl) (fun _ _ _ h => h) (Or.inl ⟨by rfl, ?hy6⟩) (by assumption) ?rest6
  case hy6 => ((intro w hSw; (try dsimp only at hSw); (try simp only [List.getElem_toArray, List.getElem_cons_zero, List.getElem_cons_succ]); go_simp; first | done | (with_reducible rfl)))
  simp only [Act.put, List.getElem_toArray, List.getElem_cons_zero, List.getElem_cons_succ, List.setIfInBounds_toArray, List.set_cons_zero, List.set_cons_succ]
  refine wpAnyH_take (i := 6) (v := ?v7) rfl (by kernel_rfl) (by kernel_rfl) (by kernel_rfl) (fun _ _ _ h => h) (Or.inl ⟨by rfl, ?hy7⟩) (by assumption) ?rest7
  case hy7 => ((intro w hSw; (try dsimp only at hSw); (try simp only [List.getElem_toArray, List.getElem_cons_zero, List.getElem_cons_succ]); go_simp; first | done | (with_reducible rfl)))
  simp only [Act.put, List.getElem_toArray, List.getElem_cons_zero, List.getElem_cons_succ, List.setIfInBounds_toArray, List.set_cons_zero, List.set_cons_succ]
  refine wpAnyH_take (i := 7) (v := ?v8) rfl (by kernel_rfl) (by kernel_rfl) (by kernel_rfl) (fun _ _ _ h => h) (Or.inl ⟨by rfl, ?hy8⟩) (by assumption) ?rest8
  case hy8 => ((intro w hSw; (try dsimp only at hSw); (try simp only [List.getElem_toArray, List.getElem_cons_zero, List.getElem_cons_succ]); go_simp; first | done | (with_reducible rfl)))
  simp only [Act.put, List.getElem_toArray, List.getElem_cons_zero, List.getElem_cons_succ, List.setIfInBounds_toArray, List.set_cons_zero, List.set_cons_succ]
  refine wpAnyH_take (i := 8) (v := ?v9) rfl (by kernel_rfl) (by kernel_rfl) (by kernel_rfl) (fun _ _ _ h => h) (Or.inl ⟨by rfl, ?hy9⟩) (by assumption) ?rest9
  case hy9 => ((intro w hSw; (try dsimp only at hSw); (try simp only [List.getElem_toArray, List.getElem_cons_zero, List.getElem_cons_succ]); go_simp; first | done | (with_reducible rfl)))
  simp only [Act.put, List.getElem_toArray, List.getElem_cons_zero, List.getElem_cons_succ, List.setIfInBounds_toArray, List.set_cons_zero, List.set_cons_succ]
  refine wpAnyH_take (i := 9) (v := ?v10) rfl (by kernel_rfl) (by kernel_rfl) (by kernel_rfl) (fun _ _ _ h => h) (Or.inl ⟨by rfl, ?hy10⟩) (by assumption) ?rest10
  case hy10 => ((intro w hSw; (try dsimp only at hSw); (try simp only [List.getElem_toArray, List.getElem_cons_zero, List.getElem_cons_succ]); go_simp; first | done | (with_reducible rfl)))
  simp only [Act.put, List.getElem_toArray, List.getElem_cons_zero, List.getElem_cons_succ, List.setIfInBounds_toArray, List.set_cons_zero, List.set_cons_succ]
  refine wpAnyH_take (i := 10) (v := ?v11) rfl (by kernel_rfl) (by kernel_rfl) (by kernel_rfl) (fun _ _ _ h => h) (Or.inl ⟨by rfl, ?hy11⟩) (by assumption) ?rest11
  case hy11 => ((intro w hSw; (try dsimp only at hSw); (try simp only [List.getElem_toArray, List.getElem_cons_zero, List.getElem_cons_succ]); go_simp; first | done | (with_reducible rfl)))
  simp only [Act.put, List.getElem_toArray, List.getElem_cons_zero, List.getElem_cons_succ, List.setIfInBounds_toArray, List.set_cons_zero, List.set_cons_succ]
  refine wpAnyH_take (i := 11) (v := .agg #[.int .i64 k.m.c0, .int .i64 k.m.c1, .int .i64 k.m.c2, .int .i64 k.m.c3, .int .i64 k.m.c4, .int .i64 k.m.c5, .int .i64 k.m.c6, .int .i64 k.m.c7, .int .i64 k.m.c8, .int .i64 k.m.c9]) rfl (by kernel_rfl) (by kernel_rfl) (by kernel_rfl) (fun _ _ _ h => h) (yields_at rfl 36 (.tmp 14) rfl (g) (3) rfl #[.int .i64 k.m.c0, .int .i64 k.m.c1, .int .i64 k.m.c2, .int .i64 k.m.c3, .int .i64 k.m.c4, .int .i64 k.m.c5, .int .i64 k.m.c6, .int .i64 k.m.c7, .int .i64 k.m.c8, .int .i64 k.m.c9] _ (fun w' h => (sk_cells h.1).2.2.2.1) Try.underlying36 rfl infoCm10) (by assumption) ?_
  simp only [Act.put, List.getElem_toArray, List.getElem_cons_zero, List.getElem_cons_succ, List.setIfInBounds_toArray, List.set_cons_zero, List.set_cons_succ]
  refine wpAnyH_take (i := 12) (v := .agg (#[.int .i64 k.s, .int .i64 k.b, .int .i64 k.m.c0, .int .i64 k.m.c1, .int .i64 k.m.c2, .int .i64 k.m.c3, .int .i64 k.m.c4, .int .i64 k.m.c5, .int .i64 k.m.c6, .int .i64 k.m.c7, .int .i64 k.m.c8, .int .i64 k.m.c9] : Array Value)) rfl (by kernel_rfl) (by kernel_rfl) (by kernel_rfl) (fun _ _ _ h => h) (yields_build rfl 56 _ rfl [(0, .int .i64 k.s), (1, .int .i64 k.b), (2, .agg #[.int .i64 k.m.c0, .int .i64 k.m.c1, .int .i64 k.m.c2, .int .i64 k.m.c3, .int .i64 k.m.c4, .int .i64 k.m.c5, .int .i64 k.m.c6, .int .i64 k.m.c7, .int .i64 k.m.c8, .int .i64 k.m.c9])] _ ((by (conv => lhs; simp only [List.map_toArray, List.map_cons, List.map_nil]); rfl)) (builtPaper k.s k.b k.m)) (by assumption) ?_
  simp only [Act.put, List.getElem_toArray, List.getElem_cons_zero, List.getElem_cons_succ, List.setIfInBounds_toArray, List.set_cons_zero, List.set_cons_succ]
  refine wpAnyH_ready (rs := [13]) (by kernel_rfl) (by simp) ?_
  refine AllReadyH.cons rfl (fun K hK => ?_) AllReadyH.nil
  go_simp
  (skip)
  refine hK.out _ _ ?_ (fun hHeld => ?_)
  · exact fS.out _ a1
  clear hK K
  refine wpAnyH_ready (rs := [14]) (by kernel_rfl) (by simp) ?_
  refine AllReadyH.cons rfl (fun K hK => ?_) AllReadyH.nil
  (refine wp_store_row 56 (.tmp 3) (.tmp 16) rfl w.heap.size (#[.int .i64 k.s, .int .i64 k.b, .int .i64 k.m.c0, .int .i64 k.m.c1, .int .i64 k.m.c2, .int .i64 k.m.c3, .int .i64 k.m.c4, .int .i64 k.m.c5, .int .i64 k.m.c6, .int .i64 k.m.c7, .int .i64 k.m.c8, .int .i64 k.m.c9] : Array Value) rfl rfl _ _ N1.out infoPpS (show (12 : Nat) = 12 from rfl) (all_of_list rfl) ?_)
  refine hK.out _ _ ?_ (fun hHeld => ?_)
  · exact fS.out _ b8
  clear hK K
  refine wpAnyH_done (by kernel_rfl) ?_ _
  refine NoPanic.normal ?_
  clear hHeld
  have b8' : Below w.heap.size w ((w.alloc (.cells #[.int .i64 0, .int .i64 0, .int .i64 0, .int .i64 0, .int .i64 0, .int .i64 0, .int .i64 0, .int .i64 0, .int .i64 0, .int .i64 0, .int .i64 0, .int .i64 0] 56)).drew.setRow w.heap.size (#[.int .i64 k.s, .int .i64 k.b, .int .i64 k.m.c0, .int .i64 k.m.c1, .int .i64 k.m.c2, .int .i64 k.m.c3, .int .i64 k.m.c4, .int .i64 k.m.c5, .int .i64 k.m.c6, .int .i64 k.m.c7, .int .i64 k.m.c8, .int .i64 k.m.c9] : Array Value)) := b8
  have N2' : Hid (((w.alloc (.cells #[.int .i64 0, .int .i64 0, .int .i64 0, .int .i64 0, .int .i64 0, .int .i64 0, .int .i64 0, .int .i64 0, .int .i64 0, .int .i64 0, .int .i64 0, .int .i64 0] 56)).drew.setRow w.heap.size (#[.int .i64 k.s, .int .i64 k.b, .int .i64 k.m.c0, .int .i64 k.m.c1, .int .i64 k.m.c2, .int .i64 k.m.c3, .int .i64 k.m.c4, .int .i64 k.m.c5, .int .i64 k.m.c6, .int .i64 k.m.c7, .int .i64 k.m.c8, .int .i64 k.m.c9] : Array Value)).heap[w.heap.size]? = some (.cells (#[.int .i64 k.s, .int .i64 k.b, .int .i64 k.m.c0, .int .i64 k.m.c1, .int .i64 k.m.c2, .int .i64 k.m.c3, .int .i64 k.m.c4, .int .i64 k.m.c5, .int .i64 k.m.c6, .int .i64 k.m.c7, .int .i64 k.m.c8, .int .i64 k.m.c9] : Array Value) 56 (0, 0))) := N2.out
  clear b8 N2 r8 N1 a1 dd
  generalize ((w.alloc (.cells #[.int .i64 0, .int .i64 0, .int .i64 0, .int .i64 0, .int .i64 0, .int .i64 0, .int .i64 0, .int .i64 0, .int .i64 0, .int .i64 0, .int .i64 0, .int .i64 0] 56)).drew.setRow w.heap.size (#[.int .i64 k.s, .int .i64 k.b, .int .i64 k.m.c0, .int .i64 k.m.c1, .int .i64 k.m.c2, .int .i64 k.m.c3, .int .i64 k.m.c4, .int .i64 k.m.c5, .int .i64 k.m.c6, .int .i64 k.m.c7, .int .i64 k.m.c8, .int .i64 k.m.c9] : Array Value)) = V at b8' N2' ⊢
  have b8 := b8'
  have N2 := N2'
  go_wp2_with (refine wpList_load_row rfl 56 (.tmp 3) rfl w.heap.size rfl _ _ (0, 0) _ N2.out Try.underlying56 rfl infoPpS ?_)
  refine (cF _).mono ?_
  rintro e V1 ⟨rfl, b1⟩
  have c1 := bAll b8 b1
  obtain ⟨-, -, x2, -, -, -, -, -⟩ := sk_cells (bKeeps c1 HG.out)
  cases j1
  · go_wp2
    go_ret
    exact ⟨by rw [hF.out]; rfl, c1⟩
  go_wp2_with fail
  refine (cW _).mono ?_
  rintro e V2 ⟨rfl, rfl⟩
  cases j2
  · go_wp2
    go_ret
    exact ⟨by rw [hF.out]; rfl, c1⟩
  go_wp2_with fail
  refine (cY _ (bKeeps c1 HG.out) (HR.out.keep c1)).mono ?_
  rintro e V3 ⟨rfl, rfl⟩
  cases j3
  · go_wp2
    go_ret
    exact ⟨by rw [hF.out]; rfl, c1⟩
  go_wp2_with fail
  refine (cB _ (bKeeps c1 HG.out)).mono ?_
  rintro e V4 ⟨rfl, b4⟩
  go_wp2
  go_ret
  exact ⟨by rw [hF.out]; rfl, bAll c1 b4⟩

set_option maxRecDepth 100000 in
set_option maxHeartbeats 8000000 in
theorem implSynSeekerOk_any (v : Value) (k : Sk) (w : World) (h : SkR w v k) :
    Calls Try.prog 29 #[v] w fun e w' => e = .returned (.bool (okS k)) ∧ Below w.heap.size w w' := by
  obtain ⟨yo, yc, rfl, hr⟩ := h
  obtain ⟨j1, hj1⟩ : ∃ j, noS k = j := ⟨_, rfl⟩
  have cN := fun g V h => isNothing_any g k yo yc V h
  rw [hj1] at cN
  have hF : Hid (okS k = (j1 || mayS k)) := by show _ = _; rw [okS, hj1]
  have HR := hide hr
  clear hj1 hr
  go_enter Try.func29, Try.ntmps29
  go_upto_region 1 with fail
  generalize hW : World.alloc _ _ = W
  have al : Below w.heap.size w W := by rw [← hW]; exact bal (Below.refl _ _) _
  have A0 : Hid (W.heap[w.heap.size]? = some (.cells (skarr k (.slice yo k.ys.length yc)) 66 (0, 0))) := by show _ = _; rw [← hW]; exact al1_0 w _
  clear hW
  go_wp2_with fail
  refine (cN _ _ A0.out).mono ?_
  rintro e V1 ⟨rfl, rfl⟩
  cases j1
  · go_wp2_with fail
    refine (maySeek_any _ k yo yc _ A0.out (HR.out.keep al)).mono ?_
    rintro e V2 ⟨rfl, b2⟩
    go_wp2
    go_ret
    exact ⟨by rw [hF.out]; rfl, bAll al b2⟩
  · go_wp2
    go_ret
    exact ⟨by rw [hF.out]; rfl, al⟩

end Go.Proofs.Ytkinbednlmfnnaa
