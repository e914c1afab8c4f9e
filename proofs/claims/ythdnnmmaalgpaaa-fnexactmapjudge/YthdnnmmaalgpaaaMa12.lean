/- Contracts and plain facts that this claim leans on (texts MJw); no statement of the seat is proved here. -/
import Derived.Test.YthdnnmmaalgpaaaMa11

/- What the law FnExactMapJudge does: its walk; the statement itself is proved elsewhere. -/
namespace Go.Proofs.Ythdnnmmaalgpaaa
open Go.RowKit

set_option maxRecDepth 100000 in
set_option maxHeartbeats 8000000 in
theorem mapJudge_walk (v : Value) (c : Ms) (n block epoch : Int) (wr : Bool) (w : World) (h : MsR w v c) :
    Calls Try.prog 5 #[v, .int .i64 n, .int .i64 block, .int .i64 epoch, .bool wr] w fun e w' => e = .returned (.bool true) ∧ Below w.heap.size w w' := by
  obtain ⟨ok, hok⟩ : ∃ ok, judgeM c n block epoch wr = ok := ⟨_, rfl⟩
  have cS := fun v w h => specMapJudge_any v c n block epoch wr w h
  have cI := fun v w h => implMapJudge_any v c n block epoch wr w h
  rw [hok] at cS cI
  clear hok
  have HV := hide h
  obtain ⟨cs, rfl, hs, -⟩ := h.agg
  have HI := hide (infoAt infoMsL hs)
  clear h hs
  go_enter Try.func5, Try.ntmps5
  go_upto_region 1 with fail
  generalize hW : World.alloc _ _ = W
  have al : Below w.heap.size w W := by rw [← hW]; exact bal (Below.refl _ _) _
  have B0 : Hid (W.heap[w.heap.size]? = some (.cells cs 35 (0, 0))) := by show _ = _; rw [← hW]; exact al1_0 w _
  have V0 := hide (HV.out.keep al)
  clear hW HV
  go_wp2_with (refine wpList_load_row rfl 35 (.tmp 5) rfl w.heap.size rfl _ cs (0, 0) _ B0.out Try.underlying35 rfl HI.out ?_)
  refine (szMapState_any _ c _ V0.out).mono ?_
  rintro e w1 ⟨r, rfl, hs, b1⟩
  rcases hs with hneg | ⟨hr0, hsm⟩
  · go_wp2
    go_ret
    exact ⟨rfl, bAll al b1⟩
  have hge : ¬ r < 0 := by omega
  have HS := hide hsm
  clear hr0 hsm
  have C1 := hide (bKeeps b1 B0.out)
  go_wp2_with (refine wpList_load_row rfl 35 (.tmp 5) rfl w.heap.size rfl _ cs (0, 0) _ C1.out Try.underlying35 rfl HI.out ?_)
  refine (toMapState_any _ c _ (V0.out.keep b1) HS.out).mono ?_
  rintro e w2 ⟨v2, rfl, d2, b2⟩
  have b2 := bAll b1 b2
  go_wp2_with fail
  refine (cS _ _ d2.reads).mono ?_
  rintro e w3 ⟨rfl, b3⟩
  have b3 := bAll b2 b3
  have C3 := hide (bKeeps b3 B0.out)
  clear d2 b1 C1
  go_wp2_with (refine wpList_load_row rfl 35 (.tmp 5) rfl w.heap.size rfl _ cs (0, 0) _ C3.out Try.underlying35 rfl HI.out ?_)
  refine (toMapState_any _ c _ (V0.out.keep b3) HS.out).mono ?_
  rintro e w4 ⟨v4, rfl, d4, b4⟩
  have b4 := bAll b3 b4
  obtain ⟨ds, rfl, hds, hd1⟩ := d4.reads.agg
  have GI := hide (infoAt infoMsI hds)
  have GZ := hide ((show (#[.int .i64 0, .int .i64 0, .int .i64 0, .slice none 0 0, .slice none 0 0, .slice none 0 0] : Array Value).size = 6 from rfl).trans hds.symm)
  have G1 := hide hd1
  have a5 := bal (Below.refl w4.heap.size w4) (.cells ds 26)
  have A5 := hide (heap_alloc_new w4 (.cells ds 26))
  have X5 := hide (d4.reads.keep a5)
  have b5 := bAll b4 a5
  clear d4 C3 hds hd1
  go_wp2_with (first
    | (refine wpList_store_row rfl 26 (.tmp 13) (.tmp 28) rfl w4.heap.size ds rfl rfl _ _ (heap_alloc_new w4 _) GI.out GZ.out G1.out ?_; rw [World.setRow_alloc_new])
    | (refine wpList_load_row rfl 26 (.tmp 13) rfl w4.heap.size rfl _ ds (0, 0) _ A5.out Try.underlying26 rfl GI.out ?_))
  refine (cI _ _ X5.out).mono ?_
  rintro e w6 ⟨rfl, b6⟩
  have A6 := hide (bKeeps b6 A5.out)
  have X6 := hide (X5.out.keep b6)
  have c6 := bAll b5 b6
  have dd := bDrewB (Below.refl w6.heap.size w6)
  have B6 := hide (bKeeps c6 B0.out)
  have V6 := hide (V0.out.keep c6)
  clear b6 a5 A5 X5 b5 b4 b3 b2 cS cI
  go_wp2
  refine wp_region_noPanic ?_
  refine wp_region_held_drew (S := (fun w' => w'.heap[w4.heap.size]? = some (.cells ds 26 (0, 0)) ∧ w'.heap[w.heap.size]? = some (.cells cs 35 (0, 0)))) (by kernel_rfl) ?_ (fun hHeld => ?_)
  · exact ⟨bKeeps dd A6.out, bKeeps dd B6.out⟩
  refine wpAnyH_take (i := 0) (v := .agg ds) rfl (by kernel_rfl) (by kernel_rfl) (by kernel_rfl) (fun _ _ _ h => h) (yields_row rfl 26 (.tmp 13) rfl (w4.heap.size) rfl _ ds _ (fun _ h => h.1) Try.underlying26 rfl GI.out) (by assumption) ?_
  simp only [Act.put, List.getElem_toArray, List.getElem_cons_zero, List.setIfInBounds_toArray, List.set_cons_zero, List.set_cons_succ]
  refine wpAnyH_take (i := 1) (v := .agg cs) rfl (by kernel_rfl) (by kernel_rfl) (by kernel_rfl) (fun _ _ _ h => h) (yields_row rfl 35 (.tmp 5) rfl (w.heap.size) rfl _ cs _ (fun _ h => h.2) Try.underlying35 rfl HI.out) (by assumption) ?_
  simp only [Act.put, List.getElem_toArray, List.getElem_cons_zero, List.getElem_cons_succ, List.setIfInBounds_toArray, List.set_cons_zero, List.set_cons_succ]
  refine wpAnyH_ready (rs := [2]) (by kernel_rfl) (by simp) ?_
  refine AllReadyH.cons rfl (fun K hK => ?_) AllReadyH.nil
  go_simp
  (go_at_call 13; refine (toMapState_any _ c _ (V6.out.keep dd) HS.out).mono ?_; rintro e w7 ⟨v7, rfl, d7, b7⟩; have b7' := bAll dd b7)
  refine hK.out _ _ ?_ (fun hHeld => ?_)
  · exact ⟨bKeeps b7' A6.out, bKeeps b7' B6.out⟩
  clear hK K
  refine wpAnyH_ready (rs := [3]) (by kernel_rfl) (by simp) ?_
  refine AllReadyH.cons rfl (fun K hK => ?_) AllReadyH.nil
  go_simp
  (go_at_call 8; refine (eqMapState_true _ _ c _ (X6.out.keep b7') d7.reads).mono ?_; rintro e w8 ⟨rfl, b8⟩; have b8' := bAll b7' b8)
  refine hK.out _ _ ?_ (fun hHeld => ?_)
  · exact ⟨bKeeps b8' A6.out, bKeeps b8' B6.out⟩
  clear hK K
  refine wpAnyH_take (i := 4) (v := ?v1) rfl (by kernel_rfl) (by kernel_rfl) (by kernel_rfl) (fun _ _ _ h => h) (Or.inl ⟨by rfl, ?hy1⟩) (by assumption) ?rest1
  case hy1 => ((intro w hSw; (try dsimp only at hSw); (try simp only [List.getElem_toArray, List.getElem_cons_zero, List.getElem_cons_succ]); go_simp; first | done | (with_reducible rfl)))
  simp only [Act.put, List.getElem_toArray, List.getElem_cons_zero, List.getElem_cons_succ, List.setIfInBounds_toArray, List.set_cons_zero, List.set_cons_succ]
  refine wpAnyH_done (by kernel_rfl) ?_ _
  refine NoPanic.normal ?_
  go_wp2
  go_ret
  exact ⟨rfl, bAll al (bAll c6 b8')⟩

end Go.Proofs.Ythdnnmmaalgpaaa
