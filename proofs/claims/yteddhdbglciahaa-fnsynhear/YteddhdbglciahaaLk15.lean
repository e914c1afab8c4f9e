/- Contracts and plain facts that this claim leans on (texts SH4, SH5, SH6, SH7, SH8); no statement of the seat is proved here. -/
import Derived.Test.YteddhdbglciahaaLk11
import Derived.Test.YteddhdbglciahaaLk8
import Derived.Test.YteddhdbglciahaaLk5
import Derived.Test.YteddhdbglciahaaLk14
import Derived.Test.YteddhdbglciahaaLk13

/- What the program's SynHear leans on: contracts; no statement of the seat is proved here. -/
namespace Go.Proofs.Yteddhdbglciahaa
open Go.RowKit

set_option maxRecDepth 100000 in
set_option maxHeartbeats 4000000 in
theorem forward_any (g : Nat) (k : Sk) (y : Value) (t : TypeId) (w : World) (hg : w.heap[g]? = some (.cells (skarr k y) t (0, 0))) :
    Calls Try.prog 162 #[.pointer (some ⟨g, 0, none⟩)] w fun e w' => e = .returned (.agg (wcmd (fwdW k))) ∧ Below w.heap.size w w' := by
  obtain ⟨z, hz⟩ : ∃ z, fwdW k = z := ⟨_, rfl⟩
  rw [hz]
  have HZZ := hide hz
  obtain ⟨j, hj⟩ : ∃ j, isZP k.p = j := ⟨_, rfl⟩
  have HJ := hide hj
  have HG := hide hg
  clear hz hj hg
  go_enter Try.func162, Try.ntmps162
  go_upto_region 1 with fail
  generalize hW : World.alloc _ _ = W
  have al : Below w.heap.size w W := by rw [← hW]; exact bal (Below.refl _ _) _
  have A1 : Hid (W.heap[w.heap.size]? = some (.cells #[.int .i64 0, .int .i64 0, .int .i64 0, .int .i64 0, .int .i64 0, .int .i64 0, .int .i64 0, .int .i64 0, .int .i64 0, .int .i64 0] 35 (0, 0))) := by show _ = _; rw [← hW]; exact al1_0 w _
  have A0 := hide (bKeeps al HG.out)
  clear hW
  obtain ⟨-, -, -, xm, xp, -, -, -⟩ := sk_cells A0.out
  have xc : ∀ j z, (#[.int .i64 k.p.2.2.c0, .int .i64 k.p.2.2.c1, .int .i64 k.p.2.2.c2, .int .i64 k.p.2.2.c3, .int .i64 k.p.2.2.c4, .int .i64 k.p.2.2.c5, .int .i64 k.p.2.2.c6, .int .i64 k.p.2.2.c7, .int .i64 k.p.2.2.c8, .int .i64 k.p.2.2.c9] : Array Value)[j]? = some z → W.cell? ⟨g, 15 + j, none⟩ = some z := fun j z hj => by
    have := xp (2 + j) z (pparr_cmd hj)
    rwa [← Nat.add_assoc] at this
  have XM := hide xm
  have XP := hide xp
  have XC := hide xc
  clear xm xp xc
  cases j
  · have ey : z = k.p.2.2 := by rw [← HZZ.out, fwdW, if_neg (by rw [HJ.out]; simp)]
    subst ey
    have s8 := updRow W w.heap.size #[.int .i64 k.p.2.2.c0, .int .i64 k.p.2.2.c1, .int .i64 k.p.2.2.c2, .int .i64 k.p.2.2.c3, .int .i64 k.p.2.2.c4, .int .i64 k.p.2.2.c5, .int .i64 k.p.2.2.c6, .int .i64 k.p.2.2.c7, .int .i64 k.p.2.2.c8, .int .i64 k.p.2.2.c9]
    go_wp2_with (first
      | (refine wpList_load_at (by rfl) 37 (.tmp 5) rfl g 13 rfl (pparr k.p) _ XP.out Try.underlying37 rfl infoPpS ?_)
      | (refine wpList_buildG (by rfl) 37 _ rfl [] _ rfl builtPaper0 ?_)
      | (refine wpList_eqlPaper (by rfl) _ _ _ rfl k.p rfl rfl ?_; rw [HJ.out])
      | (refine wpList_load_at (by rfl) 35 (.tmp 16) rfl g 15 rfl #[.int .i64 k.p.2.2.c0, .int .i64 k.p.2.2.c1, .int .i64 k.p.2.2.c2, .int .i64 k.p.2.2.c3, .int .i64 k.p.2.2.c4, .int .i64 k.p.2.2.c5, .int .i64 k.p.2.2.c6, .int .i64 k.p.2.2.c7, .int .i64 k.p.2.2.c8, .int .i64 k.p.2.2.c9] _ XC.out Try.underlying35 rfl infoCm10 ?_)
      | (refine wpList_store_row rfl 35 (.tmp 2) (.tmp 17) rfl w.heap.size #[.int .i64 k.p.2.2.c0, .int .i64 k.p.2.2.c1, .int .i64 k.p.2.2.c2, .int .i64 k.p.2.2.c3, .int .i64 k.p.2.2.c4, .int .i64 k.p.2.2.c5, .int .i64 k.p.2.2.c6, .int .i64 k.p.2.2.c7, .int .i64 k.p.2.2.c8, .int .i64 k.p.2.2.c9] rfl rfl _ _ A1.out infoCm10 (show (10 : Nat) = 10 from rfl) (all_of_list rfl) ?_))
    refine bodyPost_ret (v := .agg (wcmd k.p.2.2)) (results_cell_row Try.results162 _ _ w.heap.size _ _ (0, 0) _ rfl (setRow_heap _ _ _ _ _ _ A1.out) Try.underlying35 rfl infoCm10) rfl ?_
    exact ⟨rfl, al.trans (s8.below al.size (fun j h => by omega))⟩
  · have ey : z = k.m := by rw [← HZZ.out, fwdW, if_pos HJ.out]
    subst ey
    have s8 := updRow W w.heap.size #[.int .i64 k.m.c0, .int .i64 k.m.c1, .int .i64 k.m.c2, .int .i64 k.m.c3, .int .i64 k.m.c4, .int .i64 k.m.c5, .int .i64 k.m.c6, .int .i64 k.m.c7, .int .i64 k.m.c8, .int .i64 k.m.c9]
    go_wp2_with (first
      | (refine wpList_load_at (by rfl) 37 (.tmp 5) rfl g 13 rfl (pparr k.p) _ XP.out Try.underlying37 rfl infoPpS ?_)
      | (refine wpList_buildG (by rfl) 37 _ rfl [] _ rfl builtPaper0 ?_)
      | (refine wpList_eqlPaper (by rfl) _ _ _ rfl k.p rfl rfl ?_; rw [HJ.out])
      | (refine wpList_load_at (by rfl) 35 (.tmp 11) rfl g 3 rfl #[.int .i64 k.m.c0, .int .i64 k.m.c1, .int .i64 k.m.c2, .int .i64 k.m.c3, .int .i64 k.m.c4, .int .i64 k.m.c5, .int .i64 k.m.c6, .int .i64 k.m.c7, .int .i64 k.m.c8, .int .i64 k.m.c9] _ XM.out Try.underlying35 rfl infoCm10 ?_)
      | (refine wpList_store_row rfl 35 (.tmp 2) (.tmp 12) rfl w.heap.size #[.int .i64 k.m.c0, .int .i64 k.m.c1, .int .i64 k.m.c2, .int .i64 k.m.c3, .int .i64 k.m.c4, .int .i64 k.m.c5, .int .i64 k.m.c6, .int .i64 k.m.c7, .int .i64 k.m.c8, .int .i64 k.m.c9] rfl rfl _ _ A1.out infoCm10 (show (10 : Nat) = 10 from rfl) (all_of_list rfl) ?_))
    refine bodyPost_ret (v := .agg (wcmd k.m)) (results_cell_row Try.results162 _ _ w.heap.size _ _ (0, 0) _ rfl (setRow_heap _ _ _ _ _ _ A1.out) Try.underlying35 rfl infoCm10) rfl ?_
    exact ⟨rfl, al.trans (s8.below al.size (fun j h => by omega))⟩

end Go.Proofs.Yteddhdbglciahaa

/- May a seeker hear a word; the phase of a seeker: contracts; no statement of the seat is proved here. -/
namespace Go.Proofs.Yteddhdbglciahaa
open Go.RowKit

def mayH (k : Sk) (x : Wd) : Bool := okW x && (inI x.a1 0 2 && (!decide (x.a1 ∈ k.ys) && ((x.a3 == k.b) && (x.a4 == k.s))))

set_option maxRecDepth 100000 in
set_option maxHeartbeats 8000000 in
theorem mayHear_any (g : Nat) (k : Sk) (yo : Option Addr) (yc : Nat) (t : TypeId) (u : Value) (x : Wd) (w : World) (hg : w.heap[g]? = some (.cells (skarr k (.slice yo k.ys.length yc)) t (0, 0))) (hr : RowR w 1 (.slice yo k.ys.length yc) k.ys.length (ints k.ys)) (hx : WdR w u x) :
    Calls Try.prog 51 #[.pointer (some ⟨g, 0, none⟩), u] w fun e w' => e = .returned (.bool (mayH k x)) ∧ Below w.heap.size w w' := by
  obtain ⟨cs, rfl, hs, -⟩ := hx.agg
  have HX := hide hx
  have HXC := hide hx.cells
  have HI := hide (infoAt infoWd hs)
  have HG := hide hg
  have HR := hide hr
  obtain ⟨j3, hj3⟩ : ∃ j, okW x = j := ⟨_, rfl⟩
  obtain ⟨j4, hj4⟩ : ∃ j, (x.a3 == k.b) = j := ⟨_, rfl⟩
  obtain ⟨j5, hj5⟩ : ∃ j, (x.a4 == k.s) = j := ⟨_, rfl⟩
  obtain ⟨j6, hj6⟩ : ∃ j, inI x.a1 0 2 = j := ⟨_, rfl⟩
  obtain ⟨j8, hj8⟩ : ∃ j, decide (x.a1 ∈ k.ys) = j := ⟨_, rfl⟩
  have HM : Hid (mayH k x = (j3 && (j6 && (!j8 && (j4 && j5))))) := by show _ = _; rw [mayH, hj3, hj4, hj5, hj6, hj8]
  have dO := fun v V h => implWordOk_any v x V h
  have dV := fun V => synIsVoter_any x.a1 V
  have dC := fun v V h => contains_any v k.ys x.a1 V h
  rw [hj3] at dO
  rw [hj6] at dV
  rw [hj8] at dC
  have H4 := hide hj4
  have H5 := hide hj5
  clear hj3 hj4 hj5 hj6 hj8 hx hs hg hr
  go_enter Try.func51, Try.ntmps51
  go_upto_region 1 with fail
  generalize hW : World.alloc _ _ = W
  have al : Below w.heap.size w W := by rw [← hW]; exact bal (Below.refl _ _) _
  have A0 : Hid (W.heap[w.heap.size]? = some (.cells cs 47 (0, 0))) := by show _ = _; rw [← hW]; exact al1_0 w _
  clear hW
  have FS : Hid (∀ V : World, Below W.heap.size W V → V.heap[w.heap.size]? = some (.cells cs 47 (0, 0)) ∧ V.cell? ⟨w.heap.size, 1, none⟩ = some (.int .i64 x.a1) ∧ V.cell? ⟨w.heap.size, 3, none⟩ = some (.int .i64 x.a3) ∧ V.cell? ⟨w.heap.size, 4, none⟩ = some (.int .i64 x.a4) ∧ V.cell? ⟨g, 0, none⟩ = some (.int .i64 k.s) ∧ V.cell? ⟨g, 1, none⟩ = some (.int .i64 k.b) ∧ V.cell? ⟨g, 25, none⟩ = some (.slice yo k.ys.length yc)) := fun V hV => by
    have q := bKeeps hV A0.out
    have r := sk_cells (bKeeps (bAll al hV) HG.out)
    exact ⟨q, (boxAt q 1).trans HXC.out.2.1, (boxAt q 3).trans HXC.out.2.2.1, (boxAt q 4).trans HXC.out.2.2.2.1, r.1, r.2.1, r.2.2.2.2.2.2.2⟩
  have dd := bDrewB (Below.refl W.heap.size W)
  go_wp2
  refine wp_region_noPanic ?_
  refine wp_region_held_drew (S := (fun V => V.heap[w.heap.size]? = some (.cells cs 47 (0, 0)) ∧ V.cell? ⟨w.heap.size, 1, none⟩ = some (.int .i64 x.a1) ∧ V.cell? ⟨w.heap.size, 3, none⟩ = some (.int .i64 x.a3) ∧ V.cell? ⟨w.heap.size, 4, none⟩ = some (.int .i64 x.a4) ∧ V.cell? ⟨g, 0, none⟩ = some (.int .i64 k.s) ∧ V.cell? ⟨g, 1, none⟩ = some (.int .i64 k.b) ∧ V.cell? ⟨g, 25, none⟩ = some (.slice yo k.ys.length yc))) (by kernel_rfl) ?_ (fun hHeld => ?_)
  · exact FS.out _ dd
  refine wpAnyH_take (i := 0) (v := .agg cs) rfl (by kernel_rfl) (by kernel_rfl) (by kernel_rfl) (fun _ _ _ h => h) (yields_row rfl 47 (.tmp 3) rfl (w.heap.size) rfl _ cs _ (fun _ h => h.1) Try.underlying47 rfl HI.out) (by assumption) ?_
  simp only [Act.put, List.getElem_toArray, List.getElem_cons_zero, List.setIfInBounds_toArray, List.set_cons_zero, List.set_cons_succ]
  refine wpAnyH_ready (rs := [1]) (by kernel_rfl) (by simp) ?_
  refine AllReadyH.cons rfl (fun K hK => ?_) AllReadyH.nil
  go_simp
  (go_at_call 101; refine (dO _ _ (HX.out.keep (bAll al dd))).mono ?_; rintro e V1 ⟨rfl, b1⟩; have b1' := bAll dd b1)
  refine hK.out _ _ ?_ (fun hHeld => ?_)
  · exact FS.out _ b1'
  clear hK K
  refine wpAnyH_take (i := 2) (v := ?v1) rfl (by kernel_rfl) (by kernel_rfl) (by kernel_rfl) (fun _ _ _ h => h) (Or.inl ⟨by rfl, ?hy1⟩) (by assumption) ?rest1
  case hy1 => ((intro w hSw; (try dsimp only at hSw); (try simp only [List.getElem_toArray, List.getElem_cons_zero, List.getElem_cons_succ]); go_simp; first | done | (with_reducible rfl)))
  simp only [Act.put, List.getElem_toArray, List.getElem_cons_zero, List.getElem_cons_succ, List.setIfInBounds_toArray, List.set_cons_zero, List.set_cons_succ]
  cases j3
  · skip
    refine wpAnyH_take (i := 3) (v := undef) rfl (by kernel_rfl) (by kernel_rfl) (by kernel_rfl) (fun _ _ _ h => h) (Or.inr ⟨by rfl, rfl⟩) (by assumption) ?_
    simp only [Act.put, List.getElem_toArray, List.getElem_cons_zero, List.getElem_cons_succ, List.setIfInBounds_toArray, List.set_cons_zero, List.set_cons_succ]
    refine wpAnyH_take (i := 4) (v := undef) rfl (by kernel_rfl) (by kernel_rfl) (by kernel_rfl) (fun _ _ _ h => h) (Or.inr ⟨by rfl, rfl⟩) (by assumption) ?_
    simp only [Act.put, List.getElem_toArray, List.getElem_cons_zero, List.getElem_cons_succ, List.setIfInBounds_toArray, List.set_cons_zero, List.set_cons_succ]
    refine wpAnyH_take (i := 5) (v := undef) rfl (by kernel_rfl) (by kernel_rfl) (by kernel_rfl) (fun _ _ _ h => h) (Or.inr ⟨by rfl, rfl⟩) (by assumption) ?_
    simp only [Act.put, List.getElem_toArray, List.getElem_cons_zero, List.getElem_cons_succ, List.setIfInBounds_toArray, List.set_cons_zero, List.set_cons_succ]
    refine wpAnyH_take (i := 6) (v := ?v2) rfl (by kernel_rfl) (by kernel_rfl) (by kernel_rfl) (fun _ _ _ h => h) (Or.inl ⟨by rfl, ?hy2⟩) (by assumption) ?rest2
    case hy2 => ((intro w hSw; (try dsimp only at hSw); (try simp only [List.getElem_toArray, List.getElem_cons_zero, List.getElem_cons_succ]); go_simp; first | done | (with_reducible rfl)))
    simp only [Act.put, List.getElem_toArray, List.getElem_cons_zero, List.getElem_cons_succ, List.setIfInBounds_toArray, List.set_cons_zero, List.set_cons_succ]
    refine wpAnyH_take (i := 7) (v := ?v3) rfl (by kernel_rfl) (by kernel_rfl) (by kernel_rfl) (fun _ _ _ h => h) (Or.inl ⟨by rfl, ?hy3⟩) (by assumption) ?rest3
    case hy3 => ((intro w hSw; (try dsimp only at hSw); (try simp only [List.getElem_toArray, List.getElem_cons_zero, List.getElem_cons_succ]); go_simp; first | done | (with_reducible rfl)))
    simp only [Act.put, List.getElem_toArray, List.getElem_cons_zero, List.getElem_cons_succ, List.setIfInBounds_toArray, List.set_cons_zero, List.set_cons_succ]
    refine wpAnyH_take (i := 8) (v := undef) rfl (by kernel_rfl) (by kernel_rfl) (by kernel_rfl) (fun _ _ _ h => h) (Or.inr ⟨by rfl, rfl⟩) (by assumption) ?_
    simp only [Act.put, List.getElem_toArray, List.getElem_cons_zero, List.getElem_cons_succ, List.setIfInBounds_toArray, List.set_cons_zero, List.set_cons_succ]
    refine wpAnyH_take (i := 9) (v := undef) rfl (by kernel_rfl) (by kernel_rfl) (by kernel_rfl) (fun _ _ _ h => h) (Or.inr ⟨by rfl, rfl⟩) (by assumption) ?_
    simp only [Act.put, List.getElem_toArray, List.getElem_cons_zero, List.getElem_cons_succ, List.setIfInBounds_toArray, List.set_cons_zero, List.set_cons_succ]
    refine wpAnyH_take (i := 10) (v := undef) rfl (by kernel_rfl) (by kernel_rfl) (by kernel_rfl) (fun _ _ _ h => h) (Or.inr ⟨by rfl, rfl⟩) (by assumption) ?_
    simp only [Act.put, List.getElem_toArray, List.getElem_cons_zero, List.getElem_cons_succ, List.setIfInBounds_toArray, List.set_cons_zero, List.set_cons_succ]
    refine wpAnyH_take (i := 11) (v := undef) rfl (by kernel_rfl) (by kernel_rfl) (by kernel_rfl) (fun _ _ _ h => h) (Or.inr ⟨by rfl, rfl⟩) (by assumption) ?_
    simp only [Act.put, List.getElem_toArray, List.getElem_cons_zero, List.getElem_cons_succ, List.setIfInBounds_toArray, List.set_cons_zero, List.set_cons_succ]
    refine wpAnyH_take (i := 12) (v := undef) rfl (by kernel_rfl) (by kernel_rfl) (by kernel_rfl) (fun _ _ _ h => h) (Or.inr ⟨by rfl, rfl⟩) (by assumption) ?_
    simp only [Act.put, List.getElem_toArray, List.getElem_cons_zero, List.getElem_cons_succ, List.setIfInBounds_toArray, List.set_cons_zero, List.set_cons_succ]
    refine wpAnyH_take (i := 13) (v := undef) rfl (by kernel_rfl) (by kernel_rfl) (by kernel_rfl) (fun _ _ _ h => h) (Or.inr ⟨by rfl, rfl⟩) (by assumption) ?_
    simp only [Act.put, List.getElem_toArray, List.getElem_cons_zero, List.getElem_cons_succ, List.setIfInBounds_toArray, List.set_cons_zero, List.set_cons_succ]
    refine wpAnyH_take (i := 14) (v := undef) rfl (by kernel_rfl) (by kernel_rfl) (by kernel_rfl) (fun _ _ _ h => h) (Or.inr ⟨by rfl, rfl⟩) (by assumption) ?_
    simp only [Act.put, List.getElem_toArray, List.getElem_cons_zero, List.getElem_cons_succ, List.setIfInBounds_toArray, List.set_cons_zero, List.set_cons_succ]
    refine wpAnyH_take (i := 15) (v := undef) rfl (by kernel_rfl) (by kernel_rfl) (by kernel_rfl) (fun _ _ _ h => h) (Or.inr ⟨by rfl, rfl⟩) (by assumption) ?_
    simp only [Act.put, List.getElem_toArray, List.getElem_cons_zero, List.getElem_cons_succ, List.setIfInBounds_toArray, List.set_cons_zero, List.set_cons_succ]
    refine wpAnyH_take (i := 16) (v := ?v4) rfl (by kernel_rfl) (by kernel_rfl) (by kernel_rfl) (fun _ _ _ h => h) (Or.inl ⟨by rfl, ?hy4⟩) (by assumption) ?rest4
    case hy4 => ((intro w hSw; (try dsimp only at hSw); (try simp only [List.getElem_toArray, List.getElem_cons_zero, List.getElem_cons_succ]); go_simp; first | done | (with_reducible rfl)))
    simp only [Act.put, List.getElem_toArray, List.getElem_cons_zero, List.getElem_cons_succ, List.setIfInBounds_toArray, List.set_cons_zero, List.set_cons_succ]
    refine wpAnyH_take (i := 17) (v := ?v5) rfl (by kernel_rfl) (by kernel_rfl) (by kernel_rfl) (fun _ _ _ h => h) (Or.inl ⟨by rfl, ?hy5⟩) (by assumption) ?rest5
    case hy5 => ((intro w hSw; (try dsimp only at hSw); (try simp only [List.getElem_toArray, List.getElem_cons_zero, List.getElem_cons_succ]); go_simp; first | done | (with_reducible rfl)))
    simp only [Act.put, List.getElem_toArray, List.getElem_cons_zero, List.getElem_cons_succ, List.setIfInBounds_toArray, List.set_cons_zero, List.set_cons_succ]
    refine wpAnyH_take (i := 18) (v := undef) rfl (by kernel_rfl) (by kernel_rfl) (by kernel_rfl) (fun _ _ _ h => h) (Or.inr ⟨by rfl, rfl⟩) (by assumption) ?_
    simp only [Act.put, List.getElem_toArray, List.getElem_cons_zero, List.getElem_cons_succ, List.setIfInBounds_toArray, List.set_cons_zero, List.set_cons_succ]
    refine wpAnyH_take (i := 19) (v := undef) rfl (by kernel_rfl) (by kernel_rfl) (by kernel_rfl) (fun _ _ _ h => h) (Or.inr ⟨by rfl, rfl⟩) (by assumption) ?_
    simp only [Act.put, List.getElem_toArray, List.getElem_cons_zero, List.getElem_cons_succ, List.setIfInBounds_toArray, List.set_cons_zero, List.set_cons_succ]
    refine wpAnyH_take (i := 20) (v := undef) rfl (by kernel_rfl) (by kernel_rfl) (by kernel_rfl) (fun _ _ _ h => h) (Or.inr ⟨by rfl, rfl⟩) (by assumption) ?_
    simp only [Act.put, List.getElem_toArray, List.getElem_cons_zero, List.getElem_cons_succ, List.setIfInBounds_toArray, List.set_cons_zero, List.set_cons_succ]
    refine wpAnyH_take (i := 21) (v := undef) rfl (by kernel_rfl) (by kernel_rfl) (by kernel_rfl) (fun _ _ _ h => h) (Or.inr ⟨by rfl, rfl⟩) (by assumption) ?_
    simp only [Act.put, List.getElem_toArray, List.getElem_cons_zero, List.getElem_cons_succ, List.setIfInBounds_toArray, List.set_cons_zero, List.set_cons_succ]
    refine wpAnyH_take (i := 22) (v := undef) rfl (by kernel_rfl) (by kernel_rfl) (by kernel_rfl) (fun _ _ _ h => h) (Or.inr ⟨by rfl, rfl⟩) (by assumption) ?_
    simp only [Act.put, List.getElem_toArray, List.getElem_cons_zero, List.getElem_cons_succ, List.setIfInBounds_toArray, List.set_cons_zero, List.set_cons_succ]
    refine wpAnyH_take (i := 23) (v := undef) rfl (by kernel_rfl) (by kernel_rfl) (by kernel_rfl) (fun _ _ _ h => h) (Or.inr ⟨by rfl, rfl⟩) (by assumption) ?_
    simp only [Act.put, List.getElem_toArray, List.getElem_cons_zero, List.getElem_cons_succ, List.setIfInBounds_toArray, List.set_cons_zero, List.set_cons_succ]
    refine wpAnyH_take (i := 24) (v := undef) rfl (by kernel_rfl) (by kernel_rfl) (by kernel_rfl) (fun _ _ _ h => h) (Or.inr ⟨by rfl, rfl⟩) (by assumption) ?_
    simp only [Act.put, List.getElem_toArray, List.getElem_cons_zero, List.getElem_cons_succ, List.setIfInBounds_toArray, List.set_cons_zero, List.set_cons_succ]
    refine wpAnyH_take (i := 25) (v := ?v6) rfl (by kernel_rfl) (by kernel_rfl) (by kernel_rfl) (fun _ _ _ h => h) (Or.inl ⟨by rfl, ?hy6⟩) (by assumption) ?rest6
    case hy6 => ((intro w hSw; (try dsimp only at hSw); (try simp only [List.getElem_toArray, List.getElem_cons_zero, List.getElem_cons_succ]); go_simp; first | done | (with_reducible rfl)))
    simp only [Act.put, List.getElem_toArray, List.getElem_cons_zero, List.getElem_cons_succ, List.setIfInBounds_toArray, List.set_cons_zero, List.set_cons_succ]
    refine wpAnyH_take (i := 26) (v := ?v7) rfl (by kernel_rfl) (by kernel_rfl) (by kernel_rfl) (fun _ _ _ h => h) (Or.inl ⟨by rfl, ?hy7⟩) (by assumption) ?rest7
    case hy7 => ((intro w hSw; (try dsimp only at hSw); (try simp only [List.getElem_toArray, List.getElem_cons_zero, List.getElem_cons_succ]); go_simp; first | done | (with_reducible rfl)))
    simp only [Act.put, List.getElem_toArray, List.getElem_cons_zero, List.getElem_cons_succ, List.setIfInBounds_toArray, List.set_cons_zero, List.set_cons_succ]
    refine wpAnyH_take (i := 27) (v := undef) rfl (by kernel_rfl) (by kernel_rfl) (by kernel_rfl) (fun _ _ _ h => h) (Or.inr ⟨by rfl, rfl⟩) (by assumption) ?_
    simp only [Act.put, List.getElem_toArray, List.getElem_cons_zero, List.getElem_cons_succ, List.setIfInBounds_toArray, List.set_cons_zero, List.set_cons_succ]
    refine wpAnyH_take (i := 28) (v := undef) rfl (by kernel_rfl) (by kernel_rfl) (by kernel_rfl) (fun _ _ _ h => h) (Or.inr ⟨by rfl, rfl⟩) (by assumption) ?_
    simp only [Act.put, List.getElem_toArray, List.getElem_cons_zero, List.getElem_cons_succ, List.setIfInBounds_toArray, List.set_cons_zero, List.set_cons_succ]
    refine wpAnyH_take (i := 29) (v := undef) rfl (by kernel_rfl) (by kernel_rfl) (by kernel_rfl) (fun _ _ _ h => h) (Or.inr ⟨by rfl, rfl⟩) (by assumption) ?_
    simp only [Act.put, List.getElem_toArray, List.getElem_cons_zero, List.getElem_cons_succ, List.setIfInBounds_toArray, List.set_cons_zero, List.set_cons_succ]
    refine wpAnyH_take (i := 30) (v := undef) rfl (by kernel_rfl) (by kernel_rfl) (by kernel_rfl) (fun _ _ _ h => h) (Or.inr ⟨by rfl, rfl⟩) (by assumption) ?_
    simp only [Act.put, List.getElem_toArray, List.getElem_cons_zero, List.getElem_cons_succ, List.setIfInBounds_toArray, List.set_cons_zero, List.set_cons_succ]
    refine wpAnyH_take (i := 31) (v := undef) rfl (by kernel_rfl) (by kernel_rfl) (by kernel_rfl) (fun _ _ _ h => h) (Or.inr ⟨by rfl, rfl⟩) (by assumption) ?_
    simp only [Act.put, List.getElem_toArray, List.getElem_cons_zero, List.getElem_cons_succ, List.setIfInBounds_toArray, List.set_cons_zero, List.set_cons_succ]
    refine wpAnyH_take (i := 32) (v := undef) rfl (by kernel_rfl) (by kernel_rfl) (by kernel_rfl) (fun _ _ _ h => h) (Or.inr ⟨by rfl, rfl⟩) (by assumption) ?_
    simp only [Act.put, List.getElem_toArray, List.getElem_cons_zero, List.getElem_cons_succ, List.setIfInBounds_toArray, List.set_cons_zero, List.set_cons_succ]
    refine wpAnyH_take (i := 33) (v := undef) rfl (by kernel_rfl) (by kernel_rfl) (by kernel_rfl) (fun _ _ _ h => h) (Or.inr ⟨by rfl, rfl⟩) (by assumption) ?_
    simp only [Act.put, List.getElem_toArray, List.getElem_cons_zero, List.getElem_cons_succ, List.setIfInBounds_toArray, List.set_cons_zero, List.set_cons_succ]
    refine wpAnyH_take (i := 34) (v := ?v8) rfl (by kernel_rfl) (by kernel_rfl) (by kernel_rfl) (fun _ _ _ h => h) (Or.inl ⟨by rfl, ?hy8⟩) (by assumption) ?rest8
    case hy8 => ((intro w hSw; (try dsimp only at hSw); (try simp only [List.getElem_toArray, List.getElem_cons_zero, List.getElem_cons_succ]); go_simp; first | done | (with_reducible rfl)))
    simp only [Act.put, List.getElem_toArray, List.getElem_cons_zero, List.getElem_cons_succ, List.setIfInBounds_toArray, List.set_cons_zero, List.set_cons_succ]
    refine wpAnyH_take (i := 35) (v := ?v9) rfl (by kernel_rfl) (by kernel_rfl) (by kernel_rfl) (fun _ _ _ h => h) (Or.inl ⟨by rfl, ?hy9⟩) (by assumption) ?rest9
    case hy9 => ((intro w hSw; (try dsimp only at hSw); (try simp only [List.getElem_toArray, List.getElem_cons_zero, List.getElem_cons_succ]); go_simp; first | done | (with_reducible rfl)))
    simp only [Act.put, List.getElem_toArray, List.getElem_cons_zero, List.getElem_cons_succ, List.setIfInBounds_toArray, List.set_cons_zero, List.set_cons_succ]
    refine wpAnyH_done (by kernel_rfl) ?_ _
    refine NoPanic.normal ?_
    go_wp2
    go_ret
    exact ⟨by rw [HM.out]; rfl, bAll al b1'⟩
  · skip
    refine wpAnyH_take (i := 3) (v := ?v10) rfl (by kernel_rfl) (by kernel_rfl) (by kernel_rfl) (fun _ _ _ h => h) (Or.inl ⟨by rfl, ?hy10⟩) (by assumption) ?rest10
    case hy10 => ((intro w hSw; (try dsimp only at hSw); (try simp only [List.getElem_toArray, List.getElem_cons_zero, List.getElem_cons_succ]); go_simp; first | done | (with_reducible rfl)))
    simp only [Act.put, List.getElem_toArray, List.getElem_cons_zero, List.getElem_cons_succ, List.setIfInBounds_toArray, List.set_cons_zero, List.set_cons_succ]
    refine wpAnyH_take (i := 4) (v := ?v11) rfl (by kernel_rfl) (by kernel_rfl) (by kernel_rfl) (fun _ _ _ h => h) (Or.inl ⟨by rfl, ?hy11⟩) (by assumption) ?rest11
    case hy11 => ((intro w hSw; (try dsimp only at hSw); (try simp only [List.getElem_toArray, List.getElem_cons_zero, List.getElem_cons_succ]); go_simp; first | done | (with_reducible rfl)))
    simp only [Act.put, List.getElem_toArray, List.getElem_cons_zero, List.getElem_cons_succ, List.setIfInBounds_toArray, List.set_cons_zero, List.set_cons_succ]
    refine wpAnyH_ready (rs := [5]) (by kernel_rfl) (by simp) ?_
    refine AllReadyH.cons rfl (fun K hK => ?_) AllReadyH.nil
    go_simp
    (go_at_call 112; refine (dV _).mono ?_; rintro e V2 ⟨rfl, rfl⟩)
    refine hK.out _ _ ?_ (fun hHeld => ?_)
    · exact FS.out _ b1'
    clear hK K
    refine wpAnyH_take (i := 6) (v := ?v12) rfl (by kernel_rfl) (by kernel_rfl) (by kernel_rfl) (fun _ _ _ h => h) (Or.inl ⟨by rfl, ?hy12⟩) (by assumption) ?rest12
    case hy12 => ((intro w hSw; (try dsimp only at hSw); (try simp only [List.getElem_toArray, List.getElem_cons_zero, List.getElem_cons_succ]); go_simp; first | done | (with_reducible rfl)))
    simp only [Act.put, List.getElem_toArray, List.getElem_cons_zero, List.getElem_cons_succ, List.setIfInBounds_toArray, List.set_cons_zero, List.set_cons_succ]
    refine wpAnyH_take (i := 7) (v := ?v13) rfl (by kernel_rfl) (by kernel_rfl) (by kernel_rfl) (fun _ _ _ h => h) (Or.inl ⟨by rfl, ?hy13⟩) (by assumption) ?rest13
    case hy13 => ((intro w hSw; (try dsimp only at hSw); (try simp only [List.getElem_toArray, List.getElem_cons_zero, List.getElem_cons_succ]); go_simp; first | done | (with_reducible rfl)))
    simp only [Act.put, List.getElem_toArray, List.getElem_cons_zero, List.getElem_cons_succ, List.setIfInBounds_toArray, List.set_cons_zero, List.set_cons_succ]
    cases j6
    · skip
      refine wpAnyH_take (i := 8) (v := undef) rfl (by kernel_rfl) (by kernel_rfl) (by kernel_rfl) (fun _ _ _ h => h) (Or.inr ⟨by rfl, rfl⟩) (by assumption) ?_
      simp only [Act.put, List.getElem_toArray, List.getElem_cons_zero, List.getElem_cons_succ, List.setIfInBounds_toArray, List.set_cons_zero, List.set_cons_succ]
      refine wpAnyH_take (i := 9) (v := undef) rfl (by kernel_rfl) (by kernel_rfl) (by kernel_rfl) (fun _ _ _ h => h) (Or.inr ⟨by rfl, rfl⟩) (by assumption) ?_
      simp only [Act.put, List.getElem_toArray, List.getElem_cons_zero, List.getElem_cons_succ, List.setIfInBounds_toArray, List.set_cons_zero, List.set_cons_succ]
      refine wpAnyH_take (i := 10) (v := undef) rfl (by kernel_rfl) (by kernel_rfl) (by kernel_rfl) (fun _ _ _ h => h) (Or.inr ⟨by rfl, rfl⟩) (by assumption) ?_
      simp only [Act.put, List.getElem_toArray, List.getElem_cons_zero, List.getElem_cons_succ, List.setIfInBounds_toArray, List.set_cons_zero, List.set_cons_succ]
      refine wpAnyH_take (i := 11) (v := undef) rfl (by kernel_rfl) (by kernel_rfl) (by kernel_rfl) (fun _ _ _ h => h) (Or.inr ⟨by rfl, rfl⟩) (by assumption) ?_
      simp only [Act.put, List.getElem_toArray, List.getElem_cons_zero, List.getElem_cons_succ, List.setIfInBounds_toArray, List.set_cons_zero, List.set_cons_succ]
      refine wpAnyH_take (i := 12) (v := undef) rfl (by kernel_rfl) (by kernel_rfl) (by kernel_rfl) (fun _ _ _ h => h) (Or.inr ⟨by rfl, rfl⟩) (by assumption) ?_
      simp only [Act.put, List.getElem_toArray, List.getElem_cons_zero, List.getElem_cons_succ, List.setIfInBounds_toArray, List.set_cons_zero, List.set_cons_succ]
      refine wpAnyH_take (i := 13) (v := undef) rfl (by kernel_rfl) (by kernel_rfl) (by kernel_rfl) (fun _ _ _ h => h) (Or.inr ⟨by rfl, rfl⟩) (by assumption) ?_
      simp only [Act.put, List.getElem_toArray, List.getElem_cons_zero, List.getElem_cons_succ, List.setIfInBounds_toArray, List.set_cons_zero, List.set_cons_succ]
      refine wpAnyH_take (i := 14) (v := undef) rfl (by kernel_rfl) (by kernel_rfl) (by kernel_rfl) (fun _ _ _ h => h) (Or.inr ⟨by rfl, rfl⟩) (by assumption) ?_
      simp only [Act.put, List.getElem_toArray, List.getElem_cons_zero, List.getElem_cons_succ, List.setIfInBounds_toArray, List.set_cons_zero, List.set_cons_succ]
      refine wpAnyH_take (i := 15) (v := undef) rfl (by kernel_rfl) (by kernel_rfl) (by kernel_rfl) (fun _ _ _ h => h) (Or.inr ⟨by rfl, rfl⟩) (by assumption) ?_
      simp only [Act.put, List.getElem_toArray, List.getElem_cons_zero, List.getElem_cons_succ, List.setIfInBounds_toArray, List.set_cons_zero, List.set_cons_succ]
      refine wpAnyH_take (i := 16) (v := ?v14) rfl (by kernel_rfl) (by kernel_rfl) (by kernel_rfl) (fun _ _ _ h => h) (Or.inl ⟨by rfl, ?hy14⟩) (by assumption) ?rest14
      case hy14 => ((intro w hSw; (try dsimp only at hSw); (try simp only [List.getElem_toArray, List.getElem_cons_zero, List.getElem_cons_succ]); go_simp; first | done | (with_reducible rfl)))
      simp only [Act.put, List.getElem_toArray, List.getElem_cons_zero, List.getElem_cons_succ, List.setIfInBounds_toArray, List.set_cons_zero, List.set_cons_succ]
      refine wpAnyH_take (i := 17) (v := ?v15) rfl (by kernel_rfl) (by kernel_rfl) (by kernel_rfl) (fun _ _ _ h => h) (Or.inl ⟨by rfl, ?hy15⟩) (by assumption) ?rest15
      case hy15 => ((intro w hSw; (try dsimp only at hSw); (try simp only [List.getElem_toArray, List.getElem_cons_zero, List.getElem_cons_succ]); go_simp; first | done | (with_reducible rfl)))
      simp only [Act.put, List.getElem_toArray, List.getElem_cons_zero, List.getElem_cons_succ, List.setIfInBounds_toArray, List.set_cons_zero, List.set_cons_succ]
      refine wpAnyH_take (i := 18) (v := undef) rfl (by kernel_rfl) (by kernel_rfl) (by kernel_rfl) (fun _ _ _ h => h) (Or.inr ⟨by rfl, rfl⟩) (by assumption) ?_
      simp only [Act.put, List.getElem_toArray, List.getElem_cons_zero, List.getElem_cons_succ, List.setIfInBounds_toArray, List.set_cons_zero, List.set_cons_succ]
      refine wpAnyH_take (i := 19) (v := undef) rfl (by kernel_rfl) (by kernel_rfl) (by kernel_rfl) (fun _ _ _ h => h) (Or.inr ⟨by rfl, rfl⟩) (by assumption) ?_
      simp only [Act.put, List.getElem_toArray, List.getElem_cons_zero, List.getElem_cons_succ, List.setIfInBounds_toArray, List.set_cons_zero, List.set_cons_succ]
      refine wpAnyH_take (i := 20) (v := undef) rfl (by kernel_rfl) (by kernel_rfl) (by kernel_rfl) (fun _ _ _ h => h) (Or.inr ⟨by rfl, rfl⟩) (by assumption) ?_
      simp only [Act.put, List.getElem_toArray, List.getElem_cons_zero, List.getElem_cons_succ, List.setIfInBounds_toArray, List.set_cons_zero, List.set_cons_succ]
      refine wpAnyH_take (i := 21) (v := undef) rfl (by kernel_rfl) (by kernel_rfl) (by kernel_rfl) (fun _ _ _ h => h) (Or.inr ⟨by rfl, rfl⟩) (by assumption) ?_
      simp only [Act.put, List.getElem_toArray, List.getElem_cons_zero, List.getElem_cons_succ, List.setIfInBounds_toArray, List.set_cons_zero, List.set_cons_succ]
      refine wpAnyH_take (i := 22) (v := undef) rfl (by kernel_rfl) (by kernel_rfl) (by kernel_rfl) (fun _ _ _ h => h) (Or.inr ⟨by rfl, rfl⟩) (by assumption) ?_
      simp only [Act.put, List.getElem_toArray, List.getElem_cons_zero, List.getElem_cons_succ, List.setIfInBounds_toArray, List.set_cons_zero, List.set_cons_succ]
      refine wpAnyH_take (i := 23) (v := undef) rfl (by kernel_rfl) (by kernel_rfl) (by kernel_rfl) (fun _ _ _ h => h) (Or.inr ⟨by rfl, rfl⟩) (by assumption) ?_
      simp only [Act.put, List.getElem_toArray, List.getElem_cons_zero, List.getElem_cons_succ, List.setIfInBounds_toArray, List.set_cons_zero, List.set_cons_succ]
      refine wpAnyH_take (i := 24) (v := undef) rfl (by kernel_rfl) (by kernel_rfl) (by kernel_rfl) (fun _ _ _ h => h) (Or.inr ⟨by rfl, rfl⟩) (by assumption) ?_
      simp only [Act.put, List.getElem_toArray, List.getElem_cons_zero, List.getElem_cons_succ, List.setIfInBounds_toArray, List.set_cons_zero, List.set_cons_succ]
      refine wpAnyH_take (i := 25) (v := ?v16) rfl (by kernel_rfl) (by kernel_rfl) (by kernel_rfl) (fun _ _ _ h => h) (Or.inl ⟨by rfl, ?hy16⟩) (by assumption) ?rest16
      case hy16 => ((intro w hSw; (try dsimp only at hSw); (try simp only [List.getElem_toArray, List.getElem_cons_zero, List.getElem_cons_succ]); go_simp; first | done | (with_reducible rfl)))
      simp only [Act.put, List.getElem_toArray, List.getElem_cons_zero, List.getElem_cons_succ, List.setIfInBounds_toArray, List.set_cons_zero, List.set_cons_succ]
      refine wpAnyH_take (i := 26) (v := ?v17) rfl (by kernel_rfl) (by kernel_rfl) (by kernel_rfl) (fun _ _ _ h => h) (Or.inl ⟨by rfl, ?hy17⟩) (by assumption) ?rest17
      case hy17 => ((intro w hSw; (try dsimp only at hSw); (try simp only [List.getElem_toArray, List.getElem_cons_zero, List.getElem_cons_succ]); go_simp; first | done | (with_reducible rfl)))
      simp only [Act.put, List.getElem_toArray, List.getElem_cons_zero, List.getElem_cons_succ, List.setIfInBounds_toArray, List.set_cons_zero, List.set_cons_succ]
      refine wpAnyH_take (i := 27) (v := undef) rfl (by kernel_rfl) (by kernel_rfl) (by kernel_rfl) (fun _ _ _ h => h) (Or.inr ⟨by rfl, rfl⟩) (by assumption) ?_
      simp only [Act.put, List.getElem_toArray, List.getElem_cons_zero, List.getElem_cons_succ, List.setIfInBounds_toArray, List.set_cons_zero, List.set_cons_succ]
      refine wpAnyH_take (i := 28) (v := undef) rfl (by kernel_rfl) (by kernel_rfl) (by kernel_rfl) (fun _ _ _ h => h) (Or.inr ⟨by rfl, rfl⟩) (by assumption) ?_
      simp only [Act.put, List.getElem_toArray, List.getElem_cons_zero, List.getElem_cons_succ, List.setIfInBounds_toArray, List.set_cons_zero, List.set_cons_succ]
      refine wpAnyH_take (i := 29) (v := undef) rfl (by kernel_rfl) (by kernel_rfl) (by kernel_rfl) (fun _ _ _ h => h) (Or.inr ⟨by rfl, rfl⟩) (by assumption) ?_
      simp only [Act.put, List.getElem_toArray, List.getElem_cons_zero, List.getElem_cons_succ, List.setIfInBounds_toArray, List.set_cons_zero, List.set_cons_succ]
      refine wpAnyH_take (i := 30) (v := undef) rfl (by kernel_rfl) (by kernel_rfl) (by kernel_rfl) (fun _ _ _ h => h) (Or.inr ⟨by rfl, rfl⟩) (by assumption) ?_
      simp only [Act.put, List.getElem_toArray, List.getElem_cons_zero, List.getElem_cons_succ, List.setIfInBounds_toArray, List.set_cons_zero, List.set_cons_succ]
      refine wpAnyH_take (i := 31) (v := undef) rfl (by kernel_rfl) (by kernel_rfl) (by kernel_rfl) (fun _ _ _ h => h) (Or.inr ⟨by rfl, rfl⟩) (by assumption) ?_
      simp only [Act.put, List.getElem_toArray, List.getElem_cons_zero, List.getElem_cons_succ, List.setIfInBounds_toArray, List.set_cons_zero, List.set_cons_succ]
      refine wpAnyH_take (i := 32) (v := undef) rfl (by kernel_rfl) (by kernel_rfl) (by kernel_rfl) (fun _ _ _ h => h) (Or.inr ⟨by rfl, rfl⟩) (by assumption) ?_
      simp only [Act.put, List.getElem_toArray, List.getElem_cons_zero, List.getElem_cons_succ, List.setIfInBounds_toArray, List.set_cons_zero, List.set_cons_succ]
      refine wpAnyH_take (i := 33) (v := undef) rfl (by kernel_rfl) (by kernel_rfl) (by kernel_rfl) (fun _ _ _ h => h) (Or.inr ⟨by rfl, rfl⟩) (by assumption) ?_
      simp only [Act.put, List.getElem_toArray, List.getElem_cons_zero, List.getElem_cons_succ, List.setIfInBounds_toArray, List.set_cons_zero, List.set_cons_succ]
      refine wpAnyH_take (i := 34) (v := ?v18) rfl (by kernel_rfl) (by kernel_rfl) (by kernel_rfl) (fun _ _ _ h => h) (Or.inl ⟨by rfl, ?hy18⟩) (by assumption) ?rest18
      case hy18 => ((intro w hSw; (try dsimp only at hSw); (try simp only [List.getElem_toArray, List.getElem_cons_zero, List.getElem_cons_succ]); go_simp; first | done | (with_reducible rfl)))
      simp only [Act.put, List.getElem_toArray, List.getElem_cons_zero, List.getElem_cons_succ, List.setIfInBounds_toArray, List.set_cons_zero, List.set_cons_succ]
      refine wpAnyH_take (i := 35) (v := ?v19) rfl (by kernel_rfl) (by kernel_rfl) (by kernel_rfl) (fun _ _ _ h => h) (Or.inl ⟨by rfl, ?hy19⟩) (by assumption) ?rest19
      case hy19 => ((intro w hSw; (try dsimp only at hSw); (try simp only [List.getElem_toArray, List.getElem_cons_zero, List.getElem_cons_succ]); go_simp; first | done | (with_reducible rfl)))
      simp only [Act.put, List.getElem_toArray, List.getElem_cons_zero, List.getElem_cons_succ, List.setIfInBounds_toArray, List.set_cons_zero, List.set_cons_succ]
      refine wpAnyH_done (by kernel_rfl) ?_ _
      refine NoPanic.normal ?_
      go_wp2
      go_ret
      exact ⟨by rw [HM.out]; rfl, bAll al b1'⟩
    · skip
      refine wpAnyH_take (i := 8) (v := ?v20) rfl (by kernel_rfl) (by kernel_rfl) (by kernel_rfl) (fun _ _ _ h => h) (Or.inl ⟨by rfl, ?hy20⟩) (by assumption) ?rest20
      case hy20 => ((intro w hSw; (try dsimp only at hSw); (try simp only [List.getElem_toArray, List.getElem_cons_zero, List.getElem_cons_succ]); go_simp; first | done | (with_reducible rfl)))
      simp only [Act.put, List.getElem_toArray, List.getElem_cons_zero, List.getElem_cons_succ, List.setIfInBounds_toArray, List.set_cons_zero, List.set_cons_succ]
      refine wpAnyH_take (i := 9) (v := ?v21) rfl (by kernel_rfl) (by kernel_rfl) (by kernel_rfl) (fun _ _ _ h => h) (Or.inl ⟨by rfl, ?hy21⟩) (by assumption) ?rest21
      case hy21 => ((intro w hSw; (try dsimp only at hSw); (try simp only [List.getElem_toArray, List.getElem_cons_zero, List.getElem_cons_succ]); go_simp; first | done | (with_reducible rfl)))
      simp only [Act.put, List.getElem_toArray, List.getElem_cons_zero, List.getElem_cons_succ, List.setIfInBounds_toArray, List.set_cons_zero, List.set_cons_succ]
      refine wpAnyH_take (i := 10) (v := ?v22) rfl (by kernel_rfl) (by kernel_rfl) (by kernel_rfl) (fun _ _ _ h => h) (Or.inl ⟨by rfl, ?hy22⟩) (by assumption) ?rest22
      case hy22 => ((intro w hSw; (try dsimp only at hSw); (try simp only [List.getElem_toArray, List.getElem_cons_zero, List.getElem_cons_succ]); go_simp; first | done | (with_reducible rfl)))
      simp only [Act.put, List.getElem_toArray, List.getElem_cons_zero, List.getElem_cons_succ, List.setIfInBounds_toArray, List.set_cons_zero, List.set_cons_succ]
      refine wpAnyH_take (i := 11) (v := ?v23) rfl (by kernel_rfl) (by kernel_rfl) (by kernel_rfl) (fun _ _ _ h => h) (Or.inl ⟨by rfl, ?hy23⟩) (by assumption) ?rest23
      case hy23 => ((intro w hSw; (try dsimp only at hSw); (try simp only [List.getElem_toArray, List.getElem_cons_zero, List.getElem_cons_succ]); go_simp; first | done | (with_reducible rfl)))
      simp only [Act.put, List.getElem_toArray, List.getElem_cons_zero, List.getElem_cons_succ, List.setIfInBounds_toArray, List.set_cons_zero, List.set_cons_succ]
      refine wpAnyH_take (i := 12) (v := ?v24) rfl (by kernel_rfl) (by kernel_rfl) (by kernel_rfl) (fun _ _ _ h => h) (Or.inl ⟨by rfl, ?hy24⟩) (by assumption) ?rest24
      case hy24 => ((intro w hSw; (try dsimp only at hSw); (try simp only [List.getElem_toArray, List.getElem_cons_zero, List.getElem_cons_succ]); go_simp; first | done | (with_reducible rfl)))
      simp only [Act.put, List.getElem_toArray, List.getElem_cons_zero, List.getElem_cons_succ, List.setIfInBounds_toArray, List.set_cons_zero, List.set_cons_succ]
      refine wpAnyH_take (i := 13) (v := ?v25) rfl (by kernel_rfl) (by kernel_rfl) (by kernel_rfl) (fun _ _ _ h => h) (Or.inl ⟨by rfl, ?hy25⟩) (by assumption) ?rest25
      case hy25 => ((intro w hSw; (try dsimp only at hSw); (try simp only [List.getElem_toArray, List.getElem_cons_zero, List.getElem_cons_succ]); go_simp; first | done | (with_reducible rfl)))
      simp only [Act.put, List.getElem_toArray, List.getElem_cons_zero, List.getElem_cons_succ, List.setIfInBounds_toArray, List.set_cons_zero, List.set_cons_succ]
      refine wpAnyH_ready (rs := [14]) (by kernel_rfl) (by simp) ?_
      refine AllReadyH.cons rfl (fun K hK => ?_) AllReadyH.nil
      go_simp
      (go_at_call 113; refine (dC _ _ (HR.out.keep (bAll al b1'))).mono ?_; rintro e V3 ⟨rfl, b3⟩; have b3' := bAll b1' b3)
      refine hK.out _ _ ?_ (fun hHeld => ?_)
      · exact FS.out _ b3'
      clear hK K
      refine wpAnyH_take (i := 15) (v := ?v26) rfl (by kernel_rfl) (by kernel_rfl) (by kernel_rfl) (fun _ _ _ h => h) (Or.inl ⟨by rfl, ?hy26⟩) (by assumption) ?rest26
      case hy26 => ((intro w hSw; (try dsimp only at hSw); (try simp only [List.getElem_toArray, List.getElem_cons_zero, List.getElem_cons_succ]); go_simp; first | done | (with_reducible rfl)))
      simp only [Act.put, List.getElem_toArray, List.getElem_cons_zero, List.getElem_cons_succ, List.setIfInBounds_toArray, List.set_cons_zero, List.set_cons_succ]
      refine wpAnyH_take (i := 16) (v := ?v27) rfl (by kernel_rfl) (by kernel_rfl) (by kernel_rfl) (fun _ _ _ h => h) (Or.inl ⟨by rfl, ?hy27⟩) (by assumption) ?rest27
      case hy27 => ((intro w hSw; (try dsimp only at hSw); (try simp only [List.getElem_toArray, List.getElem_cons_zero, List.getElem_cons_succ]); go_simp; first | done | (with_reducible rfl)))
      simp only [Act.put, List.getElem_toArray, List.getElem_cons_zero, List.getElem_cons_succ, List.setIfInBounds_toArray, List.set_cons_zero, List.set_cons_succ]
      refine wpAnyH_take (i := 17) (v := ?v28) rfl (by kernel_rfl) (by kernel_rfl) (by kernel_rfl) (fun _ _ _ h => h) (Or.inl ⟨by rfl, ?hy28⟩) (by assumption) ?rest28
      case hy28 => ((intro w hSw; (try dsimp only at hSw); (try simp only [List.getElem_toArray, List.getElem_cons_zero, List.getElem_cons_succ]); go_simp; first | done | (with_reducible rfl)))
      simp only [Act.put, List.getElem_toArray, List.getElem_cons_zero, List.getElem_cons_succ, List.setIfInBounds_toArray, List.set_cons_zero, List.set_cons_succ]
      cases j8
      case true =>
        refine wpAnyH_take (i := 18) (v := undef) rfl (by kernel_rfl) (by kernel_rfl) (by kernel_rfl) (fun _ _ _ h => h) (Or.inr ⟨by rfl, rfl⟩) (by assumption) ?_
        simp only [Act.put, List.getElem_toArray, List.getElem_cons_zero, List.getElem_cons_succ, List.setIfInBounds_toArray, List.set_cons_zero, List.set_cons_succ]
        refine wpAnyH_take (i := 19) (v := undef) rfl (by kernel_rfl) (by kernel_rfl) (by kernel_rfl) (fun _ _ _ h => h) (Or.inr ⟨by rfl, rfl⟩) (by assumption) ?_
        simp only [Act.put, List.getElem_toArray, List.getElem_cons_zero, List.getElem_cons_succ, List.setIfInBounds_toArray, List.set_cons_zero, List.set_cons_succ]
        refine wpAnyH_take (i := 20) (v := undef) rfl (by kernel_rfl) (by kernel_rfl) (by kernel_rfl) (fun _ _ _ h => h) (Or.inr ⟨by rfl, rfl⟩) (by assumption) ?_
        simp only [Act.put, List.getElem_toArray, List.getElem_cons_zero, List.getElem_cons_succ, List.setIfInBounds_toArray, List.set_cons_zero, List.set_cons_succ]
        refine wpAnyH_take (i := 21) (v := undef) rfl (by kernel_rfl) (by kernel_rfl) (by kernel_rfl) (fun _ _ _ h => h) (Or.inr ⟨by rfl, rfl⟩) (by assumption) ?_
        simp only [Act.put, List.getElem_toArray, List.getElem_cons_zero, List.getElem_cons_succ, List.setIfInBounds_toArray, List.set_cons_zero, List.set_cons_succ]
        refine wpAnyH_take (i := 22) (v := undef) rfl (by kernel_rfl) (by kernel_rfl) (by kernel_rfl) (fun _ _ _ h => h) (Or.inr ⟨by rfl, rfl⟩) (by assumption) ?_
        simp only [Act.put, List.getElem_toArray, List.getElem_cons_zero, List.getElem_cons_succ, List.setIfInBounds_toArray, List.set_cons_zero, List.set_cons_succ]
        refine wpAnyH_take (i := 23) (v := undef) rfl (by kernel_rfl) (by kernel_rfl) (by kernel_rfl) (fun _ _ _ h => h) (Or.inr ⟨by rfl, rfl⟩) (by assumption) ?_
        simp only [Act.put, List.getElem_toArray, List.getElem_cons_zero, List.getElem_cons_succ, List.setIfInBounds_toArray, List.set_cons_zero, List.set_cons_succ]
        refine wpAnyH_take (i := 24) (v := undef) rfl (by kernel_rfl) (by kernel_rfl) (by kernel_rfl) (fun _ _ _ h => h) (Or.inr ⟨by rfl, rfl⟩) (by assumption) ?_
        simp only [Act.put, List.getElem_toArray, List.getElem_cons_zero, List.getElem_cons_succ, List.setIfInBounds_toArray, List.set_cons_zero, List.set_cons_succ]
        refine wpAnyH_take (i := 25) (v := ?v29) rfl (by kernel_rfl) (by kernel_rfl) (by kernel_rfl) (fun _ _ _ h => h) (Or.inl ⟨by rfl, ?hy29⟩) (by assumption) ?rest29
        case hy29 => ((intro w hSw; (try dsimp only at hSw); (try simp only [List.getElem_toArray, List.getElem_cons_zero, List.getElem_cons_succ]); go_simp; first | done | (with_reducible rfl)))
        simp only [Act.put, List.getElem_toArray, List.getElem_cons_zero, List.getElem_cons_succ, List.setIfInBounds_toArray, List.set_cons_zero, List.set_cons_succ]
        refine wpAnyH_take (i := 26) (v := ?v30) rfl (by kernel_rfl) (by kernel_rfl) (by kernel_rfl) (fun _ _ _ h => h) (Or.inl ⟨by rfl, ?hy30⟩) (by assumption) ?rest30
        case hy30 => ((intro w hSw; (try dsimp only at hSw); (try simp only [List.getElem_toArray, List.getElem_cons_zero, List.getElem_cons_succ]); go_simp; first | done | (with_reducible rfl)))
        simp only [Act.put, List.getElem_toArray, List.getElem_cons_zero, List.getElem_cons_succ, List.setIfInBounds_toArray, List.set_cons_zero, List.set_cons_succ]
        refine wpAnyH_take (i := 27) (v := undef) rfl (by kernel_rfl) (by kernel_rfl) (by kernel_rfl) (fun _ _ _ h => h) (Or.inr ⟨by rfl, rfl⟩) (by assumption) ?_
        simp only [Act.put, List.getElem_toArray, List.getElem_cons_zero, List.getElem_cons_succ, List.setIfInBounds_toArray, List.set_cons_zero, List.set_cons_succ]
        refine wpAnyH_take (i := 28) (v := undef) rfl (by kernel_rfl) (by kernel_rfl) (by kernel_rfl) (fun _ _ _ h => h) (Or.inr ⟨by rfl, rfl⟩) (by assumption) ?_
        simp only [Act.put, List.getElem_toArray, List.getElem_cons_zero, List.getElem_cons_succ, List.setIfInBounds_toArray, List.set_cons_zero, List.set_cons_succ]
        refine wpAnyH_take (i := 29) (v := undef) rfl (by kernel_rfl) (by kernel_rfl) (by kernel_rfl) (fun _ _ _ h => h) (Or.inr ⟨by rfl, rfl⟩) (by assumption) ?_
        simp only [Act.put, List.getElem_toArray, List.getElem_cons_zero, List.getElem_cons_succ, List.setIfInBounds_toArray, List.set_cons_zero, List.set_cons_succ]
        refine wpAnyH_take (i := 30) (v := undef) rfl (by kernel_rfl) (by kernel_rfl) (by kernel_rfl) (fun _ _ _ h => h) (Or.inr ⟨by rfl, rfl⟩) (by assumption) ?_
        simp only [Act.put, List.getElem_toArray, List.getElem_cons_zero, List.getElem_cons_succ, List.setIfInBounds_toArray, List.set_cons_zero, List.set_cons_succ]
        refine wpAnyH_take (i := 31) (v := undef) rfl (by kernel_rfl) (by kernel_rfl) (by kernel_rfl) (fun _ _ _ h => h) (Or.inr ⟨by rfl, rfl⟩) (by assumption) ?_
        simp only [Act.put, List.getElem_toArray, List.getElem_cons_zero, List.getElem_cons_succ, List.setIfInBounds_toArray, List.set_cons_zero, List.set_cons_succ]
        refine wpAnyH_take (i := 32) (v := undef) rfl (by kernel_rfl) (by kernel_rfl) (by kernel_rfl) (fun _ _ _ h => h) (Or.inr ⟨by rfl, rfl⟩) (by assumption) ?_
        simp only [Act.put, List.getElem_toArray, List.getElem_cons_zero, List.getElem_cons_succ, List.setIfInBounds_toArray, List.set_cons_zero, List.set_cons_succ]
        refine wpAnyH_take (i := 33) (v := undef) rfl (by kernel_rfl) (by kernel_rfl) (by kernel_rfl) (fun _ _ _ h => h) (Or.inr ⟨by rfl, rfl⟩) (by assumption) ?_
        simp only [Act.put, List.getElem_toArray, List.getElem_cons_zero, List.getElem_cons_succ, List.setIfInBounds_toArray, List.set_cons_zero, List.set_cons_succ]
        refine wpAnyH_take (i := 34) (v := ?v31) rfl (by kernel_rfl) (by kernel_rfl) (by kernel_rfl) (fun _ _ _ h => h) (Or.inl ⟨by rfl, ?hy31⟩) (by assumption) ?rest31
        case hy31 => ((intro w hSw; (try dsimp only at hSw); (try simp only [List.getElem_toArray, List.getElem_cons_zero, List.getElem_cons_succ]); go_simp; first | done | (with_reducible rfl)))
        simp only [Act.put, List.getElem_toArray, List.getElem_cons_zero, List.getElem_cons_succ, List.setIfInBounds_toArray, List.set_cons_zero, List.set_cons_succ]
        refine wpAnyH_take (i := 35) (v := ?v32) rfl (by kernel_rfl) (by kernel_rfl) (by kernel_rfl) (fun _ _ _ h => h) (Or.inl ⟨by rfl, ?hy32⟩) (by assumption) ?rest32
        case hy32 => ((intro w hSw; (try dsimp only at hSw); (try simp only [List.getElem_toArray, List.getElem_cons_zero, List.getElem_cons_succ]); go_simp; first | done | (with_reducible rfl)))
        simp only [Act.put, List.getElem_toArray, List.getElem_cons_zero, List.getElem_cons_succ, List.setIfInBounds_toArray, List.set_cons_zero, List.set_cons_succ]
        refine wpAnyH_done (by kernel_rfl) ?_ _
        refine NoPanic.normal ?_
        go_wp2
        go_ret
        exact ⟨by rw [HM.out]; rfl, bAll al b3'⟩
      case false =>
        have h4 := H4.out
        have h5 := H5.out
        cases j4
        · skip
          refine wpAnyH_take (i := 18) (v := ?v33) rfl (by kernel_rfl) (by kernel_rfl) (by kernel_rfl) (fun _ _ _ h => h) (Or.inl ⟨by rfl, ?hy33⟩) (by assumption) ?rest33
          case hy33 => ((intro w hSw; (try dsimp only at hSw); (try simp only [List.getElem_toArray, List.getElem_cons_zero, List.getElem_cons_succ]); go_simp; first | done | (with_reducible rfl)))
          simp only [Act.put, List.getElem_toArray, List.getElem_cons_zero, List.getElem_cons_succ, List.setIfInBounds_toArray, List.set_cons_zero, List.set_cons_succ]
          refine wpAnyH_take (i := 19) (v := ?v34) rfl (by kernel_rfl) (by kernel_rfl) (by kernel_rfl) (fun _ _ _ h => h) (Or.inl ⟨by rfl, ?hy34⟩) (by assumption) ?rest34
          case hy34 => ((intro w hSw; (try dsimp only at hSw); (try simp only [List.getElem_toArray, List.getElem_cons_zero, List.getElem_cons_succ]); go_simp; first | done | (with_reducible rfl)))
          simp only [Act.put, List.getElem_toArray, List.getElem_cons_zero, List.getElem_cons_succ, List.setIfInBounds_toArray, List.set_cons_zero, List.set_cons_succ]
          refine wpAnyH_take (i := 20) (v := ?v35) rfl (by kernel_rfl) (by kernel_rfl) (by kernel_rfl) (fun _ _ _ h => h) (Or.inl ⟨by rfl, ?hy35⟩) (by assumption) ?rest35
          case hy35 => ((intro w hSw; (try dsimp only at hSw); (try simp only [List.getElem_toArray, List.getElem_cons_zero, List.getElem_cons_succ]); go_simp; first | done | (with_reducible rfl)))
          simp only [Act.put, List.getElem_toArray, List.getElem_cons_zero, List.getElem_cons_succ, List.setIfInBounds_toArray, List.set_cons_zero, List.set_cons_succ]
          refine wpAnyH_take (i := 21) (v := ?v36) rfl (by kernel_rfl) (by kernel_rfl) (by kernel_rfl) (fun _ _ _ h => h) (Or.inl ⟨by rfl, ?hy36⟩) (by assumption) ?rest36
          case hy36 => ((intro w hSw; (try dsimp only at hSw); (try simp only [List.getElem_toArray, List.getElem_cons_zero, List.getElem_cons_succ]); go_simp; first | done | (with_reducible rfl)))
          simp only [Act.put, List.getElem_toArray, List.getElem_cons_zero, List.getElem_cons_succ, List.setIfInBounds_toArray, List.set_cons_zero, List.set_cons_succ]
          refine wpAnyH_take (i := 22) (v := ?v37) rfl (by kernel_rfl) (by kernel_rfl) (by kernel_rfl) (fun _ _ _ h => h) (Or.inl ⟨by rfl, ?hy37⟩) (by assumption) ?rest37
          case hy37 => ((intro w hSw; (try dsimp only at hSw); (try simp only [List.getElem_toArray, List.getElem_cons_zero, List.getElem_cons_succ]); go_simp; first | done | (with_reducible rfl)))
          simp only [Act.put, List.getElem_toArray, List.getElem_cons_zero, List.getElem_cons_succ, List.setIfInBounds_toArray, List.set_cons_zero, List.set_cons_succ]
          refine wpAnyH_take (i := 23) (v := ?v38) rfl (by kernel_rfl) (by kernel_rfl) (by kernel_rfl) (fun _ _ _ h => h) (Or.inl ⟨by rfl, ?hy38⟩) (by assumption) ?rest38
          case hy38 => ((intro w hSw; (try dsimp only at hSw); (try simp only [List.getElem_toArray, List.getElem_cons_zero, List.getElem_cons_succ]); go_simp; first | done | (with_reducible rfl)))
          simp only [Act.put, List.getElem_toArray, List.getElem_cons_zero, List.getElem_cons_succ, List.setIfInBounds_toArray, List.set_cons_zero, List.set_cons_succ]
          refine wpAnyH_take (i := 24) (v := ?v39) rfl (by kernel_rfl) (by kernel_rfl) (by kernel_rfl) (fun _ _ _ h => h) (Or.inl ⟨by rfl, ?hy39⟩) (by assumption) ?rest39
          case hy39 => ((intro w hSw; (try dsimp only at hSw); (try simp only [List.getElem_toArray, List.getElem_cons_zero, List.getElem_cons_succ]); go_simp; first | done | (with_reducible rfl)))
          simp only [Act.put, List.getElem_toArray, List.getElem_cons_zero, List.getElem_cons_succ, List.setIfInBounds_toArray, List.set_cons_zero, List.set_cons_succ]
          refine wpAnyH_take (i := 25) (v := ?v40) rfl (by kernel_rfl) (by kernel_rfl) (by kernel_rfl) (fun _ _ _ h => h) (Or.inl ⟨by rfl, ?hy40⟩) (by assumption) ?rest40
          case hy40 => ((intro w hSw; (try dsimp only at hSw); (try simp only [List.getElem_toArray, List.getElem_cons_zero, List.getElem_cons_succ]); go_simp; first | done | (with_reducible rfl)))
          simp only [Act.put, List.getElem_toArray, List.getElem_cons_zero, List.getElem_cons_succ, List.setIfInBounds_toArray, List.set_cons_zero, List.set_cons_succ]
          refine wpAnyH_take (i := 26) (v := ?v41) rfl (by kernel_rfl) (by kernel_rfl) (by kernel_rfl) (fun _ _ _ h => h) (Or.inl ⟨by rfl, ?hy41⟩) (by assumption) ?rest41
          case hy41 => ((intro w hSw; (try dsimp only at hSw); (try simp only [List.getElem_toArray, List.getElem_cons_zero, List.getElem_cons_succ]); go_simp; first | done | (with_reducible rfl)))
          simp only [Act.put, List.getElem_toArray, List.getElem_cons_zero, List.getElem_cons_succ, List.setIfInBounds_toArray, List.set_cons_zero, List.set_cons_succ]
          refine wpAnyH_take (i := 27) (v := undef) rfl (by kernel_rfl) (by kernel_rfl) (by kernel_rfl) (fun _ _ _ h => h) (Or.inr ⟨by rfl, rfl⟩) (by assumption) ?_
          simp only [Act.put, List.getElem_toArray, List.getElem_cons_zero, List.getElem_cons_succ, List.setIfInBounds_toArray, List.set_cons_zero, List.set_cons_succ]
          refine wpAnyH_take (i := 28) (v := undef) rfl (by kernel_rfl) (by kernel_rfl) (by kernel_rfl) (fun _ _ _ h => h) (Or.inr ⟨by rfl, rfl⟩) (by assumption) ?_
          simp only [Act.put, List.getElem_toArray, List.getElem_cons_zero, List.getElem_cons_succ, List.setIfInBounds_toArray, List.set_cons_zero, List.set_cons_succ]
          refine wpAnyH_take (i := 29) (v := undef) rfl (by kernel_rfl) (by kernel_rfl) (by kernel_rfl) (fun _ _ _ h => h) (Or.inr ⟨by rfl, rfl⟩) (by assumption) ?_
          simp only [Act.put, List.getElem_toArray, List.getElem_cons_zero, List.getElem_cons_succ, List.setIfInBounds_toArray, List.set_cons_zero, List.set_cons_succ]
          refine wpAnyH_take (i := 30) (v := undef) rfl (by kernel_rfl) (by kernel_rfl) (by kernel_rfl) (fun _ _ _ h => h) (Or.inr ⟨by rfl, rfl⟩) (by assumption) ?_
          simp only [Act.put, List.getElem_toArray, List.getElem_cons_zero, List.getElem_cons_succ, List.setIfInBounds_toArray, List.set_cons_zero, List.set_cons_succ]
          refine wpAnyH_take (i := 31) (v := undef) rfl (by kernel_rfl) (by kernel_rfl) (by kernel_rfl) (fun _ _ _ h => h) (Or.inr ⟨by rfl, rfl⟩) (by assumption) ?_
          simp only [Act.put, List.getElem_toArray, List.getElem_cons_zero, List.getElem_cons_succ, List.setIfInBounds_toArray, List.set_cons_zero, List.set_cons_succ]
          refine wpAnyH_take (i := 32) (v := undef) rfl (by kernel_rfl) (by kernel_rfl) (by kernel_rfl) (fun _ _ _ h => h) (Or.inr ⟨by rfl, rfl⟩) (by assumption) ?_
          simp only [Act.put, List.getElem_toArray, List.getElem_cons_zero, List.getElem_cons_succ, List.setIfInBounds_toArray, List.set_cons_zero, List.set_cons_succ]
          refine wpAnyH_take (i := 33) (v := undef) rfl (by kernel_rfl) (by kernel_rfl) (by kernel_rfl) (fun _ _ _ h => h) (Or.inr ⟨by rfl, rfl⟩) (by assumption) ?_
          simp only [Act.put, List.getElem_toArray, List.getElem_cons_zero, List.getElem_cons_succ, List.setIfInBounds_toArray, List.set_cons_zero, List.set_cons_succ]
          refine wpAnyH_take (i := 34) (v := ?v42) rfl (by kernel_rfl) (by kernel_rfl) (by kernel_rfl) (fun _ _ _ h => h) (Or.inl ⟨by rfl, ?hy42⟩) (by assumption) ?rest42
          case hy42 => ((intro w hSw; (try dsimp only at hSw); (try simp only [List.getElem_toArray, List.getElem_cons_zero, List.getElem_cons_succ]); go_simp; first | done | (with_reducible rfl)))
          simp only [Act.put, List.getElem_toArray, List.getElem_cons_zero, List.getElem_cons_succ, List.setIfInBounds_toArray, List.set_cons_zero, List.set_cons_succ]
          refine wpAnyH_take (i := 35) (v := ?v43) rfl (by kernel_rfl) (by kernel_rfl) (by kernel_rfl) (fun _ _ _ h => h) (Or.inl ⟨by rfl, ?hy43⟩) (by assumption) ?rest43
          case hy43 => ((intro w hSw; (try dsimp only at hSw); (try simp only [List.getElem_toArray, List.getElem_cons_zero, List.getElem_cons_succ]); go_simp; first | done | (with_reducible rfl)))
          simp only [Act.put, List.getElem_toArray, List.getElem_cons_zero, List.getElem_cons_succ, List.setIfInBounds_toArray, List.set_cons_zero, List.set_cons_succ]
          refine wpAnyH_done (by kernel_rfl) ?_ _
          refine NoPanic.normal ?_
          go_wp2
          go_ret
          exact ⟨by rw [HM.out]; rfl, bAll al b3'⟩
        · skip
          refine wpAnyH_take (i := 18) (v := ?v44) rfl (by kernel_rfl) (by kernel_rfl) (by kernel_rfl) (fun _ _ _ h => h) (Or.inl ⟨by rfl, ?hy44⟩) (by assumption) ?rest44
          case hy44 => ((intro w hSw; (try dsimp only at hSw); (try simp only [List.getElem_toArray, List.getElem_cons_zero, List.getElem_cons_succ]); go_simp; first | done | (with_reducible rfl)))
          simp only [Act.put, List.getElem_toArray, List.getElem_cons_zero, List.getElem_cons_succ, List.setIfInBounds_toArray, List.set_cons_zero, List.set_cons_succ]
          refine wpAnyH_take (i := 19) (v := ?v45) rfl (by kernel_rfl) (by kernel_rfl) (by kernel_rfl) (fun _ _ _ h => h) (Or.inl ⟨by rfl, ?hy45⟩) (by assumption) ?rest45
          case hy45 => ((intro w hSw; (try dsimp only at hSw); (try simp only [List.getElem_toArray, List.getElem_cons_zero, List.getElem_cons_succ]); go_simp; first | done | (with_reducible rfl)))
          simp only [Act.put, List.getElem_toArray, List.getElem_cons_zero, List.getElem_cons_succ, List.setIfInBounds_toArray, List.set_cons_zero, List.set_cons_succ]
          refine wpAnyH_take (i := 20) (v := ?v46) rfl (by kernel_rfl) (by kernel_rfl) (by kernel_rfl) (fun _ _ _ h => h) (Or.inl ⟨by rfl, ?hy46⟩) (by assumption) ?rest46
          case hy46 => ((intro w hSw; (try dsimp only at hSw); (try simp only [List.getElem_toArray, List.getElem_cons_zero, List.getElem_cons_succ]); go_simp; first | done | (with_reducible rfl)))
          simp only [Act.put, List.getElem_toArray, List.getElem_cons_zero, List.getElem_cons_succ, List.setIfInBounds_toArray, List.set_cons_zero, List.set_cons_succ]
          refine wpAnyH_take (i := 21) (v := ?v47) rfl (by kernel_rfl) (by kernel_rfl) (by kernel_rfl) (fun _ _ _ h => h) (Or.inl ⟨by rfl, ?hy47⟩) (by assumption) ?rest47
          case hy47 => ((intro w hSw; (try dsimp only at hSw); (try simp only [List.getElem_toArray, List.getElem_cons_zero, List.getElem_cons_succ]); go_simp; first | done | (with_reducible rfl)))
          simp only [Act.put, List.getElem_toArray, List.getElem_cons_zero, List.getElem_cons_succ, List.setIfInBounds_toArray, List.set_cons_zero, List.set_cons_succ]
          refine wpAnyH_take (i := 22) (v := ?v48) rfl (by kernel_rfl) (by kernel_rfl) (by kernel_rfl) (fun _ _ _ h => h) (Or.inl ⟨by rfl, ?hy48⟩) (by assumption) ?rest48
          case hy48 => ((intro w hSw; (try dsimp only at hSw); (try simp only [List.getElem_toArray, List.getElem_cons_zero, List.getElem_cons_succ]); go_simp; first | done | (with_reducible rfl)))
          simp only [Act.put, List.getElem_toArray, List.getElem_cons_zero, List.getElem_cons_succ, List.setIfInBounds_toArray, List.set_cons_zero, List.set_cons_succ]
          refine wpAnyH_take (i := 23) (v := ?v49) rfl (by kernel_rfl) (by kernel_rfl) (by kernel_rfl) (fun _ _ _ h => h) (Or.inl ⟨by rfl, ?hy49⟩) (by assumption) ?rest49
          case hy49 => ((intro w hSw; (try dsimp only at hSw); (try simp only [List.getElem_toArray, List.getElem_cons_zero, List.getElem_cons_succ]); go_simp; first | done | (with_reducible rfl)))
          simp only [Act.put, List.getElem_toArray, List.getElem_cons_zero, List.getElem_cons_succ, List.setIfInBounds_toArray, List.set_cons_zero, List.set_cons_succ]
          refine wpAnyH_take (i := 24) (v := ?v50) rfl (by kernel_rfl) (by kernel_rfl) (by kernel_rfl) (fun _ _ _ h => h) (Or.inl ⟨by rfl, ?hy50⟩) (by assumption) ?rest50
          case hy50 => ((intro w hSw; (try dsimp only at hSw); (try simp only [List.getElem_toArray, List.getElem_cons_zero, List.getElem_cons_succ]); go_simp; first | done | (with_reducible rfl)))
          simp only [Act.put, List.getElem_toArray, List.getElem_cons_zero, List.getElem_cons_succ, List.setIfInBounds_toArray, List.set_cons_zero, List.set_cons_succ]
          refine wpAnyH_take (i := 25) (v := ?v51) rfl (by kernel_rfl) (by kernel_rfl) (by kernel_rfl) (fun _ _ _ h => h) (Or.inl ⟨by rfl, ?hy51⟩) (by assumption) ?rest51
          case hy51 => ((intro w hSw; (try dsimp only at hSw); (try simp only [List.getElem_toArray, List.getElem_cons_zero, List.getElem_cons_succ]); go_simp; first | done | (with_reducible rfl)))
          simp only [Act.put, List.getElem_toArray, List.getElem_cons_zero, List.getElem_cons_succ, List.setIfInBounds_toArray, List.set_cons_zero, List.set_cons_succ]
          refine wpAnyH_take (i := 26) (v := ?v52) rfl (by kernel_rfl) (by kernel_rfl) (by kernel_rfl) (fun _ _ _ h => h) (Or.inl ⟨by rfl, ?hy52⟩) (by assumption) ?rest52
          case hy52 => ((intro w hSw; (try dsimp only at hSw); (try simp only [List.getElem_toArray, List.getElem_cons_zero, List.getElem_cons_succ]); go_simp; first | done | (with_reducible rfl)))
          simp only [Act.put, List.getElem_toArray, List.getElem_cons_zero, List.getElem_cons_succ, List.setIfInBounds_toArray, List.set_cons_zero, List.set_cons_succ]
          refine wpAnyH_take (i := 27) (v := ?v53) rfl (by kernel_rfl) (by kernel_rfl) (by kernel_rfl) (fun _ _ _ h => h) (Or.inl ⟨by rfl, ?hy53⟩) (by assumption) ?rest53
          case hy53 => ((intro w hSw; (try dsimp only at hSw); (try simp only [List.getElem_toArray, List.getElem_cons_zero, List.getElem_cons_succ]); go_simp; first | done | (with_reducible rfl)))
          simp only [Act.put, List.getElem_toArray, List.getElem_cons_zero, List.getElem_cons_succ, List.setIfInBounds_toArray, List.set_cons_zero, List.set_cons_succ]
          refine wpAnyH_take (i := 28) (v := ?v54) rfl (by kernel_rfl) (by kernel_rfl) (by kernel_rfl) (fun _ _ _ h => h) (Or.inl ⟨by rfl, ?hy54⟩) (by assumption) ?rest54
          case hy54 => ((intro w hSw; (try dsimp only at hSw); (try simp only [List.getElem_toArray, List.getElem_cons_zero, List.getElem_cons_succ]); go_simp; first | done | (with_reducible rfl)))
          simp only [Act.put, List.getElem_toArray, List.getElem_cons_zero, List.getElem_cons_succ, List.setIfInBounds_toArray, List.set_cons_zero, List.set_cons_succ]
          refine wpAnyH_take (i := 29) (v := ?v55) rfl (by kernel_rfl) (by kernel_rfl) (by kernel_rfl) (fun _ _ _ h => h) (Or.inl ⟨by rfl, ?hy55⟩) (by assumption) ?rest55
          case hy55 => ((intro w hSw; (try dsimp only at hSw); (try simp only [List.getElem_toArray, List.getElem_cons_zero, List.getElem_cons_succ]); go_simp; first | done | (with_reducible rfl)))
          simp only [Act.put, List.getElem_toArray, List.getElem_cons_zero, List.getElem_cons_succ, List.setIfInBounds_toArray, List.set_cons_zero, List.set_cons_succ]
          refine wpAnyH_take (i := 30) (v := ?v56) rfl (by kernel_rfl) (by kernel_rfl) (by kernel_rfl) (fun _ _ _ h => h) (Or.inl ⟨by rfl, ?hy56⟩) (by assumption) ?rest56
          case hy56 => ((intro w hSw; (try dsimp only at hSw); (try simp only [List.getElem_toArray, List.getElem_cons_zero, List.getElem_cons_succ]); go_simp; first | done | (with_reducible rfl)))
          simp only [Act.put, List.getElem_toArray, List.getElem_cons_zero, List.getElem_cons_succ, List.setIfInBounds_toArray, List.set_cons_zero, List.set_cons_succ]
          refine wpAnyH_take (i := 31) (v := ?v57) rfl (by kernel_rfl) (by kernel_rfl) (by kernel_rfl) (fun _ _ _ h => h) (Or.inl ⟨by rfl, ?hy57⟩) (by assumption) ?rest57
          case hy57 => ((intro w hSw; (try dsimp only at hSw); (try simp only [List.getElem_toArray, List.getElem_cons_zero, List.getElem_cons_succ]); go_simp; first | done | (with_reducible rfl)))
          simp only [Act.put, List.getElem_toArray, List.getElem_cons_zero, List.getElem_cons_succ, List.setIfInBounds_toArray, List.set_cons_zero, List.set_cons_succ]
          refine wpAnyH_take (i := 32) (v := ?v58) rfl (by kernel_rfl) (by kernel_rfl) (by kernel_rfl) (fun _ _ _ h => h) (Or.inl ⟨by rfl, ?hy58⟩) (by assumption) ?rest58
          case hy58 => ((intro w hSw; (try dsimp only at hSw); (try simp only [List.getElem_toArray, List.getElem_cons_zero, List.getElem_cons_succ]); go_simp; first | done | (with_reducible rfl)))
          simp only [Act.put, List.getElem_toArray, List.getElem_cons_zero, List.getElem_cons_succ, List.setIfInBounds_toArray, List.set_cons_zero, List.set_cons_succ]
          refine wpAnyH_take (i := 33) (v := ?v59) rfl (by kernel_rfl) (by kernel_rfl) (by kernel_rfl) (fun _ _ _ h => h) (Or.inl ⟨by rfl, ?hy59⟩) (by assumption) ?rest59
          case hy59 => ((intro w hSw; (try dsimp only at hSw); (try simp only [List.getElem_toArray, List.getElem_cons_zero, List.getElem_cons_succ]); go_simp; first | done | (with_reducible rfl)))
          simp only [Act.put, List.getElem_toArray, List.getElem_cons_zero, List.getElem_cons_succ, List.setIfInBounds_toArray, List.set_cons_zero, List.set_cons_succ]
          refine wpAnyH_take (i := 34) (v := ?v60) rfl (by kernel_rfl) (by kernel_rfl) (by kernel_rfl) (fun _ _ _ h => h) (Or.inl ⟨by rfl, ?hy60⟩) (by assumption) ?rest60
          case hy60 => ((intro w hSw; (try dsimp only at hSw); (try simp only [List.getElem_toArray, List.getElem_cons_zero, List.getElem_cons_succ]); go_simp; first | done | (with_reducible rfl)))
          simp only [Act.put, List.getElem_toArray, List.getElem_cons_zero, List.getElem_cons_succ, List.setIfInBounds_toArray, List.set_cons_zero, List.set_cons_succ]
          refine wpAnyH_take (i := 35) (v := ?v61) rfl (by kernel_rfl) (by kernel_rfl) (by kernel_rfl) (fun _ _ _ h => h) (Or.inl ⟨by rfl, ?hy61⟩) (by assumption) ?rest61
          case hy61 => ((intro w hSw; (try dsimp only at hSw); (try simp only [List.getElem_toArray, List.getElem_cons_zero, List.getElem_cons_succ]); go_simp; first | done | (with_reducible rfl)))
          simp only [Act.put, List.getElem_toArray, List.getElem_cons_zero, List.getElem_cons_succ, List.setIfInBounds_toArray, List.set_cons_zero, List.set_cons_succ]
          refine wpAnyH_done (by kernel_rfl) ?_ _
          refine NoPanic.normal ?_
          go_wp2
          go_ret
          exact ⟨by rw [HM.out]; simp, bAll al b3'⟩

/-- The phase of a seeker, as a value. -/
theorem builtPh1 (k : Sk) (yo : Option Addr) (n yc : Nat) : Try.prog.built 161 [(0, .agg (skarr k (.slice yo n yc)))] = some (skarr k (.slice yo n yc)) := by kernel_rfl
theorem builtPh2 (k : Sk) (yo : Option Addr) (n yc : Nat) : Try.prog.built 162 [(0, .agg (skarr k (.slice yo n yc)))] = some (skarr k (.slice yo n yc)) := by kernel_rfl
def rest0 (k : Sk) (y : Value) (c : Bool) : Array Value := (skarr k y).push (.bool c)
theorem builtPh0 (k : Sk) (yo : Option Addr) (n yc : Nat) : Try.prog.built 164 [(0, .agg (skarr k (.slice yo n yc)))] = some (rest0 k (.slice yo n yc) false) := by kernel_rfl
theorem builtPhC (k : Sk) (yo : Option Addr) (n yc : Nat) : Try.prog.built 164 [(0, .agg (skarr k (.slice yo n yc))), (1, .bool true)] = some (rest0 k (.slice yo n yc) true) := by kernel_rfl
theorem meth_hear1 (k : Sk) (yo : Option Addr) (n yc : Nat) (w : World) : (Go.method 369 161 (.agg (skarr k (.slice yo n yc))) "loop.example/pannier/impl.hear").run Try.prog w = .ok (160, .agg (skarr k (.slice yo n yc))) w := by kernel_rfl
theorem meth_tell1 (k : Sk) (yo : Option Addr) (n yc : Nat) (w : World) : (Go.method 369 161 (.agg (skarr k (.slice yo n yc))) "loop.example/pannier/impl.tell").run Try.prog w = .ok (161, .agg (skarr k (.slice yo n yc))) w := by kernel_rfl
theorem meth_hear2 (k : Sk) (yo : Option Addr) (n yc : Nat) (w : World) : (Go.method 369 162 (.agg (skarr k (.slice yo n yc))) "loop.example/pannier/impl.hear").run Try.prog w = .ok (163, .agg (skarr k (.slice yo n yc))) w := by kernel_rfl
theorem meth_tell2 (k : Sk) (yo : Option Addr) (n yc : Nat) (w : World) : (Go.method 369 162 (.agg (skarr k (.slice yo n yc))) "loop.example/pannier/impl.tell").run Try.prog w = .ok (164, .agg (skarr k (.slice yo n yc))) w := by kernel_rfl
theorem meth_hear0 (k : Sk) (yo : Option Addr) (n yc : Nat) (c : Bool) (w : World) : (Go.method 369 164 (.agg (rest0 k (.slice yo n yc) c)) "loop.example/pannier/impl.hear").run Try.prog w = .ok (165, .agg (rest0 k (.slice yo n yc) c)) w := by kernel_rfl
theorem meth_tell0 (k : Sk) (yo : Option Addr) (n yc : Nat) (c : Bool) (w : World) : (Go.method 369 164 (.agg (rest0 k (.slice yo n yc) c)) "loop.example/pannier/impl.tell").run Try.prog w = .ok (166, .agg (rest0 k (.slice yo n yc) c)) w := by kernel_rfl

end Go.Proofs.Yteddhdbglciahaa

/- The phase of a seeker, and what a phase tells: contracts; no statement of the seat is proved here. -/
namespace Go.Proofs.Yteddhdbglciahaa
open Go.RowKit

/-- The phase of a seeker, as a value. -/
def phV (k : Sk) (y : Value) : Value := if k.ph = 1 then .iface 161 (.agg (skarr k y)) else if k.ph = 2 then .iface 162 (.agg (skarr k y)) else .iface 164 (.agg (rest0 k y false))

set_option maxRecDepth 100000 in
set_option maxHeartbeats 4000000 in
theorem phase_any (g : Nat) (k : Sk) (yo : Option Addr) (n yc : Nat) (w : World) (hg : w.heap[g]? = some (.cells (skarr k (.slice yo n yc)) 39 (0, 0))) :
    Calls Try.prog 52 #[.pointer (some ⟨g, 0, none⟩)] w fun e w' => e = .returned (phV k (.slice yo n yc)) ∧ w' = w := by
  obtain ⟨z, hz⟩ : ∃ z, phV k (.slice yo n yc) = z := ⟨_, rfl⟩
  rw [hz]
  have HZZ := hide hz
  have HG := hide hg
  have x2 := (sk_cells hg).2.2.1
  clear hz hg
  by_cases h1 : k.ph = 1
  · have e1 : (k.ph == 1) = true := by simpa using h1
    have ez : Hid (z = .iface 161 (.agg (skarr k (.slice yo n yc)))) := by show _ = _; rw [← HZZ.out, phV, if_pos h1]
    clear h1
    go_enter Try.func52, Try.ntmps52
    go_wp2_with (first
      | (refine wpList_load_row rfl 39 (.tmp 10) rfl g rfl _ (skarr k (.slice yo n yc)) (0, 0) _ HG.out Try.underlying39 rfl infoSk ?_)
      | (refine wpList_buildG (by rfl) 161 _ rfl [(0, .agg (skarr k (.slice yo n yc)))] _ ((by (conv => lhs; simp only [List.map_toArray, List.map_cons, List.map_nil]); rfl)) (builtPh1 k yo n yc) ?_))
    go_ret
    exact ⟨by rw [ez.out]; rfl, rfl⟩
  · have e1 : (k.ph == 1) = false := by simpa using h1
    by_cases h2 : k.ph = 2
    · have e2 : (k.ph == 2) = true := by simpa using h2
      have ez : Hid (z = .iface 162 (.agg (skarr k (.slice yo n yc)))) := by show _ = _; rw [← HZZ.out, phV, if_neg h1, if_pos h2]
      clear h1 h2
      go_enter Try.func52, Try.ntmps52
      go_wp2_with (first
        | (refine wpList_load_row rfl 39 (.tmp 17) rfl g rfl _ (skarr k (.slice yo n yc)) (0, 0) _ HG.out Try.underlying39 rfl infoSk ?_)
        | (refine wpList_buildG (by rfl) 162 _ rfl [(0, .agg (skarr k (.slice yo n yc)))] _ ((by (conv => lhs; simp only [List.map_toArray, List.map_cons, List.map_nil]); rfl)) (builtPh2 k yo n yc) ?_))
      go_ret
      exact ⟨by rw [ez.out]; rfl, rfl⟩
    · have e2 : (k.ph == 2) = false := by simpa using h2
      have ez : Hid (z = .iface 164 (.agg (rest0 k (.slice yo n yc) false))) := by show _ = _; rw [← HZZ.out, phV, if_neg h1, if_neg h2]
      clear h1 h2
      go_enter Try.func52, Try.ntmps52
      go_wp2_with (first
        | (refine wpList_load_row rfl 39 (.tmp 22) rfl g rfl _ (skarr k (.slice yo n yc)) (0, 0) _ HG.out Try.underlying39 rfl infoSk ?_)
        | (refine wpList_buildG (by rfl) 164 _ rfl [(0, .agg (skarr k (.slice yo n yc)))] _ ((by (conv => lhs; simp only [List.map_toArray, List.map_cons, List.map_nil]); rfl)) (builtPh0 k yo n yc) ?_))
      go_ret
      exact ⟨by rw [ez.out]; rfl, rfl⟩

end Go.Proofs.Yteddhdbglciahaa

/- What a phase tells: contracts; no statement of the seat is proved here. (Written by wip/tools/mktell.py.) -/
namespace Go.Proofs.Yteddhdbglciahaa
open Go.RowKit

set_option maxRecDepth 100000 in
set_option maxHeartbeats 4000000 in
theorem tell1_any (k : Sk) (yo : Option Addr) (n yc : Nat) (w : World) :
    Calls Try.prog 161 #[.agg (skarr k (.slice yo n yc))] w fun e w' => e = .returned (.tuple #[.agg (skarr k (.slice yo n yc)), .bool false]) ∧ Below w.heap.size w w' := by
  go_enter Try.func161, Try.ntmps161
  go_upto_region 1 with fail
  generalize hW : World.alloc _ _ = W
  have al : Below w.heap.size w W := by rw [← hW]; exact bal (bal (Below.refl _ _) _) _
  have A0 : Hid (W.heap[w.heap.size]? = some (.cells (skarr k (.slice yo n yc)) 161 (0, 0))) := by show _ = _; rw [← hW]; exact al2_0 w _ _
  have A1 : Hid (W.heap[w.heap.size + 1]? = some (.cells (skarr zeroK (.slice none 0 0)) 39 (0, 0))) := by show _ = _; rw [← hW]; exact al2_1 w _ _
  clear hW
  have s8 := updRow W (w.heap.size + 1) (skarr k (.slice yo n yc))
  go_wp2_with (first
    | (refine wpList_load_row rfl 39 (.tmp 4) rfl w.heap.size rfl _ (skarr k (.slice yo n yc)) (0, 0) _ A0.out Try.underlying39 rfl infoSk ?_)
    | (refine wpList_store_row rfl 39 (.tmp 2) (.tmp 5) rfl (w.heap.size + 1) (skarr k (.slice yo n yc)) rfl rfl _ _ A1.out infoSk (show (26 : Nat) = 26 from rfl) (skarr_one _ _ _ _) ?_))
  refine bodyPost_ret (v := .tuple #[.agg (skarr k (.slice yo n yc)), .bool false]) (results_row_tmp Try.results161 _ _ (w.heap.size + 1) _ _ (0, 0) _ _ rfl rfl (setRow_heap _ _ _ _ _ _ A1.out) Try.underlying39 rfl infoSk) rfl ?_
  exact ⟨rfl, al.trans (s8.below al.size (fun j h => by omega))⟩

set_option maxRecDepth 100000 in
set_option maxHeartbeats 4000000 in
theorem tell2_any (k : Sk) (yo : Option Addr) (n yc : Nat) (w : World) :
    Calls Try.prog 164 #[.agg (skarr k (.slice yo n yc))] w fun e w' => e = .returned (.tuple #[.agg (skarr k (.slice yo n yc)), .bool false]) ∧ Below w.heap.size w w' := by
  go_enter Try.func164, Try.ntmps164
  go_upto_region 1 with fail
  generalize hW : World.alloc _ _ = W
  have al : Below w.heap.size w W := by rw [← hW]; exact bal (bal (Below.refl _ _) _) _
  have A0 : Hid (W.heap[w.heap.size]? = some (.cells (skarr k (.slice yo n yc)) 162 (0, 0))) := by show _ = _; rw [← hW]; exact al2_0 w _ _
  have A1 : Hid (W.heap[w.heap.size + 1]? = some (.cells (skarr zeroK (.slice none 0 0)) 39 (0, 0))) := by show _ = _; rw [← hW]; exact al2_1 w _ _
  clear hW
  have s8 := updRow W (w.heap.size + 1) (skarr k (.slice yo n yc))
  go_wp2_with (first
    | (refine wpList_load_row rfl 39 (.tmp 4) rfl w.heap.size rfl _ (skarr k (.slice yo n yc)) (0, 0) _ A0.out Try.underlying39 rfl infoSk ?_)
    | (refine wpList_store_row rfl 39 (.tmp 2) (.tmp 5) rfl (w.heap.size + 1) (skarr k (.slice yo n yc)) rfl rfl _ _ A1.out infoSk (show (26 : Nat) = 26 from rfl) (skarr_one _ _ _ _) ?_))
  refine bodyPost_ret (v := .tuple #[.agg (skarr k (.slice yo n yc)), .bool false]) (results_row_tmp Try.results164 _ _ (w.heap.size + 1) _ _ (0, 0) _ _ rfl rfl (setRow_heap _ _ _ _ _ _ A1.out) Try.underlying39 rfl infoSk) rfl ?_
  exact ⟨rfl, al.trans (s8.below al.size (fun j h => by omega))⟩

theorem rest0_at (k : Sk) (y : Value) (c : Bool) (j : Nat) (z : Value) (h : (skarr k y)[j]? = some z) : (rest0 k y c)[j]? = some z := by
  have hj := (Array.getElem?_eq_some_iff.1 h).1
  rw [rest0, Array.getElem?_push_lt hj]
  rw [Array.getElem?_eq_getElem hj] at h
  exact h

set_option maxRecDepth 100000 in
set_option maxHeartbeats 4000000 in
theorem tell0_any (k : Sk) (yo : Option Addr) (n yc : Nat) (c : Bool) (w : World) :
    Calls Try.prog 166 #[.agg (rest0 k (.slice yo n yc) c)] w fun e w' => e = .returned (.tuple #[.agg (skarr k (.slice yo n yc)), .bool c]) ∧ Below w.heap.size w w' := by
  go_enter Try.func166, Try.ntmps166
  go_upto_region 1 with fail
  generalize hW : World.alloc _ _ = W
  have al : Below w.heap.size w W := by rw [← hW]; exact bal (bal (Below.refl _ _) _) _
  have A0 : Hid (W.heap[w.heap.size]? = some (.cells (rest0 k (.slice yo n yc) c) 164 (0, 0))) := by show _ = _; rw [← hW]; exact al2_0 w _ _
  have A1 : Hid (W.heap[w.heap.size + 1]? = some (.cells (skarr zeroK (.slice none 0 0)) 39 (0, 0))) := by show _ = _; rw [← hW]; exact al2_1 w _ _
  clear hW
  have dd := bDrewB (Below.refl W.heap.size W)
  have D0 := bKeeps dd A0.out
  have D1 := hide (bKeeps dd A1.out)
  have s8 := updRow W.drew (w.heap.size + 1) (skarr k (.slice yo n yc))
  have D2 := s8.keeps D0 (by omega)
  have HC : Hid (∀ V : World, V.heap[w.heap.size]? = some (.cells (rest0 k (.slice yo n yc) c) 164 (0, 0)) → (∀ j z, (skarr k (.slice yo n yc))[j]? = some z → V.cell? ⟨w.heap.size, 0 + j, none⟩ = some z) ∧ V.cell? ⟨w.heap.size, 26, none⟩ = some (.bool c)) := by
    show ∀ V : World, _
    intro V hV
    exact ⟨fun j z hj => by rw [Nat.zero_add]; exact (boxAt hV j).trans (rest0_at k _ c j z hj), boxAt hV 26⟩
  refine wp_region_noPanic ?_
  refine wp_region_held_drew (S := (fun w' => (∀ j z, (skarr k (.slice yo n yc))[j]? = some z → w'.cell? ⟨w.heap.size, 0 + j, none⟩ = some z) ∧ w'.cell? ⟨w.heap.size, 26, none⟩ = some (.bool c))) (by kernel_rfl) ?_ (fun hHeld => ?_)
  · exact HC.out _ D0
  refine wpAnyH_take (i := 0) (v := ?v1) rfl (by kernel_rfl) (by kernel_rfl) (by kernel_rfl) (fun _ _ _ h => h) (Or.inl ⟨by rfl, ?hy1⟩) (by assumption) ?rest1
  case hy1 => ((intro w hSw; (try dsimp only at hSw); (try simp only [List.getElem_toArray, List.getElem_cons_zero]); go_simp; first | done | (with_reducible rfl)))
  simp only [Act.put, List.getElem_toArray, List.getElem_cons_zero, List.setIfInBounds_toArray, List.set_cons_zero, List.set_cons_succ]
  refine wpAnyH_take (i := 1) (v := .agg (skarr k (.slice yo n yc))) rfl (by kernel_rfl) (by kernel_rfl) (by kernel_rfl) (fun _ _ _ h => h) (yields_at rfl 39 (.tmp 4) rfl (w.heap.size) (0) rfl (skarr k (.slice yo n yc)) _ (fun _ h => h.1) Try.underlying39 rfl infoSk) (by assumption) ?_
  simp only [Act.put, List.getElem_toArray, List.getElem_cons_zero, List.getElem_cons_succ, List.setIfInBounds_toArray, List.set_cons_zero, List.set_cons_succ]
  refine wpAnyH_take (i := 2) (v := ?v2) rfl (by kernel_rfl) (by kernel_rfl) (by kernel_rfl) (fun _ _ _ h => h) (Or.inl ⟨by rfl, ?hy2⟩) (by assumption) ?rest2
  case hy2 => ((intro w hSw; (try dsimp only at hSw); (try simp only [List.getElem_toArray, List.getElem_cons_zero, List.getElem_cons_succ]); go_simp; first | done | (with_reducible rfl)))
  simp only [Act.put, List.getElem_toArray, List.getElem_cons_zero, List.getElem_cons_succ, List.setIfInBounds_toArray, List.set_cons_zero, List.set_cons_succ]
  refine wpAnyH_take (i := 3) (v := ?v3) rfl (by kernel_rfl) (by kernel_rfl) (by kernel_rfl) (fun _ _ _ h => h) (Or.inl ⟨by rfl, ?hy3⟩) (by assumption) ?rest3
  case hy3 => ((intro w hSw; (try dsimp only at hSw); (try simp only [List.getElem_toArray, List.getElem_cons_zero, List.getElem_cons_succ]); go_simp; first | done | (with_reducible rfl)))
  simp only [Act.put, List.getElem_toArray, List.getElem_cons_zero, List.getElem_cons_succ, List.setIfInBounds_toArray, List.set_cons_zero, List.set_cons_succ]
  refine wpAnyH_ready (rs := [4]) (by kernel_rfl) (by simp) ?_
  refine AllReadyH.cons rfl (fun K hK => ?_) AllReadyH.nil
  (refine wp_store_row 39 (.tmp 2) (.tmp 5) rfl (w.heap.size + 1) (skarr k (.slice yo n yc)) rfl rfl _ _ D1.out infoSk (show (26 : Nat) = 26 from rfl) (skarr_one _ _ _ _) ?_)
  refine hK.out _ _ ?_ (fun hHeld => ?_)
  · exact HC.out _ D2
  clear hK K
  refine wpAnyH_take (i := 5) (v := ?v4) rfl (by kernel_rfl) (by kernel_rfl) (by kernel_rfl) (fun _ _ _ h => h) (Or.inl ⟨by rfl, ?y4⟩) (by assumption) ?r4
  case y4 => (intro w hSw; go_simp; first | done | (with_reducible rfl))
  simp only [Act.put, List.getElem_toArray, List.getElem_cons_zero, List.getElem_cons_succ, List.setIfInBounds_toArray, List.set_cons_zero, List.set_cons_succ]
  refine wpAnyH_done (by kernel_rfl) ?_ _
  refine NoPanic.normal ?_
  clear hHeld
  go_wp2_with fail
  refine bodyPost_ret (v := .tuple #[.agg (skarr k (.slice yo n yc)), .bool c]) (results_row_tmp Try.results166 _ _ (w.heap.size + 1) _ _ (0, 0) _ _ rfl rfl (setRow_heap _ _ _ _ _ _ D1.out) Try.underlying39 rfl infoSk) rfl ?_
  have cw := bAll al dd
  exact ⟨rfl, cw.trans (s8.below cw.size (fun j h => by omega))⟩

end Go.Proofs.Yteddhdbglciahaa

/- What the phases of the program do with a word: contracts; no statement of the seat is proved here. (Written by wip/tools/mkhear1.py.) -/
namespace Go.Proofs.Yteddhdbglciahaa
open Go.RowKit

theorem builtZw : Try.prog.built 47 [] = some (fwarr zeroW) := by kernel_rfl
theorem builtAcc2 (b s : Int) (c : Wd) : Try.prog.built 47 [(0, .int .i64 3), (3, .int .i64 b), (4, .int .i64 s), (6, .agg (wcmd c))] = some (fwarr (accW 0 b s c)) := by kernel_rfl
theorem infoPr : (Try.prog.info? 161).map (·.size) = some 26 := by kernel_rfl
theorem infoVo : (Try.prog.info? 162).map (·.size) = some 26 := by kernel_rfl
theorem infoRe : (Try.prog.info? 164).map (·.size) = some 27 := by kernel_rfl
/-- Blocks below b of other types than int are kept. -/
def KpH2 (b : Nat) (w w' : World) : Prop := ∀ g t cs, g < b → t ≠ 3 → w.heap[g]? = some (.cells cs t (0, 0)) → w'.heap[g]? = some (.cells cs t (0, 0))
theorem KpH2.trans {b : Nat} {w w' w'' : World} (h : KpH2 b w w') (h' : KpH2 b w' w'') : KpH2 b w w'' := fun g t cs hb ht hg => h' g t cs hb ht (h g t cs hb ht hg)
theorem KpH2.below {b : Nat} {w w' : World} (h : Below w.heap.size w w') : KpH2 b w w' := fun _ _ _ _ _ hg => bKeeps h hg
theorem KpH2.upd {b : Nat} {S : Nat → Prop} {w w' : World} (u : Upd S w w') (hS : ∀ j, S j → b ≤ j) : KpH2 b w w' := fun g _ _ hb _ hg => u.keeps hg (fun h => by have := hS g h; omega)
theorem KpH2.typed {b : Nat} {S : Nat → Prop} {w w' : World} (u : Upd (typed w S 3) w w') : KpH2 b w w' := fun _ _ _ _ ht hg => typed_keeps ht.symm u hg

/-- What a phase gives at a word: a word with which all are asked, and the next phase. -/
def PhO (w w' : World) (base : Nat) (a : Wd) (T : TypeId) (K : Sk) (c : Option Bool) (v : Value) : Prop :=
  ∃ yo yc cs, v = .tuple #[.agg (fwarr a), .iface T (.agg cs)] ∧ cs = (match c with | none => skarr K (.slice yo K.ys.length yc) | some c => rest0 K (.slice yo K.ys.length yc) c) ∧ RowA w' base 3 1 (.slice yo K.ys.length yc) K.ys.length (ints K.ys) ∧ Upd (fun j => base ≤ j) w w' ∧ KpH2 w.heap.size w w'

set_option maxRecDepth 100000 in
set_option maxHeartbeats 8000000 in
theorem hear0_any (k : Sk) (yo : Option Addr) (yc base : Nat) (c : Bool) (u : Value) (x : Wd) (w : World) (hr : RowA w base 3 1 (.slice yo k.ys.length yc) k.ys.length (ints k.ys)) (hb : base ≤ w.heap.size) (hx : WdR w u x) :
    Calls Try.prog 165 #[.agg (rest0 k (.slice yo k.ys.length yc) c), u] w fun e w' => ∃ v, e = .returned v ∧ PhO w w' base zeroW 164 k (some c) v := by
  obtain ⟨i1, gi, gz0, gz1, gz2⟩ := info_parts infoInt
  obtain ⟨cs, rfl, hs, -⟩ := hx.agg
  have HXC := hide hx.cells
  have HR := hide hr
  clear hx hs hr
  go_enter Try.func165, Try.ntmps165
  go_upto_region 1 with fail
  generalize hW : World.alloc _ _ = W
  have al : Below w.heap.size w W := by rw [← hW]; exact bal (bal (bal (Below.refl _ _) _) _) _
  have A0 : Hid (W.heap[w.heap.size]? = some (.cells (rest0 k (.slice yo k.ys.length yc) c) 164 (0, 0))) := by show _ = _; rw [← hW]; exact al3_0 w _ _ _
  have A1 : Hid (W.heap[w.heap.size + 1]? = some (.cells cs 47 (0, 0))) := by show _ = _; rw [← hW]; exact al3_1 w _ _ _
  have A2 : Hid (W.heap[w.heap.size + 1 + 1]? = some (.cells #[.int .i64 0, .int .i64 0, .int .i64 0, .int .i64 0, .int .i64 0, .int .i64 0, .int .i64 0, .int .i64 0, .int .i64 0, .int .i64 0, .int .i64 0, .int .i64 0, .int .i64 0, .int .i64 0, .int .i64 0, .int .i64 0, .int .i64 0, .int .i64 0, .int .i64 0, .int .i64 0, .int .i64 0, .int .i64 0, .int .i64 0, .int .i64 0, .slice none 0 0, .slice none 0 0] 47 (0, 0))) := by show _ = _; rw [← hW]; exact al3_2 w _ _ _
  have ltW := heap_lt A2.out
  have RW := hide (HR.out.keepB al)
  clear hW
  have dd := bDrewB (Below.refl W.heap.size W)
  have E0 := hide (bKeeps dd A0.out)
  have E2 := hide (bKeeps dd A2.out)
  have s9 := updRow W.drew (w.heap.size + 1 + 1) (fwarr zeroW)
  have E3 := s9.keeps E0.out (by omega)
  go_wp2
  refine wp_region_noPanic ?_
  refine wp_region_held_drew (S := (fun w' => w'.heap[w.heap.size]? = some (.cells (rest0 k (.slice yo k.ys.length yc) c) 164 (0, 0)))) (by kernel_rfl) ?_ (fun hHeld => ?_)
  · exact E0.out
  refine wpAnyH_take (i := 0) (v := .agg (fwarr zeroW)) rfl (by kernel_rfl) (by kernel_rfl) (by kernel_rfl) (fun _ _ _ h => h) (yields_build rfl 47 _ rfl [] _ (by simp) builtZw) (by assumption) ?_
  simp only [Act.put, List.getElem_toArray, List.getElem_cons_zero, List.setIfInBounds_toArray, List.set_cons_zero, List.set_cons_succ]
  refine wpAnyH_take (i := 1) (v := .agg (rest0 k (.slice yo k.ys.length yc) c)) rfl (by kernel_rfl) (by kernel_rfl) (by kernel_rfl) (fun _ _ _ h => h) (yields_row rfl 164 (.tmp 2) rfl (w.heap.size) rfl _ (rest0 k (.slice yo k.ys.length yc) c) _ (fun _ h => h) Try.underlying164 rfl infoRe) (by assumption) ?_
  simp only [Act.put, List.getElem_toArray, List.getElem_cons_zero, List.getElem_cons_succ, List.setIfInBounds_toArray, List.set_cons_zero, List.set_cons_succ]
  refine wpAnyH_take (i := 2) (v := ?v1) rfl (by kernel_rfl) (by kernel_rfl) (by kernel_rfl) (fun _ _ _ h => h) (Or.inl ⟨by rfl, ?hy1⟩) (by assumption) ?rest1
  case hy1 => ((intro w hSw; (try dsimp only at hSw); (try simp only [List.getElem_toArray, List.getElem_cons_zero, List.getElem_cons_succ]); go_simp; first | done | (with_reducible rfl)))
  simp only [Act.put, List.getElem_toArray, List.getElem_cons_zero, List.getElem_cons_succ, List.setIfInBounds_toArray, List.set_cons_zero, List.set_cons_succ]
  refine wpAnyH_ready (rs := [3]) (by kernel_rfl) (by simp) ?_
  refine AllReadyH.cons rfl (fun K hK => ?_) AllReadyH.nil
  (refine wp_store_row 47 (.tmp 4) (.tmp 6) rfl (w.heap.size + 1 + 1) (fwarr zeroW) rfl rfl _ _ E2.out infoWd (show (26 : Nat) = 26 from rfl) (fw_one _) ?_)
  refine hK.out _ _ ?_ (fun hHeld => ?_)
  · exact E3
  clear hK K
  refine wpAnyH_take (i := 4) (v := ?v2) rfl (by kernel_rfl) (by kernel_rfl) (by kernel_rfl) (fun _ _ _ h => h) (Or.inl ⟨by rfl, ?y2⟩) (by assumption) ?r2
  case y2 => (intro w hSw; go_simp; first | done | (with_reducible rfl))
  simp only [Act.put, List.getElem_toArray, List.getElem_cons_zero, List.getElem_cons_succ, List.setIfInBounds_toArray, List.set_cons_zero, List.set_cons_succ]
  refine wpAnyH_done (by kernel_rfl) ?_ _
  refine NoPanic.normal ?_
  clear hHeld
  go_wp2_with fail
  refine bodyPost_ret (v := .tuple #[.agg (fwarr zeroW), .iface 164 (.agg (rest0 k (.slice yo k.ys.length yc) c))]) (results_row_tmp Try.results165 _ _ (w.heap.size + 1 + 1) _ _ (0, 0) _ _ rfl rfl (setRow_heap _ _ _ _ _ _ E2.out) Try.underlying47 rfl infoWd) rfl ?_
  have zd := dd.size
  have zal := al.size
  have rr : RowA (W.drew.setRow (w.heap.size + 1 + 1) (fwarr zeroW)) base 3 1 (.slice yo k.ys.length yc) k.ys.length (ints k.ys) := RowA.keepTy8 (RW.out.keepB dd) s9 (fun j h1 h2 => by subst h2; exact typed_box E2.out (by decide) rfl h1)
  exact ⟨_, rfl, yo, yc, _, rfl, rfl, rr, (Upd.ofBelow (bAll al dd)).trans (s9.mono (fun j h => by omega)), (KpH2.below al).trans ((KpH2.below dd).trans (KpH2.upd s9 (fun j h => by omega)))⟩

/-- What a phase that waits for votes does with a word. -/
def hear2R (k : Sk) (x : Wd) : TypeId × Sk × Option Bool :=
  if x.a0 = 4 then
    if k.ys.length = 0 then (162, { k with ys := k.ys ++ [x.a1] }, none)
    else (164, { k with ys := k.ys ++ [x.a1] }, some true)
  else (162, k, none)

theorem rowA_more {w : World} {base : Nat} {o : Option Addr} {n c : Nat} {l : List Int} {x : Int} (h : RowA w base 3 1 (.slice o (n + 1) c) (n + 1) (ints l ++ [.int .i64 x])) (hn : l.length = n) : RowA w base 3 1 (.slice o (l ++ [x]).length c) (l ++ [x]).length (ints (l ++ [x])) := by
  have e : (l ++ [x]).length = n + 1 := by simp [hn]
  have e2 : ints (l ++ [x]) = ints l ++ [.int .i64 x] := by simp [ints]
  rw [e, e2]
  exact h

set_option maxRecDepth 100000 in
set_option maxHeartbeats 8000000 in
theorem hear2_any (k : Sk) (yo : Option Addr) (yc base : Nat) (u : Value) (x : Wd) (w : World) (hn : k.ys.length ≤ 1) (hr : RowA w base 3 1 (.slice yo k.ys.length yc) k.ys.length (ints k.ys)) (hb : base ≤ w.heap.size) (hx : WdR w u x) :
    Calls Try.prog 163 #[.agg (skarr k (.slice yo k.ys.length yc)), u] w fun e w' => ∃ v, e = .returned v ∧ PhO w w' base zeroW (hear2R k x).1 (hear2R k x).2.1 (hear2R k x).2.2 v := by
  obtain ⟨R, hR⟩ : ∃ R, hear2R k x = R := ⟨_, rfl⟩
  rw [hR]
  have HR2 := hide hR
  clear hR
  obtain ⟨i1, gi, gz0, gz1, gz2⟩ := info_parts infoInt
  obtain ⟨cs, rfl, hs, -⟩ := hx.agg
  have HXC := hide hx.cells
  have HR := hide hr
  clear hx hs hr
  go_enter Try.func163, Try.ntmps163
  go_upto_region 1 with fail
  generalize hW : World.alloc _ _ = W
  have al : Below w.heap.size w W := by rw [← hW]; exact bal (bal (bal (Below.refl _ _) _) _) _
  have A0 : Hid (W.heap[w.heap.size]? = some (.cells (skarr k (.slice yo k.ys.length yc)) 162 (0, 0))) := by show _ = _; rw [← hW]; exact al3_0 w _ _ _
  have A1 : Hid (W.heap[w.heap.size + 1]? = some (.cells cs 47 (0, 0))) := by show _ = _; rw [← hW]; exact al3_1 w _ _ _
  have A2 : Hid (W.heap[w.heap.size + 1 + 1]? = some (.cells #[.int .i64 0, .int .i64 0, .int .i64 0, .int .i64 0, .int .i64 0, .int .i64 0, .int .i64 0, .int .i64 0, .int .i64 0, .int .i64 0, .int .i64 0, .int .i64 0, .int .i64 0, .int .i64 0, .int .i64 0, .int .i64 0, .int .i64 0, .int .i64 0, .int .i64 0, .int .i64 0, .int .i64 0, .int .i64 0, .int .i64 0, .int .i64 0, .slice none 0 0, .slice none 0 0] 47 (0, 0))) := by show _ = _; rw [← hW]; exact al3_2 w _ _ _
  have ltW := heap_lt A2.out
  have RW := hide (HR.out.keepB al)
  clear hW
  have w0 : W.cell? ⟨w.heap.size + 1, 0, none⟩ = some (.int .i64 x.a0) := (boxAt A1.out 0).trans HXC.out.1
  by_cases ha : x.a0 = 4
  · have e1 : (x.a0 != 4) = false := by simpa using ha
    have hR : Hid (R = if k.ys.length = 0 then (162, { k with ys := k.ys ++ [x.a1] }, none) else (164, { k with ys := k.ys ++ [x.a1] }, some true)) := by show _ = _; rw [← HR2.out, hear2R, if_pos ha]
    clear ha
    go_upto_region 3 with fail
    clear w0 e1
    have l7 : W.cell? ⟨w.heap.size, 25, none⟩ = some (.slice yo k.ys.length yc) := boxAt A0.out 25
    have m7 : W.cell? ⟨w.heap.size + 1, 1, none⟩ = some (.int .i64 x.a1) := (boxAt A1.out 1).trans HXC.out.2.1
    have al8 := bal (Below.refl W.heap.size W) (.cells #[.int .i64 x.a1] 3)
    have rowV := RW.out.keepB al8
    have NV := hide (newI_cells W x.a1 3)
    have T8 := hide (bKeeps al8 A0.out)
    have O8 := hide (bKeeps al8 A2.out)
    go_wp2_with (at_builtin; refine wpList_appendA _ rfl _ _ 26 rfl base 3 i1 (.int .i64 0) 1 8 Try.underlying26 gi gz0 gz1 gz2 rfl (by decide) _ k.ys.length (ints k.ys) rfl rowV ⟨W.heap.size, 0, none⟩ 1 1 [.int .i64 x.a1] rfl rfl NV.out (oneI _) (by decide) ?q63 ?qby ?qbase ?_)
    case q63 => unfold maxLen; omega
    case qby => omega
    case qbase => (have := al.size; have := al8.size; omega)
    intro v8 w8 r8 u8
    obtain ⟨so8, sc8, rfl, hcap8⟩ := owns_shape r8
    have B8 := hide (typed_keeps (by decide) u8 T8.out)
    have P8 := hide (typed_keeps (by decide) u8 O8.out)
    have R8 := hide (show RowA w8 base 3 1 _ _ _ from .inl r8)
    have z8 := u8.size
    have zal := al8.size
    have UV : Upd (fun j => base ≤ j) w w8 := (Upd.ofBelow (bAll al al8)).trans (u8.mono (fun j h => h.1))
    have UK : KpH2 w.heap.size w w8 := ((KpH2.below al).trans (KpH2.below al8)).trans (KpH2.typed u8)
    have f0 : w8.cell? ⟨w.heap.size, 25, none⟩ = some (.slice yo k.ys.length yc) := boxAt B8.out 25
    have f1 : w8.frozen? ⟨w.heap.size, 25, none⟩ = false := boxFz B8.out 25
    clear rowV NV T8 O8 r8 u8 al8 l7 m7
    go_upto_region 4 with fail
    generalize hV : World.setCell _ _ _ = V9
    have u9 : Upd (fun j => j = w.heap.size) w8 V9 := by rw [← hV]; exact Upd.setCell _ _ _ _ rfl
    have T9 : Hid (V9.heap[w.heap.size]? = some (.cells (skarr k (.slice so8 (k.ys.length + 1) sc8)) 162 (0, 0))) := by show _ = _; rw [← hV]; exact row_set _ B8.out
    have R9 := hide (rowA_keep_box (by decide) R8.out B8.out u9)
    have P9 := hide (u9.keeps P8.out (by omega))
    have c9 : Upd (fun j => base ≤ j) w V9 := UV.trans (u9.mono (fun j h => by omega))
    have k9 : KpH2 w.heap.size w V9 := UK.trans (KpH2.upd u9 (fun j h => by omega))
    have z9 := u9.size
    have l9 : V9.cell? ⟨w.heap.size, 25, none⟩ = some (.slice so8 (k.ys.length + 1) sc8) := boxAt T9.out 25
    clear hV f0 f1 B8 P8 R8 u9 UV UK
    by_cases hn0 : k.ys.length = 0
    · have e6 : decide (((k.ys.length + 1 : Nat) : Int) < 2) = true := decide_eq_true (by omega)
      have e7 : decide ((k.ys.length : Int) + 1 < 2) = true := decide_eq_true (by omega)
      have hR3 : Hid (R = (162, { k with ys := k.ys ++ [x.a1] }, none)) := by show _ = _; rw [hR.out, if_pos hn0]
      clear hn0
      go_upto_region 5 with fail
      clear e6 e7 l9
      have dd := bDrewB (Below.refl V9.heap.size V9)
      have E0 := hide (bKeeps dd T9.out)
      have E2 := hide (bKeeps dd P9.out)
      have s9 := updRow V9.drew (w.heap.size + 1 + 1) (fwarr zeroW)
      have E3 := s9.keeps E0.out (by omega)
      go_wp2
      refine wp_region_noPanic ?_
      refine wp_region_held_drew (S := (fun w' => w'.heap[w.heap.size]? = some (.cells (skarr k (.slice so8 (k.ys.length + 1) sc8)) 162 (0, 0)))) (by kernel_rfl) ?_ (fun hHeld => ?_)
      · exact E0.out
      refine wpAnyH_take (i := 0) (v := .agg (fwarr zeroW)) rfl (by kernel_rfl) (by kernel_rfl) (by kernel_rfl) (fun _ _ _ h => h) (yields_build rfl 47 _ rfl [] _ (by simp) builtZw) (by assumption) ?_
      simp only [Act.put, List.getElem_toArray, List.getElem_cons_zero, List.setIfInBounds_toArray, List.set_cons_zero, List.set_cons_succ]
      refine wpAnyH_take (i := 1) (v := .agg (skarr k (.slice so8 (k.ys.length + 1) sc8))) rfl (by kernel_rfl) (by kernel_rfl) (by kernel_rfl) (fun _ _ _ h => h) (yields_row rfl 162 (.tmp 2) rfl (w.heap.size) rfl _ (skarr k (.slice so8 (k.ys.length + 1) sc8)) _ (fun _ h => h) Try.underlying162 rfl infoVo) (by assumption) ?_
      simp only [Act.put, List.getElem_toArray, List.getElem_cons_zero, List.getElem_cons_succ, List.setIfInBounds_toArray, List.set_cons_zero, List.set_cons_succ]
      refine wpAnyH_take (i := 2) (v := ?v3) rfl (by kernel_rfl) (by kernel_rfl) (by kernel_rfl) (fun _ _ _ h => h) (Or.inl ⟨by rfl, ?hy3⟩) (by assumption) ?rest3
      case hy3 => ((intro w hSw; (try dsimp only at hSw); (try simp only [List.getElem_toArray, List.getElem_cons_zero, List.getElem_cons_succ]); go_simp; first | done | (with_reducible rfl)))
      simp only [Act.put, List.getElem_toArray, List.getElem_cons_zero, List.getElem_cons_succ, List.setIfInBounds_toArray, List.set_cons_zero, List.set_cons_succ]
      refine wpAnyH_ready (rs := [3]) (by kernel_rfl) (by simp) ?_
      refine AllReadyH.cons rfl (fun K hK => ?_) AllReadyH.nil
      (refine wp_store_row 47 (.tmp 4) (.tmp 26) rfl (w.heap.size + 1 + 1) (fwarr zeroW) rfl rfl _ _ E2.out infoWd (show (26 : Nat) = 26 from rfl) (fw_one _) ?_)
      refine hK.out _ _ ?_ (fun hHeld => ?_)
      · exact E3
      clear hK K
      refine wpAnyH_take (i := 4) (v := ?v4) rfl (by kernel_rfl) (by kernel_rfl) (by kernel_rfl) (fun _ _ _ h => h) (Or.inl ⟨by rfl, ?y4⟩) (by assumption) ?r4
      case y4 => (intro w hSw; go_simp; first | done | (with_reducible rfl))
      simp only [Act.put, List.getElem_toArray, List.getElem_cons_zero, List.getElem_cons_succ, List.setIfInBounds_toArray, List.set_cons_zero, List.set_cons_succ]
      refine wpAnyH_done (by kernel_rfl) ?_ _
      refine NoPanic.normal ?_
      clear hHeld
      go_wp2_with fail
      refine bodyPost_ret (v := .tuple #[.agg (fwarr zeroW), .iface 162 (.agg (skarr k (.slice so8 (k.ys.length + 1) sc8)))]) (results_row_tmp Try.results163 _ _ (w.heap.size + 1 + 1) _ _ (0, 0) _ _ rfl rfl (setRow_heap _ _ _ _ _ _ E2.out) Try.underlying47 rfl infoWd) rfl ?_
      have zd := dd.size
      have zal := al.size
      have rr : RowA (V9.drew.setRow (w.heap.size + 1 + 1) (fwarr zeroW)) base 3 1 (.slice so8 (k.ys.length + 1) sc8) (k.ys.length + 1) (ints k.ys ++ [.int .i64 x.a1]) := RowA.keepTy8 (R9.out.keepB dd) s9 (fun j h1 h2 => by subst h2; exact typed_box E2.out (by decide) rfl h1)
      rw [hR3.out]
      exact ⟨_, rfl, so8, sc8, (skarr k (.slice so8 (k.ys.length + 1) sc8)), rfl, by rw [List.length_append]; rfl, rowA_more rr rfl, (c9.trans (Upd.ofBelow dd)).trans (s9.mono (fun j h => by omega)), k9.trans ((KpH2.below dd).trans (KpH2.upd s9 (fun j h => by omega)))⟩
    · have e6 : decide (((k.ys.length + 1 : Nat) : Int) < 2) = false := decide_eq_false (by omega)
      have e7 : decide ((k.ys.length : Int) + 1 < 2) = false := decide_eq_false (by omega)
      have hR3 : Hid (R = (164, { k with ys := k.ys ++ [x.a1] }, some true)) := by show _ = _; rw [hR.out, if_neg hn0]
      clear hn0
      go_upto_region 6 with fail
      clear e6 e7 l9
      have dd := bDrewB (Below.refl V9.heap.size V9)
      have E0 := hide (bKeeps dd T9.out)
      have E2 := hide (bKeeps dd P9.out)
      have s9 := updRow V9.drew (w.heap.size + 1 + 1) (fwarr zeroW)
      have E3 := s9.keeps E0.out (by omega)
      go_wp2
      refine wp_region_noPanic ?_
      refine wp_region_held_drew (S := (fun w' => w'.heap[w.heap.size]? = some (.cells (skarr k (.slice so8 (k.ys.length + 1) sc8)) 162 (0, 0)))) (by kernel_rfl) ?_ (fun hHeld => ?_)
      · exact E0.out
      refine wpAnyH_take (i := 0) (v := .agg (fwarr zeroW)) rfl (by kernel_rfl) (by kernel_rfl) (by kernel_rfl) (fun _ _ _ h => h) (yields_build rfl 47 _ rfl [] _ (by simp) builtZw) (by assumption) ?_
      simp only [Act.put, List.getElem_toArray, List.getElem_cons_zero, List.setIfInBounds_toArray, List.set_cons_zero, List.set_cons_succ]
      refine wpAnyH_take (i := 1) (v := ?v5) rfl (by kernel_rfl) (by kernel_rfl) (by kernel_rfl) (fun _ _ _ h => h) (Or.inl ⟨by rfl, ?hy5⟩) (by assumption) ?rest5
      case hy5 => ((intro w hSw; (try dsimp only at hSw); (try simp only [List.getElem_toArray, List.getElem_cons_zero, List.getElem_cons_succ]); go_simp; first | done | (with_reducible rfl)))
      simp only [Act.put, List.getElem_toArray, List.getElem_cons_zero, List.getElem_cons_succ, List.setIfInBounds_toArray, List.set_cons_zero, List.set_cons_succ]
      refine wpAnyH_take (i := 2) (v := .agg (skarr k (.slice so8 (k.ys.length + 1) sc8))) rfl (by kernel_rfl) (by kernel_rfl) (by kernel_rfl) (fun _ _ _ h => h) (yields_row rfl 39 (.tmp 30) rfl (w.heap.size) rfl _ (skarr k (.slice so8 (k.ys.length + 1) sc8)) _ (fun _ h => h) Try.underlying39 rfl infoSk) (by assumption) ?_
      simp only [Act.put, List.getElem_toArray, List.getElem_cons_zero, List.getElem_cons_succ, List.setIfInBounds_toArray, List.set_cons_zero, List.set_cons_succ]
      refine wpAnyH_take (i := 3) (v := .agg (rest0 k (.slice so8 (k.ys.length + 1) sc8) true)) rfl (by kernel_rfl) (by kernel_rfl) (by kernel_rfl) (fun _ _ _ h => h) (yields_build rfl 164 _ rfl [(0, .agg (skarr k (.slice so8 (k.ys.length + 1) sc8))), (1, .bool true)] _ ((by (conv => lhs; simp only [List.map_toArray, List.map_cons, List.map_nil]); rfl)) (builtPhC k so8 (k.ys.length + 1) sc8)) (by assumption) ?_
      simp only [Act.put, List.getElem_toArray, List.getElem_cons_zero, List.getElem_cons_succ, List.setIfInBounds_toArray, List.set_cons_zero, List.set_cons_succ]
      refine wpAnyH_take (i := 4) (v := ?v6) rfl (by kernel_rfl) (by kernel_rfl) (by kernel_rfl) (fun _ _ _ h => h) (Or.inl ⟨by rfl, ?hy6⟩) (by assumption) ?rest6
      case hy6 => ((intro w hSw; (try dsimp only at hSw); (try simp only [List.getElem_toArray, List.getElem_cons_zero, List.getElem_cons_succ]); go_simp; first | done | (with_reducible rfl)))
      simp only [Act.put, List.getElem_toArray, List.getElem_cons_zero, List.getElem_cons_succ, List.setIfInBounds_toArray, List.set_cons_zero, List.set_cons_succ]
      refine wpAnyH_ready (rs := [5]) (by kernel_rfl) (by simp) ?_
      refine AllReadyH.cons rfl (fun K hK => ?_) AllReadyH.nil
      (refine wp_store_row 47 (.tmp 4) (.tmp 29) rfl (w.heap.size + 1 + 1) (fwarr zeroW) rfl rfl _ _ E2.out infoWd (show (26 : Nat) = 26 from rfl) (fw_one _) ?_)
      refine hK.out _ _ ?_ (fun hHeld => ?_)
      · exact E3
      clear hK K
      refine wpAnyH_take (i := 6) (v := ?v7) rfl (by kernel_rfl) (by kernel_rfl) (by kernel_rfl) (fun _ _ _ h => h) (Or.inl ⟨by rfl, ?y7⟩) (by assumption) ?r7
      case y7 => (intro w hSw; go_simp; first | done | (with_reducible rfl))
      simp only [Act.put, List.getElem_toArray, List.getElem_cons_zero, List.getElem_cons_succ, List.setIfInBounds_toArray, List.set_cons_zero, List.set_cons_succ]
      refine wpAnyH_done (by kernel_rfl) ?_ _
      refine NoPanic.normal ?_
      clear hHeld
      go_wp2_with fail
      refine bodyPost_ret (v := .tuple #[.agg (fwarr zeroW), .iface 164 (.agg (rest0 k (.slice so8 (k.ys.length + 1) sc8) true))]) (results_row_tmp Try.results163 _ _ (w.heap.size + 1 + 1) _ _ (0, 0) _ _ rfl rfl (setRow_heap _ _ _ _ _ _ E2.out) Try.underlying47 rfl infoWd) rfl ?_
      have zd := dd.size
      have zal := al.size
      have rr : RowA (V9.drew.setRow (w.heap.size + 1 + 1) (fwarr zeroW)) base 3 1 (.slice so8 (k.ys.length + 1) sc8) (k.ys.length + 1) (ints k.ys ++ [.int .i64 x.a1]) := RowA.keepTy8 (R9.out.keepB dd) s9 (fun j h1 h2 => by subst h2; exact typed_box E2.out (by decide) rfl h1)
      rw [hR3.out]
      exact ⟨_, rfl, so8, sc8, (rest0 k (.slice so8 (k.ys.length + 1) sc8) true), rfl, by rw [List.length_append]; rfl, rowA_more rr rfl, (c9.trans (Upd.ofBelow dd)).trans (s9.mono (fun j h => by omega)), k9.trans ((KpH2.below dd).trans (KpH2.upd s9 (fun j h => by omega)))⟩
  · have e1 : (x.a0 != 4) = true := by simpa using ha
    have hR : Hid (R = (162, k, none)) := by show _ = _; rw [← HR2.out, hear2R, if_neg ha]
    clear ha
    go_upto_region 2 with fail
    clear w0 e1
    have dd := bDrewB (Below.refl W.heap.size W)
    have E0 := hide (bKeeps dd A0.out)
    have E2 := hide (bKeeps dd A2.out)
    have s9 := updRow W.drew (w.heap.size + 1 + 1) (fwarr zeroW)
    have E3 := s9.keeps E0.out (by omega)
    go_wp2
    refine wp_region_noPanic ?_
    refine wp_region_held_drew (S := (fun w' => w'.heap[w.heap.size]? = some (.cells (skarr k (.slice yo k.ys.length yc)) 162 (0, 0)))) (by kernel_rfl) ?_ (fun hHeld => ?_)
    · exact E0.out
    refine wpAnyH_take (i := 0) (v := .agg (fwarr zeroW)) rfl (by kernel_rfl) (by kernel_rfl) (by kernel_rfl) (fun _ _ _ h => h) (yields_build rfl 47 _ rfl [] _ (by simp) builtZw) (by assumption) ?_
    simp only [Act.put, List.getElem_toArray, List.getElem_cons_zero, List.setIfInBounds_toArray, List.set_cons_zero, List.set_cons_succ]
    refine wpAnyH_take (i := 1) (v := .agg (skarr k (.slice yo k.ys.length yc))) rfl (by kernel_rfl) (by kernel_rfl) (by kernel_rfl) (fun _ _ _ h => h) (yields_row rfl 162 (.tmp 2) rfl (w.heap.size) rfl _ (skarr k (.slice yo k.ys.length yc)) _ (fun _ h => h) Try.underlying162 rfl infoVo) (by assumption) ?_
    simp only [Act.put, List.getElem_toArray, List.getElem_cons_zero, List.getElem_cons_succ, List.setIfInBounds_toArray, List.set_cons_zero, List.set_cons_succ]
    refine wpAnyH_take (i := 2) (v := ?v8) rfl (by kernel_rfl) (by kernel_rfl) (by kernel_rfl) (fun _ _ _ h => h) (Or.inl ⟨by rfl, ?hy8⟩) (by assumption) ?rest8
    case hy8 => ((intro w hSw; (try dsimp only at hSw); (try simp only [List.getElem_toArray, List.getElem_cons_zero, List.getElem_cons_succ]); go_simp; first | done | (with_reducible rfl)))
    simp only [Act.put, List.getElem_toArray, List.getElem_cons_zero, List.getElem_cons_succ, List.setIfInBounds_toArray, List.set_cons_zero, List.set_cons_succ]
    refine wpAnyH_ready (rs := [3]) (by kernel_rfl) (by simp) ?_
    refine AllReadyH.cons rfl (fun K hK => ?_) AllReadyH.nil
    (refine wp_store_row 47 (.tmp 4) (.tmp 9) rfl (w.heap.size + 1 + 1) (fwarr zeroW) rfl rfl _ _ E2.out infoWd (show (26 : Nat) = 26 from rfl) (fw_one _) ?_)
    refine hK.out _ _ ?_ (fun hHeld => ?_)
    · exact E3
    clear hK K
    refine wpAnyH_take (i := 4) (v := ?v9) rfl (by kernel_rfl) (by kernel_rfl) (by kernel_rfl) (fun _ _ _ h => h) (Or.inl ⟨by rfl, ?y9⟩) (by assumption) ?r9
    case y9 => (intro w hSw; go_simp; first | done | (with_reducible rfl))
    simp only [Act.put, List.getElem_toArray, List.getElem_cons_zero, List.getElem_cons_succ, List.setIfInBounds_toArray, List.set_cons_zero, List.set_cons_succ]
    refine wpAnyH_done (by kernel_rfl) ?_ _
    refine NoPanic.normal ?_
    clear hHeld
    go_wp2_with fail
    refine bodyPost_ret (v := .tuple #[.agg (fwarr zeroW), .iface 162 (.agg (skarr k (.slice yo k.ys.length yc)))]) (results_row_tmp Try.results163 _ _ (w.heap.size + 1 + 1) _ _ (0, 0) _ _ rfl rfl (setRow_heap _ _ _ _ _ _ E2.out) Try.underlying47 rfl infoWd) rfl ?_
    have zd := dd.size
    have zal := al.size
    rw [hR.out]
    have rr : RowA (W.drew.setRow (w.heap.size + 1 + 1) (fwarr zeroW)) base 3 1 (.slice yo k.ys.length yc) k.ys.length (ints k.ys) := RowA.keepTy8 (RW.out.keepB dd) s9 (fun j h1 h2 => by subst h2; exact typed_box E2.out (by decide) rfl h1)
    exact ⟨_, rfl, yo, yc, _, rfl, rfl, rr, (Upd.ofBelow (bAll al dd)).trans (s9.mono (fun j h => by omega)), (KpH2.below al).trans ((KpH2.below dd).trans (KpH2.upd s9 (fun j h => by omega)))⟩

end Go.Proofs.Yteddhdbglciahaa
