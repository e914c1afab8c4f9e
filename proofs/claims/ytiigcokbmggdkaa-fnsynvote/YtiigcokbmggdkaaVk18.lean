/- Contracts and plain facts that this claim leans on (texts VS2); no statement of the seat is proved here. -/
import Derived.Test.YtiigcokbmggdkaaVk15
import Derived.Test.YtiigcokbmggdkaaVk10

/- What a voter does with a word, by the specification, with the room of its papers: contracts; no statement of the seat is proved here. -/
namespace Go.Proofs.Ytiigcokbmggdkaa
open Go.RowKit

theorem rowA_keep_box {w w' : World} {base : Nat} {e f : TypeId} {g size n : Nat} {c : Array Value} {v : Value} {cs : List Value} (hne : e ≠ f) (h : RowA w base e size v n cs) (hg : w.heap[g]? = some (.cells c f (0, 0))) (hu : Upd (fun j => j = g) w w') : RowA w' base e size v n cs := by
  rcases h with ⟨hl, h⟩ | h
  · refine .inl ⟨hl, ?_⟩
    rcases h with h | ⟨q, cap, cur, rfl, hq, hh, h1, h2, h3, h4⟩
    · exact .inl h
    · refine .inr ⟨q, cap, cur, rfl, hq, ?_, h1, h2, h3, h4⟩
      exact hu.keeps hh (fun e => by rw [e, hg] at hh; simp at hh; exact hne hh.2.symm)
  · exact .inr h

/-- A voter whose papers append may be given. -/
def VtA (w : World) (base : Nat) (v : Value) (P : Int) (xs : List Pp) : Prop := ∃ so sc, v = .agg #[.int .i64 P, .slice so xs.length sc] ∧ xs.length ≤ sc ∧ RowA w base 56 12 (.slice so xs.length sc) xs.length (ppcells xs)
def VoteA (w : World) (R : Int × List Pp × Wd × Bool) (v u : Value) (w' : World) : Prop := VtA w' w.heap.size v R.1 R.2.1 ∧ WdO w' (fun k => w.heap.size ≤ k) u R.2.2.1 ∧ Below w.heap.size w w'

set_option maxRecDepth 100000 in
set_option maxHeartbeats 16000000 in
theorem specSynVoteA_any (v : Value) (P : Int) (xs : List Pp) (me : Int) (y : Value) (x : Wd) (w : World) (hv : VtR w v P xs) (hx : WdR w y x) (hn : xs.length ≤ 1048576) :
    Calls Try.prog 11 #[v, .int .i64 me, y] w fun e w' => ∃ v' y', e = .returned (.tuple #[v', y', .bool (voteR P xs me x).2.2.2]) ∧ VoteA w (voteR P xs me x) v' y' w' := by
  obtain ⟨i1, gi, gz0, gz1, gz2⟩ := info_parts infoPp
  obtain ⟨R, hR⟩ : ∃ R, voteR P xs me x = R := ⟨_, rfl⟩
  rw [hR]
  have HR := hide hR
  clear hR
  obtain ⟨cs, rfl, hs, h1⟩ := hx.agg
  have HC := hide hx.cells
  have HX := hide hx
  have HI := hide (infoAt infoWd hs)
  clear hx hs h1
  have HV := hide hv
  obtain ⟨ao, ca, rfl, hr⟩ := hv
  have HRow := hide hr
  clear hr
  obtain ⟨j1, hj1⟩ : ∃ i, okV P xs = i := ⟨_, rfl⟩
  obtain ⟨j2, hj2⟩ : ∃ i, okW x = i := ⟨_, rfl⟩
  obtain ⟨j3, hj3⟩ : ∃ i, inI me 0 2 = i := ⟨_, rfl⟩
  obtain ⟨j4, hj4⟩ : ∃ i, inI x.a4 1 60 = i := ⟨_, rfl⟩
  have cS := fun v w h => specSynVoterOk_any v P xs w h
  have cW := fun v w h => specWordOk_any v x w h
  have c3 := fun w => l6In_inI me 0 2 w
  have c4 := fun w => l6In_inI x.a4 1 60 w
  rw [hj1] at cS
  rw [hj2] at cW
  rw [hj3] at c3
  rw [hj4] at c4
  obtain ⟨cnd, hcnd⟩ : ∃ c, (okV P xs && (inI me 0 2 && (asksW x && (decide (x.a0 = 1) || decide (x.a0 = 3))))) = c := ⟨_, rfl⟩
  have HCN := hide hcnd
  have HCD : Hid ((j1 && (j3 && ((j2 && (j4 && decide (1 ≤ x.a3))) && (decide (x.a0 = 1) || decide (x.a0 = 3))))) = cnd) := by
    show _ = _
    rw [← hcnd, asksW, hj1, hj2, hj3, hj4]
  clear hcnd hj1 hj2 hj3 hj4
  obtain ⟨n, hnn⟩ : ∃ n, xs.length = n := ⟨_, rfl⟩
  have Hl := hide hnn
  rw [hnn] at hn HV HRow ⊢
  clear hnn
  go_enter Try.func11, Try.ntmps11
  go_upto_region 1 with fail
  generalize hW : World.alloc _ _ = W
  have al : Below w.heap.size w W := by rw [← hW]; exact bal (bal (bal (bal (Below.refl _ _) _) _) _) _
  have B0 : Hid (W.heap[w.heap.size]? = some (.cells #[.int .i64 P, .slice ao n ca] 35 (0, 0))) := by show _ = _; rw [← hW]; exact al4_0 w _ _ _ _
  have B1 : Hid (W.heap[w.heap.size + 1]? = some (.cells cs 40 (0, 0))) := by show _ = _; rw [← hW]; exact al4_1 w _ _ _ _
  have B2 : Hid (W.heap[w.heap.size + 1 + 1]? = some (.cells #[.int .i64 0, .slice none 0 0] 35 (0, 0))) := by show _ = _; rw [← hW]; exact al4_2 w _ _ _ _
  have B3 : Hid (W.heap[w.heap.size + 1 + 1 + 1]? = some (.cells #[.int .i64 0, .int .i64 0, .int .i64 0, .int .i64 0, .int .i64 0, .int .i64 0, .int .i64 0, .int .i64 0, .int .i64 0, .int .i64 0, .int .i64 0, .int .i64 0, .int .i64 0, .int .i64 0, .int .i64 0, .int .i64 0, .int .i64 0, .int .i64 0, .int .i64 0, .int .i64 0, .int .i64 0, .int .i64 0, .int .i64 0, .int .i64 0, .slice none 0 0, .slice none 0 0] 40 (0, 0))) := by show _ = _; rw [← hW]; exact al4_3 w _ _ _ _
  have zW : W.heap.size = w.heap.size + 1 + 1 + 1 + 1 := by rw [← hW]; simp
  have ZW := hide zW
  clear hW zW
  go_cut [45] (fun c wc => c = .bool (!cnd) ∧ Below W.heap.size W wc)
  case first =>
    have g0 : W.cell? ⟨w.heap.size, 0, none⟩ = some (.int .i64 P) := boxAt B0.out 0
    have g1 : W.cell? ⟨w.heap.size, 1, none⟩ = some (.slice ao n ca) := boxAt B0.out 1
    go_wp2_with fail
    refine (cS _ _ (HV.out.keep al)).mono ?_
    rintro e w1 ⟨rfl, b1⟩
    clear g0 g1
    cases j1
    · go_wp2_with fail
      go_meet
      exact ⟨by rw [← HCD.out]; rfl, b1⟩
    go_wp2_with (refine wpList_load_rowG (by rfl) 40 (.tmp 5) rfl (w.heap.size + 1) rfl _ cs (0, 0) _ (bKeeps b1 B1.out) Try.underlying40 rfl HI.out ?_)
    refine (cW _ _ (HX.out.keep (bAll al b1))).mono ?_
    rintro e w2 ⟨rfl, b2⟩
    have b2' := bAll b1 b2
    have C1 := hide (bKeeps b2' B1.out)
    clear b1 b2
    cases j2
    · go_wp2_with fail
      go_meet
      exact ⟨by rw [← HCD.out]; simp, b2'⟩
    go_wp2_with fail
    refine (c3 _).mono ?_
    rintro e w3 ⟨rfl, rfl⟩
    cases j3
    · go_wp2_with fail
      go_meet
      exact ⟨by rw [← HCD.out]; simp, b2'⟩
    have g4 : w3.cell? ⟨w.heap.size + 1, 4, none⟩ = some (.int .i64 x.a4) := (boxAt C1.out 4).trans HC.out.2.2.2.1
    have g3 : w3.cell? ⟨w.heap.size + 1, 3, none⟩ = some (.int .i64 x.a3) := (boxAt C1.out 3).trans HC.out.2.2.1
    have g0 : w3.cell? ⟨w.heap.size + 1, 0, none⟩ = some (.int .i64 x.a0) := (boxAt C1.out 0).trans HC.out.1
    go_wp2_with fail
    refine (c4 _).mono ?_
    rintro e w4 ⟨rfl, rfl⟩
    cases j4
    · go_wp2_with fail
      go_meet
      exact ⟨by rw [← HCD.out]; simp, b2'⟩
    by_cases hb : x.a3 < 1
    · have hq : Hid (cnd = false) := by show _ = _; rw [← HCD.out]; simp; omega
      have hb1 : decide (x.a3 < 1) = true := by simpa using hb
      go_wp2_with fail
      go_meet
      exact ⟨by rw [hq.out]; rfl, b2'⟩
    have hb1 : decide (x.a3 < 1) = false := by simpa using hb
    by_cases hk1 : x.a0 = 1
    · have hq : Hid (cnd = true) := by show _ = _; rw [← HCD.out]; simp [hk1]; omega
      have h11 : (x.a0 != 1) = false := by simp [hk1]
      have h12 : (x.a0 == 1) = true := by simp [hk1]
      clear hk1
      go_wp2_with fail
      go_meet
      exact ⟨by rw [hq.out]; rfl, b2'⟩
    have h11 : (x.a0 != 1) = true := by simp [hk1]
    have h12 : (x.a0 == 1) = false := by simp [hk1]
    by_cases hk3 : x.a0 = 3
    · have hq : Hid (cnd = true) := by show _ = _; rw [← HCD.out]; simp [hk3]; omega
      have h31 : (x.a0 != 3) = false := by simp [hk3]
      have h32 : (x.a0 == 3) = true := by simp [hk3]
      clear hk1 hk3
      go_wp2_with fail
      go_meet
      exact ⟨by rw [hq.out]; rfl, b2'⟩
    · have hq : Hid (cnd = false) := by show _ = _; rw [← HCD.out]; simp [hk1, hk3]
      have h31 : (x.a0 != 3) = true := by simp [hk3]
      have h32 : (x.a0 == 3) = false := by simp [hk3]
      clear hk1 hk3
      go_wp2_with fail
      go_meet
      exact ⟨by rw [hq.out]; rfl, b2'⟩
  case rest =>
  obtain ⟨rfl, bc⟩ := hcut
  clear cS cW c3 c4 HCD
  have Hrc := hide (fun V (hV : Below W.heap.size W V) => HRow.out.keep (bAll al hV))
  cases cnd
  · have HR0 : Hid (R = (P, xs, zeroW, false)) := by
      show _ = _
      rw [← HR.out, voteR, HCN.out]
      rfl
    have C0 := hide (bKeeps bc B0.out)
    go_wp2
    refine wp_region_noPanic ?_
    refine wp_region_held_drew (S := (fun w' => w'.cell? ⟨w.heap.size, 0, none⟩ = some (.int .i64 P) ∧ w'.cell? ⟨w.heap.size, 1, none⟩ = some (.slice ao n ca))) (by kernel_rfl) ?_ (fun hHeld => ?_)
    · exact ⟨boxAt (bKeeps (bDrewB bc) B0.out) 0, boxAt (bKeeps (bDrewB bc) B0.out) 1⟩
    have al0 : Below W.heap.size W (wc.drew.alloc (.cells #[] 56)) := bal (bDrewB bc) _
    refine wpAnyH_take (i := 0) (v := ?v1) rfl (by kernel_rfl) (by kernel_rfl) (by kernel_rfl) (fun _ _ _ h => h) (Or.inl ⟨by rfl, ?hy1⟩) (by assumption) ?rest1
    case hy1 => ((intro w hSw; (try dsimp only at hSw); (try simp only [List.getElem_toArray, List.getElem_cons_zero]); go_simp; first | done | (with_reducible rfl)))
    simp only [Act.put, List.getElem_toArray, List.getElem_cons_zero, List.setIfInBounds_toArray, List.set_cons_zero, List.set_cons_succ]
    refine wpAnyH_take (i := 1) (v := ?v2) rfl (by kernel_rfl) (by kernel_rfl) (by kernel_rfl) (fun _ _ _ h => h) (Or.inl ⟨by rfl, ?hy2⟩) (by assumption) ?rest2
    case hy2 => ((intro w hSw; (try dsimp only at hSw); (try simp only [List.getElem_toArray, List.getElem_cons_zero, List.getElem_cons_succ]); go_simp; first | done | (with_reducible rfl)))
    simp only [Act.put, List.getElem_toArray, List.getElem_cons_zero, List.getElem_cons_succ, List.setIfInBounds_toArray, List.set_cons_zero, List.set_cons_succ]
    refine wpAnyH_take (i := 3) (v := ?v3) rfl (by kernel_rfl) (by kernel_rfl) (by kernel_rfl) (fun _ _ _ h => h) (Or.inl ⟨by rfl, ?hy3⟩) (by assumption) ?rest3
    case hy3 => ((intro w hSw; (try dsimp only at hSw); (try simp only [List.getElem_toArray, List.getElem_cons_zero, List.getElem_cons_succ]); go_simp; first | done | (with_reducible rfl)))
    simp only [Act.put, List.getElem_toArray, List.getElem_cons_zero, List.getElem_cons_succ, List.setIfInBounds_toArray, List.set_cons_zero, List.set_cons_succ]
    refine wpAnyH_take (i := 4) (v := ?v4) rfl (by kernel_rfl) (by kernel_rfl) (by kernel_rfl) (fun _ _ _ h => h) (Or.inl ⟨by rfl, ?hy4⟩) (by assumption) ?rest4
    case hy4 => ((intro w hSw; (try dsimp only at hSw); (try simp only [List.getElem_toArray, List.getElem_cons_zero, List.getElem_cons_succ]); go_simp; first | done | (with_reducible rfl)))
    simp only [Act.put, List.getElem_toArray, List.getElem_cons_zero, List.getElem_cons_succ, List.setIfInBounds_toArray, List.set_cons_zero, List.set_cons_succ]
    refine wpAnyH_take (i := 7) (v := .agg #[.int .i64 0, .int .i64 0, .int .i64 0, .int .i64 0, .int .i64 0, .int .i64 0, .int .i64 0, .int .i64 0, .int .i64 0, .int .i64 0, .int .i64 0, .int .i64 0, .int .i64 0, .int .i64 0, .int .i64 0, .int .i64 0, .int .i64 0, .int .i64 0, .int .i64 0, .int .i64 0, .int .i64 0, .int .i64 0, .int .i64 0, .int .i64 0, .slice none 0 0, .slice none 0 0]) rfl (by kernel_rfl) (by kernel_rfl) (by kernel_rfl) (fun _ _ _ h => h) (yields_build rfl 40 #[] rfl [] #[.int .i64 0, .int .i64 0, .int .i64 0, .int .i64 0, .int .i64 0, .int .i64 0, .int .i64 0, .int .i64 0, .int .i64 0, .int .i64 0, .int .i64 0, .int .i64 0, .int .i64 0, .int .i64 0, .int .i64 0, .int .i64 0, .int .i64 0, .int .i64 0, .int .i64 0, .int .i64 0, .int .i64 0, .int .i64 0, .int .i64 0, .int .i64 0, .slice none 0 0, .slice none 0 0] (by simp) built34z) (by assumption) ?_
    simp only [Act.put, List.getElem_toArray, List.getElem_cons_zero, List.getElem_cons_succ, List.setIfInBounds_toArray, List.set_cons_zero, List.set_cons_succ]
    refine wpAnyH_ready (rs := [2]) (by kernel_rfl) (by simp) ?_
    refine AllReadyH.cons rfl (fun K hK => ?_) AllReadyH.nil
    go_simp
    (skip)
    refine hK.out _ _ ?_ (fun hHeld => ?_)
    · exact ⟨boxAt (bKeeps al0 B0.out) 0, boxAt (bKeeps al0 B0.out) 1⟩
    clear hK K
    refine wpAnyH_ready (rs := [5]) (by kernel_rfl) (by simp) ?_
    refine AllReadyH.cons rfl (fun K hK => ?_) AllReadyH.nil
    (refine wp_copyA0 _ _ 33 rfl W.heap.size 56 i1 (.agg #[.int .i64 0, .int .i64 0, .int .i64 0, .int .i64 0, .int .i64 0, .int .i64 0, .int .i64 0, .int .i64 0, .int .i64 0, .int .i64 0, .int .i64 0, .int .i64 0]) 12 96 Try.underlying33 gi gz0 gz1 gz2 rfl (by decide) _ rfl (.inr ⟨rfl, rfl, _, rfl⟩) _ n (ppcells xs) rfl (Hrc.out _ al0) (ppcells_one _) hn (by omega) al0.size ?_; intro v7 w7 r7 up7; obtain ⟨so7, sc7, rfl, hcap⟩ := roomA r7; have b7 : Below W.heap.size W w7 := al0.trans (up7.below al0.size (fun k h => h.1)))
    refine hK.out _ _ ?_ (fun hHeld => ?_)
    · exact ⟨boxAt (bKeeps b7 B0.out) 0, boxAt (bKeeps b7 B0.out) 1⟩
    clear hK K
    have z7 := b7.size
    have zW := ZW.out
    have R7 := hide r7
    have s8 := updRow w7 (w.heap.size + 1 + 1) #[.int .i64 P, .slice so7 n sc7]
    have s9 := updRow (w7.setRow (w.heap.size + 1 + 1) #[.int .i64 P, .slice so7 n sc7]) (w.heap.size + 1 + 1 + 1) #[.int .i64 0, .int .i64 0, .int .i64 0, .int .i64 0, .int .i64 0, .int .i64 0, .int .i64 0, .int .i64 0, .int .i64 0, .int .i64 0, .int .i64 0, .int .i64 0, .int .i64 0, .int .i64 0, .int .i64 0, .int .i64 0, .int .i64 0, .int .i64 0, .int .i64 0, .int .i64 0, .int .i64 0, .int .i64 0, .int .i64 0, .int .i64 0, .slice none 0 0, .slice none 0 0]
    have N2 := hide (bKeeps b7 B2.out)
    have N3 := hide (s8.keeps (bKeeps b7 B3.out) (by omega))
    refine wpAnyH_take (i := 6) (v := ?v5) rfl (by kernel_rfl) (by kernel_rfl) (by kernel_rfl) (fun _ _ _ h => h) (Or.inl ⟨by rfl, ?hy5⟩) (by assumption) ?rest5
    case hy5 => ((intro w hSw; (try dsimp only at hSw); (try simp only [List.getElem_toArray, List.getElem_cons_zero, List.getElem_cons_succ]); go_simp; first | done | (with_reducible rfl)))
    simp only [Act.put, List.getElem_toArray, List.getElem_cons_zero, List.getElem_cons_succ, List.setIfInBounds_toArray, List.set_cons_zero, List.set_cons_succ]
    refine wpAnyH_ready (rs := [8]) (by kernel_rfl) (by simp) ?_
    refine AllReadyH.cons rfl (fun K hK => ?_) AllReadyH.nil
    (refine wp_store_row 35 (.tmp 6) (.tmp 52) rfl (w.heap.size + 1 + 1) #[.int .i64 P, .slice so7 n sc7] rfl rfl _ _ N2.out infoSv2 rfl (all_of_list rfl) ?_)
    refine hK.out _ _ ?_ (fun hHeld => ?_)
    · exact ⟨boxAt (s8.keeps (bKeeps b7 B0.out) (by omega)) 0, boxAt (s8.keeps (bKeeps b7 B0.out) (by omega)) 1⟩
    clear hK K
    refine wpAnyH_ready (rs := [9]) (by kernel_rfl) (by simp) ?_
    refine AllReadyH.cons rfl (fun K hK => ?_) AllReadyH.nil
    (refine wp_store_row 40 (.tmp 7) (.tmp 53) rfl (w.heap.size + 1 + 1 + 1) #[.int .i64 0, .int .i64 0, .int .i64 0, .int .i64 0, .int .i64 0, .int .i64 0, .int .i64 0, .int .i64 0, .int .i64 0, .int .i64 0, .int .i64 0, .int .i64 0, .int .i64 0, .int .i64 0, .int .i64 0, .int .i64 0, .int .i64 0, .int .i64 0, .int .i64 0, .int .i64 0, .int .i64 0, .int .i64 0, .int .i64 0, .int .i64 0, .slice none 0 0, .slice none 0 0] rfl rfl _ _ N3.out infoWd rfl (all_of_list rfl) ?_)
    refine hK.out _ _ ?_ (fun hHeld => ?_)
    · exact ⟨boxAt (s9.keeps (s8.keeps (bKeeps b7 B0.out) (by omega)) (by omega)) 0, boxAt (s9.keeps (s8.keeps (bKeeps b7 B0.out) (by omega)) (by omega)) 1⟩
    clear hK K
    refine wpAnyH_take (i := 10) (v := ?v6) rfl (by kernel_rfl) (by kernel_rfl) (by kernel_rfl) (fun _ _ _ h => h) (Or.inl ⟨by rfl, ?hy6⟩) (by assumption) ?rest6
    case hy6 => ((intro w hSw; (try dsimp only at hSw); (try simp only [List.getElem_toArray, List.getElem_cons_zero, List.getElem_cons_succ]); go_simp; first | done | (with_reducible rfl)))
    simp only [Act.put, List.getElem_toArray, List.getElem_cons_zero, List.getElem_cons_succ, List.setIfInBounds_toArray, List.set_cons_zero, List.set_cons_succ]
    refine wpAnyH_done (by kernel_rfl) ?_ _
    refine NoPanic.normal ?_
    clear hHeld
    go_wp2
    refine bodyPost_ret (v := .tuple #[.agg #[.int .i64 P, .slice so7 n sc7], .agg #[.int .i64 0, .int .i64 0, .int .i64 0, .int .i64 0, .int .i64 0, .int .i64 0, .int .i64 0, .int .i64 0, .int .i64 0, .int .i64 0, .int .i64 0, .int .i64 0, .int .i64 0, .int .i64 0, .int .i64 0, .int .i64 0, .int .i64 0, .int .i64 0, .int .i64 0, .int .i64 0, .int .i64 0, .int .i64 0, .int .i64 0, .int .i64 0, .slice none 0 0, .slice none 0 0], .bool false]) (results_row_row_tmp Try.results11 _ _ (w.heap.size + 1 + 1) (w.heap.size + 1 + 1 + 1) _ _ _ _ (0, 0) (0, 0) _ _ _ rfl rfl rfl (s9.keeps (setRow_heap _ _ _ _ _ _ N2.out) (by omega)) (setRow_heap _ _ _ _ _ _ N3.out) Try.underlying35 rfl infoSv2 Try.underlying40 rfl infoWd) rfl ?_
    rw [HR0.out]
    have cw := bAll al b7
    refine ⟨_, _, rfl, ⟨so7, sc7, by rw [Hl.out], by rw [Hl.out]; exact hcap, ?_⟩, zeroRow _ _, (cw.trans (s8.below (by omega) (fun k h => by omega))).trans (s9.below (by have := s8.size; omega) (fun k h => by omega))⟩
    rw [Hl.out]
    exact ((R7.out.keep s8 (fun k h1 h2 => by omega)).keep s9 (fun k h1 h2 => by omega)).mono (show w.heap.size ≤ W.heap.size by omega)
  · have HOK : Hid (okV P xs = true ∧ inI me 0 2 = true ∧ asksW x = true ∧ (x.a0 = 1 ∨ x.a0 = 3)) := by
      have := HCN.out
      simp only [Bool.and_eq_true, Bool.or_eq_true, decide_eq_true_eq] at this
      exact this
    have C0 := hide (bKeeps bc B0.out)
    go_upto_region 3 with fail
    go_cut [9] (fun s9 wx => ∃ g so sc, s9 = .pointer (some ⟨g, 0, none⟩) ∧ n ≤ sc ∧ W.heap.size ≤ g ∧ wx.heap[g]? = some (.cells #[.int .i64 P, .slice so n sc] 35 (0, 0)) ∧ RowA wx W.heap.size 56 12 (.slice so n sc) n (ppcells xs) ∧ Below W.heap.size W wx)
    case first =>
      refine wp_region_noPanic ?_
      refine wp_region_held_drew (S := (fun w' => w'.cell? ⟨w.heap.size, 0, none⟩ = some (.int .i64 P) ∧ w'.cell? ⟨w.heap.size, 1, none⟩ = some (.slice ao n ca))) (by kernel_rfl) ?_ (fun hHeld => ?_)
      · exact ⟨boxAt (bKeeps (bDrewB bc) B0.out) 0, boxAt (bKeeps (bDrewB bc) B0.out) 1⟩
      have al0 : Below W.heap.size W (wc.drew.alloc (.cells #[] 56)) := bal (bDrewB bc) _
      have al9 : Below W.heap.size W (wc.drew.alloc (.cells #[.int .i64 0, .slice none 0 0] 35)) := bal (bDrewB bc) _
      have zc : W.heap.size ≤ wc.heap.size := bc.size
      refine wpAnyH_take (i := 0) (v := ?v7) rfl (by kernel_rfl) (by kernel_rfl) (by kernel_rfl) (fun _ _ _ h => h) (Or.inl ⟨by rfl, ?hy7⟩) (by assumption) ?rest7
      case hy7 => ((intro w hSw; (try dsimp only at hSw); (try simp only [List.getElem_toArray, List.getElem_cons_zero]); go_simp; first | done | (with_reducible rfl)))
      simp only [Act.put, List.getElem_toArray, List.getElem_cons_zero, List.setIfInBounds_toArray, List.set_cons_zero, List.set_cons_succ]
      refine wpAnyH_take (i := 1) (v := ?v8) rfl (by kernel_rfl) (by kernel_rfl) (by kernel_rfl) (fun _ _ _ h => h) (Or.inl ⟨by rfl, ?hy8⟩) (by assumption) ?rest8
      case hy8 => ((intro w hSw; (try dsimp only at hSw); (try simp only [List.getElem_toArray, List.getElem_cons_zero, List.getElem_cons_succ]); go_simp; first | done | (with_reducible rfl)))
      simp only [Act.put, List.getElem_toArray, List.getElem_cons_zero, List.getElem_cons_succ, List.setIfInBounds_toArray, List.set_cons_zero, List.set_cons_succ]
      refine wpAnyH_take (i := 3) (v := ?v9) rfl (by kernel_rfl) (by kernel_rfl) (by kernel_rfl) (fun _ _ _ h => h) (Or.inl ⟨by rfl, ?hy9⟩) (by assumption) ?rest9
      case hy9 => ((intro w hSw; (try dsimp only at hSw); (try simp only [List.getElem_toArray, List.getElem_cons_zero, List.getElem_cons_succ]); go_simp; first | done | (with_reducible rfl)))
      simp only [Act.put, List.getElem_toArray, List.getElem_cons_zero, List.getElem_cons_succ, List.setIfInBounds_toArray, List.set_cons_zero, List.set_cons_succ]
      refine wpAnyH_take (i := 4) (v := ?v10) rfl (by kernel_rfl) (by kernel_rfl) (by kernel_rfl) (fun _ _ _ h => h) (Or.inl ⟨by rfl, ?hy10⟩) (by assumption) ?rest10
      case hy10 => ((intro w hSw; (try dsimp only at hSw); (try simp only [List.getElem_toArray, List.getElem_cons_zero, List.getElem_cons_succ]); go_simp; first | done | (with_reducible rfl)))
      simp only [Act.put, List.getElem_toArray, List.getElem_cons_zero, List.getElem_cons_succ, List.setIfInBounds_toArray, List.set_cons_zero, List.set_cons_succ]
      refine wpAnyH_ready (rs := [2, 7]) (by kernel_rfl) (by simp) ?_
      refine AllReadyH.cons rfl (fun K hK => ?_) (AllReadyH.cons rfl (fun K hK => ?_) AllReadyH.nil)
      · go_simp
        refine hK.out _ _ ?_ (fun hHeld => ?_)
        · exact ⟨boxAt (bKeeps al0 B0.out) 0, boxAt (bKeeps al0 B0.out) 1⟩
        clear hK K
        refine wpAnyH_ready (rs := [5, 7]) (by kernel_rfl) (by simp) ?_
        refine AllReadyH.cons rfl (fun K hK => ?_) (AllReadyH.cons rfl (fun K hK => ?_) AllReadyH.nil)
        · refine wp_copyA0 _ _ 33 rfl W.heap.size 56 i1 (.agg #[.int .i64 0, .int .i64 0, .int .i64 0, .int .i64 0, .int .i64 0, .int .i64 0, .int .i64 0, .int .i64 0, .int .i64 0, .int .i64 0, .int .i64 0, .int .i64 0]) 12 96 Try.underlying33 gi gz0 gz1 gz2 rfl (by decide) _ rfl (.inr ⟨rfl, rfl, _, rfl⟩) _ n (ppcells xs) rfl (Hrc.out _ al0) (ppcells_one _) hn (by omega) al0.size ?_; intro v7 w7 r7 up7; obtain ⟨so7, sc7, rfl, hcp⟩ := roomA r7; have b7 : Below W.heap.size W w7 := al0.trans (up7.below al0.size (fun k h => h.1))
          refine hK.out _ _ ?_ (fun hHeld => ?_)
          · exact ⟨boxAt (bKeeps b7 B0.out) 0, boxAt (bKeeps b7 B0.out) 1⟩
          clear hK K
          have z7 := b7.size
          have a7 : Below W.heap.size W (w7.alloc (.cells #[.int .i64 0, .slice none 0 0] 35)) := bal b7 _
          refine wpAnyH_take (i := 6) (v := ?v11) rfl (by kernel_rfl) (by kernel_rfl) (by kernel_rfl) (fun _ _ _ h => h) (Or.inl ⟨by rfl, ?hy11⟩) (by assumption) ?rest11
          case hy11 => ((intro w hSw; (try dsimp only at hSw); (try simp only [List.getElem_toArray, List.getElem_cons_zero, List.getElem_cons_succ]); go_simp; first | done | (with_reducible rfl)))
          simp only [Act.put, List.getElem_toArray, List.getElem_cons_zero, List.getElem_cons_succ, List.setIfInBounds_toArray, List.set_cons_zero, List.set_cons_succ]
          refine wpAnyH_ready (rs := [7]) (by kernel_rfl) (by simp) ?_
          refine AllReadyH.cons rfl (fun K hK => ?_) AllReadyH.nil
          go_simp
          (skip)
          refine hK.out _ _ ?_ (fun hHeld => ?_)
          · exact ⟨boxAt (bKeeps a7 B0.out) 0, boxAt (bKeeps a7 B0.out) 1⟩
          clear hK K
          have r8 := updRow (w7.alloc (.cells #[.int .i64 0, .slice none 0 0] 35)) w7.heap.size #[.int .i64 P, .slice so7 n sc7]
          have b8 : Below W.heap.size W (World.setRow (w7.alloc (.cells #[.int .i64 0, .slice none 0 0] 35)) w7.heap.size #[.int .i64 P, .slice so7 n sc7]) := a7.trans (r8.below a7.size (fun k h => by omega))
          refine wpAnyH_ready (rs := [8]) (by kernel_rfl) (by simp) ?_
          refine AllReadyH.cons rfl (fun K hK => ?_) AllReadyH.nil
          (refine wp_store_row 35 (.tmp 9) (.tmp 60) rfl w7.heap.size #[.int .i64 P, .slice so7 n sc7] rfl rfl _ _ (heap_alloc_new w7 _) infoSv2 rfl (all_of_list rfl) ?_)
          refine hK.out _ _ ?_ (fun hHeld => ?_)
          · exact ⟨boxAt (bKeeps b8 B0.out) 0, boxAt (bKeeps b8 B0.out) 1⟩
          clear hK K
          refine wpAnyH_done (by kernel_rfl) ?_ _
          refine NoPanic.normal ?_
          clear hHeld
          go_wp2_with fail
          go_meet
          exact ⟨w7.heap.size, so7, sc7, rfl, hcp, by omega, setRow_heap _ _ _ _ _ _ (heap_alloc_new w7 _), rowA_keep_box (by decide) (r7.keepB (bal (Below.refl _ _) _)) (heap_alloc_new w7 _) r8, b8⟩
        · go_simp
          refine hK.out _ _ ?_ (fun hHeld => ?_)
          · exact ⟨boxAt (bKeeps (bal al0 _) B0.out) 0, boxAt (bKeeps (bal al0 _) B0.out) 1⟩
          clear hK K
          have a7 : Below W.heap.size W ((wc.drew.alloc (.cells #[] 56)).alloc (.cells #[.int .i64 0, .slice none 0 0] 35)) := bal al0 _
          refine wpAnyH_ready (rs := [5]) (by kernel_rfl) (by simp) ?_
          refine AllReadyH.cons rfl (fun K hK => ?_) AllReadyH.nil
          (refine wp_copyA0 _ _ 33 rfl W.heap.size 56 i1 (.agg #[.int .i64 0, .int .i64 0, .int .i64 0, .int .i64 0, .int .i64 0, .int .i64 0, .int .i64 0, .int .i64 0, .int .i64 0, .int .i64 0, .int .i64 0, .int .i64 0]) 12 96 Try.underlying33 gi gz0 gz1 gz2 rfl (by decide) _ rfl (.inr ⟨rfl, rfl, _, rfl⟩) _ n (ppcells xs) rfl (Hrc.out _ a7) (ppcells_one _) hn (by omega) a7.size ?_; intro v7 w7 r7 up7; obtain ⟨so7, sc7, rfl, hcp⟩ := roomA r7; have b7 : Below W.heap.size W w7 := a7.trans (up7.below a7.size (fun k h => h.1)))
          refine hK.out _ _ ?_ (fun hHeld => ?_)
          · exact ⟨boxAt (bKeeps b7 B0.out) 0, boxAt (bKeeps b7 B0.out) 1⟩
          clear hK K
          refine wpAnyH_take (i := 6) (v := ?v12) rfl (by kernel_rfl) (by kernel_rfl) (by kernel_rfl) (fun _ _ _ h => h) (Or.inl ⟨by rfl, ?hy12⟩) (by assumption) ?rest12
          case hy12 => ((intro w hSw; (try dsimp only at hSw); (try simp only [List.getElem_toArray, List.getElem_cons_zero, List.getElem_cons_succ]); go_simp; first | done | (with_reducible rfl)))
          simp only [Act.put, List.getElem_toArray, List.getElem_cons_zero, List.getElem_cons_succ, List.setIfInBounds_toArray, List.set_cons_zero, List.set_cons_succ]
          have z7 := b7.size
          have N9 : Hid (w7.heap[wc.heap.size + 1]? = some (.cells #[.int .i64 0, .slice none 0 0] 35 (0, 0))) := typed_keeps (by decide) up7 (al2_1 wc (.cells #[] 56) (.cells #[.int .i64 0, .slice none 0 0] 35))
          have r8 := updRow w7 (wc.heap.size + 1) #[.int .i64 P, .slice so7 n sc7]
          have b8 : Below W.heap.size W (World.setRow w7 (wc.heap.size + 1) #[.int .i64 P, .slice so7 n sc7]) := b7.trans (r8.below b7.size (fun k h => by omega))
          refine wpAnyH_ready (rs := [8]) (by kernel_rfl) (by simp) ?_
          refine AllReadyH.cons rfl (fun K hK => ?_) AllReadyH.nil
          (refine wp_store_row 35 (.tmp 9) (.tmp 60) rfl (wc.heap.size + 1) #[.int .i64 P, .slice so7 n sc7] rfl rfl _ _ N9.out infoSv2 rfl (all_of_list rfl) ?_)
          refine hK.out _ _ ?_ (fun hHeld => ?_)
          · exact ⟨boxAt (bKeeps b8 B0.out) 0, boxAt (bKeeps b8 B0.out) 1⟩
          clear hK K
          refine wpAnyH_done (by kernel_rfl) ?_ _
          refine NoPanic.normal ?_
          clear hHeld
          go_wp2_with fail
          go_meet
          exact ⟨(wc.heap.size + 1), so7, sc7, rfl, hcp, by omega, setRow_heap _ _ _ _ _ _ N9.out, rowA_keep_box (by decide) r7 N9.out r8, b8⟩
      · go_simp
        refine hK.out _ _ ?_ (fun hHeld => ?_)
        · exact ⟨boxAt (bKeeps al9 B0.out) 0, boxAt (bKeeps al9 B0.out) 1⟩
        clear hK K
        have a7 : Below W.heap.size W ((wc.drew.alloc (.cells #[.int .i64 0, .slice none 0 0] 35)).alloc (.cells #[] 56)) := bal al9 _
        refine wpAnyH_ready (rs := [2]) (by kernel_rfl) (by simp) ?_
        refine AllReadyH.cons rfl (fun K hK => ?_) AllReadyH.nil
        go_simp
        (skip)
        refine hK.out _ _ ?_ (fun hHeld => ?_)
        · exact ⟨boxAt (bKeeps a7 B0.out) 0, boxAt (bKeeps a7 B0.out) 1⟩
        clear hK K
        refine wpAnyH_ready (rs := [5]) (by kernel_rfl) (by simp) ?_
        refine AllReadyH.cons rfl (fun K hK => ?_) AllReadyH.nil
        (refine wp_copyA0 _ _ 33 rfl W.heap.size 56 i1 (.agg #[.int .i64 0, .int .i64 0, .int .i64 0, .int .i64 0, .int .i64 0, .int .i64 0, .int .i64 0, .int .i64 0, .int .i64 0, .int .i64 0, .int .i64 0, .int .i64 0]) 12 96 Try.underlying33 gi gz0 gz1 gz2 rfl (by decide) _ rfl (.inr ⟨rfl, rfl, _, rfl⟩) _ n (ppcells xs) rfl (Hrc.out _ a7) (ppcells_one _) hn (by omega) a7.size ?_; intro v7 w7 r7 up7; obtain ⟨so7, sc7, rfl, hcp⟩ := roomA r7; have b7 : Below W.heap.size W w7 := a7.trans (up7.below a7.size (fun k h => h.1)))
        refine hK.out _ _ ?_ (fun hHeld => ?_)
        · exact ⟨boxAt (bKeeps b7 B0.out) 0, boxAt (bKeeps b7 B0.out) 1⟩
        clear hK K
        refine wpAnyH_take (i := 6) (v := ?v13) rfl (by kernel_rfl) (by kernel_rfl) (by kernel_rfl) (fun _ _ _ h => h) (Or.inl ⟨by rfl, ?hy13⟩) (by assumption) ?rest13
        case hy13 => ((intro w hSw; (try dsimp only at hSw); (try simp only [List.getElem_toArray, List.getElem_cons_zero, List.getElem_cons_succ]); go_simp; first | done | (with_reducible rfl)))
        simp only [Act.put, List.getElem_toArray, List.getElem_cons_zero, List.getElem_cons_succ, List.setIfInBounds_toArray, List.set_cons_zero, List.set_cons_succ]
        have z7 := b7.size
        have N9 : Hid (w7.heap[wc.heap.size]? = some (.cells #[.int .i64 0, .slice none 0 0] 35 (0, 0))) := typed_keeps (by decide) up7 (al2_0 wc (.cells #[.int .i64 0, .slice none 0 0] 35) (.cells #[] 56))
        have r8 := updRow w7 wc.heap.size #[.int .i64 P, .slice so7 n sc7]
        have b8 : Below W.heap.size W (World.setRow w7 wc.heap.size #[.int .i64 P, .slice so7 n sc7]) := b7.trans (r8.below b7.size (fun k h => by omega))
        refine wpAnyH_ready (rs := [8]) (by kernel_rfl) (by simp) ?_
        refine AllReadyH.cons rfl (fun K hK => ?_) AllReadyH.nil
        (refine wp_store_row 35 (.tmp 9) (.tmp 60) rfl wc.heap.size #[.int .i64 P, .slice so7 n sc7] rfl rfl _ _ N9.out infoSv2 rfl (all_of_list rfl) ?_)
        refine hK.out _ _ ?_ (fun hHeld => ?_)
        · exact ⟨boxAt (bKeeps b8 B0.out) 0, boxAt (bKeeps b8 B0.out) 1⟩
        clear hK K
        refine wpAnyH_done (by kernel_rfl) ?_ _
        refine NoPanic.normal ?_
        clear hHeld
        go_wp2_with fail
        go_meet
        exact ⟨wc.heap.size, so7, sc7, rfl, hcp, by omega, setRow_heap _ _ _ _ _ _ N9.out, rowA_keep_box (by decide) r7 N9.out r8, b8⟩
    case rest =>
    obtain ⟨g, so, sc, rfl, hcap, hgW, hg, hrow, bx⟩ := hcut
    have zW := ZW.out
    have hlt := heap_lt hg
    have q1 : wc.cell? ⟨w.heap.size + 1, 1, none⟩ = some (.int .i64 x.a1) := (boxAt (bKeeps bx B1.out) 1).trans HC.out.2.1
    have q3 : wc.cell? ⟨w.heap.size + 1, 3, none⟩ = some (.int .i64 x.a3) := (boxAt (bKeeps bx B1.out) 3).trans HC.out.2.2.1
    have q4 : wc.cell? ⟨w.heap.size + 1, 4, none⟩ = some (.int .i64 x.a4) := (boxAt (bKeeps bx B1.out) 4).trans HC.out.2.2.2.1
    have Hg := hide hg
    have Hr := hide hrow
    clear hg hrow zW
    go_upto_region 7 with (first | (refine wpList_builtBack me x.a1 x.a3 x.a4 rfl _ rfl ?hp ?_; (case hp => ((conv => lhs; simp only [List.map_toArray, List.map_cons, List.map_nil]); rfl))) | (refine wpList_store_row rfl 40 (.tmp 10) (.tmp 68) rfl wc.heap.size _ rfl rfl _ _ (heap_alloc_new wc _) infoWd (show (26 : Nat) = 26 from rfl) (all_of_list rfl) ?_; rw [World.setRow_alloc_new]))
    clear q1 q3 q4
    generalize hV : World.alloc _ _ = V
    have bV : Below W.heap.size W V := by rw [← hV]; exact bal bx _
    have Hh0 : Hid (V.heap[wc.heap.size]? = some (.cells (backA 0 me x.a1 x.a3 x.a4 0 zeroW) 40 (0, 0))) := by show _ = _; rw [← hV]; exact heap_alloc_new wc _
    have Hg0 : Hid (V.heap[g]? = some (.cells #[.int .i64 P, .slice so n sc] 35 (0, 0))) := by show _ = _; rw [← hV]; exact bKeeps (bal (Below.refl _ _) _) Hg.out
    have Hr0 : Hid (RowA V W.heap.size 56 12 (.slice so n sc) n (ppcells xs)) := by show RowA _ _ _ _ _ _ _; rw [← hV]; exact Hr.out.keepB (bal (Below.refl _ _) _)
    clear hV Hg Hr
    have zx := bx.size
    generalize wc.heap.size = h at hlt zx Hh0 ⊢
    have hgh : ¬ h = g := by omega
    have hgh' : ¬ g = h := by omega
    clear bx bc C0
    have k0 : V.cell? ⟨w.heap.size + 1, 0, none⟩ = some (.int .i64 x.a0) := (boxAt (bKeeps bV B1.out) 0).trans HC.out.1
    have k3 : V.cell? ⟨w.heap.size + 1, 3, none⟩ = some (.int .i64 x.a3) := (boxAt (bKeeps bV B1.out) 3).trans HC.out.2.2.1
    have k4 : V.cell? ⟨w.heap.size + 1, 4, none⟩ = some (.int .i64 x.a4) := (boxAt (bKeeps bV B1.out) 4).trans HC.out.2.2.2.1
    have kP : V.cell? ⟨w.heap.size, 0, none⟩ = some (.int .i64 P) := boxAt (bKeeps bV B0.out) 0
    have kS : V.cell? ⟨w.heap.size, 1, none⟩ = some (.slice ao n ca) := boxAt (bKeeps bV B0.out) 1
    have kg : V.cell? ⟨g, 0, none⟩ = some (.int .i64 P) := boxAt Hg0.out 0
    have kg' : V.frozen? ⟨g, 0, none⟩ = false := boxFz Hg0.out 0
    have kh : V.cell? ⟨h, 0, none⟩ = some (.int .i64 0) := boxAt Hh0.out 0
    have kh' : V.frozen? ⟨h, 0, none⟩ = false := boxFz Hh0.out 0
    have kw : V.cell? ⟨h, 5, none⟩ = some (.int .i64 0) := boxAt Hh0.out 5
    have kw' : V.frozen? ⟨h, 5, none⟩ = false := boxFz Hh0.out 5
    have zV := bV.size
    have n1 : ¬ w.heap.size = g := by have := ZW.out; omega
    have n2 : ¬ w.heap.size + 1 = g := by have := ZW.out; omega
    have n3 : ¬ w.heap.size = h := by have := ZW.out; omega
    have n4 : ¬ w.heap.size + 1 = h := by have := ZW.out; omega
    by_cases hk1 : x.a0 = 1
    · have h12 : (x.a0 == 1) = true := by simp [hk1]
      have h13 : (x.a0 == 3) = false := by simp [hk1]
      by_cases hlp : P < x.a3
      · have d1 : decide (x.a3 > P) = true := by simpa using hlp
        have d2 : decide (P < x.a3) = true := by simpa using hlp
        have HK := hide hk1
        have HLP := hide hlp
        clear hk1 hlp
        go_upto_region 10 with fail
        generalize hV2 : World.setCell _ _ _ = V2
        have up2 : Upd (fun j => j = g ∨ j = h) V V2 := by rw [← hV2]; exact (Upd.setCell _ _ _ _ (.inl rfl)).trans (Upd.setCell _ _ _ _ (.inr rfl))
        have Hg2 : Hid (V2.heap[g]? = some (.cells #[.int .i64 x.a3, .slice so n sc] 35 (0, 0))) := by show _ = _; rw [← hV2]; exact (Upd.setCell (S := fun j => j = h) _ _ _ _ rfl).keeps (row_set _ Hg0.out) hgh'
        have Hh2 : Hid (V2.heap[h]? = some (.cells (backA 2 me x.a1 x.a3 x.a4 0 zeroW) 40 (0, 0))) := by show _ = _; rw [← hV2]; exact row_set _ ((Upd.setCell (S := fun j => j = g) _ _ _ _ rfl).keeps Hh0.out hgh)
        have Hr2 : Hid (RowA V2 W.heap.size 56 12 (.slice so n sc) n (ppcells xs)) := by show RowA _ _ _ _ _ _ _; rw [← hV2]; exact rowA_keep_box (by decide) (rowA_keep_box (by decide) Hr0.out Hg0.out (Upd.setCell (S := fun j => j = g) _ _ _ _ rfl)) ((Upd.setCell (S := fun j => j = g) _ _ _ _ rfl).keeps Hh0.out hgh) (Upd.setCell _ _ _ _ rfl)
        have c2 : Below W.heap.size W V2 := bV.trans (up2.below (by omega) (fun k hk => by omega))
        clear hV2 up2 k0 k3 k4 kP kS kg kg' kh kh' kw kw' Hg0 Hh0 Hr0 bV
        have k4 : V2.cell? ⟨w.heap.size + 1, 4, none⟩ = some (.int .i64 x.a4) := (boxAt (bKeeps c2 B1.out) 4).trans HC.out.2.2.2.1
        have kS : V2.cell? ⟨w.heap.size, 1, none⟩ = some (.slice ao n ca) := boxAt (bKeeps c2 B0.out) 1
        have cF := l21Paper_any (.slice ao n ca) xs x.a4 V2 (by rw [Hl.out]; exact Hrc.out _ c2)
        rcases firstV_cases x.a4 xs with ⟨hf, hfind⟩ | ⟨k, ⟨s', b', x'⟩, hk, hf, hfind⟩
        · rw [hf] at cF
          have HRR : Hid (R = (x.a3, xs, backW me x 2 0 zeroW, true)) := by
            show _ = _
            rw [← HR.out, voteR, if_pos HCN.out, if_pos HK.out, if_pos HLP.out, hfind]
          clear hf hfind
          go_wp2_with fail
          refine cF.mono ?_
          rintro e V5 ⟨rfl, b5⟩
          have Hg5 := hide (bKeeps b5 Hg2.out)
          have Hh5 := hide (bKeeps b5 Hh2.out)
          have Hr5 := hide (Hr2.out.keepB b5)
          have c5 := bAll c2 b5
          have HLX := Hl
          have hcap5 := hcap
          clear b5 cF Hg2 Hh2 Hr2 k4 kS
          go_wp2
          have zc := c5.size
          have d5 : Below W.heap.size W V5.drew := bDrewB c5
          have zW := ZW.out
          have s8 := updRow V5.drew (w.heap.size + 1 + 1) #[.int .i64 x.a3, .slice so n sc]
          have s9 := updRow (World.setRow V5.drew (w.heap.size + 1 + 1) #[.int .i64 x.a3, .slice so n sc]) (w.heap.size + 1 + 1 + 1) (backA 2 me x.a1 x.a3 x.a4 0 zeroW)
          have N2 := hide (bKeeps d5 B2.out)
          have N3 := hide (s8.keeps (bKeeps d5 B3.out) (by omega))
          have dd := bDrewB (Below.refl (World.heap V5).size V5)
          refine wp_region_noPanic ?_
          refine wp_region_held_drew (S := (fun w' => w'.heap[g]? = some (.cells #[.int .i64 x.a3, .slice so n sc] 35 (0, 0)) ∧ w'.heap[h]? = some (.cells (backA 2 me x.a1 x.a3 x.a4 0 zeroW) 40 (0, 0)))) (by kernel_rfl) ?_ (fun hHeld => ?_)
          · exact ⟨Hg5.out, Hh5.out⟩
          refine wpAnyH_take (i := 0) (v := .agg #[.int .i64 x.a3, .slice so n sc]) rfl (by kernel_rfl) (by kernel_rfl) (by kernel_rfl) (fun _ _ _ h => h) (yields_row rfl 35 (.tmp 9) rfl (g) rfl _ #[.int .i64 x.a3, .slice so n sc] _ (fun _ h => h.1) Try.underlying35 rfl infoSv2) (by assumption) ?_
          simp only [Act.put, List.getElem_toArray, List.getElem_cons_zero, List.setIfInBounds_toArray, List.set_cons_zero, List.set_cons_succ]
          refine wpAnyH_take (i := 1) (v := .agg (backA 2 me x.a1 x.a3 x.a4 0 zeroW)) rfl (by kernel_rfl) (by kernel_rfl) (by kernel_rfl) (fun _ _ _ h => h) (yields_row rfl 40 (.tmp 10) rfl (h) rfl _ (backA 2 me x.a1 x.a3 x.a4 0 zeroW) _ (fun _ h => h.2) Try.underlying40 rfl infoWd) (by assumption) ?_
          simp only [Act.put, List.getElem_toArray, List.getElem_cons_zero, List.getElem_cons_succ, List.setIfInBounds_toArray, List.set_cons_zero, List.set_cons_succ]
          refine wpAnyH_ready (rs := [2]) (by kernel_rfl) (by simp) ?_
          refine AllReadyH.cons rfl (fun K hK => ?_) AllReadyH.nil
          (refine wp_store_row 35 (.tmp 6) (.tmp 135) rfl (w.heap.size + 1 + 1) #[.int .i64 x.a3, .slice so n sc] rfl rfl _ _ N2.out infoSv2 rfl (all_of_list rfl) ?_)
          refine hK.out _ _ ?_ (fun hHeld => ?_)
          · exact ⟨s8.keeps Hg5.out (by omega), s8.keeps Hh5.out (by omega)⟩
          clear hK K
          refine wpAnyH_ready (rs := [3]) (by kernel_rfl) (by simp) ?_
          refine AllReadyH.cons rfl (fun K hK => ?_) AllReadyH.nil
          (refine wp_store_row 40 (.tmp 7) (.tmp 136) rfl (w.heap.size + 1 + 1 + 1) (backA 2 me x.a1 x.a3 x.a4 0 zeroW) rfl rfl _ _ N3.out infoWd rfl (all_of_list rfl) ?_)
          refine hK.out _ _ ?_ (fun hHeld => ?_)
          · exact ⟨s9.keeps (s8.keeps Hg5.out (by omega)) (by omega), s9.keeps (s8.keeps Hh5.out (by omega)) (by omega)⟩
          clear hK K
          refine wpAnyH_take (i := 4) (v := ?v14) rfl (by kernel_rfl) (by kernel_rfl) (by kernel_rfl) (fun _ _ _ h => h) (Or.inl ⟨by rfl, ?hy14⟩) (by assumption) ?rest14
          case hy14 => ((intro w hSw; (try dsimp only at hSw); (try simp only [List.getElem_toArray, List.getElem_cons_zero, List.getElem_cons_succ]); go_simp; first | done | (with_reducible rfl)))
          simp only [Act.put, List.getElem_toArray, List.getElem_cons_zero, List.getElem_cons_succ, List.setIfInBounds_toArray, List.set_cons_zero, List.set_cons_succ]
          refine wpAnyH_done (by kernel_rfl) ?_ _
          refine NoPanic.normal ?_
          clear hHeld
          go_wp2
          refine bodyPost_ret (v := .tuple #[.agg #[.int .i64 x.a3, .slice so n sc], .agg (backA 2 me x.a1 x.a3 x.a4 0 zeroW), .bool true]) (results_row_row_tmp Try.results11 _ _ (w.heap.size + 1 + 1) (w.heap.size + 1 + 1 + 1) _ _ _ _ (0, 0) (0, 0) _ _ _ rfl rfl rfl (s9.keeps (setRow_heap _ _ _ _ _ _ N2.out) (by omega)) (setRow_heap _ _ _ _ _ _ N3.out) Try.underlying35 rfl infoSv2 Try.underlying40 rfl infoWd) rfl ?_
          rw [HRR.out]
          have cw := bAll al d5
          have hlx : (xs).length = n := HLX.out
          have f8 := s8.below (B := w.heap.size) (by have := d5.size; omega) (fun k hk => by omega)
          have f9 := s9.below (B := w.heap.size) (by have := s8.size; have := d5.size; omega) (fun k hk => by omega)
          refine ⟨_, _, rfl, ⟨so, sc, by rw [hlx], by rw [hlx]; exact hcap5, ?_⟩, backA_row _ _ _ _ _ _ _, (cw.trans f8).trans f9⟩
          rw [hlx]
          exact (((Hr5.out.keepB dd).keep s8 (fun k h1 h2 => by omega)).keep s9 (fun k h1 h2 => by omega)).mono (show w.heap.size ≤ W.heap.size by omega)
        · rw [hf] at cF
          have HRR : Hid (R = (x.a3, xs, backW me x 2 b' x', true)) := by
            show _ = _
            rw [← HR.out, voteR, if_pos HCN.out, if_pos HK.out, if_pos HLP.out, hfind]
          have hkn : k < n := by have := (List.getElem?_eq_some_iff.1 hk).1; have := Hl.out; omega
          have hki : (k : Int) < (n : Int) := by omega
          obtain ⟨ao', ca', e0, -, -, hc0⟩ := Hrc.out _ c2
          injection e0 with e1 _ e2
          subst e1 e2
          obtain ⟨b1, o1, rfl, hc1⟩ := hc0 (by omega)
          have F := hide (fun V (hV : Below V2.heap.size V2 V) => pp_at hc1 hk hV)
          have HB1 : Hid (∀ j z, (pparr (s', b', x'))[j]? = some z → W.cell? ⟨b1, o1 + k * 12 + j, none⟩ = some z) := by
            obtain ⟨_, _, e0, -, -, hcW⟩ := Hrc.out W (Below.refl _ _)
            injection e0 with e1 _ e2
            subst e1 e2
            obtain ⟨_, _, e3, hc2⟩ := hcW (by omega)
            injection e3 with e3
            injection e3 with e4 e5
            subst e4 e5
            exact pp_at hc2 hk (Below.refl _ _)
          clear hf hfind hc1 hc0 hk
          go_wp2_with fail
          refine cF.mono ?_
          rintro e w3 ⟨rfl, b3⟩
          have F1 := F.out _ b3
          have f1 : w3.cell? ⟨b1, o1 + k * 12 + 1, none⟩ = some (.int .i64 b') := F1 1 _ rfl
          have c3 := bAll c2 b3
          have hb0 : ¬ b1 = h := by
            intro e
            have q := HB1.out 0 _ rfl
            have := World.block_lt_of_cell? W _ q
            simp at this
            omega
          have Hg3 := hide (bKeeps b3 Hg2.out)
          have Hh3 := hide (bKeeps b3 Hh2.out)
          have Hr3 := hide (Hr2.out.keepB b3)
          have kw : w3.cell? ⟨h, 5, none⟩ = some (.int .i64 0) := boxAt Hh3.out 5
          have kw' : w3.frozen? ⟨h, 5, none⟩ = false := boxFz Hh3.out 5
          have kS : w3.cell? ⟨w.heap.size, 1, none⟩ = some (.slice (some ⟨b1, o1, none⟩) n ca) := boxAt (bKeeps c3 B0.out) 1
          clear F1 cF Hg2 Hh2 Hr2
          go_upto_region 13 with fail
          generalize hV4 : World.setCell _ _ _ = V4
          have up4 : Upd (fun j => j = h) w3 V4 := by rw [← hV4]; exact Upd.setCell _ _ _ _ rfl
          have Hh4 : Hid (V4.heap[h]? = some (.cells (backA 2 me x.a1 x.a3 x.a4 b' zeroW) 40 (0, 0))) := by show _ = _; rw [← hV4]; exact row_set _ Hh3.out
          have Hg4 := hide (up4.keeps Hg3.out hgh')
          have Hr4 := hide (rowA_keep_box (by decide) Hr3.out Hh3.out up4)
          have z3 := c3.size
          have c4 : Below W.heap.size W V4 := c3.trans (up4.below (by omega) (fun k hk => by omega))
          have F4 : Hid (∀ j z, (#[.int .i64 x'.c0, .int .i64 x'.c1, .int .i64 x'.c2, .int .i64 x'.c3, .int .i64 x'.c4, .int .i64 x'.c5, .int .i64 x'.c6, .int .i64 x'.c7, .int .i64 x'.c8, .int .i64 x'.c9] : Array Value)[j]? = some z → V4.cell? ⟨b1, o1 + k * 12 + 2 + j, none⟩ = some z) := by
            show ∀ j z, _
            intro j z hj
            have e := HB1.out (2 + j) z (pparr_cmd hj)
            have hl := World.block_lt_of_cell? W _ e
            rw [Nat.add_assoc (o1 + k * 12) 2 j]
            exact (c4.cell (p := ⟨b1, o1 + k * 12 + (2 + j), none⟩) hl).trans e
          have kS : V4.cell? ⟨w.heap.size, 1, none⟩ = some (.slice (some ⟨b1, o1, none⟩) n ca) := boxAt (bKeeps c4 B0.out) 1
          have hput : putAt (backA 2 me x.a1 x.a3 x.a4 b' zeroW) 6 #[.int .i64 x'.c0, .int .i64 x'.c1, .int .i64 x'.c2, .int .i64 x'.c3, .int .i64 x'.c4, .int .i64 x'.c5, .int .i64 x'.c6, .int .i64 x'.c7, .int .i64 x'.c8, .int .i64 x'.c9] = backA 2 me x.a1 x.a3 x.a4 b' x' := rfl
          clear hV4 up4 Hg3 Hh3 Hr3 b3 c3 kw kw' f1
          go_upto_region 18 with (first | (refine wpList_load_at rfl 36 (.tmp 106) rfl b1 (o1 + k * 12 + 2) rfl #[.int .i64 x'.c0, .int .i64 x'.c1, .int .i64 x'.c2, .int .i64 x'.c3, .int .i64 x'.c4, .int .i64 x'.c5, .int .i64 x'.c6, .int .i64 x'.c7, .int .i64 x'.c8, .int .i64 x'.c9] _ F4.out Try.underlying36 rfl infoCm10 ?_) | (refine wpList_store_at rfl 36 (.tmp 108) (.tmp 107) rfl h 6 #[.int .i64 x'.c0, .int .i64 x'.c1, .int .i64 x'.c2, .int .i64 x'.c3, .int .i64 x'.c4, .int .i64 x'.c5, .int .i64 x'.c6, .int .i64 x'.c7, .int .i64 x'.c8, .int .i64 x'.c9] rfl rfl _ _ Hh4.out infoCm10 (show (6 + 10 : Nat) ≤ 26 by omega) (all_of_list rfl) ?_; rw [hput]))
          have up5 := updRow V4 h (backA 2 me x.a1 x.a3 x.a4 b' x')
          have Hh5 := hide (setRow_heap V4 h _ (backA 2 me x.a1 x.a3 x.a4 b' x') _ _ Hh4.out)
          have Hg5 := hide (up5.keeps Hg4.out hgh')
          have Hr5 := hide (rowA_keep_box (by decide) Hr4.out Hh4.out up5)
          have z4 := c4.size
          have c5 : Below W.heap.size W (V4.setRow h (backA 2 me x.a1 x.a3 x.a4 b' x')) := c4.trans (up5.below (by omega) (fun k hk => by omega))
          generalize World.setRow _ _ _ = V5 at Hh5 Hg5 Hr5 c5 ⊢
          have HLX := Hl
          have hcap5 := hcap
          clear up5 hput Hg4 Hh4 Hr4 c4 F4 kS
          have zc := c5.size
          have d5 : Below W.heap.size W V5.drew := bDrewB c5
          have zW := ZW.out
          have s8 := updRow V5.drew (w.heap.size + 1 + 1) #[.int .i64 x.a3, .slice so n sc]
          have s9 := updRow (World.setRow V5.drew (w.heap.size + 1 + 1) #[.int .i64 x.a3, .slice so n sc]) (w.heap.size + 1 + 1 + 1) (backA 2 me x.a1 x.a3 x.a4 b' x')
          have N2 := hide (bKeeps d5 B2.out)
          have N3 := hide (s8.keeps (bKeeps d5 B3.out) (by omega))
          have dd := bDrewB (Below.refl (World.heap V5).size V5)
          refine wp_region_noPanic ?_
          refine wp_region_held_drew (S := (fun w' => w'.heap[g]? = some (.cells #[.int .i64 x.a3, .slice so n sc] 35 (0, 0)) ∧ w'.heap[h]? = some (.cells (backA 2 me x.a1 x.a3 x.a4 b' x') 40 (0, 0)))) (by kernel_rfl) ?_ (fun hHeld => ?_)
          · exact ⟨Hg5.out, Hh5.out⟩
          refine wpAnyH_take (i := 0) (v := .agg #[.int .i64 x.a3, .slice so n sc]) rfl (by kernel_rfl) (by kernel_rfl) (by kernel_rfl) (fun _ _ _ h => h) (yields_row rfl 35 (.tmp 9) rfl (g) rfl _ #[.int .i64 x.a3, .slice so n sc] _ (fun _ h => h.1) Try.underlying35 rfl infoSv2) (by assumption) ?_
          simp only [Act.put, List.getElem_toArray, List.getElem_cons_zero, List.setIfInBounds_toArray, List.set_cons_zero, List.set_cons_succ]
          refine wpAnyH_take (i := 1) (v := .agg (backA 2 me x.a1 x.a3 x.a4 b' x')) rfl (by kernel_rfl) (by kernel_rfl) (by kernel_rfl) (fun _ _ _ h => h) (yields_row rfl 40 (.tmp 10) rfl (h) rfl _ (backA 2 me x.a1 x.a3 x.a4 b' x') _ (fun _ h => h.2) Try.underlying40 rfl infoWd) (by assumption) ?_
          simp only [Act.put, List.getElem_toArray, List.getElem_cons_zero, List.getElem_cons_succ, List.setIfInBounds_toArray, List.set_cons_zero, List.set_cons_succ]
          refine wpAnyH_ready (rs := [2]) (by kernel_rfl) (by simp) ?_
          refine AllReadyH.cons rfl (fun K hK => ?_) AllReadyH.nil
          (refine wp_store_row 35 (.tmp 6) (.tmp 135) rfl (w.heap.size + 1 + 1) #[.int .i64 x.a3, .slice so n sc] rfl rfl _ _ N2.out infoSv2 rfl (all_of_list rfl) ?_)
          refine hK.out _ _ ?_ (fun hHeld => ?_)
          · exact ⟨s8.keeps Hg5.out (by omega), s8.keeps Hh5.out (by omega)⟩
          clear hK K
          refine wpAnyH_ready (rs := [3]) (by kernel_rfl) (by simp) ?_
          refine AllReadyH.cons rfl (fun K hK => ?_) AllReadyH.nil
          (refine wp_store_row 40 (.tmp 7) (.tmp 136) rfl (w.heap.size + 1 + 1 + 1) (backA 2 me x.a1 x.a3 x.a4 b' x') rfl rfl _ _ N3.out infoWd rfl (all_of_list rfl) ?_)
          refine hK.out _ _ ?_ (fun hHeld => ?_)
          · exact ⟨s9.keeps (s8.keeps Hg5.out (by omega)) (by omega), s9.keeps (s8.keeps Hh5.out (by omega)) (by omega)⟩
          clear hK K
          refine wpAnyH_take (i := 4) (v := ?v15) rfl (by kernel_rfl) (by kernel_rfl) (by kernel_rfl) (fun _ _ _ h => h) (Or.inl ⟨by rfl, ?hy15⟩) (by assumption) ?rest15
          case hy15 => ((intro w hSw; (try dsimp only at hSw); (try simp only [List.getElem_toArray, List.getElem_cons_zero, List.getElem_cons_succ]); go_simp; first | done | (with_reducible rfl)))
          simp only [Act.put, List.getElem_toArray, List.getElem_cons_zero, List.getElem_cons_succ, List.setIfInBounds_toArray, List.set_cons_zero, List.set_cons_succ]
          refine wpAnyH_done (by kernel_rfl) ?_ _
          refine NoPanic.normal ?_
          clear hHeld
          go_wp2
          refine bodyPost_ret (v := .tuple #[.agg #[.int .i64 x.a3, .slice so n sc], .agg (backA 2 me x.a1 x.a3 x.a4 b' x'), .bool true]) (results_row_row_tmp Try.results11 _ _ (w.heap.size + 1 + 1) (w.heap.size + 1 + 1 + 1) _ _ _ _ (0, 0) (0, 0) _ _ _ rfl rfl rfl (s9.keeps (setRow_heap _ _ _ _ _ _ N2.out) (by omega)) (setRow_heap _ _ _ _ _ _ N3.out) Try.underlying35 rfl infoSv2 Try.underlying40 rfl infoWd) rfl ?_
          rw [HRR.out]
          have cw := bAll al d5
          have hlx : (xs).length = n := HLX.out
          have f8 := s8.below (B := w.heap.size) (by have := d5.size; omega) (fun k hk => by omega)
          have f9 := s9.below (B := w.heap.size) (by have := s8.size; have := d5.size; omega) (fun k hk => by omega)
          refine ⟨_, _, rfl, ⟨so, sc, by rw [hlx], by rw [hlx]; exact hcap5, ?_⟩, backA_row _ _ _ _ _ _ _, (cw.trans f8).trans f9⟩
          rw [hlx]
          exact (((Hr5.out.keepB dd).keep s8 (fun k h1 h2 => by omega)).keep s9 (fun k h1 h2 => by omega)).mono (show w.heap.size ≤ W.heap.size by omega)
      · have d1 : decide (x.a3 > P) = false := by simpa using hlp
        have d2 : decide (P < x.a3) = false := by simpa using hlp
        have HK := hide hk1
        have HLP := hide hlp
        clear hk1 hlp
        have HRR : Hid (R = (P, xs, backW me x 5 P zeroW, true)) := by
          show _ = _
          rw [← HR.out, voteR, if_pos HCN.out]
          rw [if_pos HK.out, if_neg HLP.out]
        go_wp2
        generalize hV5 : World.setCell _ _ _ = V5
        have up5 : Upd (fun j => j = h) V V5 := by rw [← hV5]; exact (Upd.setCell (S := fun j => j = h) _ _ _ _ rfl).trans (Upd.setCell _ _ _ _ rfl)
        have Hh5 : Hid (V5.heap[h]? = some (.cells (backA 5 me x.a1 x.a3 x.a4 P zeroW) 40 (0, 0))) := by show _ = _; rw [← hV5]; exact row_set _ (row_set _ Hh0.out)
        have Hg5 := hide (up5.keeps Hg0.out hgh')
        have Hr5 := hide (rowA_keep_box (by decide) Hr0.out Hh0.out up5)
        have c5 : Below W.heap.size W V5 := bV.trans (up5.below (by omega) (fun k hk => by omega))
        have HLX := Hl
        have hcap5 := hcap
        clear hV5 up5 k0 k3 k4 kP kS kg kg' kh kh' kw kw'
        have zc := c5.size
        have d5 : Below W.heap.size W V5.drew := bDrewB c5
        have zW := ZW.out
        have s8 := updRow V5.drew (w.heap.size + 1 + 1) #[.int .i64 P, .slice so n sc]
        have s9 := updRow (World.setRow V5.drew (w.heap.size + 1 + 1) #[.int .i64 P, .slice so n sc]) (w.heap.size + 1 + 1 + 1) (backA 5 me x.a1 x.a3 x.a4 P zeroW)
        have N2 := hide (bKeeps d5 B2.out)
        have N3 := hide (s8.keeps (bKeeps d5 B3.out) (by omega))
        have dd := bDrewB (Below.refl (World.heap V5).size V5)
        refine wp_region_noPanic ?_
        refine wp_region_held_drew (S := (fun w' => w'.heap[g]? = some (.cells #[.int .i64 P, .slice so n sc] 35 (0, 0)) ∧ w'.heap[h]? = some (.cells (backA 5 me x.a1 x.a3 x.a4 P zeroW) 40 (0, 0)))) (by kernel_rfl) ?_ (fun hHeld => ?_)
        · exact ⟨Hg5.out, Hh5.out⟩
        refine wpAnyH_take (i := 0) (v := .agg #[.int .i64 P, .slice so n sc]) rfl (by kernel_rfl) (by kernel_rfl) (by kernel_rfl) (fun _ _ _ h => h) (yields_row rfl 35 (.tmp 9) rfl (g) rfl _ #[.int .i64 P, .slice so n sc] _ (fun _ h => h.1) Try.underlying35 rfl infoSv2) (by assumption) ?_
        simp only [Act.put, List.getElem_toArray, List.getElem_cons_zero, List.setIfInBounds_toArray, List.set_cons_zero, List.set_cons_succ]
        refine wpAnyH_take (i := 1) (v := .agg (backA 5 me x.a1 x.a3 x.a4 P zeroW)) rfl (by kernel_rfl) (by kernel_rfl) (by kernel_rfl) (fun _ _ _ h => h) (yields_row rfl 40 (.tmp 10) rfl (h) rfl _ (backA 5 me x.a1 x.a3 x.a4 P zeroW) _ (fun _ h => h.2) Try.underlying40 rfl infoWd) (by assumption) ?_
        simp only [Act.put, List.getElem_toArray, List.getElem_cons_zero, List.getElem_cons_succ, List.setIfInBounds_toArray, List.set_cons_zero, List.set_cons_succ]
        refine wpAnyH_ready (rs := [2]) (by kernel_rfl) (by simp) ?_
        refine AllReadyH.cons rfl (fun K hK => ?_) AllReadyH.nil
        (refine wp_store_row 35 (.tmp 6) (.tmp 135) rfl (w.heap.size + 1 + 1) #[.int .i64 P, .slice so n sc] rfl rfl _ _ N2.out infoSv2 rfl (all_of_list rfl) ?_)
        refine hK.out _ _ ?_ (fun hHeld => ?_)
        · exact ⟨s8.keeps Hg5.out (by omega), s8.keeps Hh5.out (by omega)⟩
        clear hK K
        refine wpAnyH_ready (rs := [3]) (by kernel_rfl) (by simp) ?_
        refine AllReadyH.cons rfl (fun K hK => ?_) AllReadyH.nil
        (refine wp_store_row 40 (.tmp 7) (.tmp 136) rfl (w.heap.size + 1 + 1 + 1) (backA 5 me x.a1 x.a3 x.a4 P zeroW) rfl rfl _ _ N3.out infoWd rfl (all_of_list rfl) ?_)
        refine hK.out _ _ ?_ (fun hHeld => ?_)
        · exact ⟨s9.keeps (s8.keeps Hg5.out (by omega)) (by omega), s9.keeps (s8.keeps Hh5.out (by omega)) (by omega)⟩
        clear hK K
        refine wpAnyH_take (i := 4) (v := ?v16) rfl (by kernel_rfl) (by kernel_rfl) (by kernel_rfl) (fun _ _ _ h => h) (Or.inl ⟨by rfl, ?hy16⟩) (by assumption) ?rest16
        case hy16 => ((intro w hSw; (try dsimp only at hSw); (try simp only [List.getElem_toArray, List.getElem_cons_zero, List.getElem_cons_succ]); go_simp; first | done | (with_reducible rfl)))
        simp only [Act.put, List.getElem_toArray, List.getElem_cons_zero, List.getElem_cons_succ, List.setIfInBounds_toArray, List.set_cons_zero, List.set_cons_succ]
        refine wpAnyH_done (by kernel_rfl) ?_ _
        refine NoPanic.normal ?_
        clear hHeld
        go_wp2
        refine bodyPost_ret (v := .tuple #[.agg #[.int .i64 P, .slice so n sc], .agg (backA 5 me x.a1 x.a3 x.a4 P zeroW), .bool true]) (results_row_row_tmp Try.results11 _ _ (w.heap.size + 1 + 1) (w.heap.size + 1 + 1 + 1) _ _ _ _ (0, 0) (0, 0) _ _ _ rfl rfl rfl (s9.keeps (setRow_heap _ _ _ _ _ _ N2.out) (by omega)) (setRow_heap _ _ _ _ _ _ N3.out) Try.underlying35 rfl infoSv2 Try.underlying40 rfl infoWd) rfl ?_
        rw [HRR.out]
        have cw := bAll al d5
        have hlx : (xs).length = n := HLX.out
        have f8 := s8.below (B := w.heap.size) (by have := d5.size; omega) (fun k hk => by omega)
        have f9 := s9.below (B := w.heap.size) (by have := s8.size; have := d5.size; omega) (fun k hk => by omega)
        refine ⟨_, _, rfl, ⟨so, sc, by rw [hlx], by rw [hlx]; exact hcap5, ?_⟩, backA_row _ _ _ _ _ _ _, (cw.trans f8).trans f9⟩
        rw [hlx]
        exact (((Hr5.out.keepB dd).keep s8 (fun k h1 h2 => by omega)).keep s9 (fun k h1 h2 => by omega)).mono (show w.heap.size ≤ W.heap.size by omega)
    · have hk3 : x.a0 = 3 := by exact HOK.out.2.2.2.resolve_left hk1
      have h12 : (x.a0 == 1) = false := by simp [hk1]
      have h13 : (x.a0 == 3) = true := by simp [hk3]
      by_cases hlp : P ≤ x.a3
      · have d1 : decide (x.a3 ≥ P) = true := by simpa using hlp
        have d2 : decide (P ≤ x.a3) = true := by simpa using hlp
        have HRR : Hid (R = (x.a3, insL ordV xs (x.a4, x.a3, x), backW me x 4 0 zeroW, true)) := by
          show _ = _
          rw [← HR.out, voteR, if_pos HCN.out, if_neg hk1, if_pos hlp]
        clear hk1 hk3 hlp
        go_upto_region 16 with fail
        generalize hV2 : World.setCell _ _ _ = V2
        have up2 : Upd (fun j => j = g) V V2 := by rw [← hV2]; exact Upd.setCell _ _ _ _ rfl
        have Hg2 : Hid (V2.heap[g]? = some (.cells #[.int .i64 x.a3, .slice so n sc] 35 (0, 0))) := by show _ = _; rw [← hV2]; exact row_set _ Hg0.out
        have Hh2 := hide (up2.keeps Hh0.out hgh)
        have c2 : Below W.heap.size W V2 := bV.trans (up2.below (by omega) (fun k hk => by omega))
        clear hV2 up2 k0 k3 k4 kP kS kg kg' kh kh' kw kw' Hg0 Hh0 Hr0 bV
        have k3 : V2.cell? ⟨w.heap.size + 1, 3, none⟩ = some (.int .i64 x.a3) := (boxAt (bKeeps c2 B1.out) 3).trans HC.out.2.2.1
        have k4 : V2.cell? ⟨w.heap.size + 1, 4, none⟩ = some (.int .i64 x.a4) := (boxAt (bKeeps c2 B1.out) 4).trans HC.out.2.2.2.1
        have k6 : Hid (∀ j z, (#[.int .i64 x.c0, .int .i64 x.c1, .int .i64 x.c2, .int .i64 x.c3, .int .i64 x.c4, .int .i64 x.c5, .int .i64 x.c6, .int .i64 x.c7, .int .i64 x.c8, .int .i64 x.c9] : Array Value)[j]? = some z → V2.cell? ⟨w.heap.size + 1, 6 + j, none⟩ = some z) := fun j z hj => (boxAt (bKeeps c2 B1.out) (6 + j)).trans (HC.out.2.2.2.2.2 j z hj)
        have kS : V2.cell? ⟨w.heap.size, 1, none⟩ = some (.slice ao n ca) := boxAt (bKeeps c2 B0.out) 1
        have cF := l21Put_any (.slice ao n ca) xs x.a4 x.a3 x V2 (by rw [Hl.out]; exact Hrc.out _ c2) (okV_asc HOK.out.1).1 (okV_asc HOK.out.1).2
        obtain ⟨X, hX⟩ : ∃ X, insL ordV xs (x.a4, x.a3, x) = X := ⟨_, rfl⟩
        have hXl : X.length ≤ 61 := by rw [← hX]; have := ins_len (ord := ordV) xs (x.a4, x.a3, x); have := (okV_asc HOK.out.1).1; omega
        rw [hX] at cF HRR
        clear hX
        go_wp2_with (first | (refine wpList_load_at rfl 36 (.tmp 129) rfl (w.heap.size + 1) 6 rfl #[.int .i64 x.c0, .int .i64 x.c1, .int .i64 x.c2, .int .i64 x.c3, .int .i64 x.c4, .int .i64 x.c5, .int .i64 x.c6, .int .i64 x.c7, .int .i64 x.c8, .int .i64 x.c9] _ k6.out Try.underlying36 rfl infoCm10 ?_) | (refine wpList_builtPaper x.a4 x.a3 x rfl _ rfl ?hp ?_; (case hp => ((conv => lhs; simp only [List.map_toArray, List.map_cons, List.map_nil]); rfl))))
        refine cF.mono ?_
        rintro e w3 ⟨v3, rfl, r3, b3⟩
        obtain ⟨so3, sc3, rfl, hcap5⟩ := roomA r3
        have c3 := bAll c2 b3
        have Hg3 := hide (bKeeps b3 Hg2.out)
        have Hh3 := hide (bKeeps b3 Hh2.out)
        have z2 := c2.size
        have Hr3 := hide (r3.mono z2)
        have kg : w3.cell? ⟨g, 1, none⟩ = some (.slice so n sc) := boxAt Hg3.out 1
        have kg' : w3.frozen? ⟨g, 1, none⟩ = false := boxFz Hg3.out 1
        have kh : w3.cell? ⟨h, 0, none⟩ = some (.int .i64 0) := boxAt Hh3.out 0
        have kh' : w3.frozen? ⟨h, 0, none⟩ = false := boxFz Hh3.out 0
        clear r3 b3 cF Hg2 Hh2 k3 k4 k6 kS
        obtain ⟨m, hm⟩ : ∃ m, X.length = m := ⟨_, rfl⟩
        have HLX := hide hm
        rw [hm] at hcap5 Hr3 hXl ⊢
        clear hm
        go_wp2
        generalize hV5 : World.setCell _ _ _ = V5
        have up5 : Upd (fun j => j = g ∨ j = h) w3 V5 := by rw [← hV5]; exact (Upd.setCell _ _ _ _ (.inl rfl)).trans (Upd.setCell _ _ _ _ (.inr rfl))
        have Hg5 : Hid (V5.heap[g]? = some (.cells #[.int .i64 x.a3, .slice so3 m sc3] 35 (0, 0))) := by show _ = _; rw [← hV5]; exact (Upd.setCell (S := fun j => j = h) _ _ _ _ rfl).keeps (row_set _ Hg3.out) hgh'
        have Hh5 : Hid (V5.heap[h]? = some (.cells (backA 4 me x.a1 x.a3 x.a4 0 zeroW) 40 (0, 0))) := by show _ = _; rw [← hV5]; exact row_set _ ((Upd.setCell (S := fun j => j = g) _ _ _ _ rfl).keeps Hh3.out hgh)
        have Hr5 : Hid (RowA V5 W.heap.size 56 12 (.slice so3 m sc3) m (ppcells X)) := by show RowA _ _ _ _ _ _ _; rw [← hV5]; exact rowA_keep_box (by decide) (rowA_keep_box (by decide) Hr3.out Hg3.out (Upd.setCell (S := fun j => j = g) _ _ _ _ rfl)) ((Upd.setCell (S := fun j => j = g) _ _ _ _ rfl).keeps Hh3.out hgh) (Upd.setCell _ _ _ _ rfl)
        have z3 := c3.size
        have c5 : Below W.heap.size W V5 := c3.trans (up5.below (by omega) (fun k hk => by omega))
        clear hV5 up5 Hg3 Hh3 Hr3 c3 kg kg' kh kh'
        have zc := c5.size
        have d5 : Below W.heap.size W V5.drew := bDrewB c5
        have zW := ZW.out
        have s8 := updRow V5.drew (w.heap.size + 1 + 1) #[.int .i64 x.a3, .slice so3 m sc3]
        have s9 := updRow (World.setRow V5.drew (w.heap.size + 1 + 1) #[.int .i64 x.a3, .slice so3 m sc3]) (w.heap.size + 1 + 1 + 1) (backA 4 me x.a1 x.a3 x.a4 0 zeroW)
        have N2 := hide (bKeeps d5 B2.out)
        have N3 := hide (s8.keeps (bKeeps d5 B3.out) (by omega))
        have dd := bDrewB (Below.refl (World.heap V5).size V5)
        refine wp_region_noPanic ?_
        refine wp_region_held_drew (S := (fun w' => w'.heap[g]? = some (.cells #[.int .i64 x.a3, .slice so3 m sc3] 35 (0, 0)) ∧ w'.heap[h]? = some (.cells (backA 4 me x.a1 x.a3 x.a4 0 zeroW) 40 (0, 0)))) (by kernel_rfl) ?_ (fun hHeld => ?_)
        · exact ⟨Hg5.out, Hh5.out⟩
        refine wpAnyH_take (i := 0) (v := .agg #[.int .i64 x.a3, .slice so3 m sc3]) rfl (by kernel_rfl) (by kernel_rfl) (by kernel_rfl) (fun _ _ _ h => h) (yields_row rfl 35 (.tmp 9) rfl (g) rfl _ #[.int .i64 x.a3, .slice so3 m sc3] _ (fun _ h => h.1) Try.underlying35 rfl infoSv2) (by assumption) ?_
        simp only [Act.put, List.getElem_toArray, List.getElem_cons_zero, List.setIfInBounds_toArray, List.set_cons_zero, List.set_cons_succ]
        refine wpAnyH_take (i := 1) (v := .agg (backA 4 me x.a1 x.a3 x.a4 0 zeroW)) rfl (by kernel_rfl) (by kernel_rfl) (by kernel_rfl) (fun _ _ _ h => h) (yields_row rfl 40 (.tmp 10) rfl (h) rfl _ (backA 4 me x.a1 x.a3 x.a4 0 zeroW) _ (fun _ h => h.2) Try.underlying40 rfl infoWd) (by assumption) ?_
        simp only [Act.put, List.getElem_toArray, List.getElem_cons_zero, List.getElem_cons_succ, List.setIfInBounds_toArray, List.set_cons_zero, List.set_cons_succ]
        refine wpAnyH_ready (rs := [2]) (by kernel_rfl) (by simp) ?_
        refine AllReadyH.cons rfl (fun K hK => ?_) AllReadyH.nil
        (refine wp_store_row 35 (.tmp 6) (.tmp 135) rfl (w.heap.size + 1 + 1) #[.int .i64 x.a3, .slice so3 m sc3] rfl rfl _ _ N2.out infoSv2 rfl (all_of_list rfl) ?_)
        refine hK.out _ _ ?_ (fun hHeld => ?_)
        · exact ⟨s8.keeps Hg5.out (by omega), s8.keeps Hh5.out (by omega)⟩
        clear hK K
        refine wpAnyH_ready (rs := [3]) (by kernel_rfl) (by simp) ?_
        refine AllReadyH.cons rfl (fun K hK => ?_) AllReadyH.nil
        (refine wp_store_row 40 (.tmp 7) (.tmp 136) rfl (w.heap.size + 1 + 1 + 1) (backA 4 me x.a1 x.a3 x.a4 0 zeroW) rfl rfl _ _ N3.out infoWd rfl (all_of_list rfl) ?_)
        refine hK.out _ _ ?_ (fun hHeld => ?_)
        · exact ⟨s9.keeps (s8.keeps Hg5.out (by omega)) (by omega), s9.keeps (s8.keeps Hh5.out (by omega)) (by omega)⟩
        clear hK K
        refine wpAnyH_take (i := 4) (v := ?v17) rfl (by kernel_rfl) (by kernel_rfl) (by kernel_rfl) (fun _ _ _ h => h) (Or.inl ⟨by rfl, ?hy17⟩) (by assumption) ?rest17
        case hy17 => ((intro w hSw; (try dsimp only at hSw); (try simp only [List.getElem_toArray, List.getElem_cons_zero, List.getElem_cons_succ]); go_simp; first | done | (with_reducible rfl)))
        simp only [Act.put, List.getElem_toArray, List.getElem_cons_zero, List.getElem_cons_succ, List.setIfInBounds_toArray, List.set_cons_zero, List.set_cons_succ]
        refine wpAnyH_done (by kernel_rfl) ?_ _
        refine NoPanic.normal ?_
        clear hHeld
        go_wp2
        refine bodyPost_ret (v := .tuple #[.agg #[.int .i64 x.a3, .slice so3 m sc3], .agg (backA 4 me x.a1 x.a3 x.a4 0 zeroW), .bool true]) (results_row_row_tmp Try.results11 _ _ (w.heap.size + 1 + 1) (w.heap.size + 1 + 1 + 1) _ _ _ _ (0, 0) (0, 0) _ _ _ rfl rfl rfl (s9.keeps (setRow_heap _ _ _ _ _ _ N2.out) (by omega)) (setRow_heap _ _ _ _ _ _ N3.out) Try.underlying35 rfl infoSv2 Try.underlying40 rfl infoWd) rfl ?_
        rw [HRR.out]
        have cw := bAll al d5
        have hlx : (X).length = m := HLX.out
        have f8 := s8.below (B := w.heap.size) (by have := d5.size; omega) (fun k hk => by omega)
        have f9 := s9.below (B := w.heap.size) (by have := s8.size; have := d5.size; omega) (fun k hk => by omega)
        refine ⟨_, _, rfl, ⟨so3, sc3, by rw [hlx], by rw [hlx]; exact hcap5, ?_⟩, backA_row _ _ _ _ _ _ _, (cw.trans f8).trans f9⟩
        rw [hlx]
        exact (((Hr5.out.keepB dd).keep s8 (fun k h1 h2 => by omega)).keep s9 (fun k h1 h2 => by omega)).mono (show w.heap.size ≤ W.heap.size by omega)
      · have d1 : decide (x.a3 ≥ P) = false := by simpa using hlp
        have d2 : decide (P ≤ x.a3) = false := by simpa using hlp
        have HK := hide hk1
        have HLP := hide hlp
        clear hk1 hk3 hlp
        have HRR : Hid (R = (P, xs, backW me x 5 P zeroW, true)) := by
          show _ = _
          rw [← HR.out, voteR, if_pos HCN.out]
          rw [if_neg HK.out, if_neg HLP.out]
        go_wp2
        generalize hV5 : World.setCell _ _ _ = V5
        have up5 : Upd (fun j => j = h) V V5 := by rw [← hV5]; exact (Upd.setCell (S := fun j => j = h) _ _ _ _ rfl).trans (Upd.setCell _ _ _ _ rfl)
        have Hh5 : Hid (V5.heap[h]? = some (.cells (backA 5 me x.a1 x.a3 x.a4 P zeroW) 40 (0, 0))) := by show _ = _; rw [← hV5]; exact row_set _ (row_set _ Hh0.out)
        have Hg5 := hide (up5.keeps Hg0.out hgh')
        have Hr5 := hide (rowA_keep_box (by decide) Hr0.out Hh0.out up5)
        have c5 : Below W.heap.size W V5 := bV.trans (up5.below (by omega) (fun k hk => by omega))
        have HLX := Hl
        have hcap5 := hcap
        clear hV5 up5 k0 k3 k4 kP kS kg kg' kh kh' kw kw'
        have zc := c5.size
        have d5 : Below W.heap.size W V5.drew := bDrewB c5
        have zW := ZW.out
        have s8 := updRow V5.drew (w.heap.size + 1 + 1) #[.int .i64 P, .slice so n sc]
        have s9 := updRow (World.setRow V5.drew (w.heap.size + 1 + 1) #[.int .i64 P, .slice so n sc]) (w.heap.size + 1 + 1 + 1) (backA 5 me x.a1 x.a3 x.a4 P zeroW)
        have N2 := hide (bKeeps d5 B2.out)
        have N3 := hide (s8.keeps (bKeeps d5 B3.out) (by omega))
        have dd := bDrewB (Below.refl (World.heap V5).size V5)
        refine wp_region_noPanic ?_
        refine wp_region_held_drew (S := (fun w' => w'.heap[g]? = some (.cells #[.int .i64 P, .slice so n sc] 35 (0, 0)) ∧ w'.heap[h]? = some (.cells (backA 5 me x.a1 x.a3 x.a4 P zeroW) 40 (0, 0)))) (by kernel_rfl) ?_ (fun hHeld => ?_)
        · exact ⟨Hg5.out, Hh5.out⟩
        refine wpAnyH_take (i := 0) (v := .agg #[.int .i64 P, .slice so n sc]) rfl (by kernel_rfl) (by kernel_rfl) (by kernel_rfl) (fun _ _ _ h => h) (yields_row rfl 35 (.tmp 9) rfl (g) rfl _ #[.int .i64 P, .slice so n sc] _ (fun _ h => h.1) Try.underlying35 rfl infoSv2) (by assumption) ?_
        simp only [Act.put, List.getElem_toArray, List.getElem_cons_zero, List.setIfInBounds_toArray, List.set_cons_zero, List.set_cons_succ]
        refine wpAnyH_take (i := 1) (v := .agg (backA 5 me x.a1 x.a3 x.a4 P zeroW)) rfl (by kernel_rfl) (by kernel_rfl) (by kernel_rfl) (fun _ _ _ h => h) (yields_row rfl 40 (.tmp 10) rfl (h) rfl _ (backA 5 me x.a1 x.a3 x.a4 P zeroW) _ (fun _ h => h.2) Try.underlying40 rfl infoWd) (by assumption) ?_
        simp only [Act.put, List.getElem_toArray, List.getElem_cons_zero, List.getElem_cons_succ, List.setIfInBounds_toArray, List.set_cons_zero, List.set_cons_succ]
        refine wpAnyH_ready (rs := [2]) (by kernel_rfl) (by simp) ?_
        refine AllReadyH.cons rfl (fun K hK => ?_) AllReadyH.nil
        (refine wp_store_row 35 (.tmp 6) (.tmp 135) rfl (w.heap.size + 1 + 1) #[.int .i64 P, .slice so n sc] rfl rfl _ _ N2.out infoSv2 rfl (all_of_list rfl) ?_)
        refine hK.out _ _ ?_ (fun hHeld => ?_)
        · exact ⟨s8.keeps Hg5.out (by omega), s8.keeps Hh5.out (by omega)⟩
        clear hK K
        refine wpAnyH_ready (rs := [3]) (by kernel_rfl) (by simp) ?_
        refine AllReadyH.cons rfl (fun K hK => ?_) AllReadyH.nil
        (refine wp_store_row 40 (.tmp 7) (.tmp 136) rfl (w.heap.size + 1 + 1 + 1) (backA 5 me x.a1 x.a3 x.a4 P zeroW) rfl rfl _ _ N3.out infoWd rfl (all_of_list rfl) ?_)
        refine hK.out _ _ ?_ (fun hHeld => ?_)
        · exact ⟨s9.keeps (s8.keeps Hg5.out (by omega)) (by omega), s9.keeps (s8.keeps Hh5.out (by omega)) (by omega)⟩
        clear hK K
        refine wpAnyH_take (i := 4) (v := ?v18) rfl (by kernel_rfl) (by kernel_rfl) (by kernel_rfl) (fun _ _ _ h => h) (Or.inl ⟨by rfl, ?hy18⟩) (by assumption) ?rest18
        case hy18 => ((intro w hSw; (try dsimp only at hSw); (try simp only [List.getElem_toArray, List.getElem_cons_zero, List.getElem_cons_succ]); go_simp; first | done | (with_reducible rfl)))
        simp only [Act.put, List.getElem_toArray, List.getElem_cons_zero, List.getElem_cons_succ, List.setIfInBounds_toArray, List.set_cons_zero, List.set_cons_succ]
        refine wpAnyH_done (by kernel_rfl) ?_ _
        refine NoPanic.normal ?_
        clear hHeld
        go_wp2
        refine bodyPost_ret (v := .tuple #[.agg #[.int .i64 P, .slice so n sc], .agg (backA 5 me x.a1 x.a3 x.a4 P zeroW), .bool true]) (results_row_row_tmp Try.results11 _ _ (w.heap.size + 1 + 1) (w.heap.size + 1 + 1 + 1) _ _ _ _ (0, 0) (0, 0) _ _ _ rfl rfl rfl (s9.keeps (setRow_heap _ _ _ _ _ _ N2.out) (by omega)) (setRow_heap _ _ _ _ _ _ N3.out) Try.underlying35 rfl infoSv2 Try.underlying40 rfl infoWd) rfl ?_
        rw [HRR.out]
        have cw := bAll al d5
        have hlx : (xs).length = n := HLX.out
        have f8 := s8.below (B := w.heap.size) (by have := d5.size; omega) (fun k hk => by omega)
        have f9 := s9.below (B := w.heap.size) (by have := s8.size; have := d5.size; omega) (fun k hk => by omega)
        refine ⟨_, _, rfl, ⟨so, sc, by rw [hlx], by rw [hlx]; exact hcap5, ?_⟩, backA_row _ _ _ _ _ _ _, (cw.trans f8).trans f9⟩
        rw [hlx]
        exact (((Hr5.out.keepB dd).keep s8 (fun k h1 h2 => by omega)).keep s9 (fun k h1 h2 => by omega)).mono (show w.heap.size ≤ W.heap.size by omega)

end Go.Proofs.Ytiigcokbmggdkaa
