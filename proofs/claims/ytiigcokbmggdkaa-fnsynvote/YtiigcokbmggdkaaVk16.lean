/- Contracts and plain facts that this claim leans on (texts VI3); no statement of the seat is proved here. -/
import Derived.Test.YtiigcokbmggdkaaVk15

/- SynVote of the program: a contract; no statement of the seat is proved here. -/
namespace Go.Proofs.Ytiigcokbmggdkaa
open Go.RowKit

/-- What a voter does that is asked: what it has promised then, its papers, its answer's kind, what was voted for, and its command. -/
def doV (P : Int) (xs : List Pp) (x : Wd) : Int × List Pp × Int × Int × Wd :=
  if x.a0 = 1 then ((prepR P xs x).1, xs, (prepR P xs x).2.1, (prepR P xs x).2.2.1, (prepR P xs x).2.2.2)
  else ((accR P xs x).1, (accR P xs x).2.1, (accR P xs x).2.2.1, (accR P xs x).2.2.2, zeroW)

theorem voteR_do {P : Int} {xs : List Pp} {me : Int} {x : Wd} (h : (okV P xs && (inI me 0 2 && asksW x)) = true) (hk : x.a0 = 1 ∨ x.a0 = 3) :
    voteR P xs me x = ((doV P xs x).1, (doV P xs x).2.1, backW me x (doV P xs x).2.2.1 (doV P xs x).2.2.2.1 (doV P xs x).2.2.2.2, true) := by
  have hc : (okV P xs && (inI me 0 2 && (asksW x && (decide (x.a0 = 1) || decide (x.a0 = 3))))) = true := by
    simp only [Bool.and_eq_true, Bool.or_eq_true, decide_eq_true_eq] at h ⊢
    exact ⟨h.1, h.2.1, h.2.2, hk⟩
  rw [voteR, if_pos hc, doV]
  by_cases h1 : x.a0 = 1
  · rw [if_pos h1, if_pos h1, prepR]
    by_cases h2 : P < x.a3
    · rw [if_pos h2, if_pos h2]
      cases xs.find? (fun p => decide (p.1 = x.a4)) <;> rfl
    · rw [if_neg h2, if_neg h2]
  · rw [if_neg h1, if_neg h1, accR]
    by_cases h2 : P ≤ x.a3
    · rw [if_pos h2, if_pos h2]
    · rw [if_neg h2, if_neg h2]
theorem voteR_no {P : Int} {xs : List Pp} {me : Int} {x : Wd} (h : (okV P xs && (inI me 0 2 && asksW x)) = false ∨ (x.a0 ≠ 1 ∧ x.a0 ≠ 3)) : voteR P xs me x = (P, xs, zeroW, false) := by
  rw [voteR, if_neg]
  intro hc
  simp only [Bool.and_eq_true, Bool.or_eq_true, decide_eq_true_eq] at hc
  rcases h with h | ⟨h1, h3⟩
  · rw [hc.1, hc.2.1, hc.2.2.1] at h
    cases h
  · rcases hc.2.2.2 with h | h
    · exact h1 h
    · exact h3 h

/-- The functions by kind, of a voter in the block g. -/
def doesA (g : Nat) : Array Value := #[.nilFunc, .func (.func 57) #[.pointer (some ⟨g, 0, none⟩)] #[], .nilFunc, .func (.func 58) #[.pointer (some ⟨g, 0, none⟩)] #[], .nilFunc, .nilFunc, .nilFunc, .nilFunc, .nilFunc, .nilFunc, .nilFunc, .nilFunc, .nilFunc, .nilFunc, .nilFunc, .nilFunc]
theorem builtDoes (g : Nat) : Try.prog.built 96 [(1, .func (.func 57) #[.pointer (some ⟨g, 0, none⟩)] #[]), (3, .func (.func 58) #[.pointer (some ⟨g, 0, none⟩)] #[])] = some (doesA g) := by kernel_rfl
theorem wpList_builtDoes {ops : Array Oper} {rest : List Oper} {o : Oper} {a : Act} {w : World} {Q : Exit → Act → World → Prop} (g : Nat) (hg : o.guard = none) (parts : Array (Nat × Operand)) (ho : o.op = .build 96 parts)
    (hp : (parts.map fun (i, x) => (i, a.eval x)).toList = [(1, .func (.func 57) #[.pointer (some ⟨g, 0, none⟩)] #[]), (3, .func (.func 58) #[.pointer (some ⟨g, 0, none⟩)] #[])])
    (h : wpList Try.prog ops Q rest (a.put o.dst (.agg (doesA g))) w) : wpList Try.prog ops Q (o :: rest) a w :=
  wpList_build hg 96 parts ho (by rw [hp, builtDoes]; rfl) (by rw [hp, builtDoes]; exact h)
theorem infoDoes : (Try.prog.info? 96).map (·.size) = some 16 := by kernel_rfl

theorem eql_func_nil {P : Program} {t : TypeId} {ps rs : Array TypeId} {v : Bool} (h : P.underlying t = some (.func ps rs v)) (f : Fn) (a c : Array Value) (w : World) :
    (binOp .eql t (.func f a c) .nilFunc).run P w = .ok (.bool false) w := by
  have h1 : ∀ d : Nat, (Op.equalIn (d + 1) t (.func f a c) .nilFunc).run P w = .ok false w := fun d => by
    simp [Op.equalIn, run_underlying h]
  simp [binOp, Op.equal, Op.maxDepth, h1 9999]
theorem eql_nil_nil {P : Program} {t : TypeId} {ps rs : Array TypeId} {v : Bool} (h : P.underlying t = some (.func ps rs v)) (w : World) :
    (binOp .eql t .nilFunc .nilFunc).run P w = .ok (.bool true) w := by
  have h1 : ∀ d : Nat, (Op.equalIn (d + 1) t .nilFunc .nilFunc).run P w = .ok true w := fun d => by
    simp [Op.equalIn, run_underlying h]
  simp [binOp, Op.equal, Op.maxDepth, h1 9999]
/-- A function that is there is held against nil. -/
theorem wpList_eqlFunc {P : Program} {ops : Array Oper} {rest : List Oper} {o : Oper} {a : Act} {w : World} {Q : Exit → Act → World → Prop} (hgd : Region.wanted o (yielded ops a.tmps) = true) (t yt : TypeId) (x y : Operand) (ho : o.op = .binOp .eql t x y yt)
    {ps rs : Array TypeId} {v : Bool} (ht : P.underlying t = some (.func ps rs v)) (f : Fn) (c d : Array Value) (hx : a.eval x = .func f c d) (hy : a.eval y = .nilFunc)
    (h : wpList P ops Q rest (a.put o.dst (.bool false)) w) : wpList P ops Q (o :: rest) a w :=
  wpList_step fun _ hK => by
    rw [if_pos hgd]
    unfold Oper.wp execOp
    simp only [ho, hx, hy, eqGuard_at_func, Sem.run_bind, Sem.run_pure, Result.andThen_ok, eql_func_nil ht]
    exact hK _ _ h
/-- No function is held against nil. -/
theorem wpList_eqlNil {P : Program} {ops : Array Oper} {rest : List Oper} {o : Oper} {a : Act} {w : World} {Q : Exit → Act → World → Prop} (hgd : Region.wanted o (yielded ops a.tmps) = true) (t yt : TypeId) (x y : Operand) (ho : o.op = .binOp .eql t x y yt)
    {ps rs : Array TypeId} {v : Bool} (ht : P.underlying t = some (.func ps rs v)) (hx : a.eval x = .nilFunc) (hy : a.eval y = .nilFunc)
    (h : wpList P ops Q rest (a.put o.dst (.bool true)) w) : wpList P ops Q (o :: rest) a w :=
  wpList_step fun _ hK => by
    rw [if_pos hgd]
    unfold Oper.wp execOp
    simp only [ho, hx, hy, eqGuard_at_nilFunc, Sem.run_bind, Sem.run_pure, Result.andThen_ok, eql_nil_nil ht]
    exact hK _ _ h

set_option maxRecDepth 100000 in
set_option maxHeartbeats 16000000 in
theorem implSynVote_any (v : Value) (P : Int) (xs : List Pp) (me : Int) (y : Value) (x : Wd) (w : World) (hv : VtR w v P xs) (hx : WdR w y x) (hn : xs.length ≤ 1048576) :
    Calls Try.prog 14 #[v, .int .i64 me, y] w fun e w' => ∃ v' y', e = .returned (.tuple #[v', y', .bool (voteR P xs me x).2.2.2]) ∧ VoteO w (voteR P xs me x) v' y' w' := by
  obtain ⟨R, hR⟩ : ∃ R, voteR P xs me x = R := ⟨_, rfl⟩
  rw [hR]
  have HR := hide hR
  clear hR
  obtain ⟨cs, rfl, hs, h1⟩ := hx.agg
  have HC := hide hx.cells
  have HX := hide hx
  have HI := hide (infoAt infoWd hs)
  clear hx hs h1
  have HV := hide hv
  obtain ⟨ao, ca, rfl, hr⟩ := hv
  have HRow := hide hr
  clear hr
  obtain ⟨j1, hj1⟩ : ∃ i, okV P xs = i := ⟨_, rfl⟩
  obtain ⟨j2, hj2⟩ : ∃ i, inI me 0 2 = i := ⟨_, rfl⟩
  obtain ⟨j3, hj3⟩ : ∃ i, asksW x = i := ⟨_, rfl⟩
  have cS := fun v w h => implSynVoterOk_any v P xs w h
  have cM := fun w => synIsVoter_any me w
  have cA := fun v w h => synAsks_any v x w h
  rw [hj1] at cS
  rw [hj2] at cM
  rw [hj3] at cA
  obtain ⟨cnd, hcnd⟩ : ∃ c, (okV P xs && (inI me 0 2 && asksW x)) = c := ⟨_, rfl⟩
  have HCN := hide hcnd
  have HCD : Hid ((j1 && (j2 && j3)) = cnd) := by
    show _ = _
    rw [← hcnd, hj1, hj2, hj3]
  clear hcnd hj1 hj2 hj3
  obtain ⟨n, hnn⟩ : ∃ n, xs.length = n := ⟨_, rfl⟩
  have Hl := hide hnn
  rw [hnn] at hn HV HRow ⊢
  clear hnn
  go_enter Try.func14, Try.ntmps14
  go_upto_region 1 with fail
  generalize hW : World.alloc _ _ = W
  have al : Below w.heap.size w W := by rw [← hW]; exact bal (bal (bal (bal (Below.refl _ _) _) _) _) _
  have B0 : Hid (W.heap[w.heap.size]? = some (.cells #[.int .i64 P, .slice ao n ca] 35 (0, 0))) := by show _ = _; rw [← hW]; exact al4_0 w _ _ _ _
  have B1 : Hid (W.heap[w.heap.size + 1]? = some (.cells cs 40 (0, 0))) := by show _ = _; rw [← hW]; exact al4_1 w _ _ _ _
  have B2 : Hid (W.heap[w.heap.size + 1 + 1]? = some (.cells #[.int .i64 0, .slice none 0 0] 35 (0, 0))) := by show _ = _; rw [← hW]; exact al4_2 w _ _ _ _
  have B3 : Hid (W.heap[w.heap.size + 1 + 1 + 1]? = some (.cells #[.int .i64 0, .int .i64 0, .int .i64 0, .int .i64 0, .int .i64 0, .int .i64 0, .int .i64 0, .int .i64 0, .int .i64 0, .int .i64 0, .int .i64 0, .int .i64 0, .int .i64 0, .int .i64 0, .int .i64 0, .int .i64 0, .int .i64 0, .int .i64 0, .int .i64 0, .int .i64 0, .int .i64 0, .int .i64 0, .int .i64 0, .int .i64 0, .slice none 0 0, .slice none 0 0] 40 (0, 0))) := by show _ = _; rw [← hW]; exact al4_3 w _ _ _ _
  have zW : W.heap.size = w.heap.size + 1 + 1 + 1 + 1 := by rw [← hW]; simp
  have ZW := hide zW
  clear hW zW
  have Hrc := hide (fun V (hV : Below W.heap.size W V) => HRow.out.keep (bAll al hV))
  have fS : Hid (∀ V : World, Below W.heap.size W V → V.cell? ⟨w.heap.size, 0, none⟩ = some (.int .i64 P) ∧ V.cell? ⟨w.heap.size, 1, none⟩ = some (.slice ao n ca)) := fun V hV => ⟨boxAt (bKeeps hV B0.out) 0, boxAt (bKeeps hV B0.out) 1⟩
  go_cut [9] (fun s9 wx => ∃ g so sc, s9 = .pointer (some ⟨g, 0, none⟩) ∧ n ≤ sc ∧ W.heap.size ≤ g ∧ wx.heap[g]? = some (.cells #[.int .i64 P, .slice so n sc] 35 (0, 0)) ∧ Row wx 56 12 (fun k => W.heap.size ≤ k) (.slice so n sc) n (ppcells xs) ∧ Below W.heap.size W wx)
  case first =>
    have dW : Below W.heap.size W W.drew := bDrewB (Below.refl _ _)
    have a9 : Below W.heap.size W (W.drew.alloc (.cells #[.int .i64 0, .slice none 0 0] 35)) := bal dW _
    refine wp_region_noPanic ?_
    refine wp_region_held_drew (S := (fun w' => w'.cell? ⟨w.heap.size, 0, none⟩ = some (.int .i64 P) ∧ w'.cell? ⟨w.heap.size, 1, none⟩ = some (.slice ao n ca))) (by kernel_rfl) ?_ (fun hHeld => ?_)
    · exact fS.out _ dW
    refine wpAnyH_take (i := 0) (v := ?v1) rfl (by kernel_rfl) (by kernel_rfl) (by kernel_rfl) (fun _ _ _ h => h) (Or.inl ⟨by rfl, ?hy1⟩) (by assumption) ?rest1
    case hy1 => ((intro w hSw; (try dsimp only at hSw); (try simp only [List.getElem_toArray, List.getElem_cons_zero]); go_simp; first | done | (with_reducible rfl)))
    simp only [Act.put, List.getElem_toArray, List.getElem_cons_zero, List.setIfInBounds_toArray, List.set_cons_zero, List.set_cons_succ]
    refine wpAnyH_take (i := 1) (v := ?v2) rfl (by kernel_rfl) (by kernel_rfl) (by kernel_rfl) (fun _ _ _ h => h) (Or.inl ⟨by rfl, ?hy2⟩) (by assumption) ?rest2
    case hy2 => ((intro w hSw; (try dsimp only at hSw); (try simp only [List.getElem_toArray, List.getElem_cons_zero, List.getElem_cons_succ]); go_simp; first | done | (with_reducible rfl)))
    simp only [Act.put, List.getElem_toArray, List.getElem_cons_zero, List.getElem_cons_succ, List.setIfInBounds_toArray, List.set_cons_zero, List.set_cons_succ]
    refine wpAnyH_take (i := 2) (v := ?v3) rfl (by kernel_rfl) (by kernel_rfl) (by kernel_rfl) (fun _ _ _ h => h) (Or.inl ⟨by rfl, ?hy3⟩) (by assumption) ?rest3
    case hy3 => ((intro w hSw; (try dsimp only at hSw); (try simp only [List.getElem_toArray, List.getElem_cons_zero, List.getElem_cons_succ]); go_simp; first | done | (with_reducible rfl)))
    simp only [Act.put, List.getElem_toArray, List.getElem_cons_zero, List.getElem_cons_succ, List.setIfInBounds_toArray, List.set_cons_zero, List.set_cons_succ]
    refine wpAnyH_take (i := 3) (v := ?v4) rfl (by kernel_rfl) (by kernel_rfl) (by kernel_rfl) (fun _ _ _ h => h) (Or.inl ⟨by rfl, ?hy4⟩) (by assumption) ?rest4
    case hy4 => ((intro w hSw; (try dsimp only at hSw); (try simp only [List.getElem_toArray, List.getElem_cons_zero, List.getElem_cons_succ]); go_simp; first | done | (with_reducible rfl)))
    simp only [Act.put, List.getElem_toArray, List.getElem_cons_zero, List.getElem_cons_succ, List.setIfInBounds_toArray, List.set_cons_zero, List.set_cons_succ]
    refine wpAnyH_ready (rs := [4, 6]) (by kernel_rfl) (by simp) ?_
    refine AllReadyH.cons rfl (fun K hK => ?_) (AllReadyH.cons rfl (fun K hK => ?_) AllReadyH.nil)
    · go_simp
      go_at_call 54
      refine (copyV_any _ n (ppcells xs) _ (Hrc.out _ dW) (ppcells_one _) hn).mono ?_
      rintro e w7 ⟨v7, rfl, own, b7⟩
      obtain ⟨so7, sc7, rfl, hcp⟩ := owns_shape own
      have b7' : Below W.heap.size W w7 := bAll dW b7
      refine hK.out _ _ ?_ (fun hHeld => ?_)
      · exact fS.out _ b7'
      clear hK K
      have r7 : Row w7 56 12 (fun k => W.heap.size ≤ k) (.slice so7 n sc7) n (ppcells xs) := Row.ofOwns own (by omega)
      have z7 := b7'.size
      have a7 : Below W.heap.size W (w7.alloc (.cells #[.int .i64 0, .slice none 0 0] 35)) := bal b7' _
      refine wpAnyH_take (i := 5) (v := ?v5) rfl (by kernel_rfl) (by kernel_rfl) (by kernel_rfl) (fun _ _ _ h => h) (Or.inl ⟨by rfl, ?hy5⟩) (by assumption) ?rest5
      case hy5 => ((intro w hSw; (try dsimp only at hSw); (try simp only [List.getElem_toArray, List.getElem_cons_zero, List.getElem_cons_succ]); go_simp; first | done | (with_reducible rfl)))
      simp only [Act.put, List.getElem_toArray, List.getElem_cons_zero, List.getElem_cons_succ, List.setIfInBounds_toArray, List.set_cons_zero, List.set_cons_succ]
      refine wpAnyH_ready (rs := [6]) (by kernel_rfl) (by simp) ?_
      refine AllReadyH.cons rfl (fun K hK => ?_) AllReadyH.nil
      go_simp
      (skip)
      refine hK.out _ _ ?_ (fun hHeld => ?_)
      · exact fS.out _ a7
      clear hK K
      have r8 := updRow (w7.alloc (.cells #[.int .i64 0, .slice none 0 0] 35)) w7.heap.size #[.int .i64 P, .slice so7 n sc7]
      have b8 : Below W.heap.size W (World.setRow (w7.alloc (.cells #[.int .i64 0, .slice none 0 0] 35)) w7.heap.size #[.int .i64 P, .slice so7 n sc7]) := a7.trans (r8.below a7.size (fun k h => by omega))
      refine wpAnyH_ready (rs := [7]) (by kernel_rfl) (by simp) ?_
      refine AllReadyH.cons rfl (fun K hK => ?_) AllReadyH.nil
      (refine wp_store_row 35 (.tmp 9) (.tmp 17) rfl w7.heap.size #[.int .i64 P, .slice so7 n sc7] rfl rfl _ _ (heap_alloc_new w7 _) infoSv2 rfl (all_of_list rfl) ?_)
      refine hK.out _ _ ?_ (fun hHeld => ?_)
      · exact fS.out _ b8
      clear hK K
      refine wpAnyH_done (by kernel_rfl) ?_ _
      refine NoPanic.normal ?_
      clear hHeld
      go_wp2_with fail
      go_meet
      exact ⟨w7.heap.size, so7, sc7, rfl, hcp, by omega, setRow_heap _ _ _ _ _ _ (heap_alloc_new w7 _), row_keep_box (by decide) (r7.keepB (bal (Below.refl _ _) _)) (heap_alloc_new w7 _) r8, b8⟩
    · go_simp
      refine hK.out _ _ ?_ (fun hHeld => ?_)
      · exact fS.out _ a9
      clear hK K
      refine wpAnyH_ready (rs := [4]) (by kernel_rfl) (by simp) ?_
      refine AllReadyH.cons rfl (fun K hK => ?_) AllReadyH.nil
      go_simp
      (go_at_call 54; refine (copyV_any _ n (ppcells xs) _ (Hrc.out _ a9) (ppcells_one _) hn).mono ?_; rintro e w7 ⟨v7, rfl, own, b7⟩; obtain ⟨so7, sc7, rfl, hcp⟩ := owns_shape own; have b7' : Below W.heap.size W w7 := a9.trans (b7.mono a9.size))
      refine hK.out _ _ ?_ (fun hHeld => ?_)
      · exact fS.out _ b7'
      clear hK K
      have r7 : Row w7 56 12 (fun k => W.heap.size ≤ k) (.slice so7 n sc7) n (ppcells xs) := (Row.ofOwns own (by omega)).mono (fun k _ h => Nat.le_trans a9.size h)
      have z7 := b7'.size
      have N9 : Hid (w7.heap[W.heap.size]? = some (.cells #[.int .i64 0, .slice none 0 0] 35 (0, 0))) := bKeeps b7 (al1_0 W.drew _)
      have r8 := updRow w7 W.heap.size #[.int .i64 P, .slice so7 n sc7]
      have b8 : Below W.heap.size W (World.setRow w7 W.heap.size #[.int .i64 P, .slice so7 n sc7]) := b7'.trans (r8.below b7'.size (fun k h => by omega))
      refine wpAnyH_take (i := 5) (v := ?v6) rfl (by kernel_rfl) (by kernel_rfl) (by kernel_rfl) (fun _ _ _ h => h) (Or.inl ⟨by rfl, ?hy6⟩) (by assumption) ?rest6
      case hy6 => ((intro w hSw; (try dsimp only at hSw); (try simp only [List.getElem_toArray, List.getElem_cons_zero, List.getElem_cons_succ]); go_simp; first | done | (with_reducible rfl)))
      simp only [Act.put, List.getElem_toArray, List.getElem_cons_zero, List.getElem_cons_succ, List.setIfInBounds_toArray, List.set_cons_zero, List.set_cons_succ]
      refine wpAnyH_ready (rs := [7]) (by kernel_rfl) (by simp) ?_
      refine AllReadyH.cons rfl (fun K hK => ?_) AllReadyH.nil
      (refine wp_store_row 35 (.tmp 9) (.tmp 17) rfl W.heap.size #[.int .i64 P, .slice so7 n sc7] rfl rfl _ _ N9.out infoSv2 rfl (all_of_list rfl) ?_)
      refine hK.out _ _ ?_ (fun hHeld => ?_)
      · exact fS.out _ b8
      clear hK K
      refine wpAnyH_done (by kernel_rfl) ?_ _
      refine NoPanic.normal ?_
      clear hHeld
      go_wp2_with fail
      go_meet
      exact ⟨W.heap.size, so7, sc7, rfl, hcp, by omega, setRow_heap _ _ _ _ _ _ N9.out, row_keep_box (by decide) r7 N9.out r8, b8⟩
  case rest =>
  obtain ⟨g, so, sc, rfl, hcap, hgW, hg, hrow, bx⟩ := hcut
  have Hg := hide hg
  have Hr := hide hrow
  have BX := hide bx
  clear hg hrow bx
  go_upto_region 2 with fail
  go_cut [30] (fun c wd => c = .bool (!cnd) ∧ Below wc.heap.size wc wd)
  case first =>
    have g0 : wc.cell? ⟨w.heap.size, 0, none⟩ = some (.int .i64 P) := (fS.out _ BX.out).1
    have g1 : wc.cell? ⟨w.heap.size, 1, none⟩ = some (.slice ao n ca) := (fS.out _ BX.out).2
    go_wp2_with fail
    refine (cS _ _ (HV.out.keep (bAll al BX.out))).mono ?_
    rintro e w1 ⟨rfl, b1⟩
    clear g0 g1
    cases j1
    · go_wp2_with fail
      go_meet
      exact ⟨by rw [← HCD.out]; rfl, b1⟩
    go_wp2_with fail
    refine (cM _).mono ?_
    rintro e w2 ⟨rfl, rfl⟩
    cases j2
    · go_wp2_with fail
      go_meet
      exact ⟨by rw [← HCD.out]; rfl, b1⟩
    have C1 := hide (bKeeps (bAll BX.out b1) B1.out)
    go_wp2_with (refine wpList_load_rowG (by rfl) 40 (.tmp 5) rfl (w.heap.size + 1) rfl _ cs (0, 0) _ C1.out Try.underlying40 rfl HI.out ?_)
    refine (cA _ _ (HX.out.keep (bAll al (bAll BX.out b1)))).mono ?_
    rintro e w3 ⟨rfl, b3⟩
    cases j3
    · go_wp2_with fail
      go_meet
      exact ⟨by rw [← HCD.out]; rfl, bAll b1 b3⟩
    · go_wp2_with fail
      go_meet
      exact ⟨by rw [← HCD.out]; rfl, bAll b1 b3⟩
  case rest =>
  obtain ⟨rfl, bc⟩ := hcut
  have Hg1 := hide (bKeeps bc Hg.out)
  have Hr1 := hide (Hr.out.keepB bc)
  have BC := hide (bAll BX.out bc)
  have gsz := heap_lt Hg1.out
  clear cS cM cA HCD Hg Hr BX bc
  have zW := ZW.out
  have n2 : ¬ g = w.heap.size + 1 + 1 := by omega
  have n3 : ¬ g = w.heap.size + 1 + 1 + 1 := by omega
  clear zW
  have fin : Hid (∀ V : World, Below W.heap.size W V → V.heap[g]? = some (.cells #[.int .i64 P, .slice so n sc] 35 (0, 0)) → Row V 56 12 (fun k => W.heap.size ≤ k) (.slice so n sc) n (ppcells xs) → R = (P, xs, zeroW, false) →
      ((V.setRow (w.heap.size + 1 + 1) #[.int .i64 P, .slice so n sc]).setRow (w.heap.size + 1 + 1 + 1) #[.int .i64 0, .int .i64 0, .int .i64 0, .int .i64 0, .int .i64 0, .int .i64 0, .int .i64 0, .int .i64 0, .int .i64 0, .int .i64 0, .int .i64 0, .int .i64 0, .int .i64 0, .int .i64 0, .int .i64 0, .int .i64 0, .int .i64 0, .int .i64 0, .int .i64 0, .int .i64 0, .int .i64 0, .int .i64 0, .int .i64 0, .int .i64 0, .slice none 0 0, .slice none 0 0]).heap[w.heap.size + 1 + 1]? = some (.cells #[.int .i64 P, .slice so n sc] 35 (0, 0)) ∧ ((V.setRow (w.heap.size + 1 + 1) #[.int .i64 P, .slice so n sc]).setRow (w.heap.size + 1 + 1 + 1) #[.int .i64 0, .int .i64 0, .int .i64 0, .int .i64 0, .int .i64 0, .int .i64 0, .int .i64 0, .int .i64 0, .int .i64 0, .int .i64 0, .int .i64 0, .int .i64 0, .int .i64 0, .int .i64 0, .int .i64 0, .int .i64 0, .int .i64 0, .int .i64 0, .int .i64 0, .int .i64 0, .int .i64 0, .int .i64 0, .int .i64 0, .int .i64 0, .slice none 0 0, .slice none 0 0]).heap[w.heap.size + 1 + 1 + 1]? = some (.cells #[.int .i64 0, .int .i64 0, .int .i64 0, .int .i64 0, .int .i64 0, .int .i64 0, .int .i64 0, .int .i64 0, .int .i64 0, .int .i64 0, .int .i64 0, .int .i64 0, .int .i64 0, .int .i64 0, .int .i64 0, .int .i64 0, .int .i64 0, .int .i64 0, .int .i64 0, .int .i64 0, .int .i64 0, .int .i64 0, .int .i64 0, .int .i64 0, .slice none 0 0, .slice none 0 0] 40 (0, 0)) ∧ R.2.2.2 = false ∧
      VoteO w R (.agg #[.int .i64 P, .slice so n sc]) (.agg #[.int .i64 0, .int .i64 0, .int .i64 0, .int .i64 0, .int .i64 0, .int .i64 0, .int .i64 0, .int .i64 0, .int .i64 0, .int .i64 0, .int .i64 0, .int .i64 0, .int .i64 0, .int .i64 0, .int .i64 0, .int .i64 0, .int .i64 0, .int .i64 0, .int .i64 0, .int .i64 0, .int .i64 0, .int .i64 0, .int .i64 0, .int .i64 0, .slice none 0 0, .slice none 0 0]) ((V.setRow (w.heap.size + 1 + 1) #[.int .i64 P, .slice so n sc]).setRow (w.heap.size + 1 + 1 + 1) #[.int .i64 0, .int .i64 0, .int .i64 0, .int .i64 0, .int .i64 0, .int .i64 0, .int .i64 0, .int .i64 0, .int .i64 0, .int .i64 0, .int .i64 0, .int .i64 0, .int .i64 0, .int .i64 0, .int .i64 0, .int .i64 0, .int .i64 0, .int .i64 0, .int .i64 0, .int .i64 0, .int .i64 0, .int .i64 0, .int .i64 0, .int .i64 0, .slice none 0 0, .slice none 0 0])) := by
    intro V bV hg hr hRR
    have zW := ZW.out
    have N2 := bKeeps bV B2.out
    have s8 := updRow V (w.heap.size + 1 + 1) #[.int .i64 P, .slice so n sc]
    have N3 := s8.keeps (bKeeps bV B3.out) (by omega)
    have s9 := updRow (V.setRow (w.heap.size + 1 + 1) #[.int .i64 P, .slice so n sc]) (w.heap.size + 1 + 1 + 1) #[.int .i64 0, .int .i64 0, .int .i64 0, .int .i64 0, .int .i64 0, .int .i64 0, .int .i64 0, .int .i64 0, .int .i64 0, .int .i64 0, .int .i64 0, .int .i64 0, .int .i64 0, .int .i64 0, .int .i64 0, .int .i64 0, .int .i64 0, .int .i64 0, .int .i64 0, .int .i64 0, .int .i64 0, .int .i64 0, .int .i64 0, .int .i64 0, .slice none 0 0, .slice none 0 0]
    have zV := bV.size
    have cw := bAll al bV
    have z8 := s8.size
    refine ⟨s9.keeps (setRow_heap _ _ _ _ _ _ N2) (by omega), setRow_heap _ _ _ _ _ _ N3, by rw [hRR], ?_⟩
    rw [hRR]
    refine ⟨⟨so, sc, by rw [Hl.out], by rw [Hl.out]; exact hcap, ?_⟩, zeroRow _ _, (cw.trans (s8.below (by omega) (fun k h => by omega))).trans (s9.below (by omega) (fun k h => by omega))⟩
    rw [Hl.out]
    exact ((hr.keep s8 (fun k h1 h2 => by omega)).keep s9 (fun k h1 h2 => by omega)).mono (fun k _ h => by omega)
  cases cnd
  · have HR0 : Hid (R = (P, xs, zeroW, false)) := by
      show _ = _
      rw [← HR.out]
      exact voteR_no (.inl HCN.out)
    obtain ⟨F1, F2, F3, F4⟩ := fin.out wc BC.out Hg1.out Hr1.out HR0.out
    have N2 := hide (bKeeps BC.out B2.out)
    have N3 := hide ((updRow wc (w.heap.size + 1 + 1) #[.int .i64 P, .slice so n sc]).keeps (bKeeps BC.out B3.out) (by omega))
    go_wp2_with (first
      | (refine wpList_load_row rfl 35 (.tmp 9) rfl g rfl _ _ (0, 0) _ Hg1.out Try.underlying35 rfl infoSv2 ?_)
      | (refine wpList_built34z rfl _ rfl rfl ?_)
      | (refine wpList_store_row rfl 35 (.tmp 6) (.tmp 31) rfl (w.heap.size + 1 + 1) #[.int .i64 P, .slice so n sc] rfl rfl _ _ N2.out infoSv2 (show (2 : Nat) = 2 from rfl) (all_of_list rfl) ?_)
      | (refine wpList_store_row rfl 40 (.tmp 7) (.tmp 32) rfl (w.heap.size + 1 + 1 + 1) #[.int .i64 0, .int .i64 0, .int .i64 0, .int .i64 0, .int .i64 0, .int .i64 0, .int .i64 0, .int .i64 0, .int .i64 0, .int .i64 0, .int .i64 0, .int .i64 0, .int .i64 0, .int .i64 0, .int .i64 0, .int .i64 0, .int .i64 0, .int .i64 0, .int .i64 0, .int .i64 0, .int .i64 0, .int .i64 0, .int .i64 0, .int .i64 0, .slice none 0 0, .slice none 0 0] rfl rfl _ _ N3.out infoWd (show (26 : Nat) = 26 from rfl) (all_of_list rfl) ?_))
    refine bodyPost_ret (v := .tuple #[.agg #[.int .i64 P, .slice so n sc], .agg #[.int .i64 0, .int .i64 0, .int .i64 0, .int .i64 0, .int .i64 0, .int .i64 0, .int .i64 0, .int .i64 0, .int .i64 0, .int .i64 0, .int .i64 0, .int .i64 0, .int .i64 0, .int .i64 0, .int .i64 0, .int .i64 0, .int .i64 0, .int .i64 0, .int .i64 0, .int .i64 0, .int .i64 0, .int .i64 0, .int .i64 0, .int .i64 0, .slice none 0 0, .slice none 0 0], .bool false]) (results_row_row_tmp Try.results14 _ _ (w.heap.size + 1 + 1) (w.heap.size + 1 + 1 + 1) _ _ _ _ (0, 0) (0, 0) _ _ _ rfl rfl rfl F1 F2 Try.underlying35 rfl infoSv2 Try.underlying40 rfl infoWd) rfl ?_
    exact ⟨_, _, by rw [F3], F4⟩
  have HOK : Hid (okV P xs = true ∧ inI me 0 2 = true ∧ asksW x = true) := by
    have := HCN.out
    simp only [Bool.and_eq_true] at this
    exact this
  go_upto_region 5 with (first
    | (refine wpList_builtDoes g rfl _ rfl ?hp ?_; (case hp => ((conv => lhs; simp only [List.map_toArray, List.map_cons, List.map_nil]); rfl)))
    | (refine wpList_store_row rfl 96 (.tmp 10) (.tmp 35) rfl wc.heap.size _ rfl rfl _ _ (heap_alloc_new wc _) infoDoes (show (16 : Nat) = 16 from rfl) (all_of_list rfl) ?_; rw [World.setRow_alloc_new]))
  generalize hV : World.alloc _ _ = V
  have aV : Below wc.heap.size wc V := by rw [← hV]; exact bal (Below.refl _ _) _
  have Hd : Hid (V.heap[wc.heap.size]? = some (.cells (doesA g) 96 (0, 0))) := by show _ = _; rw [← hV]; exact heap_alloc_new wc _
  have bV := hide (bAll BC.out aV)
  have Hg2 := hide (bKeeps aV Hg1.out)
  have Hr2 := hide (Hr1.out.keepB aV)
  clear hV Hg1 Hr1 BC aV
  generalize wc.heap.size = h at Hd gsz ⊢
  have hgh : ¬ g = h := by omega
  have D1 := hide (bKeeps bV.out B1.out)
  have k0 : V.cell? ⟨w.heap.size + 1, 0, none⟩ = some (.int .i64 x.a0) := (boxAt D1.out 0).trans HC.out.1
  by_cases hk : x.a0 = 1 ∨ x.a0 = 3
  · have HRR := hide (voteR_do (me := me) (HCN.out) hk)
    rw [HR.out] at HRR
    obtain ⟨d, hd⟩ : ∃ d, doV P xs x = d := ⟨_, rfl⟩
    rw [hd] at HRR
    have HD := hide hd
    clear hd
    obtain ⟨P', xs', kd, was, c⟩ := d
    obtain ⟨K, F, hK, hKF⟩ : ∃ K F : Nat, x.a0 = (K : Int) ∧ ((K = 1 ∧ F = 57) ∨ (K = 3 ∧ F = 58)) := by
      rcases hk with hk | hk
      · exact ⟨1, _, hk, .inl ⟨rfl, rfl⟩⟩
      · exact ⟨3, _, hk, .inr ⟨rfl, rfl⟩⟩
    rw [hK] at k0
    have kf : V.cell? ⟨h, K, none⟩ = some (.func (.func F) #[.pointer (some ⟨g, 0, none⟩)] #[]) := by
      refine (boxAt Hd.out K).trans ?_
      rcases hKF with ⟨rfl, rfl⟩ | ⟨rfl, rfl⟩ <;> rfl
    have hi1 : (K : Int) < 16 := by omega
    have hi2 : K < 16 := by omega
    clear hK
    go_upto_region 7 with (refine wpList_eqlFunc rfl _ _ _ _ rfl Try.underlying95 _ _ _ rfl rfl ?_)
    simp only [Act.put, List.setIfInBounds_toArray, List.set_cons_zero, List.set_cons_succ]
    clear k0 kf hi1 hi2
    go_cut [11] (fun s wx => ∃ h2, s = .pointer (some ⟨h2, 0, none⟩) ∧ wx.heap[h2]? = some (.cells (backA kd 0 0 0 0 was c) 40 (0, 0)) ∧ V.heap.size ≤ h2 ∧ VtB wx g (fun k => W.heap.size ≤ k) P' xs' ∧ Upd (fun j => j = g) V wx)
    case first =>
      clear hKF
      rcases hk with hk | hk
      · have gS : Hid (∀ U : World, U.heap[w.heap.size + 1]? = some (.cells cs 40 (0, 0)) → U.heap[h]? = some (.cells (doesA g) 96 (0, 0)) → U.heap[w.heap.size + 1]? = some (.cells cs 40 (0, 0)) ∧ U.cell? ⟨w.heap.size + 1, 0, none⟩ = some (.int .i64 1) ∧ U.cell? ⟨h, 1, none⟩ = some (.func (.func 57) #[.pointer (some ⟨g, 0, none⟩)] #[])) := fun U hU hU2 => ⟨hU, (boxAt hU 0).trans (HC.out.1.trans (by rw [hk])), boxAt hU2 1⟩
        have cD : ∀ U : World, Below V.heap.size V U → Calls Try.prog 57 #[.pointer (some ⟨g, 0, none⟩), .agg cs] U fun e w' => e = .returned (.agg (backA kd 0 0 0 0 was c)) ∧ VtB w' g (fun k => W.heap.size ≤ k) P' xs' ∧ Upd (fun j => j = g) U w' := by
          intro U hU
          have hzz := hU.size
          have hzW := bV.out.size
          have hdd := HD.out
          rw [doV, if_pos hk] at hdd
          simp only [Prod.mk.injEq] at hdd
          obtain ⟨e1, e2, e3, e4, e5⟩ := hdd
          refine (prepare_any g P so n sc xs (fun k => W.heap.size ≤ k) cs x U (bKeeps hU Hg2.out) (Hr2.out.keepB hU) Hl.out (by rw [← Hl.out]; exact (okV_asc HOK.out.1).1) (okV_asc HOK.out.1).2 (HX.out.keep (bAll al (bAll bV.out hU)))).mono ?_
          rintro e U2 ⟨rfl, hg2, u2⟩
          refine ⟨by rw [e3, e4, e5], ?_, u2⟩
          rw [e1] at hg2
          rw [← e2]
          exact ⟨so, sc, by rw [Hl.out]; exact hg2, by rw [Hl.out]; exact hcap, by rw [Hl.out]; exact row_keep_box (by decide) (Hr2.out.keepB hU) (bKeeps hU Hg2.out) u2⟩
        go_wp2
        have dd := bDrewB (Below.refl V.heap.size V)
        have a9 : Below V.heap.size V (V.drew.alloc (.cells #[.int .i64 0, .int .i64 0, .int .i64 0, .int .i64 0, .int .i64 0, .int .i64 0, .int .i64 0, .int .i64 0, .int .i64 0, .int .i64 0, .int .i64 0, .int .i64 0, .int .i64 0, .int .i64 0, .int .i64 0, .int .i64 0, .int .i64 0, .int .i64 0, .int .i64 0, .int .i64 0, .int .i64 0, .int .i64 0, .int .i64 0, .int .i64 0, .slice none 0 0, .slice none 0 0] 40)) := bal dd _
        have zW := ZW.out
        have hlw : w.heap.size + 1 < W.heap.size := by omega
        have hgw : ¬ w.heap.size + 1 = g := by omega
        have hgh' : ¬ h = g := fun e => hgh e.symm
        refine wp_region_noPanic ?_
        refine wp_region_held_drew (S := (fun w' => w'.heap[w.heap.size + 1]? = some (.cells cs 40 (0, 0)) ∧ w'.cell? ⟨w.heap.size + 1, 0, none⟩ = some (.int .i64 1) ∧ w'.cell? ⟨h, 1, none⟩ = some (.func (.func 57) #[.pointer (some ⟨g, 0, none⟩)] #[]))) (by kernel_rfl) ?_ (fun hHeld => ?_)
        · exact gS.out _ (bKeeps dd D1.out) (bKeeps dd Hd.out)
        refine wpAnyH_take (i := 0) (v := ?v7) rfl (by kernel_rfl) (by kernel_rfl) (by kernel_rfl) (fun _ _ _ h => h) (Or.inl ⟨by rfl, ?hy7⟩) (by assumption) ?rest7
        case hy7 => ((intro w hSw; (try dsimp only at hSw); (try simp only [List.getElem_toArray, List.getElem_cons_zero]); go_simp; first | done | (with_reducible rfl)))
        simp only [Act.put, List.getElem_toArray, List.getElem_cons_zero, List.setIfInBounds_toArray, List.set_cons_zero, List.set_cons_succ]
        refine wpAnyH_take (i := 1) (v := ?v8) rfl (by kernel_rfl) (by kernel_rfl) (by kernel_rfl) (fun _ _ _ h => h) (Or.inl ⟨by rfl, ?hy8⟩) (by assumption) ?rest8
        case hy8 => ((intro w hSw; (try dsimp only at hSw); (try simp only [List.getElem_toArray, List.getElem_cons_zero, List.getElem_cons_succ]); go_simp; first | done | (with_reducible rfl)))
        simp only [Act.put, List.getElem_toArray, List.getElem_cons_zero, List.getElem_cons_succ, List.setIfInBounds_toArray, List.set_cons_zero, List.set_cons_succ]
        refine wpAnyH_take (i := 2) (v := ?v9) rfl (by kernel_rfl) (by kernel_rfl) (by kernel_rfl) (fun _ _ _ h => h) (Or.inl ⟨by rfl, ?hy9⟩) (by assumption) ?rest9
        case hy9 => ((intro w hSw; (try dsimp only at hSw); (try simp only [List.getElem_toArray, List.getElem_cons_zero, List.getElem_cons_succ]); go_simp; first | done | (with_reducible rfl)))
        simp only [Act.put, List.getElem_toArray, List.getElem_cons_zero, List.getElem_cons_succ, List.setIfInBounds_toArray, List.set_cons_zero, List.set_cons_succ]
        refine wpAnyH_take (i := 3) (v := ?v10) rfl (by kernel_rfl) (by kernel_rfl) (by kernel_rfl) (fun _ _ _ h => h) (Or.inl ⟨by rfl, ?hy10⟩) (by assumption) ?rest10
        case hy10 => ((intro w hSw; (try dsimp only at hSw); (try simp only [List.getElem_toArray, List.getElem_cons_zero, List.getElem_cons_succ]); go_simp; first | done | (with_reducible rfl)))
        simp only [Act.put, List.getElem_toArray, List.getElem_cons_zero, List.getElem_cons_succ, List.setIfInBounds_toArray, List.set_cons_zero, List.set_cons_succ]
        refine wpAnyH_take (i := 4) (v := .agg cs) rfl (by kernel_rfl) (by kernel_rfl) (by kernel_rfl) (fun _ _ _ h => h) (yields_row rfl 40 (.tmp 5) rfl (w.heap.size + 1) rfl _ cs _ (fun _ h => h.1) Try.underlying40 rfl HI.out) (by assumption) ?_
        simp only [Act.put, List.getElem_toArray, List.getElem_cons_zero, List.getElem_cons_succ, List.setIfInBounds_toArray, List.set_cons_zero, List.set_cons_succ]
        refine wpAnyH_ready (rs := [5, 6]) (by kernel_rfl) (by simp) ?_
        refine AllReadyH.cons rfl (fun K hK => ?_) (AllReadyH.cons rfl (fun K hK => ?_) AllReadyH.nil)
        · go_simp
          go_at_call 57
          refine (cD _ dd).mono ?_
          rintro e U ⟨rfl, vb, uU⟩
          have u1 : Upd (fun j => j = g) V U := (Upd.ofBelow dd).trans uU
          refine hK.out _ _ ?_ (fun hHeld => ?_)
          · exact gS.out _ (u1.keeps D1.out hgw) (u1.keeps Hd.out hgh')
          clear hK K
          have zU := u1.size
          have aU := bal (Below.refl U.heap.size U) (.cells #[.int .i64 0, .int .i64 0, .int .i64 0, .int .i64 0, .int .i64 0, .int .i64 0, .int .i64 0, .int .i64 0, .int .i64 0, .int .i64 0, .int .i64 0, .int .i64 0, .int .i64 0, .int .i64 0, .int .i64 0, .int .i64 0, .int .i64 0, .int .i64 0, .int .i64 0, .int .i64 0, .int .i64 0, .int .i64 0, .int .i64 0, .int .i64 0, .slice none 0 0, .slice none 0 0] 40)
          have u2 := u1.trans (Upd.ofBelow aU)
          refine wpAnyH_ready (rs := [6]) (by kernel_rfl) (by simp) ?_
          refine AllReadyH.cons rfl (fun K hK => ?_) AllReadyH.nil
          go_simp
          (skip)
          refine hK.out _ _ ?_ (fun hHeld => ?_)
          · exact gS.out _ (u2.keeps D1.out hgw) (u2.keeps Hd.out hgh')
          clear hK K
          have r8 := updRow (U.alloc (.cells #[.int .i64 0, .int .i64 0, .int .i64 0, .int .i64 0, .int .i64 0, .int .i64 0, .int .i64 0, .int .i64 0, .int .i64 0, .int .i64 0, .int .i64 0, .int .i64 0, .int .i64 0, .int .i64 0, .int .i64 0, .int .i64 0, .int .i64 0, .int .i64 0, .int .i64 0, .int .i64 0, .int .i64 0, .int .i64 0, .int .i64 0, .int .i64 0, .slice none 0 0, .slice none 0 0] 40)) U.heap.size (backA kd 0 0 0 0 was c)
          have u3 := upd_late u2 r8 (fun k hk => by omega)
          refine wpAnyH_ready (rs := [7]) (by kernel_rfl) (by simp) ?_
          refine AllReadyH.cons rfl (fun K hK => ?_) AllReadyH.nil
          (refine wp_store_row 40 (.tmp 11) (.tmp 48) rfl U.heap.size (backA kd 0 0 0 0 was c) rfl rfl _ _ (heap_alloc_new U _) infoWd (show (26 : Nat) = 26 from rfl) (all_of_list rfl) ?_)
          refine hK.out _ _ ?_ (fun hHeld => ?_)
          · exact gS.out _ (u3.keeps D1.out hgw) (u3.keeps Hd.out hgh')
          clear hK K
          refine wpAnyH_done (by kernel_rfl) ?_ _
          refine NoPanic.normal ?_
          clear hHeld
          go_wp2_with fail
          go_meet
          obtain ⟨so', sc', v1, v2, v3⟩ := vb
          have hgU := heap_lt v1
          exact ⟨U.heap.size, rfl, setRow_heap _ _ _ _ _ _ (heap_alloc_new U _), zU, ⟨so', sc', r8.keeps (bKeeps aU v1) (by omega), v2, row_keep_box (by decide) (v3.keepB aU) (heap_alloc_new U _) r8⟩, u3⟩
        · go_simp
          refine hK.out _ _ ?_ (fun hHeld => ?_)
          · exact gS.out _ (bKeeps a9 D1.out) (bKeeps a9 Hd.out)
          clear hK K
          refine wpAnyH_ready (rs := [5]) (by kernel_rfl) (by simp) ?_
          refine AllReadyH.cons rfl (fun K hK => ?_) AllReadyH.nil
          go_simp
          (go_at_call 57; refine (cD _ a9).mono ?_; rintro e U ⟨rfl, vb, uU⟩; have u1 : Upd (fun j => j = g) V U := (Upd.ofBelow a9).trans uU)
          refine hK.out _ _ ?_ (fun hHeld => ?_)
          · exact gS.out _ (u1.keeps D1.out hgw) (u1.keeps Hd.out hgh')
          clear hK K
          have hgV := heap_lt Hg2.out
          have N9 : Hid (U.heap[V.heap.size]? = some (.cells #[.int .i64 0, .int .i64 0, .int .i64 0, .int .i64 0, .int .i64 0, .int .i64 0, .int .i64 0, .int .i64 0, .int .i64 0, .int .i64 0, .int .i64 0, .int .i64 0, .int .i64 0, .int .i64 0, .int .i64 0, .int .i64 0, .int .i64 0, .int .i64 0, .int .i64 0, .int .i64 0, .int .i64 0, .int .i64 0, .int .i64 0, .int .i64 0, .slice none 0 0, .slice none 0 0] 40 (0, 0))) := uU.keeps (al1_0 V.drew (.cells #[.int .i64 0, .int .i64 0, .int .i64 0, .int .i64 0, .int .i64 0, .int .i64 0, .int .i64 0, .int .i64 0, .int .i64 0, .int .i64 0, .int .i64 0, .int .i64 0, .int .i64 0, .int .i64 0, .int .i64 0, .int .i64 0, .int .i64 0, .int .i64 0, .int .i64 0, .int .i64 0, .int .i64 0, .int .i64 0, .int .i64 0, .int .i64 0, .slice none 0 0, .slice none 0 0] 40)) (by show ¬ V.drew.heap.size = g; intro e; exact Nat.lt_irrefl _ (e ▸ hgV))
          have r8 := updRow U V.heap.size (backA kd 0 0 0 0 was c)
          have u3 := upd_late u1 r8 (fun k hk => by omega)
          refine wpAnyH_ready (rs := [7]) (by kernel_rfl) (by simp) ?_
          refine AllReadyH.cons rfl (fun K hK => ?_) AllReadyH.nil
          (refine wp_store_row 40 (.tmp 11) (.tmp 48) rfl V.heap.size (backA kd 0 0 0 0 was c) rfl rfl _ _ N9.out infoWd (show (26 : Nat) = 26 from rfl) (all_of_list rfl) ?_)
          refine hK.out _ _ ?_ (fun hHeld => ?_)
          · exact gS.out _ (u3.keeps D1.out hgw) (u3.keeps Hd.out hgh')
          clear hK K
          refine wpAnyH_done (by kernel_rfl) ?_ _
          refine NoPanic.normal ?_
          clear hHeld
          go_wp2_with fail
          go_meet
          obtain ⟨so', sc', v1, v2, v3⟩ := vb
          exact ⟨V.heap.size, rfl, setRow_heap _ _ _ _ _ _ N9.out, Nat.le_refl _, ⟨so', sc', r8.keeps v1 (by omega), v2, row_keep_box (by decide) v3 N9.out r8⟩, u3⟩
      · have gS : Hid (∀ U : World, U.heap[w.heap.size + 1]? = some (.cells cs 40 (0, 0)) → U.heap[h]? = some (.cells (doesA g) 96 (0, 0)) → U.heap[w.heap.size + 1]? = some (.cells cs 40 (0, 0)) ∧ U.cell? ⟨w.heap.size + 1, 0, none⟩ = some (.int .i64 3) ∧ U.cell? ⟨h, 3, none⟩ = some (.func (.func 58) #[.pointer (some ⟨g, 0, none⟩)] #[])) := fun U hU hU2 => ⟨hU, (boxAt hU 0).trans (HC.out.1.trans (by rw [hk])), boxAt hU2 3⟩
        have cD : ∀ U : World, Below V.heap.size V U → Calls Try.prog 58 #[.pointer (some ⟨g, 0, none⟩), .agg cs] U fun e w' => e = .returned (.agg (backA kd 0 0 0 0 was c)) ∧ VtB w' g (fun k => W.heap.size ≤ k) P' xs' ∧ Upd (fun j => j = g) U w' := by
          intro U hU
          have hzz := hU.size
          have hzW := bV.out.size
          have hdd := HD.out
          rw [doV, if_neg (by rw [hk]; decide)] at hdd
          simp only [Prod.mk.injEq] at hdd
          obtain ⟨e1, e2, e3, e4, e5⟩ := hdd
          refine (accept_any g P so n sc xs (fun k => W.heap.size ≤ k) cs x U (bKeeps hU Hg2.out) (Hr2.out.keepB hU) hcap Hl.out (by rw [← Hl.out]; exact (okV_asc HOK.out.1).1) (okV_asc HOK.out.1).2 (HX.out.keep (bAll al (bAll bV.out hU)))).mono ?_
          rintro e U2 ⟨rfl, vb, u2⟩
          rw [e1, e2] at vb
          obtain ⟨so', sc', v1, v2, v3⟩ := vb
          exact ⟨by rw [e3, e4, e5], ⟨so', sc', v1, v2, v3.mono (fun k _ h => by omega)⟩, u2⟩
        go_wp2
        have dd := bDrewB (Below.refl V.heap.size V)
        have a9 : Below V.heap.size V (V.drew.alloc (.cells #[.int .i64 0, .int .i64 0, .int .i64 0, .int .i64 0, .int .i64 0, .int .i64 0, .int .i64 0, .int .i64 0, .int .i64 0, .int .i64 0, .int .i64 0, .int .i64 0, .int .i64 0, .int .i64 0, .int .i64 0, .int .i64 0, .int .i64 0, .int .i64 0, .int .i64 0, .int .i64 0, .int .i64 0, .int .i64 0, .int .i64 0, .int .i64 0, .slice none 0 0, .slice none 0 0] 40)) := bal dd _
        have zW := ZW.out
        have hlw : w.heap.size + 1 < W.heap.size := by omega
        have hgw : ¬ w.heap.size + 1 = g := by omega
        have hgh' : ¬ h = g := fun e => hgh e.symm
        refine wp_region_noPanic ?_
        refine wp_region_held_drew (S := (fun w' => w'.heap[w.heap.size + 1]? = some (.cells cs 40 (0, 0)) ∧ w'.cell? ⟨w.heap.size + 1, 0, none⟩ = some (.int .i64 3) ∧ w'.cell? ⟨h, 3, none⟩ = some (.func (.func 58) #[.pointer (some ⟨g, 0, none⟩)] #[]))) (by kernel_rfl) ?_ (fun hHeld => ?_)
        · exact gS.out _ (bKeeps dd D1.out) (bKeeps dd Hd.out)
        refine wpAnyH_take (i := 0) (v := ?v11) rfl (by kernel_rfl) (by kernel_rfl) (by kernel_rfl) (fun _ _ _ h => h) (Or.inl ⟨by rfl, ?hy11⟩) (by assumption) ?rest11
        case hy11 => ((intro w hSw; (try dsimp only at hSw); (try simp only [List.getElem_toArray, List.getElem_cons_zero]); go_simp; first | done | (with_reducible rfl)))
        simp only [Act.put, List.getElem_toArray, List.getElem_cons_zero, List.setIfInBounds_toArray, List.set_cons_zero, List.set_cons_succ]
        refine wpAnyH_take (i := 1) (v := ?v12) rfl (by kernel_rfl) (by kernel_rfl) (by kernel_rfl) (fun _ _ _ h => h) (Or.inl ⟨by rfl, ?hy12⟩) (by assumption) ?rest12
        case hy12 => ((intro w hSw; (try dsimp only at hSw); (try simp only [List.getElem_toArray, List.getElem_cons_zero, List.getElem_cons_succ]); go_simp; first | done | (with_reducible rfl)))
        simp only [Act.put, List.getElem_toArray, List.getElem_cons_zero, List.getElem_cons_succ, List.setIfInBounds_toArray, List.set_cons_zero, List.set_cons_succ]
        refine wpAnyH_take (i := 2) (v := ?v13) rfl (by kernel_rfl) (by kernel_rfl) (by kernel_rfl) (fun _ _ _ h => h) (Or.inl ⟨by rfl, ?hy13⟩) (by assumption) ?rest13
        case hy13 => ((intro w hSw; (try dsimp only at hSw); (try simp only [List.getElem_toArray, List.getElem_cons_zero, List.getElem_cons_succ]); go_simp; first | done | (with_reducible rfl)))
        simp only [Act.put, List.getElem_toArray, List.getElem_cons_zero, List.getElem_cons_succ, List.setIfInBounds_toArray, List.set_cons_zero, List.set_cons_succ]
        refine wpAnyH_take (i := 3) (v := ?v14) rfl (by kernel_rfl) (by kernel_rfl) (by kernel_rfl) (fun _ _ _ h => h) (Or.inl ⟨by rfl, ?hy14⟩) (by assumption) ?rest14
        case hy14 => ((intro w hSw; (try dsimp only at hSw); (try simp only [List.getElem_toArray, List.getElem_cons_zero, List.getElem_cons_succ]); go_simp; first | done | (with_reducible rfl)))
        simp only [Act.put, List.getElem_toArray, List.getElem_cons_zero, List.getElem_cons_succ, List.setIfInBounds_toArray, List.set_cons_zero, List.set_cons_succ]
        refine wpAnyH_take (i := 4) (v := .agg cs) rfl (by kernel_rfl) (by kernel_rfl) (by kernel_rfl) (fun _ _ _ h => h) (yields_row rfl 40 (.tmp 5) rfl (w.heap.size + 1) rfl _ cs _ (fun _ h => h.1) Try.underlying40 rfl HI.out) (by assumption) ?_
        simp only [Act.put, List.getElem_toArray, List.getElem_cons_zero, List.getElem_cons_succ, List.setIfInBounds_toArray, List.set_cons_zero, List.set_cons_succ]
        refine wpAnyH_ready (rs := [5, 6]) (by kernel_rfl) (by simp) ?_
        refine AllReadyH.cons rfl (fun K hK => ?_) (AllReadyH.cons rfl (fun K hK => ?_) AllReadyH.nil)
        · go_simp
          go_at_call 58
          refine (cD _ dd).mono ?_
          rintro e U ⟨rfl, vb, uU⟩
          have u1 : Upd (fun j => j = g) V U := (Upd.ofBelow dd).trans uU
          refine hK.out _ _ ?_ (fun hHeld => ?_)
          · exact gS.out _ (u1.keeps D1.out hgw) (u1.keeps Hd.out hgh')
          clear hK K
          have zU := u1.size
          have aU := bal (Below.refl U.heap.size U) (.cells #[.int .i64 0, .int .i64 0, .int .i64 0, .int .i64 0, .int .i64 0, .int .i64 0, .int .i64 0, .int .i64 0, .int .i64 0, .int .i64 0, .int .i64 0, .int .i64 0, .int .i64 0, .int .i64 0, .int .i64 0, .int .i64 0, .int .i64 0, .int .i64 0, .int .i64 0, .int .i64 0, .int .i64 0, .int .i64 0, .int .i64 0, .int .i64 0, .slice none 0 0, .slice none 0 0] 40)
          have u2 := u1.trans (Upd.ofBelow aU)
          refine wpAnyH_ready (rs := [6]) (by kernel_rfl) (by simp) ?_
          refine AllReadyH.cons rfl (fun K hK => ?_) AllReadyH.nil
          go_simp
          (skip)
          refine hK.out _ _ ?_ (fun hHeld => ?_)
          · exact gS.out _ (u2.keeps D1.out hgw) (u2.keeps Hd.out hgh')
          clear hK K
          have r8 := updRow (U.alloc (.cells #[.int .i64 0, .int .i64 0, .int .i64 0, .int .i64 0, .int .i64 0, .int .i64 0, .int .i64 0, .int .i64 0, .int .i64 0, .int .i64 0, .int .i64 0, .int .i64 0, .int .i64 0, .int .i64 0, .int .i64 0, .int .i64 0, .int .i64 0, .int .i64 0, .int .i64 0, .int .i64 0, .int .i64 0, .int .i64 0, .int .i64 0, .int .i64 0, .slice none 0 0, .slice none 0 0] 40)) U.heap.size (backA kd 0 0 0 0 was c)
          have u3 := upd_late u2 r8 (fun k hk => by omega)
          refine wpAnyH_ready (rs := [7]) (by kernel_rfl) (by simp) ?_
          refine AllReadyH.cons rfl (fun K hK => ?_) AllReadyH.nil
          (refine wp_store_row 40 (.tmp 11) (.tmp 48) rfl U.heap.size (backA kd 0 0 0 0 was c) rfl rfl _ _ (heap_alloc_new U _) infoWd (show (26 : Nat) = 26 from rfl) (all_of_list rfl) ?_)
          refine hK.out _ _ ?_ (fun hHeld => ?_)
          · exact gS.out _ (u3.keeps D1.out hgw) (u3.keeps Hd.out hgh')
          clear hK K
          refine wpAnyH_done (by kernel_rfl) ?_ _
          refine NoPanic.normal ?_
          clear hHeld
          go_wp2_with fail
          go_meet
          obtain ⟨so', sc', v1, v2, v3⟩ := vb
          have hgU := heap_lt v1
          exact ⟨U.heap.size, rfl, setRow_heap _ _ _ _ _ _ (heap_alloc_new U _), zU, ⟨so', sc', r8.keeps (bKeeps aU v1) (by omega), v2, row_keep_box (by decide) (v3.keepB aU) (heap_alloc_new U _) r8⟩, u3⟩
        · go_simp
          refine hK.out _ _ ?_ (fun hHeld => ?_)
          · exact gS.out _ (bKeeps a9 D1.out) (bKeeps a9 Hd.out)
          clear hK K
          refine wpAnyH_ready (rs := [5]) (by kernel_rfl) (by simp) ?_
          refine AllReadyH.cons rfl (fun K hK => ?_) AllReadyH.nil
          go_simp
          (go_at_call 58; refine (cD _ a9).mono ?_; rintro e U ⟨rfl, vb, uU⟩; have u1 : Upd (fun j => j = g) V U := (Upd.ofBelow a9).trans uU)
          refine hK.out _ _ ?_ (fun hHeld => ?_)
          · exact gS.out _ (u1.keeps D1.out hgw) (u1.keeps Hd.out hgh')
          clear hK K
          have hgV := heap_lt Hg2.out
          have N9 : Hid (U.heap[V.heap.size]? = some (.cells #[.int .i64 0, .int .i64 0, .int .i64 0, .int .i64 0, .int .i64 0, .int .i64 0, .int .i64 0, .int .i64 0, .int .i64 0, .int .i64 0, .int .i64 0, .int .i64 0, .int .i64 0, .int .i64 0, .int .i64 0, .int .i64 0, .int .i64 0, .int .i64 0, .int .i64 0, .int .i64 0, .int .i64 0, .int .i64 0, .int .i64 0, .int .i64 0, .slice none 0 0, .slice none 0 0] 40 (0, 0))) := uU.keeps (al1_0 V.drew (.cells #[.int .i64 0, .int .i64 0, .int .i64 0, .int .i64 0, .int .i64 0, .int .i64 0, .int .i64 0, .int .i64 0, .int .i64 0, .int .i64 0, .int .i64 0, .int .i64 0, .int .i64 0, .int .i64 0, .int .i64 0, .int .i64 0, .int .i64 0, .int .i64 0, .int .i64 0, .int .i64 0, .int .i64 0, .int .i64 0, .int .i64 0, .int .i64 0, .slice none 0 0, .slice none 0 0] 40)) (by show ¬ V.drew.heap.size = g; intro e; exact Nat.lt_irrefl _ (e ▸ hgV))
          have r8 := updRow U V.heap.size (backA kd 0 0 0 0 was c)
          have u3 := upd_late u1 r8 (fun k hk => by omega)
          refine wpAnyH_ready (rs := [7]) (by kernel_rfl) (by simp) ?_
          refine AllReadyH.cons rfl (fun K hK => ?_) AllReadyH.nil
          (refine wp_store_row 40 (.tmp 11) (.tmp 48) rfl V.heap.size (backA kd 0 0 0 0 was c) rfl rfl _ _ N9.out infoWd (show (26 : Nat) = 26 from rfl) (all_of_list rfl) ?_)
          refine hK.out _ _ ?_ (fun hHeld => ?_)
          · exact gS.out _ (u3.keeps D1.out hgw) (u3.keeps Hd.out hgh')
          clear hK K
          refine wpAnyH_done (by kernel_rfl) ?_ _
          refine NoPanic.normal ?_
          clear hHeld
          go_wp2_with fail
          go_meet
          obtain ⟨so', sc', v1, v2, v3⟩ := vb
          exact ⟨V.heap.size, rfl, setRow_heap _ _ _ _ _ _ N9.out, Nat.le_refl _, ⟨so', sc', r8.keeps v1 (by omega), v2, row_keep_box (by decide) v3 N9.out r8⟩, u3⟩
    case rest =>
    obtain ⟨h2, rfl, hh2, hV2, vb, up⟩ := hcut
    obtain ⟨so', sc', v1, v2, v3⟩ := vb
    have Hh := hide hh2
    have HV1 := hide v1
    have HV3 := hide v3
    have zW := ZW.out
    have zV := bV.out.size
    have E1 := hide (up.keeps D1.out (by omega))
    have E2 := hide (up.keeps (bKeeps bV.out B2.out) (fun e => n2 e.symm))
    have E3 := hide (up.keeps (bKeeps bV.out B3.out) (fun e => n3 e.symm))
    have BW : Hid (Below W.heap.size W wc) := bV.out.trans (up.below zV (fun k hk => by omega))
    have fT : Hid (∀ U : World, U.heap[w.heap.size + 1]? = some (.cells cs 40 (0, 0)) → U.cell? ⟨w.heap.size + 1, 1, none⟩ = some (.int .i64 x.a1) ∧ U.cell? ⟨w.heap.size + 1, 3, none⟩ = some (.int .i64 x.a3) ∧ U.cell? ⟨w.heap.size + 1, 4, none⟩ = some (.int .i64 x.a4)) := fun U hU => ⟨(boxAt hU 1).trans HC.out.2.1, (boxAt hU 3).trans HC.out.2.2.1, (boxAt hU 4).trans HC.out.2.2.2.1⟩
    have ng : ¬ g = h2 := by have := heap_lt Hg2.out; omega
    have m1 : ¬ w.heap.size + 1 = h2 := by omega
    have m2 : ¬ w.heap.size + 1 + 1 = h2 := by omega
    have m3 : ¬ w.heap.size + 1 + 1 + 1 = h2 := by omega
    clear hh2 v1 v3 up Hd Hg2 Hr2 D1 zW
    have dd := bDrewB (Below.refl wc.heap.size wc)
    have H0 : Hid (wc.drew.heap[h2]? = some (.cells (backA kd 0 0 0 0 was c) 40 (0, 0))) := bKeeps dd Hh.out
    have H1 : Hid ((wc.drew.setCell ⟨h2, 1, none⟩ (.int .i64 me)).heap[h2]? = some (.cells (backA kd me 0 0 0 was c) 40 (0, 0))) := row_set _ H0.out
    have H2 : Hid (((wc.drew.setCell ⟨h2, 1, none⟩ (.int .i64 me)).setCell ⟨h2, 2, none⟩ (.int .i64 x.a1)).heap[h2]? = some (.cells (backA kd me x.a1 0 0 was c) 40 (0, 0))) := row_set _ H1.out
    have H3 : Hid ((((wc.drew.setCell ⟨h2, 1, none⟩ (.int .i64 me)).setCell ⟨h2, 2, none⟩ (.int .i64 x.a1)).setCell ⟨h2, 3, none⟩ (.int .i64 x.a3)).heap[h2]? = some (.cells (backA kd me x.a1 x.a3 0 was c) 40 (0, 0))) := row_set _ H2.out
    have H4 : Hid (((((wc.drew.setCell ⟨h2, 1, none⟩ (.int .i64 me)).setCell ⟨h2, 2, none⟩ (.int .i64 x.a1)).setCell ⟨h2, 3, none⟩ (.int .i64 x.a3)).setCell ⟨h2, 4, none⟩ (.int .i64 x.a4)).heap[h2]? = some (.cells (backA kd me x.a1 x.a3 x.a4 was c) 40 (0, 0))) := row_set _ H3.out
    have y1 := boxAt H0.out 1
    have y1' := boxFz H0.out 1
    have y2 := boxAt H1.out 2
    have y2' := boxFz H1.out 2
    have y3 := boxAt H2.out 3
    have y3' := boxFz H2.out 3
    have y4 := boxAt H3.out 4
    have y4' := boxFz H3.out 4
    have x2 : (wc.setCell ⟨h2, 1, none⟩ (.int .i64 me)).cell? ⟨h2, 2, none⟩ = _ := y2
    have x2' : (wc.setCell ⟨h2, 1, none⟩ (.int .i64 me)).frozen? ⟨h2, 2, none⟩ = _ := y2'
    have x3 : ((wc.setCell ⟨h2, 1, none⟩ (.int .i64 me)).setCell ⟨h2, 2, none⟩ (.int .i64 x.a1)).cell? ⟨h2, 3, none⟩ = _ := y3
    have x3' : ((wc.setCell ⟨h2, 1, none⟩ (.int .i64 me)).setCell ⟨h2, 2, none⟩ (.int .i64 x.a1)).frozen? ⟨h2, 3, none⟩ = _ := y3'
    have x4 : (((wc.setCell ⟨h2, 1, none⟩ (.int .i64 me)).setCell ⟨h2, 2, none⟩ (.int .i64 x.a1)).setCell ⟨h2, 3, none⟩ (.int .i64 x.a3)).cell? ⟨h2, 4, none⟩ = _ := y4
    have x4' : (((wc.setCell ⟨h2, 1, none⟩ (.int .i64 me)).setCell ⟨h2, 2, none⟩ (.int .i64 x.a1)).setCell ⟨h2, 3, none⟩ (.int .i64 x.a3)).frozen? ⟨h2, 4, none⟩ = _ := y4'
    have u1 := Upd.setCell (S := fun j => j = h2) wc.drew h2 1 (.int .i64 me) rfl
    have u2 := u1.trans (Upd.setCell (S := fun j => j = h2) (wc.drew.setCell ⟨h2, 1, none⟩ (.int .i64 me)) h2 2 (.int .i64 x.a1) rfl)
    have u3 := u2.trans (Upd.setCell (S := fun j => j = h2) ((wc.drew.setCell ⟨h2, 1, none⟩ (.int .i64 me)).setCell ⟨h2, 2, none⟩ (.int .i64 x.a1)) h2 3 (.int .i64 x.a3) rfl)
    have u4 := u3.trans (Upd.setCell (S := fun j => j = h2) (((wc.drew.setCell ⟨h2, 1, none⟩ (.int .i64 me)).setCell ⟨h2, 2, none⟩ (.int .i64 x.a1)).setCell ⟨h2, 3, none⟩ (.int .i64 x.a3)) h2 4 (.int .i64 x.a4) rfl)
    have eD := hide (bKeeps dd E1.out)
    go_wp2
    refine wp_region_noPanic ?_
    refine wp_region_held_drew (S := (fun U => U.cell? ⟨w.heap.size + 1, 1, none⟩ = some (.int .i64 x.a1) ∧ U.cell? ⟨w.heap.size + 1, 3, none⟩ = some (.int .i64 x.a3) ∧ U.cell? ⟨w.heap.size + 1, 4, none⟩ = some (.int .i64 x.a4))) (by kernel_rfl) ?_ (fun hHeld => ?_)
    · exact fT.out _ eD.out
    refine wpAnyH_take (i := 0) (v := ?v15) rfl (by kernel_rfl) (by kernel_rfl) (by kernel_rfl) (fun _ _ _ h => h) (Or.inl ⟨by rfl, ?hy15⟩) (by assumption) ?rest15
    case hy15 => ((intro w hSw; (try dsimp only at hSw); (try simp only [List.getElem_toArray, List.getElem_cons_zero]); go_simp; first | done | (with_reducible rfl)))
    simp only [Act.put, List.getElem_toArray, List.getElem_cons_zero, List.setIfInBounds_toArray, List.set_cons_zero, List.set_cons_succ]
    refine wpAnyH_take (i := 1) (v := ?v16) rfl (by kernel_rfl) (by kernel_rfl) (by kernel_rfl) (fun _ _ _ h => h) (Or.inl ⟨by rfl, ?hy16⟩) (by assumption) ?rest16
    case hy16 => ((intro w hSw; (try dsimp only at hSw); (try simp only [List.getElem_toArray, List.getElem_cons_zero, List.getElem_cons_succ]); go_simp; first | done | (with_reducible rfl)))
    simp only [Act.put, List.getElem_toArray, List.getElem_cons_zero, List.getElem_cons_succ, List.setIfInBounds_toArray, List.set_cons_zero, List.set_cons_succ]
    refine wpAnyH_take (i := 2) (v := ?v17) rfl (by kernel_rfl) (by kernel_rfl) (by kernel_rfl) (fun _ _ _ h => h) (Or.inl ⟨by rfl, ?hy17⟩) (by assumption) ?rest17
    case hy17 => ((intro w hSw; (try dsimp only at hSw); (try simp only [List.getElem_toArray, List.getElem_cons_zero, List.getElem_cons_succ]); go_simp; first | done | (with_reducible rfl)))
    simp only [Act.put, List.getElem_toArray, List.getElem_cons_zero, List.getElem_cons_succ, List.setIfInBounds_toArray, List.set_cons_zero, List.set_cons_succ]
    refine wpAnyH_take (i := 3) (v := ?v18) rfl (by kernel_rfl) (by kernel_rfl) (by kernel_rfl) (fun _ _ _ h => h) (Or.inl ⟨by rfl, ?hy18⟩) (by assumption) ?rest18
    case hy18 => ((intro w hSw; (try dsimp only at hSw); (try simp only [List.getElem_toArray, List.getElem_cons_zero, List.getElem_cons_succ]); go_simp; first | done | (with_reducible rfl)))
    simp only [Act.put, List.getElem_toArray, List.getElem_cons_zero, List.getElem_cons_succ, List.setIfInBounds_toArray, List.set_cons_zero, List.set_cons_succ]
    refine wpAnyH_take (i := 4) (v := ?v19) rfl (by kernel_rfl) (by kernel_rfl) (by kernel_rfl) (fun _ _ _ h => h) (Or.inl ⟨by rfl, ?hy19⟩) (by assumption) ?rest19
    case hy19 => ((intro w hSw; (try dsimp only at hSw); (try simp only [List.getElem_toArray, List.getElem_cons_zero, List.getElem_cons_succ]); go_simp; first | done | (with_reducible rfl)))
    simp only [Act.put, List.getElem_toArray, List.getElem_cons_zero, List.getElem_cons_succ, List.setIfInBounds_toArray, List.set_cons_zero, List.set_cons_succ]
    refine wpAnyH_take (i := 5) (v := ?v20) rfl (by kernel_rfl) (by kernel_rfl) (by kernel_rfl) (fun _ _ _ h => h) (Or.inl ⟨by rfl, ?hy20⟩) (by assumption) ?rest20
    case hy20 => ((intro w hSw; (try dsimp only at hSw); (try simp only [List.getElem_toArray, List.getElem_cons_zero, List.getElem_cons_succ]); go_simp; first | done | (with_reducible rfl)))
    simp only [Act.put, List.getElem_toArray, List.getElem_cons_zero, List.getElem_cons_succ, List.setIfInBounds_toArray, List.set_cons_zero, List.set_cons_succ]
    refine wpAnyH_take (i := 6) (v := ?v21) rfl (by kernel_rfl) (by kernel_rfl) (by kernel_rfl) (fun _ _ _ h => h) (Or.inl ⟨by rfl, ?hy21⟩) (by assumption) ?rest21
    case hy21 => ((intro w hSw; (try dsimp only at hSw); (try simp only [List.getElem_toArray, List.getElem_cons_zero, List.getElem_cons_succ]); go_simp; first | done | (with_reducible rfl)))
    simp only [Act.put, List.getElem_toArray, List.getElem_cons_zero, List.getElem_cons_succ, List.setIfInBounds_toArray, List.set_cons_zero, List.set_cons_succ]
    refine wpAnyH_take (i := 7) (v := ?v22) rfl (by kernel_rfl) (by kernel_rfl) (by kernel_rfl) (fun _ _ _ h => h) (Or.inl ⟨by rfl, ?hy22⟩) (by assumption) ?rest22
    case hy22 => ((intro w hSw; (try dsimp only at hSw); (try simp only [List.getElem_toArray, List.getElem_cons_zero, List.getElem_cons_succ]); go_simp; first | done | (with_reducible rfl)))
    simp only [Act.put, List.getElem_toArray, List.getElem_cons_zero, List.getElem_cons_succ, List.setIfInBounds_toArray, List.set_cons_zero, List.set_cons_succ]
    refine wpAnyH_ready (rs := [8]) (by kernel_rfl) (by simp) ?_
    refine AllReadyH.cons rfl (fun K hK => ?_) AllReadyH.nil
    go_simp
    (skip)
    refine hK.out _ _ ?_ (fun hHeld => ?_)
    · exact fT.out _ (u1.keeps eD.out m1)
    clear hK K
    refine wpAnyH_take (i := 9) (v := ?v23) rfl (by kernel_rfl) (by kernel_rfl) (by kernel_rfl) (fun _ _ _ h => h) (Or.inl ⟨by rfl, ?hy23⟩) (by assumption) ?rest23
    case hy23 => ((intro w hSw; (try dsimp only at hSw); (try simp only [List.getElem_toArray, List.getElem_cons_zero, List.getElem_cons_succ]); go_simp; first | done | (with_reducible rfl)))
    simp only [Act.put, List.getElem_toArray, List.getElem_cons_zero, List.getElem_cons_succ, List.setIfInBounds_toArray, List.set_cons_zero, List.set_cons_succ]
    refine wpAnyH_ready (rs := [10]) (by kernel_rfl) (by simp) ?_
    refine AllReadyH.cons rfl (fun K hK => ?_) AllReadyH.nil
    go_simp
    (skip)
    refine hK.out _ _ ?_ (fun hHeld => ?_)
    · exact fT.out _ (u2.keeps eD.out m1)
    clear hK K
    refine wpAnyH_take (i := 11) (v := ?v24) rfl (by kernel_rfl) (by kernel_rfl) (by kernel_rfl) (fun _ _ _ h => h) (Or.inl ⟨by rfl, ?hy24⟩) (by assumption) ?rest24
    case hy24 => ((intro w hSw; (try dsimp only at hSw); (try simp only [List.getElem_toArray, List.getElem_cons_zero, List.getElem_cons_succ]); go_simp; first | done | (with_reducible rfl)))
    simp only [Act.put, List.getElem_toArray, List.getElem_cons_zero, List.getElem_cons_succ, List.setIfInBounds_toArray, List.set_cons_zero, List.set_cons_succ]
    refine wpAnyH_ready (rs := [12]) (by kernel_rfl) (by simp) ?_
    refine AllReadyH.cons rfl (fun K hK => ?_) AllReadyH.nil
    go_simp
    (skip)
    refine hK.out _ _ ?_ (fun hHeld => ?_)
    · exact fT.out _ (u3.keeps eD.out m1)
    clear hK K
    refine wpAnyH_take (i := 13) (v := ?v25) rfl (by kernel_rfl) (by kernel_rfl) (by kernel_rfl) (fun _ _ _ h => h) (Or.inl ⟨by rfl, ?hy25⟩) (by assumption) ?rest25
    case hy25 => ((intro w hSw; (try dsimp only at hSw); (try simp only [List.getElem_toArray, List.getElem_cons_zero, List.getElem_cons_succ]); go_simp; first | done | (with_reducible rfl)))
    simp only [Act.put, List.getElem_toArray, List.getElem_cons_zero, List.getElem_cons_succ, List.setIfInBounds_toArray, List.set_cons_zero, List.set_cons_succ]
    refine wpAnyH_ready (rs := [14]) (by kernel_rfl) (by simp) ?_
    refine AllReadyH.cons rfl (fun K hK => ?_) AllReadyH.nil
    go_simp
    (skip)
    refine hK.out _ _ ?_ (fun hHeld => ?_)
    · exact fT.out _ (u4.keeps eD.out m1)
    clear hK K
    refine wpAnyH_done (by kernel_rfl) ?_ _
    refine NoPanic.normal ?_
    clear hHeld
    have J1 : Hid (((((wc.setCell ⟨h2, 1, none⟩ (.int .i64 me)).setCell ⟨h2, 2, none⟩ (.int .i64 x.a1)).setCell ⟨h2, 3, none⟩ (.int .i64 x.a3)).setCell ⟨h2, 4, none⟩ (.int .i64 x.a4)).drew.heap[g]? = some (.cells #[.int .i64 P', .slice so' xs'.length sc'] 35 (0, 0))) := u4.keeps (bKeeps dd HV1.out) ng
    have J3 : Hid (Row ((((wc.setCell ⟨h2, 1, none⟩ (.int .i64 me)).setCell ⟨h2, 2, none⟩ (.int .i64 x.a1)).setCell ⟨h2, 3, none⟩ (.int .i64 x.a3)).setCell ⟨h2, 4, none⟩ (.int .i64 x.a4)).drew 56 12 (fun k => W.heap.size ≤ k) (.slice so' xs'.length sc') xs'.length (ppcells xs')) := row_keep_box (by decide) (HV3.out.keepB dd) (H0.out) u4
    have J4 : Hid (((((wc.setCell ⟨h2, 1, none⟩ (.int .i64 me)).setCell ⟨h2, 2, none⟩ (.int .i64 x.a1)).setCell ⟨h2, 3, none⟩ (.int .i64 x.a3)).setCell ⟨h2, 4, none⟩ (.int .i64 x.a4)).drew.heap[w.heap.size + 1 + 1]? = some (.cells #[.int .i64 0, .slice none 0 0] 35 (0, 0))) := u4.keeps (bKeeps dd E2.out) m2
    have J5 : Hid (((((wc.setCell ⟨h2, 1, none⟩ (.int .i64 me)).setCell ⟨h2, 2, none⟩ (.int .i64 x.a1)).setCell ⟨h2, 3, none⟩ (.int .i64 x.a3)).setCell ⟨h2, 4, none⟩ (.int .i64 x.a4)).drew.heap[w.heap.size + 1 + 1 + 1]? = some (.cells #[.int .i64 0, .int .i64 0, .int .i64 0, .int .i64 0, .int .i64 0, .int .i64 0, .int .i64 0, .int .i64 0, .int .i64 0, .int .i64 0, .int .i64 0, .int .i64 0, .int .i64 0, .int .i64 0, .int .i64 0, .int .i64 0, .int .i64 0, .int .i64 0, .int .i64 0, .int .i64 0, .int .i64 0, .int .i64 0, .int .i64 0, .int .i64 0, .slice none 0 0, .slice none 0 0] 40 (0, 0))) := u4.keeps (bKeeps dd E3.out) m3
    have J6 : Hid (((((wc.setCell ⟨h2, 1, none⟩ (.int .i64 me)).setCell ⟨h2, 2, none⟩ (.int .i64 x.a1)).setCell ⟨h2, 3, none⟩ (.int .i64 x.a3)).setCell ⟨h2, 4, none⟩ (.int .i64 x.a4)).drew.heap[h2]? = some (.cells (backA kd me x.a1 x.a3 x.a4 was c) 40 (0, 0))) := H4.out
    have hsz : W.heap.size ≤ h2 := by omega
    have BJ : Hid (Below W.heap.size W ((((wc.setCell ⟨h2, 1, none⟩ (.int .i64 me)).setCell ⟨h2, 2, none⟩ (.int .i64 x.a1)).setCell ⟨h2, 3, none⟩ (.int .i64 x.a3)).setCell ⟨h2, 4, none⟩ (.int .i64 x.a4)).drew) := (bDrewB BW.out).trans (u4.below (show W.heap.size ≤ wc.heap.size from BW.out.size) (fun k hk => by omega))
    clear y1 y1' y2 y2' y3 y3' y4 y4' x2 x2' x3 x3' x4 x4' u1 u2 u3 u4 H0 H1 H2 H3 H4 E1 E2 E3 eD
    generalize ((((wc.setCell ⟨h2, 1, none⟩ (.int .i64 me)).setCell ⟨h2, 2, none⟩ (.int .i64 x.a1)).setCell ⟨h2, 3, none⟩ (.int .i64 x.a3)).setCell ⟨h2, 4, none⟩ (.int .i64 x.a4)).drew = V5 at J1 J3 J4 J5 J6 BJ ⊢
    have dd5 := bDrewB (Below.refl V5.heap.size V5)
    have N2 := hide (bKeeps dd5 J4.out)
    have s8 := updRow V5.drew (w.heap.size + 1 + 1) #[.int .i64 P', .slice so' xs'.length sc']
    have N3 := hide (s8.keeps (bKeeps dd5 J5.out) (by omega))
    have s9 := updRow (V5.drew.setRow (w.heap.size + 1 + 1) #[.int .i64 P', .slice so' xs'.length sc']) (w.heap.size + 1 + 1 + 1) (backA kd me x.a1 x.a3 x.a4 was c)
    have m2' : ¬ h2 = w.heap.size + 1 + 1 := fun e => m2 e.symm
    have m3' : ¬ h2 = w.heap.size + 1 + 1 + 1 := fun e => m3 e.symm
    go_wp2
    refine wp_region_noPanic ?_
    refine wp_region_held_drew (S := (fun U => U.heap[g]? = some (.cells #[.int .i64 P', .slice so' xs'.length sc'] 35 (0, 0)) ∧ U.heap[h2]? = some (.cells (backA kd me x.a1 x.a3 x.a4 was c) 40 (0, 0)))) (by kernel_rfl) ?_ (fun hHeld => ?_)
    · exact ⟨bKeeps dd5 J1.out, bKeeps dd5 J6.out⟩
    refine wpAnyH_take (i := 0) (v := .agg #[.int .i64 P', .slice so' xs'.length sc']) rfl (by kernel_rfl) (by kernel_rfl) (by kernel_rfl) (fun _ _ _ h => h) (yields_row rfl 35 (.tmp 9) rfl (g) rfl _ #[.int .i64 P', .slice so' xs'.length sc'] _ (fun _ h => h.1) Try.underlying35 rfl infoSv2) (by assumption) ?_
    simp only [Act.put, List.getElem_toArray, List.getElem_cons_zero, List.setIfInBounds_toArray, List.set_cons_zero, List.set_cons_succ]
    refine wpAnyH_take (i := 1) (v := .agg (backA kd me x.a1 x.a3 x.a4 was c)) rfl (by kernel_rfl) (by kernel_rfl) (by kernel_rfl) (fun _ _ _ h => h) (yields_row rfl 40 (.tmp 11) rfl (h2) rfl _ (backA kd me x.a1 x.a3 x.a4 was c) _ (fun _ h => h.2) Try.underlying40 rfl infoWd) (by assumption) ?_
    simp only [Act.put, List.getElem_toArray, List.getElem_cons_zero, List.getElem_cons_succ, List.setIfInBounds_toArray, List.set_cons_zero, List.set_cons_succ]
    refine wpAnyH_ready (rs := [2]) (by kernel_rfl) (by simp) ?_
    refine AllReadyH.cons rfl (fun K hK => ?_) AllReadyH.nil
    (refine wp_store_row 35 (.tmp 6) (.tmp 60) rfl (w.heap.size + 1 + 1) #[.int .i64 P', .slice so' xs'.length sc'] rfl rfl _ _ N2.out infoSv2 rfl (all_of_list rfl) ?_)
    refine hK.out _ _ ?_ (fun hHeld => ?_)
    · exact ⟨s8.keeps (bKeeps dd5 J1.out) n2, s8.keeps (bKeeps dd5 J6.out) m2'⟩
    clear hK K
    refine wpAnyH_ready (rs := [3]) (by kernel_rfl) (by simp) ?_
    refine AllReadyH.cons rfl (fun K hK => ?_) AllReadyH.nil
    (refine wp_store_row 40 (.tmp 7) (.tmp 61) rfl (w.heap.size + 1 + 1 + 1) (backA kd me x.a1 x.a3 x.a4 was c) rfl rfl _ _ N3.out infoWd rfl (all_of_list rfl) ?_)
    refine hK.out _ _ ?_ (fun hHeld => ?_)
    · exact ⟨s9.keeps (s8.keeps (bKeeps dd5 J1.out) n2) n3, s9.keeps (s8.keeps (bKeeps dd5 J6.out) m2') m3'⟩
    clear hK K
    refine wpAnyH_take (i := 4) (v := ?v26) rfl (by kernel_rfl) (by kernel_rfl) (by kernel_rfl) (fun _ _ _ h => h) (Or.inl ⟨by rfl, ?hy26⟩) (by assumption) ?rest26
    case hy26 => ((intro w hSw; (try dsimp only at hSw); (try simp only [List.getElem_toArray, List.getElem_cons_zero, List.getElem_cons_succ]); go_simp; first | done | (with_reducible rfl)))
    simp only [Act.put, List.getElem_toArray, List.getElem_cons_zero, List.getElem_cons_succ, List.setIfInBounds_toArray, List.set_cons_zero, List.set_cons_succ]
    refine wpAnyH_done (by kernel_rfl) ?_ _
    refine NoPanic.normal ?_
    clear hHeld
    go_wp2
    refine bodyPost_ret (v := .tuple #[.agg #[.int .i64 P', .slice so' xs'.length sc'], .agg (backA kd me x.a1 x.a3 x.a4 was c), .bool true]) (results_row_row_tmp Try.results14 _ _ (w.heap.size + 1 + 1) (w.heap.size + 1 + 1 + 1) _ _ _ _ (0, 0) (0, 0) _ _ _ rfl rfl rfl (s9.keeps (setRow_heap _ _ _ _ _ _ N2.out) (by omega)) (setRow_heap _ _ _ _ _ _ N3.out) Try.underlying35 rfl infoSv2 Try.underlying40 rfl infoWd) rfl ?_
    rw [HRR.out]
    have cw := bAll al BJ.out
    have zW := ZW.out
    have z5 := BJ.out.size
    have z8 := s8.size
    have d5 : V5.drew.heap.size = V5.heap.size := rfl
    refine ⟨_, _, rfl, ⟨so', sc', rfl, v2, ?_⟩, backA_row _ _ _ _ _ _ _, ((bDrewB cw).trans (s8.below (by omega) (fun k h => by omega))).trans (s9.below (by omega) (fun k h => by omega))⟩
    exact (((J3.out.keepB dd5).keep s8 (fun k h1 h2 => by omega)).keep s9 (fun k h1 h2 => by omega)).mono (fun k _ hk => Nat.le_trans (show w.heap.size ≤ W.heap.size by omega) hk)
  · -- no such function
    obtain ⟨K, hK, hK1, hK3, hK16⟩ : ∃ K : Nat, x.a0 = (K : Int) ∧ K ≠ 1 ∧ K ≠ 3 ∧ K < 16 := by
      have h3 := HOK.out.2.2
      simp only [asksW, okW, inI, Bool.and_eq_true, decide_eq_true_eq] at h3
      refine ⟨x.a0.toNat, ?_, ?_, ?_, ?_⟩ <;> omega
    have HR0 : Hid (R = (P, xs, zeroW, false)) := by
      show _ = _
      rw [← HR.out]
      exact voteR_no (.inr (by omega))
    rw [hK] at k0
    have kf : V.cell? ⟨h, K, none⟩ = some .nilFunc := by
      refine (boxAt Hd.out K).trans ?_
      rcases (by omega : K = 0 ∨ K = 2 ∨ K = 4 ∨ K = 5 ∨ K = 6 ∨ K = 7 ∨ K = 8 ∨ K = 9 ∨ K = 10 ∨ K = 11 ∨ K = 12 ∨ K = 13 ∨ K = 14 ∨ K = 15) with rfl | rfl | rfl | rfl | rfl | rfl | rfl | rfl | rfl | rfl | rfl | rfl | rfl | rfl <;> rfl
    have hi1 : (K : Int) < 16 := by omega
    clear hK hk
    obtain ⟨F1, F2, F3, F4⟩ := fin.out V bV.out Hg2.out Hr2.out HR0.out
    have N2 := hide (bKeeps bV.out B2.out)
    have N3 := hide ((updRow V (w.heap.size + 1 + 1) #[.int .i64 P, .slice so n sc]).keeps (bKeeps bV.out B3.out) (by omega))
    go_wp2_with (first
      | (refine wpList_eqlNil rfl _ _ _ _ rfl Try.underlying95 rfl rfl ?_)
      | (refine wpList_load_row rfl 35 (.tmp 9) rfl g rfl _ _ (0, 0) _ Hg2.out Try.underlying35 rfl infoSv2 ?_)
      | (refine wpList_built34z rfl _ rfl rfl ?_)
      | (refine wpList_store_row rfl 35 (.tmp 6) (.tmp 41) rfl (w.heap.size + 1 + 1) #[.int .i64 P, .slice so n sc] rfl rfl _ _ N2.out infoSv2 (show (2 : Nat) = 2 from rfl) (all_of_list rfl) ?_)
      | (refine wpList_store_row rfl 40 (.tmp 7) (.tmp 42) rfl (w.heap.size + 1 + 1 + 1) #[.int .i64 0, .int .i64 0, .int .i64 0, .int .i64 0, .int .i64 0, .int .i64 0, .int .i64 0, .int .i64 0, .int .i64 0, .int .i64 0, .int .i64 0, .int .i64 0, .int .i64 0, .int .i64 0, .int .i64 0, .int .i64 0, .int .i64 0, .int .i64 0, .int .i64 0, .int .i64 0, .int .i64 0, .int .i64 0, .int .i64 0, .int .i64 0, .slice none 0 0, .slice none 0 0] rfl rfl _ _ N3.out infoWd (show (26 : Nat) = 26 from rfl) (all_of_list rfl) ?_))
    refine bodyPost_ret (v := .tuple #[.agg #[.int .i64 P, .slice so n sc], .agg #[.int .i64 0, .int .i64 0, .int .i64 0, .int .i64 0, .int .i64 0, .int .i64 0, .int .i64 0, .int .i64 0, .int .i64 0, .int .i64 0, .int .i64 0, .int .i64 0, .int .i64 0, .int .i64 0, .int .i64 0, .int .i64 0, .int .i64 0, .int .i64 0, .int .i64 0, .int .i64 0, .int .i64 0, .int .i64 0, .int .i64 0, .int .i64 0, .slice none 0 0, .slice none 0 0], .bool false]) (results_row_row_tmp Try.results14 _ _ (w.heap.size + 1 + 1) (w.heap.size + 1 + 1 + 1) _ _ _ _ (0, 0) (0, 0) _ _ _ rfl rfl rfl F1 F2 Try.underlying35 rfl infoSv2 Try.underlying40 rfl infoWd) rfl ?_
    exact ⟨_, _, by rw [F3], F4⟩

end Go.Proofs.Ytiigcokbmggdkaa
