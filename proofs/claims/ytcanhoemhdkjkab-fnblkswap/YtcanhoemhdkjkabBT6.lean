/- Copies of last calls, and with one put into its place: contracts; no statement of the seat is proved here. -/
import Derived.Test.YtcanhoemhdkjkabBT5
import Derived.Test.YtcanhoemhdkjkabBS6
namespace Go.Proofs.Ytcanhoemhdkjkab
open Go.RowKit

set_option maxHeartbeats 1000000 in
theorem copyC_any (v : Value) (n : Nat) (cs : List Value) (w : World) (hr : RowR w 2 v n cs) (h1 : ∀ u ∈ cs, u.oneCell' = true) (hn : n ≤ 1048576) :
    Calls Try.prog 43 #[v] w fun e w' => ∃ v', e = .returned v' ∧ w'.ownsRow w.heap.size 61 2 v' n cs ∧ Below w.heap.size w w' := by
  obtain ⟨i1, gi, gz0, gz1, gz2⟩ := info_parts infoLc
  have Hr := hide hr
  obtain ⟨ao, ca, rfl, -⟩ := hr
  go_enter Try.func43, Try.ntmps43
  go_wp2_with (at_builtin; refine wpList_append_row _ rfl _ _ 37 rfl w.heap.size 61 i1 (.agg #[.int .i64 0, .int .i64 0]) 2 16 Try.underlying37 gi gz0 gz1 gz2 rfl (by decide) _ 0 [] rfl ?qown _ n cs rfl ?qrow h1 ?q63 ?qby ?qbase ?_)
  case qown => exact World.ownsRow_nil _ _ _ _
  case qrow => exact Hr.out
  case q63 => unfold maxLen; omega
  case qby => omega
  case qbase => exact Nat.le_refl _
  intro v' w4 hown hgr
  try simp only [Nat.zero_add, List.nil_append] at hown
  have b4 : Below w.heap.size w w4 := (Below.refl _ _).grown hgr (by simp) (fun k e => by simp [Value.ownBlock] at e)
  go_wp2
  go_ret
  exact ⟨_, rfl, hown, b4⟩


theorem owns_insC {w : World} {base base' : Nat} {e : TypeId} {v : Value} {q m : Nat} {us bs ys : List Lc} {x : Lc} (h : w.ownsRow base e 2 v (q + 1 + m) ((lcells us ++ lcell x) ++ lcells bs)) (hb : base' ≤ base) (hy : us ++ x :: bs = ys ∧ ys.length = q + 1 + m) : w.ownsRow base' e 2 v ys.length (lcells ys) := by
  obtain ⟨rfl, hl⟩ := hy
  have e1 : lcells (us ++ x :: bs) = (lcells us ++ lcell x) ++ lcells bs := by simp [lcells]
  rw [e1, hl]
  exact owns_mono h hb

theorem newC_cells (w : World) (x : Lc) (e : TypeId) : ∀ j u, (lcell x)[j]? = some u → (w.alloc (.cells #[.int .i64 x.1, .int .i64 x.2] e)).cell? ((⟨w.heap.size, 0, none⟩ : Addr).add j) = some u := by
  intro j u h
  rw [Addr.add_lit, Nat.zero_add, cell_of_row _ _ j _ _ (0, 0) (al1_0 w _)]
  simpa [lcell] using h

theorem newC_later (w : World) (x : Lc) (e : TypeId) {w2 : World} (hb : Below (w.alloc (.cells #[.int .i64 x.1, .int .i64 x.2] e)).heap.size (w.alloc (.cells #[.int .i64 x.1, .int .i64 x.2] e)) w2) : ∀ j u, (lcell x)[j]? = some u → w2.cell? ((⟨w.heap.size, 0, none⟩ : Addr).add j) = some u := by
  intro j u h
  have h1 := newC_cells w x e j u h
  rw [Addr.add_lit] at h1 ⊢
  exact (hb.cell (p := ⟨w.heap.size, 0 + j, none⟩) (by simp)).trans h1

set_option maxRecDepth 100000 in
set_option maxHeartbeats 4000000 in
theorem withC_any (ao : Option Addr) (ca : Nat) (xs : List Lc) (x : Lc) (w : World) (hr : RowR w 2 (.slice ao xs.length ca) xs.length (lcells xs)) (hca : xs.length ≤ ca) (hn : xs.length ≤ 60) (hs : Asc ordL xs) :
    Calls Try.prog 41 #[.slice ao xs.length ca, .agg #[.int .i64 x.1, .int .i64 x.2], .func (.func 42) #[] #[] ] w fun e w' => ∃ v', e = .returned v' ∧ w'.ownsRow w.heap.size 61 2 v' (insL ordL xs x).length (lcells (insL ordL xs x)) ∧ Below w.heap.size w w' := by
  obtain ⟨i1, gi, gz0, gz1, gz2⟩ := info_parts infoLc
  have Hr := hide hr
  obtain ⟨n, hnn⟩ : ∃ n, xs.length = n := ⟨_, rfl⟩
  have Hl := hide hnn
  rw [hnn] at hn hr hca ⊢
  obtain ⟨d, b⟩ := x
  have hal : Below w.heap.size w (w.alloc (.cells #[.int .i64 d, .int .i64 b] 61)) := (Below.refl _ _).alloc (Nat.le_refl _) _
  obtain ⟨W, hW⟩ : ∃ W, W = w.alloc (.cells #[.int .i64 d, .int .i64 b] 61) := ⟨_, rfl⟩
  have B0 : Hid (W.heap[w.heap.size]? = some (.cells #[.int .i64 d, .int .i64 b] 61 (0, 0))) := by show _ = _; rw [hW]; exact al1_0 w _
  rw [← hW] at hal
  have HS := hide hs
  have cF := findC_any _ xs (d, b) W (Hr.out.keep hal) (by omega) hs
  rw [hnn] at cF Hr
  clear hs hnn
  have hcai : (n : Int) ≤ (ca : Int) := by omega
  obtain ⟨c0, c1⟩ := boxC B0.out
  go_enter Try.func41, Try.ntmps41
  go_wp2_with fail
  rw [← hW]
  clear hW
  refine cF.mono ?_
  clear cF
  rintro e w1 ⟨q, there, rfl, hat, b1⟩
  have hqn : q ≤ n := by have := hat.le; have := Hl.out; omega
  have hqi : (q : Int) ≤ (n : Int) := by omega
  have hqc : q ≤ ca := by omega
  have hw1 : w.heap.size ≤ w1.heap.size := Nat.le_trans hal.size b1.size
  have kt : Hid (∀ c', RowR w1 2 (.slice ao q c') q (lcells (xs.take q))) := by
    show ∀ c', RowR _ _ _ _ _
    intro c'
    have := RowR.take (k := q) (c' := c') (Hr.out.keep (bAll hal b1)) hqn
    rwa [lcells, fm_take lcell_len] at this
  have hI := hide (ins_at ordOkL HS.out hat)
  cases there
  · simp only [Bool.false_eq_true, if_false] at hI
    by_cases hcq : ca = q
    · have kb : Hid (∀ c', RowR w1 2 (.slice ao (n - q) c') (n - q) (lcells (xs.drop q))) := by
        show ∀ c', RowR _ _ _ _ _
        intro c'
        rw [List.drop_of_length_le (by rw [Hl.out]; omega), show n - q = 0 by omega]
        exact RowR.zero
      replace hI : Hid (xs.take q ++ (d, b) :: xs.drop q = insL ordL xs (d, b) ∧ (insL ordL xs (d, b)).length = q + 1 + (n - q)) := ⟨hI.out, by rw [← hI.out]; simp; have := Hl.out; omega⟩
      clear hr Hr
      go_wp2
      refine wp_region_noPanic ?_
      refine wp_region_held_drew (S := (fun w' => w'.cell? ⟨w.heap.size, 0, none⟩ = some (.int .i64 d) ∧ w'.cell? ⟨w.heap.size, 1, none⟩ = some (.int .i64 b))) (by kernel_rfl) ?_ (fun hHeld => ?_)
      · exact heldC B0.out (bAll b1 (bDrew1 _))
      refine wpAnyH_take (i := 0) (v := ?v1) rfl (by kernel_rfl) (by kernel_rfl) (by kernel_rfl) (fun _ _ _ h => h) (Or.inl ⟨by rfl, ?hy1⟩) (by assumption) ?rest1
      case hy1 => ((intro w hSw; (try dsimp only at hSw); (try simp only [List.getElem_toArray, List.getElem_cons_zero]); go_simp; first | done | (with_reducible rfl)))
      simp only [Act.put, List.getElem_toArray, List.getElem_cons_zero, List.setIfInBounds_toArray, List.set_cons_zero, List.set_cons_succ]
      refine wpAnyH_take (i := 1) (v := ?v2) rfl (by kernel_rfl) (by kernel_rfl) (by kernel_rfl) (fun _ _ _ h => h) (Or.inl ⟨by rfl, ?hy2⟩) (by assumption) ?rest2
      case hy2 => ((intro w hSw; (try dsimp only at hSw); (try simp only [List.getElem_toArray, List.getElem_cons_zero, List.getElem_cons_succ]); go_simp; first | done | (with_reducible rfl)))
      simp only [Act.put, List.getElem_toArray, List.getElem_cons_zero, List.getElem_cons_succ, List.setIfInBounds_toArray, List.set_cons_zero, List.set_cons_succ]
      refine wpAnyH_take (i := 2) (v := ?v3) rfl (by kernel_rfl) (by kernel_rfl) (by kernel_rfl) (fun _ _ _ h => h) (Or.inl ⟨by rfl, ?hy3⟩) (by assumption) ?rest3
      case hy3 => ((intro w hSw; (try dsimp only at hSw); (try simp only [List.getElem_toArray, List.getElem_cons_zero, List.getElem_cons_succ]); go_simp; first | done | (with_reducible rfl)))
      simp only [Act.put, List.getElem_toArray, List.getElem_cons_zero, List.getElem_cons_succ, List.setIfInBounds_toArray, List.set_cons_zero, List.set_cons_succ]
      refine wpAnyH_take (i := 4) (v := ?v4) rfl (by kernel_rfl) (by kernel_rfl) (by kernel_rfl) (fun _ _ _ h => h) (Or.inl ⟨by rfl, ?hy4⟩) (by assumption) ?rest4
      case hy4 => ((intro w hSw; (try dsimp only at hSw); (try simp only [List.getElem_toArray, List.getElem_cons_zero, List.getElem_cons_succ]); go_simp; first | done | (with_reducible rfl)))
      simp only [Act.put, List.getElem_toArray, List.getElem_cons_zero, List.getElem_cons_succ, List.setIfInBounds_toArray, List.set_cons_zero, List.set_cons_succ]
      refine wpAnyH_take (i := 7) (v := ?v5) rfl (by kernel_rfl) (by kernel_rfl) (by kernel_rfl) (fun _ _ _ h => h) (Or.inl ⟨by rfl, ?hy5⟩) (by assumption) ?rest5
      case hy5 => ((intro w hSw; (try dsimp only at hSw); (try simp only [List.getElem_toArray, List.getElem_cons_zero, List.getElem_cons_succ]); go_simp; first | done | (with_reducible rfl)))
      simp only [Act.put, List.getElem_toArray, List.getElem_cons_zero, List.getElem_cons_succ, List.setIfInBounds_toArray, List.set_cons_zero, List.set_cons_succ]
      refine wpAnyH_ready (rs := [3, 5]) (by kernel_rfl) (by simp) ?_
      refine AllReadyH.cons rfl (fun K hK => ?_) (AllReadyH.cons rfl (fun K hK => ?_) AllReadyH.nil)
      · go_simp
        (go_at_call 43; refine (copyC_any _ q (lcells (xs.take q)) _ ((kt.out _).keep (bDrew1 _)) (lcells_one _) (by omega)).mono ?_; rintro e w2 ⟨v2, rfl, r2, b2⟩; have b2' : Below w1.heap.size w1 w2 := bAll (bDrew1 _) b2)
        refine hK.out _ _ ?_ (fun hHeld => ?_)
        · exact heldC B0.out (bAll b1 b2')
        clear hK K
        refine wpAnyH_ready (rs := [5]) (by kernel_rfl) (by simp) ?_
        refine AllReadyH.cons rfl (fun K hK => ?_) AllReadyH.nil
        go_simp
        refine hK.out _ _ ?_ (fun hHeld => ?_)
        · exact heldC B0.out (bAll b1 (bAlloc b2' _))
        clear hK K
        refine wpAnyH_ready (rs := [6]) (by kernel_rfl) (by simp) ?_
        refine AllReadyH.cons rfl (fun K hK => ?_) AllReadyH.nil
        refine step_appendA rfl (.tmp 26) (.tmp 28) 37 rfl w1.heap.size 61 i1 (.agg #[.int .i64 0, .int .i64 0]) 2 16 Try.underlying37 gi gz0 gz1 gz2 rfl (by decide) v2 q (lcells (xs.take q)) rfl (RowA.keepB (.inl r2) (bAlloc (Below.refl _ _) _)) ⟨w2.heap.size, 0, none⟩ 1 1 (lcell (d, b)) rfl rfl (newC_cells w2 (d, b) _) (lcell_one _) (by decide) (by unfold maxLen; omega) (by omega) (bAlloc b2' _).size ?_
        intro v3 w3 r3 u3
        have b3 : Below w1.heap.size w1 w3 := bAll3 (bAlloc b2' _) u3
        refine hK.out _ _ ?_ (fun hHeld => ?_)
        · exact heldC B0.out (bAll b1 b3)
        clear hK K
        refine wpAnyH_ready (rs := [8]) (by kernel_rfl) (by simp) ?_
        refine AllReadyH.cons rfl (fun K hK => ?_) AllReadyH.nil
        refine step_append_row rfl (.tmp 29) (.tmp 30) 37 rfl w1.heap.size 61 i1 (.agg #[.int .i64 0, .int .i64 0]) 2 16 Try.underlying37 gi gz0 gz1 gz2 rfl (by decide) v3 (q + 1) _ rfl r3 _ (n - q) (lcells (xs.drop (q))) rfl ((kb.out _).keep b3) (lcells_one _) (by omega) (by omega) b3.size ?_
        intro v4 w4 r4 b4
        have b4' : Below w1.heap.size w1 w4 := b3.trans b4
        refine hK.out _ _ ?_ (fun hHeld => ?_)
        · exact heldC B0.out (bAll b1 b4')
        clear hK K
        refine wpAnyH_take (i := 9) (v := ?v6) rfl (by kernel_rfl) (by kernel_rfl) (by kernel_rfl) (fun _ _ _ h => h) (Or.inl ⟨by rfl, ?hy6⟩) (by assumption) ?rest6
        case hy6 => ((intro w hSw; (try dsimp only at hSw); (try simp only [List.getElem_toArray, List.getElem_cons_zero, List.getElem_cons_succ]); go_simp; first | done | (with_reducible rfl)))
        simp only [Act.put, List.getElem_toArray, List.getElem_cons_zero, List.getElem_cons_succ, List.setIfInBounds_toArray, List.set_cons_zero, List.set_cons_succ]
        refine wpAnyH_done (by kernel_rfl) ?_ _
        refine NoPanic.normal ?_
        go_wp2
        go_ret
        exact ⟨_, rfl, owns_insC r4 hw1 hI.out, bAll hal (bAll b1 b4')⟩
      · go_simp
        refine hK.out _ _ ?_ (fun hHeld => ?_)
        · exact heldC B0.out (bAll b1 (bAlloc (bDrew1 _) _))
        clear hK K
        refine wpAnyH_ready (rs := [3]) (by kernel_rfl) (by simp) ?_
        refine AllReadyH.cons rfl (fun K hK => ?_) AllReadyH.nil
        go_simp
        (go_at_call 43; refine (copyC_any _ q (lcells (xs.take q)) _ ((kt.out _).keep (bAlloc (bDrew1 _) _)) (lcells_one _) (by omega)).mono ?_; rintro e w2 ⟨v2, rfl, r2, b2⟩; have b2' : Below w1.heap.size w1 w2 := bAll (bAlloc (bDrew1 _) _) b2)
        refine hK.out _ _ ?_ (fun hHeld => ?_)
        · exact heldC B0.out (bAll b1 b2')
        clear hK K
        refine wpAnyH_ready (rs := [6]) (by kernel_rfl) (by simp) ?_
        refine AllReadyH.cons rfl (fun K hK => ?_) AllReadyH.nil
        refine step_appendA rfl (.tmp 26) (.tmp 28) 37 rfl w1.heap.size 61 i1 (.agg #[.int .i64 0, .int .i64 0]) 2 16 Try.underlying37 gi gz0 gz1 gz2 rfl (by decide) v2 q (lcells (xs.take q)) rfl (RowA.mono (.inl r2) (by simp)) ⟨w1.heap.size, 0, none⟩ 1 1 (lcell (d, b)) rfl rfl (newC_later w1.drew (d, b) _ b2) (lcell_one _) (by decide) (by unfold maxLen; omega) (by omega) (b2').size ?_
        intro v3 w3 r3 u3
        have b3 : Below w1.heap.size w1 w3 := bAll3 (b2') u3
        refine hK.out _ _ ?_ (fun hHeld => ?_)
        · exact heldC B0.out (bAll b1 b3)
        clear hK K
        refine wpAnyH_ready (rs := [8]) (by kernel_rfl) (by simp) ?_
        refine AllReadyH.cons rfl (fun K hK => ?_) AllReadyH.nil
        refine step_append_row rfl (.tmp 29) (.tmp 30) 37 rfl w1.heap.size 61 i1 (.agg #[.int .i64 0, .int .i64 0]) 2 16 Try.underlying37 gi gz0 gz1 gz2 rfl (by decide) v3 (q + 1) _ rfl r3 _ (n - q) (lcells (xs.drop (q))) rfl ((kb.out _).keep b3) (lcells_one _) (by omega) (by omega) b3.size ?_
        intro v4 w4 r4 b4
        have b4' : Below w1.heap.size w1 w4 := b3.trans b4
        refine hK.out _ _ ?_ (fun hHeld => ?_)
        · exact heldC B0.out (bAll b1 b4')
        clear hK K
        refine wpAnyH_take (i := 9) (v := ?v7) rfl (by kernel_rfl) (by kernel_rfl) (by kernel_rfl) (fun _ _ _ h => h) (Or.inl ⟨by rfl, ?hy7⟩) (by assumption) ?rest7
        case hy7 => ((intro w hSw; (try dsimp only at hSw); (try simp only [List.getElem_toArray, List.getElem_cons_zero, List.getElem_cons_succ]); go_simp; first | done | (with_reducible rfl)))
        simp only [Act.put, List.getElem_toArray, List.getElem_cons_zero, List.getElem_cons_succ, List.setIfInBounds_toArray, List.set_cons_zero, List.set_cons_succ]
        refine wpAnyH_done (by kernel_rfl) ?_ _
        refine NoPanic.normal ?_
        go_wp2
        go_ret
        exact ⟨_, rfl, owns_insC r4 hw1 hI.out, bAll hal (bAll b1 b4')⟩
    · have kb : Hid (∀ c', RowR w1 2 (.slice (Option.map (fun x => x.add (q * 2)) ao) (n - q) c') (n - q) (lcells (xs.drop q))) := by
        show ∀ c', RowR _ _ _ _ _
        intro c'
        have h0 := Hr.out.keep (bAll hal b1)
        rcases Nat.eq_zero_or_pos n with hn0 | hpos
        · have hq0 : n - q = 0 := by omega
          rw [hq0, List.drop_of_length_le (by rw [Hl.out]; omega)]
          exact RowR.zero
        · obtain ⟨bb, oo, rfl⟩ := h0.addr hpos
          have := RowR.drop (k := q) (c' := c') h0 hqn
          rw [lcells, fm_drop lcell_len] at this
          rw [Option.map_some, Addr.add_lit]
          exact this
      replace hI : Hid (xs.take q ++ (d, b) :: xs.drop q = insL ordL xs (d, b) ∧ (insL ordL xs (d, b)).length = q + 1 + (n - q)) := ⟨hI.out, by rw [← hI.out]; simp; have := Hl.out; omega⟩
      clear hr Hr
      go_wp2
      refine wp_region_noPanic ?_
      refine wp_region_held_drew (S := (fun w' => w'.cell? ⟨w.heap.size, 0, none⟩ = some (.int .i64 d) ∧ w'.cell? ⟨w.heap.size, 1, none⟩ = some (.int .i64 b))) (by kernel_rfl) ?_ (fun hHeld => ?_)
      · exact heldC B0.out (bAll b1 (bDrew1 _))
      refine wpAnyH_take (i := 0) (v := ?v8) rfl (by kernel_rfl) (by kernel_rfl) (by kernel_rfl) (fun _ _ _ h => h) (Or.inl ⟨by rfl, ?hy8⟩) (by assumption) ?rest8
      case hy8 => ((intro w hSw; (try dsimp only at hSw); (try simp only [List.getElem_toArray, List.getElem_cons_zero]); go_simp; first | done | (with_reducible rfl)))
      simp only [Act.put, List.getElem_toArray, List.getElem_cons_zero, List.setIfInBounds_toArray, List.set_cons_zero, List.set_cons_succ]
      refine wpAnyH_take (i := 1) (v := ?v9) rfl (by kernel_rfl) (by kernel_rfl) (by kernel_rfl) (fun _ _ _ h => h) (Or.inl ⟨by rfl, ?hy9⟩) (by assumption) ?rest9
      case hy9 => ((intro w hSw; (try dsimp only at hSw); (try simp only [List.getElem_toArray, List.getElem_cons_zero, List.getElem_cons_succ]); go_simp; first | done | (with_reducible rfl)))
      simp only [Act.put, List.getElem_toArray, List.getElem_cons_zero, List.getElem_cons_succ, List.setIfInBounds_toArray, List.set_cons_zero, List.set_cons_succ]
      refine wpAnyH_take (i := 2) (v := ?v10) rfl (by kernel_rfl) (by kernel_rfl) (by kernel_rfl) (fun _ _ _ h => h) (Or.inl ⟨by rfl, ?hy10⟩) (by assumption) ?rest10
      case hy10 => ((intro w hSw; (try dsimp only at hSw); (try simp only [List.getElem_toArray, List.getElem_cons_zero, List.getElem_cons_succ]); go_simp; first | done | (with_reducible rfl)))
      simp only [Act.put, List.getElem_toArray, List.getElem_cons_zero, List.getElem_cons_succ, List.setIfInBounds_toArray, List.set_cons_zero, List.set_cons_succ]
      refine wpAnyH_take (i := 4) (v := ?v11) rfl (by kernel_rfl) (by kernel_rfl) (by kernel_rfl) (fun _ _ _ h => h) (Or.inl ⟨by rfl, ?hy11⟩) (by assumption) ?rest11
      case hy11 => ((intro w hSw; (try dsimp only at hSw); (try simp only [List.getElem_toArray, List.getElem_cons_zero, List.getElem_cons_succ]); go_simp; first | done | (with_reducible rfl)))
      simp only [Act.put, List.getElem_toArray, List.getElem_cons_zero, List.getElem_cons_succ, List.setIfInBounds_toArray, List.set_cons_zero, List.set_cons_succ]
      refine wpAnyH_take (i := 7) (v := ?v12) rfl (by kernel_rfl) (by kernel_rfl) (by kernel_rfl) (fun _ _ _ h => h) (Or.inl ⟨by rfl, ?hy12⟩) (by assumption) ?rest12
      case hy12 => ((intro w hSw; (try dsimp only at hSw); (try simp only [List.getElem_toArray, List.getElem_cons_zero, List.getElem_cons_succ]); go_simp; first | done | (with_reducible rfl)))
      simp only [Act.put, List.getElem_toArray, List.getElem_cons_zero, List.getElem_cons_succ, List.setIfInBounds_toArray, List.set_cons_zero, List.set_cons_succ]
      refine wpAnyH_ready (rs := [3, 5]) (by kernel_rfl) (by simp) ?_
      refine AllReadyH.cons rfl (fun K hK => ?_) (AllReadyH.cons rfl (fun K hK => ?_) AllReadyH.nil)
      · go_simp
        (go_at_call 43; refine (copyC_any _ q (lcells (xs.take q)) _ ((kt.out _).keep (bDrew1 _)) (lcells_one _) (by omega)).mono ?_; rintro e w2 ⟨v2, rfl, r2, b2⟩; have b2' : Below w1.heap.size w1 w2 := bAll (bDrew1 _) b2)
        refine hK.out _ _ ?_ (fun hHeld => ?_)
        · exact heldC B0.out (bAll b1 b2')
        clear hK K
        refine wpAnyH_ready (rs := [5]) (by kernel_rfl) (by simp) ?_
        refine AllReadyH.cons rfl (fun K hK => ?_) AllReadyH.nil
        go_simp
        refine hK.out _ _ ?_ (fun hHeld => ?_)
        · exact heldC B0.out (bAll b1 (bAlloc b2' _))
        clear hK K
        refine wpAnyH_ready (rs := [6]) (by kernel_rfl) (by simp) ?_
        refine AllReadyH.cons rfl (fun K hK => ?_) AllReadyH.nil
        refine step_appendA rfl (.tmp 26) (.tmp 28) 37 rfl w1.heap.size 61 i1 (.agg #[.int .i64 0, .int .i64 0]) 2 16 Try.underlying37 gi gz0 gz1 gz2 rfl (by decide) v2 q (lcells (xs.take q)) rfl (RowA.keepB (.inl r2) (bAlloc (Below.refl _ _) _)) ⟨w2.heap.size, 0, none⟩ 1 1 (lcell (d, b)) rfl rfl (newC_cells w2 (d, b) _) (lcell_one _) (by decide) (by unfold maxLen; omega) (by omega) (bAlloc b2' _).size ?_
        intro v3 w3 r3 u3
        have b3 : Below w1.heap.size w1 w3 := bAll3 (bAlloc b2' _) u3
        refine hK.out _ _ ?_ (fun hHeld => ?_)
        · exact heldC B0.out (bAll b1 b3)
        clear hK K
        refine wpAnyH_ready (rs := [8]) (by kernel_rfl) (by simp) ?_
        refine AllReadyH.cons rfl (fun K hK => ?_) AllReadyH.nil
        refine step_append_row rfl (.tmp 29) (.tmp 30) 37 rfl w1.heap.size 61 i1 (.agg #[.int .i64 0, .int .i64 0]) 2 16 Try.underlying37 gi gz0 gz1 gz2 rfl (by decide) v3 (q + 1) _ rfl r3 _ (n - q) (lcells (xs.drop (q))) rfl ((kb.out _).keep b3) (lcells_one _) (by omega) (by omega) b3.size ?_
        intro v4 w4 r4 b4
        have b4' : Below w1.heap.size w1 w4 := b3.trans b4
        refine hK.out _ _ ?_ (fun hHeld => ?_)
        · exact heldC B0.out (bAll b1 b4')
        clear hK K
        refine wpAnyH_take (i := 9) (v := ?v13) rfl (by kernel_rfl) (by kernel_rfl) (by kernel_rfl) (fun _ _ _ h => h) (Or.inl ⟨by rfl, ?hy13⟩) (by assumption) ?rest13
        case hy13 => ((intro w hSw; (try dsimp only at hSw); (try simp only [List.getElem_toArray, List.getElem_cons_zero, List.getElem_cons_succ]); go_simp; first | done | (with_reducible rfl)))
        simp only [Act.put, List.getElem_toArray, List.getElem_cons_zero, List.getElem_cons_succ, List.setIfInBounds_toArray, List.set_cons_zero, List.set_cons_succ]
        refine wpAnyH_done (by kernel_rfl) ?_ _
        refine NoPanic.normal ?_
        go_wp2
        go_ret
        exact ⟨_, rfl, owns_insC r4 hw1 hI.out, bAll hal (bAll b1 b4')⟩
      · go_simp
        refine hK.out _ _ ?_ (fun hHeld => ?_)
        · exact heldC B0.out (bAll b1 (bAlloc (bDrew1 _) _))
        clear hK K
        refine wpAnyH_ready (rs := [3]) (by kernel_rfl) (by simp) ?_
        refine AllReadyH.cons rfl (fun K hK => ?_) AllReadyH.nil
        go_simp
        (go_at_call 43; refine (copyC_any _ q (lcells (xs.take q)) _ ((kt.out _).keep (bAlloc (bDrew1 _) _)) (lcells_one _) (by omega)).mono ?_; rintro e w2 ⟨v2, rfl, r2, b2⟩; have b2' : Below w1.heap.size w1 w2 := bAll (bAlloc (bDrew1 _) _) b2)
        refine hK.out _ _ ?_ (fun hHeld => ?_)
        · exact heldC B0.out (bAll b1 b2')
        clear hK K
        refine wpAnyH_ready (rs := [6]) (by kernel_rfl) (by simp) ?_
        refine AllReadyH.cons rfl (fun K hK => ?_) AllReadyH.nil
        refine step_appendA rfl (.tmp 26) (.tmp 28) 37 rfl w1.heap.size 61 i1 (.agg #[.int .i64 0, .int .i64 0]) 2 16 Try.underlying37 gi gz0 gz1 gz2 rfl (by decide) v2 q (lcells (xs.take q)) rfl (RowA.mono (.inl r2) (by simp)) ⟨w1.heap.size, 0, none⟩ 1 1 (lcell (d, b)) rfl rfl (newC_later w1.drew (d, b) _ b2) (lcell_one _) (by decide) (by unfold maxLen; omega) (by omega) (b2').size ?_
        intro v3 w3 r3 u3
        have b3 : Below w1.heap.size w1 w3 := bAll3 (b2') u3
        refine hK.out _ _ ?_ (fun hHeld => ?_)
        · exact heldC B0.out (bAll b1 b3)
        clear hK K
        refine wpAnyH_ready (rs := [8]) (by kernel_rfl) (by simp) ?_
        refine AllReadyH.cons rfl (fun K hK => ?_) AllReadyH.nil
        refine step_append_row rfl (.tmp 29) (.tmp 30) 37 rfl w1.heap.size 61 i1 (.agg #[.int .i64 0, .int .i64 0]) 2 16 Try.underlying37 gi gz0 gz1 gz2 rfl (by decide) v3 (q + 1) _ rfl r3 _ (n - q) (lcells (xs.drop (q))) rfl ((kb.out _).keep b3) (lcells_one _) (by omega) (by omega) b3.size ?_
        intro v4 w4 r4 b4
        have b4' : Below w1.heap.size w1 w4 := b3.trans b4
        refine hK.out _ _ ?_ (fun hHeld => ?_)
        · exact heldC B0.out (bAll b1 b4')
        clear hK K
        refine wpAnyH_take (i := 9) (v := ?v14) rfl (by kernel_rfl) (by kernel_rfl) (by kernel_rfl) (fun _ _ _ h => h) (Or.inl ⟨by rfl, ?hy14⟩) (by assumption) ?rest14
        case hy14 => ((intro w hSw; (try dsimp only at hSw); (try simp only [List.getElem_toArray, List.getElem_cons_zero, List.getElem_cons_succ]); go_simp; first | done | (with_reducible rfl)))
        simp only [Act.put, List.getElem_toArray, List.getElem_cons_zero, List.getElem_cons_succ, List.setIfInBounds_toArray, List.set_cons_zero, List.set_cons_succ]
        refine wpAnyH_done (by kernel_rfl) ?_ _
        refine NoPanic.normal ?_
        go_wp2
        go_ret
        exact ⟨_, rfl, owns_insC r4 hw1 hI.out, bAll hal (bAll b1 b4')⟩
  · simp only [if_true] at hI
    have hql : q < n := by
      obtain ⟨y, hy, _⟩ := hat.th.1 rfl
      have := (List.getElem?_eq_some_iff.1 hy).1
      have := Hl.out
      omega
    obtain ⟨bb, oo, rfl⟩ := Hr.out.addr (by omega)
    have kb0 : Hid (∀ c', RowR w1 2 (.slice (some ⟨bb, oo + (q + 1) * 2, none⟩) (n - (q + 1)) c') (n - (q + 1)) (lcells (xs.drop (q + 1)))) := by
      show ∀ c', RowR _ _ _ _ _
      intro c'
      have := RowR.drop (k := q + 1) (c' := c') (Hr.out.keep (bAll hal b1)) (by omega)
      rwa [lcells, fm_drop lcell_len] at this
    replace hI : Hid (xs.take q ++ (d, b) :: xs.drop (q + 1) = insL ordL xs (d, b) ∧ (insL ordL xs (d, b)).length = q + 1 + (n - (q + 1))) := ⟨hI.out, by rw [← hI.out]; simp; have := Hl.out; omega⟩
    have hne : ¬ ca = q := by omega
    have hge : (1 : Int) ≤ ((n - q : Nat) : Int) := by omega
    clear hr Hr
    by_cases hc1 : ca - q = 1
    · have hnq : n - q = 1 := by omega
      have hnq' : n - (q + 1) = 0 := by omega
      have kb : Hid (∀ c', RowR w1 2 (.slice (some ⟨bb, oo + q * 2, none⟩) 0 c') 0 (lcells (xs.drop (q + 1)))) := by
        show ∀ c', RowR _ _ _ _ _
        intro c'
        rw [List.drop_of_length_le (by rw [Hl.out]; omega)]
        exact RowR.zero
      rw [hnq'] at hI
      rw [hnq] at hge
      clear kb0
      go_wp2
      refine wp_region_noPanic ?_
      refine wp_region_held_drew (S := (fun w' => w'.cell? ⟨w.heap.size, 0, none⟩ = some (.int .i64 d) ∧ w'.cell? ⟨w.heap.size, 1, none⟩ = some (.int .i64 b))) (by kernel_rfl) ?_ (fun hHeld => ?_)
      · exact heldC B0.out (bAll b1 (bDrew1 _))
      refine wpAnyH_take (i := 0) (v := ?v15) rfl (by kernel_rfl) (by kernel_rfl) (by kernel_rfl) (fun _ _ _ h => h) (Or.inl ⟨by rfl, ?hy15⟩) (by assumption) ?rest15
      case hy15 => ((intro w hSw; (try dsimp only at hSw); (try simp only [List.getElem_toArray, List.getElem_cons_zero]); go_simp; first | done | (with_reducible rfl)))
      simp only [Act.put, List.getElem_toArray, List.getElem_cons_zero, List.setIfInBounds_toArray, List.set_cons_zero, List.set_cons_succ]
      refine wpAnyH_take (i := 1) (v := ?v16) rfl (by kernel_rfl) (by kernel_rfl) (by kernel_rfl) (fun _ _ _ h => h) (Or.inl ⟨by rfl, ?hy16⟩) (by assumption) ?rest16
      case hy16 => ((intro w hSw; (try dsimp only at hSw); (try simp only [List.getElem_toArray, List.getElem_cons_zero, List.getElem_cons_succ]); go_simp; first | done | (with_reducible rfl)))
      simp only [Act.put, List.getElem_toArray, List.getElem_cons_zero, List.getElem_cons_succ, List.setIfInBounds_toArray, List.set_cons_zero, List.set_cons_succ]
      refine wpAnyH_take (i := 2) (v := ?v17) rfl (by kernel_rfl) (by kernel_rfl) (by kernel_rfl) (fun _ _ _ h => h) (Or.inl ⟨by rfl, ?hy17⟩) (by assumption) ?rest17
      case hy17 => ((intro w hSw; (try dsimp only at hSw); (try simp only [List.getElem_toArray, List.getElem_cons_zero, List.getElem_cons_succ]); go_simp; first | done | (with_reducible rfl)))
      simp only [Act.put, List.getElem_toArray, List.getElem_cons_zero, List.getElem_cons_succ, List.setIfInBounds_toArray, List.set_cons_zero, List.set_cons_succ]
      refine wpAnyH_take (i := 4) (v := ?v18) rfl (by kernel_rfl) (by kernel_rfl) (by kernel_rfl) (fun _ _ _ h => h) (Or.inl ⟨by rfl, ?hy18⟩) (by assumption) ?rest18
      case hy18 => ((intro w hSw; (try dsimp only at hSw); (try simp only [List.getElem_toArray, List.getElem_cons_zero, List.getElem_cons_succ]); go_simp; first | done | (with_reducible rfl)))
      simp only [Act.put, List.getElem_toArray, List.getElem_cons_zero, List.getElem_cons_succ, List.setIfInBounds_toArray, List.set_cons_zero, List.set_cons_succ]
      refine wpAnyH_take (i := 7) (v := ?v19) rfl (by kernel_rfl) (by kernel_rfl) (by kernel_rfl) (fun _ _ _ h => h) (Or.inl ⟨by rfl, ?hy19⟩) (by assumption) ?rest19
      case hy19 => ((intro w hSw; (try dsimp only at hSw); (try simp only [List.getElem_toArray, List.getElem_cons_zero, List.getElem_cons_succ]); go_simp; first | done | (with_reducible rfl)))
      simp only [Act.put, List.getElem_toArray, List.getElem_cons_zero, List.getElem_cons_succ, List.setIfInBounds_toArray, List.set_cons_zero, List.set_cons_succ]
      refine wpAnyH_ready (rs := [3, 5]) (by kernel_rfl) (by simp) ?_
      refine AllReadyH.cons rfl (fun K hK => ?_) (AllReadyH.cons rfl (fun K hK => ?_) AllReadyH.nil)
      · go_simp
        (go_at_call 43; refine (copyC_any _ q (lcells (xs.take q)) _ ((kt.out _).keep (bDrew1 _)) (lcells_one _) (by omega)).mono ?_; rintro e w2 ⟨v2, rfl, r2, b2⟩; have b2' : Below w1.heap.size w1 w2 := bAll (bDrew1 _) b2)
        refine hK.out _ _ ?_ (fun hHeld => ?_)
        · exact heldC B0.out (bAll b1 b2')
        clear hK K
        refine wpAnyH_ready (rs := [5]) (by kernel_rfl) (by simp) ?_
        refine AllReadyH.cons rfl (fun K hK => ?_) AllReadyH.nil
        go_simp
        refine hK.out _ _ ?_ (fun hHeld => ?_)
        · exact heldC B0.out (bAll b1 (bAlloc b2' _))
        clear hK K
        refine wpAnyH_ready (rs := [6]) (by kernel_rfl) (by simp) ?_
        refine AllReadyH.cons rfl (fun K hK => ?_) AllReadyH.nil
        refine step_appendA rfl (.tmp 26) (.tmp 28) 37 rfl w1.heap.size 61 i1 (.agg #[.int .i64 0, .int .i64 0]) 2 16 Try.underlying37 gi gz0 gz1 gz2 rfl (by decide) v2 q (lcells (xs.take q)) rfl (RowA.keepB (.inl r2) (bAlloc (Below.refl _ _) _)) ⟨w2.heap.size, 0, none⟩ 1 1 (lcell (d, b)) rfl rfl (newC_cells w2 (d, b) _) (lcell_one _) (by decide) (by unfold maxLen; omega) (by omega) (bAlloc b2' _).size ?_
        intro v3 w3 r3 u3
        have b3 : Below w1.heap.size w1 w3 := bAll3 (bAlloc b2' _) u3
        refine hK.out _ _ ?_ (fun hHeld => ?_)
        · exact heldC B0.out (bAll b1 b3)
        clear hK K
        refine wpAnyH_ready (rs := [8]) (by kernel_rfl) (by simp) ?_
        refine AllReadyH.cons rfl (fun K hK => ?_) AllReadyH.nil
        refine step_append_row rfl (.tmp 29) (.tmp 30) 37 rfl w1.heap.size 61 i1 (.agg #[.int .i64 0, .int .i64 0]) 2 16 Try.underlying37 gi gz0 gz1 gz2 rfl (by decide) v3 (q + 1) _ rfl r3 _ 0 (lcells (xs.drop (q + 1))) rfl ((kb.out _).keep b3) (lcells_one _) (by omega) (by omega) b3.size ?_
        intro v4 w4 r4 b4
        have b4' : Below w1.heap.size w1 w4 := b3.trans b4
        refine hK.out _ _ ?_ (fun hHeld => ?_)
        · exact heldC B0.out (bAll b1 b4')
        clear hK K
        refine wpAnyH_take (i := 9) (v := ?v20) rfl (by kernel_rfl) (by kernel_rfl) (by kernel_rfl) (fun _ _ _ h => h) (Or.inl ⟨by rfl, ?hy20⟩) (by assumption) ?rest20
        case hy20 => ((intro w hSw; (try dsimp only at hSw); (try simp only [List.getElem_toArray, List.getElem_cons_zero, List.getElem_cons_succ]); go_simp; first | done | (with_reducible rfl)))
        simp only [Act.put, List.getElem_toArray, List.getElem_cons_zero, List.getElem_cons_succ, List.setIfInBounds_toArray, List.set_cons_zero, List.set_cons_succ]
        refine wpAnyH_done (by kernel_rfl) ?_ _
        refine NoPanic.normal ?_
        go_wp2
        go_ret
        exact ⟨_, rfl, owns_insC r4 hw1 hI.out, bAll hal (bAll b1 b4')⟩
      · go_simp
        refine hK.out _ _ ?_ (fun hHeld => ?_)
        · exact heldC B0.out (bAll b1 (bAlloc (bDrew1 _) _))
        clear hK K
        refine wpAnyH_ready (rs := [3]) (by kernel_rfl) (by simp) ?_
        refine AllReadyH.cons rfl (fun K hK => ?_) AllReadyH.nil
        go_simp
        (go_at_call 43; refine (copyC_any _ q (lcells (xs.take q)) _ ((kt.out _).keep (bAlloc (bDrew1 _) _)) (lcells_one _) (by omega)).mono ?_; rintro e w2 ⟨v2, rfl, r2, b2⟩; have b2' : Below w1.heap.size w1 w2 := bAll (bAlloc (bDrew1 _) _) b2)
        refine hK.out _ _ ?_ (fun hHeld => ?_)
        · exact heldC B0.out (bAll b1 b2')
        clear hK K
        refine wpAnyH_ready (rs := [6]) (by kernel_rfl) (by simp) ?_
        refine AllReadyH.cons rfl (fun K hK => ?_) AllReadyH.nil
        refine step_appendA rfl (.tmp 26) (.tmp 28) 37 rfl w1.heap.size 61 i1 (.agg #[.int .i64 0, .int .i64 0]) 2 16 Try.underlying37 gi gz0 gz1 gz2 rfl (by decide) v2 q (lcells (xs.take q)) rfl (RowA.mono (.inl r2) (by simp)) ⟨w1.heap.size, 0, none⟩ 1 1 (lcell (d, b)) rfl rfl (newC_later w1.drew (d, b) _ b2) (lcell_one _) (by decide) (by unfold maxLen; omega) (by omega) (b2').size ?_
        intro v3 w3 r3 u3
        have b3 : Below w1.heap.size w1 w3 := bAll3 (b2') u3
        refine hK.out _ _ ?_ (fun hHeld => ?_)
        · exact heldC B0.out (bAll b1 b3)
        clear hK K
        refine wpAnyH_ready (rs := [8]) (by kernel_rfl) (by simp) ?_
        refine AllReadyH.cons rfl (fun K hK => ?_) AllReadyH.nil
        refine step_append_row rfl (.tmp 29) (.tmp 30) 37 rfl w1.heap.size 61 i1 (.agg #[.int .i64 0, .int .i64 0]) 2 16 Try.underlying37 gi gz0 gz1 gz2 rfl (by decide) v3 (q + 1) _ rfl r3 _ 0 (lcells (xs.drop (q + 1))) rfl ((kb.out _).keep b3) (lcells_one _) (by omega) (by omega) b3.size ?_
        intro v4 w4 r4 b4
        have b4' : Below w1.heap.size w1 w4 := b3.trans b4
        refine hK.out _ _ ?_ (fun hHeld => ?_)
        · exact heldC B0.out (bAll b1 b4')
        clear hK K
        refine wpAnyH_take (i := 9) (v := ?v21) rfl (by kernel_rfl) (by kernel_rfl) (by kernel_rfl) (fun _ _ _ h => h) (Or.inl ⟨by rfl, ?hy21⟩) (by assumption) ?rest21
        case hy21 => ((intro w hSw; (try dsimp only at hSw); (try simp only [List.getElem_toArray, List.getElem_cons_zero, List.getElem_cons_succ]); go_simp; first | done | (with_reducible rfl)))
        simp only [Act.put, List.getElem_toArray, List.getElem_cons_zero, List.getElem_cons_succ, List.setIfInBounds_toArray, List.set_cons_zero, List.set_cons_succ]
        refine wpAnyH_done (by kernel_rfl) ?_ _
        refine NoPanic.normal ?_
        go_wp2
        go_ret
        exact ⟨_, rfl, owns_insC r4 hw1 hI.out, bAll hal (bAll b1 b4')⟩
    · have kb : Hid (∀ c', RowR w1 2 (.slice (some ⟨bb, oo + q * 2 + 2, none⟩) (n - q - 1) c') (n - q - 1) (lcells (xs.drop (q + 1)))) := by
        show ∀ c', RowR _ _ _ _ _
        intro c'
        have := kb0.out c'
        rwa [Nat.add_mul, Nat.one_mul, ← Nat.add_assoc, ← Nat.sub_sub] at this
      rw [← Nat.sub_sub] at hI
      clear kb0
      go_wp2
      refine wp_region_noPanic ?_
      refine wp_region_held_drew (S := (fun w' => w'.cell? ⟨w.heap.size, 0, none⟩ = some (.int .i64 d) ∧ w'.cell? ⟨w.heap.size, 1, none⟩ = some (.int .i64 b))) (by kernel_rfl) ?_ (fun hHeld => ?_)
      · exact heldC B0.out (bAll b1 (bDrew1 _))
      refine wpAnyH_take (i := 0) (v := ?v22) rfl (by kernel_rfl) (by kernel_rfl) (by kernel_rfl) (fun _ _ _ h => h) (Or.inl ⟨by rfl, ?hy22⟩) (by assumption) ?rest22
      case hy22 => ((intro w hSw; (try dsimp only at hSw); (try simp only [List.getElem_toArray, List.getElem_cons_zero]); go_simp; first | done | (with_reducible rfl)))
      simp only [Act.put, List.getElem_toArray, List.getElem_cons_zero, List.setIfInBounds_toArray, List.set_cons_zero, List.set_cons_succ]
      refine wpAnyH_take (i := 1) (v := ?v23) rfl (by kernel_rfl) (by kernel_rfl) (by kernel_rfl) (fun _ _ _ h => h) (Or.inl ⟨by rfl, ?hy23⟩) (by assumption) ?rest23
      case hy23 => ((intro w hSw; (try dsimp only at hSw); (try simp only [List.getElem_toArray, List.getElem_cons_zero, List.getElem_cons_succ]); go_simp; first | done | (with_reducible rfl)))
      simp only [Act.put, List.getElem_toArray, List.getElem_cons_zero, List.getElem_cons_succ, List.setIfInBounds_toArray, List.set_cons_zero, List.set_cons_succ]
      refine wpAnyH_take (i := 2) (v := ?v24) rfl (by kernel_rfl) (by kernel_rfl) (by kernel_rfl) (fun _ _ _ h => h) (Or.inl ⟨by rfl, ?hy24⟩) (by assumption) ?rest24
      case hy24 => ((intro w hSw; (try dsimp only at hSw); (try simp only [List.getElem_toArray, List.getElem_cons_zero, List.getElem_cons_succ]); go_simp; first | done | (with_reducible rfl)))
      simp only [Act.put, List.getElem_toArray, List.getElem_cons_zero, List.getElem_cons_succ, List.setIfInBounds_toArray, List.set_cons_zero, List.set_cons_succ]
      refine wpAnyH_take (i := 4) (v := ?v25) rfl (by kernel_rfl) (by kernel_rfl) (by kernel_rfl) (fun _ _ _ h => h) (Or.inl ⟨by rfl, ?hy25⟩) (by assumption) ?rest25
      case hy25 => ((intro w hSw; (try dsimp only at hSw); (try simp only [List.getElem_toArray, List.getElem_cons_zero, List.getElem_cons_succ]); go_simp; first | done | (with_reducible rfl)))
      simp only [Act.put, List.getElem_toArray, List.getElem_cons_zero, List.getElem_cons_succ, List.setIfInBounds_toArray, List.set_cons_zero, List.set_cons_succ]
      refine wpAnyH_take (i := 7) (v := ?v26) rfl (by kernel_rfl) (by kernel_rfl) (by kernel_rfl) (fun _ _ _ h => h) (Or.inl ⟨by rfl, ?hy26⟩) (by assumption) ?rest26
      case hy26 => ((intro w hSw; (try dsimp only at hSw); (try simp only [List.getElem_toArray, List.getElem_cons_zero, List.getElem_cons_succ]); go_simp; first | done | (with_reducible rfl)))
      simp only [Act.put, List.getElem_toArray, List.getElem_cons_zero, List.getElem_cons_succ, List.setIfInBounds_toArray, List.set_cons_zero, List.set_cons_succ]
      refine wpAnyH_ready (rs := [3, 5]) (by kernel_rfl) (by simp) ?_
      refine AllReadyH.cons rfl (fun K hK => ?_) (AllReadyH.cons rfl (fun K hK => ?_) AllReadyH.nil)
      · go_simp
        (go_at_call 43; refine (copyC_any _ q (lcells (xs.take q)) _ ((kt.out _).keep (bDrew1 _)) (lcells_one _) (by omega)).mono ?_; rintro e w2 ⟨v2, rfl, r2, b2⟩; have b2' : Below w1.heap.size w1 w2 := bAll (bDrew1 _) b2)
        refine hK.out _ _ ?_ (fun hHeld => ?_)
        · exact heldC B0.out (bAll b1 b2')
        clear hK K
        refine wpAnyH_ready (rs := [5]) (by kernel_rfl) (by simp) ?_
        refine AllReadyH.cons rfl (fun K hK => ?_) AllReadyH.nil
        go_simp
        refine hK.out _ _ ?_ (fun hHeld => ?_)
        · exact heldC B0.out (bAll b1 (bAlloc b2' _))
        clear hK K
        refine wpAnyH_ready (rs := [6]) (by kernel_rfl) (by simp) ?_
        refine AllReadyH.cons rfl (fun K hK => ?_) AllReadyH.nil
        refine step_appendA rfl (.tmp 26) (.tmp 28) 37 rfl w1.heap.size 61 i1 (.agg #[.int .i64 0, .int .i64 0]) 2 16 Try.underlying37 gi gz0 gz1 gz2 rfl (by decide) v2 q (lcells (xs.take q)) rfl (RowA.keepB (.inl r2) (bAlloc (Below.refl _ _) _)) ⟨w2.heap.size, 0, none⟩ 1 1 (lcell (d, b)) rfl rfl (newC_cells w2 (d, b) _) (lcell_one _) (by decide) (by unfold maxLen; omega) (by omega) (bAlloc b2' _).size ?_
        intro v3 w3 r3 u3
        have b3 : Below w1.heap.size w1 w3 := bAll3 (bAlloc b2' _) u3
        refine hK.out _ _ ?_ (fun hHeld => ?_)
        · exact heldC B0.out (bAll b1 b3)
        clear hK K
        refine wpAnyH_ready (rs := [8]) (by kernel_rfl) (by simp) ?_
        refine AllReadyH.cons rfl (fun K hK => ?_) AllReadyH.nil
        refine step_append_row rfl (.tmp 29) (.tmp 30) 37 rfl w1.heap.size 61 i1 (.agg #[.int .i64 0, .int .i64 0]) 2 16 Try.underlying37 gi gz0 gz1 gz2 rfl (by decide) v3 (q + 1) _ rfl r3 _ (n - q - 1) (lcells (xs.drop (q + 1))) rfl ((kb.out _).keep b3) (lcells_one _) (by omega) (by omega) b3.size ?_
        intro v4 w4 r4 b4
        have b4' : Below w1.heap.size w1 w4 := b3.trans b4
        refine hK.out _ _ ?_ (fun hHeld => ?_)
        · exact heldC B0.out (bAll b1 b4')
        clear hK K
        refine wpAnyH_take (i := 9) (v := ?v27) rfl (by kernel_rfl) (by kernel_rfl) (by kernel_rfl) (fun _ _ _ h => h) (Or.inl ⟨by rfl, ?hy27⟩) (by assumption) ?rest27
        case hy27 => ((intro w hSw; (try dsimp only at hSw); (try simp only [List.getElem_toArray, List.getElem_cons_zero, List.getElem_cons_succ]); go_simp; first | done | (with_reducible rfl)))
        simp only [Act.put, List.getElem_toArray, List.getElem_cons_zero, List.getElem_cons_succ, List.setIfInBounds_toArray, List.set_cons_zero, List.set_cons_succ]
        refine wpAnyH_done (by kernel_rfl) ?_ _
        refine NoPanic.normal ?_
        go_wp2
        go_ret
        exact ⟨_, rfl, owns_insC r4 hw1 hI.out, bAll hal (bAll b1 b4')⟩
      · go_simp
        refine hK.out _ _ ?_ (fun hHeld => ?_)
        · exact heldC B0.out (bAll b1 (bAlloc (bDrew1 _) _))
        clear hK K
        refine wpAnyH_ready (rs := [3]) (by kernel_rfl) (by simp) ?_
        refine AllReadyH.cons rfl (fun K hK => ?_) AllReadyH.nil
        go_simp
        (go_at_call 43; refine (copyC_any _ q (lcells (xs.take q)) _ ((kt.out _).keep (bAlloc (bDrew1 _) _)) (lcells_one _) (by omega)).mono ?_; rintro e w2 ⟨v2, rfl, r2, b2⟩; have b2' : Below w1.heap.size w1 w2 := bAll (bAlloc (bDrew1 _) _) b2)
        refine hK.out _ _ ?_ (fun hHeld => ?_)
        · exact heldC B0.out (bAll b1 b2')
        clear hK K
        refine wpAnyH_ready (rs := [6]) (by kernel_rfl) (by simp) ?_
        refine AllReadyH.cons rfl (fun K hK => ?_) AllReadyH.nil
        refine step_appendA rfl (.tmp 26) (.tmp 28) 37 rfl w1.heap.size 61 i1 (.agg #[.int .i64 0, .int .i64 0]) 2 16 Try.underlying37 gi gz0 gz1 gz2 rfl (by decide) v2 q (lcells (xs.take q)) rfl (RowA.mono (.inl r2) (by simp)) ⟨w1.heap.size, 0, none⟩ 1 1 (lcell (d, b)) rfl rfl (newC_later w1.drew (d, b) _ b2) (lcell_one _) (by decide) (by unfold maxLen; omega) (by omega) (b2').size ?_
        intro v3 w3 r3 u3
        have b3 : Below w1.heap.size w1 w3 := bAll3 (b2') u3
        refine hK.out _ _ ?_ (fun hHeld => ?_)
        · exact heldC B0.out (bAll b1 b3)
        clear hK K
        refine wpAnyH_ready (rs := [8]) (by kernel_rfl) (by simp) ?_
        refine AllReadyH.cons rfl (fun K hK => ?_) AllReadyH.nil
        refine step_append_row rfl (.tmp 29) (.tmp 30) 37 rfl w1.heap.size 61 i1 (.agg #[.int .i64 0, .int .i64 0]) 2 16 Try.underlying37 gi gz0 gz1 gz2 rfl (by decide) v3 (q + 1) _ rfl r3 _ (n - q - 1) (lcells (xs.drop (q + 1))) rfl ((kb.out _).keep b3) (lcells_one _) (by omega) (by omega) b3.size ?_
        intro v4 w4 r4 b4
        have b4' : Below w1.heap.size w1 w4 := b3.trans b4
        refine hK.out _ _ ?_ (fun hHeld => ?_)
        · exact heldC B0.out (bAll b1 b4')
        clear hK K
        refine wpAnyH_take (i := 9) (v := ?v28) rfl (by kernel_rfl) (by kernel_rfl) (by kernel_rfl) (fun _ _ _ h => h) (Or.inl ⟨by rfl, ?hy28⟩) (by assumption) ?rest28
        case hy28 => ((intro w hSw; (try dsimp only at hSw); (try simp only [List.getElem_toArray, List.getElem_cons_zero, List.getElem_cons_succ]); go_simp; first | done | (with_reducible rfl)))
        simp only [Act.put, List.getElem_toArray, List.getElem_cons_zero, List.getElem_cons_succ, List.setIfInBounds_toArray, List.set_cons_zero, List.set_cons_succ]
        refine wpAnyH_done (by kernel_rfl) ?_ _
        refine NoPanic.normal ?_
        go_wp2
        go_ret
        exact ⟨_, rfl, owns_insC r4 hw1 hI.out, bAll hal (bAll b1 b4')⟩


end Go.Proofs.Ytcanhoemhdkjkab
