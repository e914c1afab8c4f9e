/- Contracts and plain facts that this claim leans on (texts VQ2, VM, SPut, XA); no statement of the seat is proved here. -/
import Derived.Test.YtiigcokbmggdkaaVk11
import Derived.Test.YtiigcokbmggdkaaVk1
import Derived.Test.YtiigcokbmggdkaaVk10

/- A paper is put into papers: contracts; no statement of the seat is proved here. -/
namespace Go.Proofs.Ytiigcokbmggdkaa
open Go.RowKit

theorem ppcell_one (p : Pp) : ∀ u ∈ ppcell p, u.oneCell' = true := fun u hu => Array.all_eq_true_iff_forall_mem.1 (pparr_one p) u (by simpa [ppcell] using hu)
theorem ppcells_one (xs : List Pp) : ∀ u ∈ ppcells xs, u.oneCell' = true := fm_one ppcell_one xs
theorem owns_insV {w : World} {base base' : Nat} {e : TypeId} {v : Value} {q m : Nat} {us bs ys : List Pp} {x : Pp} (h : w.ownsRow base e 12 v (q + 1 + m) ((ppcells us ++ ppcell x) ++ ppcells bs)) (hb : base' ≤ base) (hy : us ++ x :: bs = ys ∧ ys.length = q + 1 + m) : w.ownsRow base' e 12 v ys.length (ppcells ys) := by
  obtain ⟨rfl, hl⟩ := hy
  have e1 : ppcells (us ++ x :: bs) = (ppcells us ++ ppcell x) ++ ppcells bs := by simp [ppcells]
  rw [e1, hl]
  exact owns_mono h hb
theorem newV_cells (w : World) (p : Pp) (e : TypeId) : ∀ j u, (ppcell p)[j]? = some u → (w.alloc (.cells (pparr p) e)).cell? ((⟨w.heap.size, 0, none⟩ : Addr).add j) = some u := by
  intro j u h
  rw [Addr.add_lit, Nat.zero_add, boxAt (al1_0 w _)]
  simpa [ppcell] using h
theorem newV_later (w : World) (p : Pp) (e : TypeId) {w2 : World} (hb : Below (w.alloc (.cells (pparr p) e)).heap.size (w.alloc (.cells (pparr p) e)) w2) : ∀ j u, (ppcell p)[j]? = some u → w2.cell? ((⟨w.heap.size, 0, none⟩ : Addr).add j) = some u := by
  intro j u h
  have h1 := newV_cells w p e j u h
  rw [Addr.add_lit] at h1 ⊢
  exact (hb.cell (p := ⟨w.heap.size, 0 + j, none⟩) (by simp)).trans h1

set_option maxRecDepth 100000 in
set_option maxHeartbeats 4000000 in
theorem withV_any (ao : Option Addr) (ca : Nat) (xs : List Pp) (s b : Int) (x : Wd) (w : World) (hr : RowR w 12 (.slice ao xs.length ca) xs.length (ppcells xs)) (hca : xs.length ≤ ca) (hn : xs.length ≤ 60) (hs : Asc ordV xs) :
    Calls Try.prog 112 #[.slice ao xs.length ca, .agg (#[.int .i64 s, .int .i64 b, .int .i64 x.c0, .int .i64 x.c1, .int .i64 x.c2, .int .i64 x.c3, .int .i64 x.c4, .int .i64 x.c5, .int .i64 x.c6, .int .i64 x.c7, .int .i64 x.c8, .int .i64 x.c9] : Array Value), .func (.func 80) #[] #[] ] w fun e w' => ∃ v', e = .returned v' ∧ w'.ownsRow w.heap.size 56 12 v' (insL ordV xs (s, b, x)).length (ppcells (insL ordV xs (s, b, x))) ∧ Below w.heap.size w w' := by
  obtain ⟨i1, gi, gz0, gz1, gz2⟩ := info_parts infoPp
  have Hr := hide hr
  obtain ⟨n, hnn⟩ : ∃ n, xs.length = n := ⟨_, rfl⟩
  have Hl := hide hnn
  rw [hnn] at hn hr hca ⊢
  have hal : Below w.heap.size w (w.alloc (.cells (pparr (s, b, x)) 56)) := (Below.refl _ _).alloc (Nat.le_refl _) _
  obtain ⟨W, hW⟩ : ∃ W, W = w.alloc (.cells (pparr (s, b, x)) 56) := ⟨_, rfl⟩
  have B0 : Hid (W.heap[w.heap.size]? = some (.cells (pparr (s, b, x)) 56 (0, 0))) := by show _ = _; rw [hW]; exact al1_0 w _
  rw [← hW] at hal
  have HS := hide hs
  have cF := findV_any _ xs s b x W (Hr.out.keep hal) (by omega) hs
  rw [hnn] at cF Hr
  clear hs hnn
  have hcai : (n : Int) ≤ (ca : Int) := by omega
  have hPA : (#[.int .i64 s, .int .i64 b, .int .i64 x.c0, .int .i64 x.c1, .int .i64 x.c2, .int .i64 x.c3, .int .i64 x.c4, .int .i64 x.c5, .int .i64 x.c6, .int .i64 x.c7, .int .i64 x.c8, .int .i64 x.c9] : Array Value) = (pparr (s, b, x)) := rfl
  rw [hPA]
  clear hPA
  go_enter Try.func112, Try.ntmps112
  go_wp2_with (refine wpList_load_row rfl 56 (.tmp 4) rfl w.heap.size rfl _ _ (0, 0) _ (heap_alloc_new w (.cells (pparr (s, b, x)) 56)) Try.underlying56 rfl infoPpS ?_)
  rw [← hW]
  clear hW
  refine cF.mono ?_
  clear cF
  rintro e w1 ⟨q, there, rfl, hat, b1⟩
  have hqn : q ≤ n := by have := hat.le; have := Hl.out; omega
  have hqi : (q : Int) ≤ (n : Int) := by omega
  have hqc : q ≤ ca := by omega
  have hw1 : w.heap.size ≤ w1.heap.size := Nat.le_trans hal.size b1.size
  have kt : Hid (∀ c', RowR w1 12 (.slice ao q c') q (ppcells (xs.take q))) := by
    show ∀ c', RowR _ _ _ _ _
    intro c'
    have := RowR.take (k := q) (c' := c') (Hr.out.keep (bAll hal b1)) hqn
    rwa [ppcells, fm_take ppcell_len] at this
  have hI := hide (ins_at ordOkV HS.out hat)
  cases there
  · simp only [Bool.false_eq_true, if_false] at hI
    by_cases hcq : ca = q
    · have kb : Hid (∀ c', RowR w1 12 (.slice ao (n - q) c') (n - q) (ppcells (xs.drop q))) := by
        show ∀ c', RowR _ _ _ _ _
        intro c'
        rw [List.drop_of_length_le (by rw [Hl.out]; omega), show n - q = 0 by omega]
        exact RowR.zero
      replace hI : Hid (xs.take q ++ (s, b, x) :: xs.drop q = insL ordV xs (s, b, x) ∧ (insL ordV xs (s, b, x)).length = q + 1 + (n - q)) := ⟨hI.out, by rw [← hI.out]; simp; have := Hl.out; omega⟩
      clear hr Hr
      go_wp2
      refine wp_region_noPanic ?_
      refine wp_region_held_drew (S := (fun w' => w'.heap[w.heap.size]? = some (.cells (pparr (s, b, x)) 56 (0, 0)))) (by kernel_rfl) ?_ (fun hHeld => ?_)
      · exact bKeeps (bAll b1 (bDrew1 _)) B0.out
      refine wpAnyH_take (i := 0) (v := ?v1) rfl (by kernel_rfl) (by kernel_rfl) (by kernel_rfl) (fun _ _ _ h => h) (Or.inl ⟨by rfl, ?hy1⟩) (by assumption) ?rest1
      case hy1 => ((intro w hSw; (try dsimp only at hSw); (try simp only [List.getElem_toArray, List.getElem_cons_zero]); go_simp; first | done | (with_reducible rfl)))
      simp only [Act.put, List.getElem_toArray, List.getElem_cons_zero, List.setIfInBounds_toArray, List.set_cons_zero, List.set_cons_succ]
      refine wpAnyH_take (i := 1) (v := ?v2) rfl (by kernel_rfl) (by kernel_rfl) (by kernel_rfl) (fun _ _ _ h => h) (Or.inl ⟨by rfl, ?hy2⟩) (by assumption) ?rest2
      case hy2 => ((intro w hSw; (try dsimp only at hSw); (try simp only [List.getElem_toArray, List.getElem_cons_zero, List.getElem_cons_succ]); go_simp; first | done | (with_reducible rfl)))
      simp only [Act.put, List.getElem_toArray, List.getElem_cons_zero, List.getElem_cons_succ, List.setIfInBounds_toArray, List.set_cons_zero, List.set_cons_succ]
      refine wpAnyH_take (i := 2) (v := ?v3) rfl (by kernel_rfl) (by kernel_rfl) (by kernel_rfl) (fun _ _ _ h => h) (Or.inl ⟨by rfl, ?hy3⟩) (by assumption) ?rest3
      case hy3 => ((intro w hSw; (try dsimp only at hSw); (try simp only [List.getElem_toArray, List.getElem_cons_zero, List.getElem_cons_succ]); go_simp; first | done | (with_reducible rfl)))
      simp only [Act.put, List.getElem_toArray, List.getElem_cons_zero, List.getElem_cons_succ, List.setIfInBounds_toArray, List.set_cons_zero, List.set_cons_succ]
      refine wpAnyH_take (i := 4) (v := .agg (#[.int .i64 s, .int .i64 b, .int .i64 x.c0, .int .i64 x.c1, .int .i64 x.c2, .int .i64 x.c3, .int .i64 x.c4, .int .i64 x.c5, .int .i64 x.c6, .int .i64 x.c7, .int .i64 x.c8, .int .i64 x.c9] : Array Value)) rfl (by kernel_rfl) (by kernel_rfl) (by kernel_rfl) (fun _ _ _ h => h) (yields_row rfl 56 (.tmp 4) rfl (w.heap.size) rfl _ (#[.int .i64 s, .int .i64 b, .int .i64 x.c0, .int .i64 x.c1, .int .i64 x.c2, .int .i64 x.c3, .int .i64 x.c4, .int .i64 x.c5, .int .i64 x.c6, .int .i64 x.c7, .int .i64 x.c8, .int .i64 x.c9] : Array Value) _ (fun _ h => h) Try.underlying56 rfl infoPpS) (by assumption) ?_
      simp only [Act.put, List.getElem_toArray, List.getElem_cons_zero, List.getElem_cons_succ, List.setIfInBounds_toArray, List.set_cons_zero, List.set_cons_succ]
      refine wpAnyH_take (i := 7) (v := ?v4) rfl (by kernel_rfl) (by kernel_rfl) (by kernel_rfl) (fun _ _ _ h => h) (Or.inl ⟨by rfl, ?hy4⟩) (by assumption) ?rest4
      case hy4 => ((intro w hSw; (try dsimp only at hSw); (try simp only [List.getElem_toArray, List.getElem_cons_zero, List.getElem_cons_succ]); go_simp; first | done | (with_reducible rfl)))
      simp only [Act.put, List.getElem_toArray, List.getElem_cons_zero, List.getElem_cons_succ, List.setIfInBounds_toArray, List.set_cons_zero, List.set_cons_succ]
      refine wpAnyH_ready (rs := [3, 5]) (by kernel_rfl) (by simp) ?_
      refine AllReadyH.cons rfl (fun K hK => ?_) (AllReadyH.cons rfl (fun K hK => ?_) AllReadyH.nil)
      · go_simp
        (go_at_call 54; refine (copyV_any _ q (ppcells (xs.take q)) _ ((kt.out _).keep (bDrew1 _)) (ppcells_one _) (by omega)).mono ?_; rintro e w2 ⟨v2, rfl, r2, b2⟩; have b2' : Below w1.heap.size w1 w2 := bAll (bDrew1 _) b2)
        refine hK.out _ _ ?_ (fun hHeld => ?_)
        · exact bKeeps (bAll b1 b2') B0.out
        clear hK K
        refine wpAnyH_ready (rs := [5]) (by kernel_rfl) (by simp) ?_
        refine AllReadyH.cons rfl (fun K hK => ?_) AllReadyH.nil
        go_simp
        refine hK.out _ _ ?_ (fun hHeld => ?_)
        · exact bKeeps (bAll b1 (bAlloc b2' _)) B0.out
        clear hK K
        refine wpAnyH_ready (rs := [6]) (by kernel_rfl) (by simp) ?_
        refine AllReadyH.cons rfl (fun K hK => ?_) AllReadyH.nil
        refine step_appendA rfl (.tmp 26) (.tmp 28) 33 rfl w1.heap.size 56 i1 (.agg #[.int .i64 0, .int .i64 0, .int .i64 0, .int .i64 0, .int .i64 0, .int .i64 0, .int .i64 0, .int .i64 0, .int .i64 0, .int .i64 0, .int .i64 0, .int .i64 0]) 12 96 Try.underlying33 gi gz0 gz1 gz2 rfl (by decide) v2 q (ppcells (xs.take q)) rfl (RowA.keepB (.inl r2) (bAlloc (Below.refl _ _) _)) ⟨w2.heap.size, 0, none⟩ 1 1 (ppcell (s, b, x)) rfl rfl (newV_cells w2 (s, b, x) _) (ppcell_one _) (by decide) (by unfold maxLen; omega) (by omega) (bAlloc b2' _).size ?_
        intro v3 w3 r3 u3
        have b3 : Below w1.heap.size w1 w3 := bAll3 (bAlloc b2' _) u3
        refine hK.out _ _ ?_ (fun hHeld => ?_)
        · exact bKeeps (bAll b1 b3) B0.out
        clear hK K
        refine wpAnyH_ready (rs := [8]) (by kernel_rfl) (by simp) ?_
        refine AllReadyH.cons rfl (fun K hK => ?_) AllReadyH.nil
        refine step_append_row rfl (.tmp 29) (.tmp 30) 33 rfl w1.heap.size 56 i1 (.agg #[.int .i64 0, .int .i64 0, .int .i64 0, .int .i64 0, .int .i64 0, .int .i64 0, .int .i64 0, .int .i64 0, .int .i64 0, .int .i64 0, .int .i64 0, .int .i64 0]) 12 96 Try.underlying33 gi gz0 gz1 gz2 rfl (by decide) v3 (q + 1) _ rfl r3 _ (n - q) (ppcells (xs.drop (q))) rfl ((kb.out _).keep b3) (ppcells_one _) (by omega) (by omega) b3.size ?_
        intro v4 w4 r4 b4
        have b4' : Below w1.heap.size w1 w4 := b3.trans b4
        refine hK.out _ _ ?_ (fun hHeld => ?_)
        · exact bKeeps (bAll b1 b4') B0.out
        clear hK K
        refine wpAnyH_take (i := 9) (v := ?v5) rfl (by kernel_rfl) (by kernel_rfl) (by kernel_rfl) (fun _ _ _ h => h) (Or.inl ⟨by rfl, ?hy5⟩) (by assumption) ?rest5
        case hy5 => ((intro w hSw; (try dsimp only at hSw); (try simp only [List.getElem_toArray, List.getElem_cons_zero, List.getElem_cons_succ]); go_simp; first | done | (with_reducible rfl)))
        simp only [Act.put, List.getElem_toArray, List.getElem_cons_zero, List.getElem_cons_succ, List.setIfInBounds_toArray, List.set_cons_zero, List.set_cons_succ]
        refine wpAnyH_done (by kernel_rfl) ?_ _
        refine NoPanic.normal ?_
        go_wp2
        go_ret
        exact ⟨_, rfl, owns_insV r4 hw1 hI.out, bAll hal (bAll b1 b4')⟩
      · go_simp
        refine hK.out _ _ ?_ (fun hHeld => ?_)
        · exact bKeeps (bAll b1 (bAlloc (bDrew1 _) _)) B0.out
        clear hK K
        refine wpAnyH_ready (rs := [3]) (by kernel_rfl) (by simp) ?_
        refine AllReadyH.cons rfl (fun K hK => ?_) AllReadyH.nil
        go_simp
        (go_at_call 54; refine (copyV_any _ q (ppcells (xs.take q)) _ ((kt.out _).keep (bAlloc (bDrew1 _) _)) (ppcells_one _) (by omega)).mono ?_; rintro e w2 ⟨v2, rfl, r2, b2⟩; have b2' : Below w1.heap.size w1 w2 := bAll (bAlloc (bDrew1 _) _) b2)
        refine hK.out _ _ ?_ (fun hHeld => ?_)
        · exact bKeeps (bAll b1 b2') B0.out
        clear hK K
        refine wpAnyH_ready (rs := [6]) (by kernel_rfl) (by simp) ?_
        refine AllReadyH.cons rfl (fun K hK => ?_) AllReadyH.nil
        refine step_appendA rfl (.tmp 26) (.tmp 28) 33 rfl w1.heap.size 56 i1 (.agg #[.int .i64 0, .int .i64 0, .int .i64 0, .int .i64 0, .int .i64 0, .int .i64 0, .int .i64 0, .int .i64 0, .int .i64 0, .int .i64 0, .int .i64 0, .int .i64 0]) 12 96 Try.underlying33 gi gz0 gz1 gz2 rfl (by decide) v2 q (ppcells (xs.take q)) rfl (RowA.mono (.inl r2) (by simp)) ⟨w1.heap.size, 0, none⟩ 1 1 (ppcell (s, b, x)) rfl rfl (newV_later w1.drew (s, b, x) _ b2) (ppcell_one _) (by decide) (by unfold maxLen; omega) (by omega) (b2').size ?_
        intro v3 w3 r3 u3
        have b3 : Below w1.heap.size w1 w3 := bAll3 (b2') u3
        refine hK.out _ _ ?_ (fun hHeld => ?_)
        · exact bKeeps (bAll b1 b3) B0.out
        clear hK K
        refine wpAnyH_ready (rs := [8]) (by kernel_rfl) (by simp) ?_
        refine AllReadyH.cons rfl (fun K hK => ?_) AllReadyH.nil
        refine step_append_row rfl (.tmp 29) (.tmp 30) 33 rfl w1.heap.size 56 i1 (.agg #[.int .i64 0, .int .i64 0, .int .i64 0, .int .i64 0, .int .i64 0, .int .i64 0, .int .i64 0, .int .i64 0, .int .i64 0, .int .i64 0, .int .i64 0, .int .i64 0]) 12 96 Try.underlying33 gi gz0 gz1 gz2 rfl (by decide) v3 (q + 1) _ rfl r3 _ (n - q) (ppcells (xs.drop (q))) rfl ((kb.out _).keep b3) (ppcells_one _) (by omega) (by omega) b3.size ?_
        intro v4 w4 r4 b4
        have b4' : Below w1.heap.size w1 w4 := b3.trans b4
        refine hK.out _ _ ?_ (fun hHeld => ?_)
        · exact bKeeps (bAll b1 b4') B0.out
        clear hK K
        refine wpAnyH_take (i := 9) (v := ?v6) rfl (by kernel_rfl) (by kernel_rfl) (by kernel_rfl) (fun _ _ _ h => h) (Or.inl ⟨by rfl, ?hy6⟩) (by assumption) ?rest6
        case hy6 => ((intro w hSw; (try dsimp only at hSw); (try simp only [List.getElem_toArray, List.getElem_cons_zero, List.getElem_cons_succ]); go_simp; first | done | (with_reducible rfl)))
        simp only [Act.put, List.getElem_toArray, List.getElem_cons_zero, List.getElem_cons_succ, List.setIfInBounds_toArray, List.set_cons_zero, List.set_cons_succ]
        refine wpAnyH_done (by kernel_rfl) ?_ _
        refine NoPanic.normal ?_
        go_wp2
        go_ret
        exact ⟨_, rfl, owns_insV r4 hw1 hI.out, bAll hal (bAll b1 b4')⟩
    · have kb : Hid (∀ c', RowR w1 12 (.slice (Option.map (fun x => x.add (q * 12)) ao) (n - q) c') (n - q) (ppcells (xs.drop q))) := by
        show ∀ c', RowR _ _ _ _ _
        intro c'
        have h0 := Hr.out.keep (bAll hal b1)
        rcases Nat.eq_zero_or_pos n with hn0 | hpos
        · have hq0 : n - q = 0 := by omega
          rw [hq0, List.drop_of_length_le (by rw [Hl.out]; omega)]
          exact RowR.zero
        · obtain ⟨bb, oo, rfl⟩ := h0.addr hpos
          have := RowR.drop (k := q) (c' := c') h0 hqn
          rw [ppcells, fm_drop ppcell_len] at this
          rw [Option.map_some, Addr.add_lit]
          exact this
      replace hI : Hid (xs.take q ++ (s, b, x) :: xs.drop q = insL ordV xs (s, b, x) ∧ (insL ordV xs (s, b, x)).length = q + 1 + (n - q)) := ⟨hI.out, by rw [← hI.out]; simp; have := Hl.out; omega⟩
      clear hr Hr
      go_wp2
      refine wp_region_noPanic ?_
      refine wp_region_held_drew (S := (fun w' => w'.heap[w.heap.size]? = some (.cells (pparr (s, b, x)) 56 (0, 0)))) (by kernel_rfl) ?_ (fun hHeld => ?_)
      · exact bKeeps (bAll b1 (bDrew1 _)) B0.out
      refine wpAnyH_take (i := 0) (v := ?v7) rfl (by kernel_rfl) (by kernel_rfl) (by kernel_rfl) (fun _ _ _ h => h) (Or.inl ⟨by rfl, ?hy7⟩) (by assumption) ?rest7
      case hy7 => ((intro w hSw; (try dsimp only at hSw); (try simp only [List.getElem_toArray, List.getElem_cons_zero]); go_simp; first | done | (with_reducible rfl)))
      simp only [Act.put, List.getElem_toArray, List.getElem_cons_zero, List.setIfInBounds_toArray, List.set_cons_zero, List.set_cons_succ]
      refine wpAnyH_take (i := 1) (v := ?v8) rfl (by kernel_rfl) (by kernel_rfl) (by kernel_rfl) (fun _ _ _ h => h) (Or.inl ⟨by rfl, ?hy8⟩) (by assumption) ?rest8
      case hy8 => ((intro w hSw; (try dsimp only at hSw); (try simp only [List.getElem_toArray, List.getElem_cons_zero, List.getElem_cons_succ]); go_simp; first | done | (with_reducible rfl)))
      simp only [Act.put, List.getElem_toArray, List.getElem_cons_zero, List.getElem_cons_succ, List.setIfInBounds_toArray, List.set_cons_zero, List.set_cons_succ]
      refine wpAnyH_take (i := 2) (v := ?v9) rfl (by kernel_rfl) (by kernel_rfl) (by kernel_rfl) (fun _ _ _ h => h) (Or.inl ⟨by rfl, ?hy9⟩) (by assumption) ?rest9
      case hy9 => ((intro w hSw; (try dsimp only at hSw); (try simp only [List.getElem_toArray, List.getElem_cons_zero, List.getElem_cons_succ]); go_simp; first | done | (with_reducible rfl)))
      simp only [Act.put, List.getElem_toArray, List.getElem_cons_zero, List.getElem_cons_succ, List.setIfInBounds_toArray, List.set_cons_zero, List.set_cons_succ]
      refine wpAnyH_take (i := 4) (v := .agg (#[.int .i64 s, .int .i64 b, .int .i64 x.c0, .int .i64 x.c1, .int .i64 x.c2, .int .i64 x.c3, .int .i64 x.c4, .int .i64 x.c5, .int .i64 x.c6, .int .i64 x.c7, .int .i64 x.c8, .int .i64 x.c9] : Array Value)) rfl (by kernel_rfl) (by kernel_rfl) (by kernel_rfl) (fun _ _ _ h => h) (yields_row rfl 56 (.tmp 4) rfl (w.heap.size) rfl _ (#[.int .i64 s, .int .i64 b, .int .i64 x.c0, .int .i64 x.c1, .int .i64 x.c2, .int .i64 x.c3, .int .i64 x.c4, .int .i64 x.c5, .int .i64 x.c6, .int .i64 x.c7, .int .i64 x.c8, .int .i64 x.c9] : Array Value) _ (fun _ h => h) Try.underlying56 rfl infoPpS) (by assumption) ?_
      simp only [Act.put, List.getElem_toArray, List.getElem_cons_zero, List.getElem_cons_succ, List.setIfInBounds_toArray, List.set_cons_zero, List.set_cons_succ]
      refine wpAnyH_take (i := 7) (v := ?v10) rfl (by kernel_rfl) (by kernel_rfl) (by kernel_rfl) (fun _ _ _ h => h) (Or.inl ⟨by rfl, ?hy10⟩) (by assumption) ?rest10
      case hy10 => ((intro w hSw; (try dsimp only at hSw); (try simp only [List.getElem_toArray, List.getElem_cons_zero, List.getElem_cons_succ]); go_simp; first | done | (with_reducible rfl)))
      simp only [Act.put, List.getElem_toArray, List.getElem_cons_zero, List.getElem_cons_succ, List.setIfInBounds_toArray, List.set_cons_zero, List.set_cons_succ]
      refine wpAnyH_ready (rs := [3, 5]) (by kernel_rfl) (by simp) ?_
      refine AllReadyH.cons rfl (fun K hK => ?_) (AllReadyH.cons rfl (fun K hK => ?_) AllReadyH.nil)
      · go_simp
        (go_at_call 54; refine (copyV_any _ q (ppcells (xs.take q)) _ ((kt.out _).keep (bDrew1 _)) (ppcells_one _) (by omega)).mono ?_; rintro e w2 ⟨v2, rfl, r2, b2⟩; have b2' : Below w1.heap.size w1 w2 := bAll (bDrew1 _) b2)
        refine hK.out _ _ ?_ (fun hHeld => ?_)
        · exact bKeeps (bAll b1 b2') B0.out
        clear hK K
        refine wpAnyH_ready (rs := [5]) (by kernel_rfl) (by simp) ?_
        refine AllReadyH.cons rfl (fun K hK => ?_) AllReadyH.nil
        go_simp
        refine hK.out _ _ ?_ (fun hHeld => ?_)
        · exact bKeeps (bAll b1 (bAlloc b2' _)) B0.out
        clear hK K
        refine wpAnyH_ready (rs := [6]) (by kernel_rfl) (by simp) ?_
        refine AllReadyH.cons rfl (fun K hK => ?_) AllReadyH.nil
        refine step_appendA rfl (.tmp 26) (.tmp 28) 33 rfl w1.heap.size 56 i1 (.agg #[.int .i64 0, .int .i64 0, .int .i64 0, .int .i64 0, .int .i64 0, .int .i64 0, .int .i64 0, .int .i64 0, .int .i64 0, .int .i64 0, .int .i64 0, .int .i64 0]) 12 96 Try.underlying33 gi gz0 gz1 gz2 rfl (by decide) v2 q (ppcells (xs.take q)) rfl (RowA.keepB (.inl r2) (bAlloc (Below.refl _ _) _)) ⟨w2.heap.size, 0, none⟩ 1 1 (ppcell (s, b, x)) rfl rfl (newV_cells w2 (s, b, x) _) (ppcell_one _) (by decide) (by unfold maxLen; omega) (by omega) (bAlloc b2' _).size ?_
        intro v3 w3 r3 u3
        have b3 : Below w1.heap.size w1 w3 := bAll3 (bAlloc b2' _) u3
        refine hK.out _ _ ?_ (fun hHeld => ?_)
        · exact bKeeps (bAll b1 b3) B0.out
        clear hK K
        refine wpAnyH_ready (rs := [8]) (by kernel_rfl) (by simp) ?_
        refine AllReadyH.cons rfl (fun K hK => ?_) AllReadyH.nil
        refine step_append_row rfl (.tmp 29) (.tmp 30) 33 rfl w1.heap.size 56 i1 (.agg #[.int .i64 0, .int .i64 0, .int .i64 0, .int .i64 0, .int .i64 0, .int .i64 0, .int .i64 0, .int .i64 0, .int .i64 0, .int .i64 0, .int .i64 0, .int .i64 0]) 12 96 Try.underlying33 gi gz0 gz1 gz2 rfl (by decide) v3 (q + 1) _ rfl r3 _ (n - q) (ppcells (xs.drop (q))) rfl ((kb.out _).keep b3) (ppcells_one _) (by omega) (by omega) b3.size ?_
        intro v4 w4 r4 b4
        have b4' : Below w1.heap.size w1 w4 := b3.trans b4
        refine hK.out _ _ ?_ (fun hHeld => ?_)
        · exact bKeeps (bAll b1 b4') B0.out
        clear hK K
        refine wpAnyH_take (i := 9) (v := ?v11) rfl (by kernel_rfl) (by kernel_rfl) (by kernel_rfl) (fun _ _ _ h => h) (Or.inl ⟨by rfl, ?hy11⟩) (by assumption) ?rest11
        case hy11 => ((intro w hSw; (try dsimp only at hSw); (try simp only [List.getElem_toArray, List.getElem_cons_zero, List.getElem_cons_succ]); go_simp; first | done | (with_reducible rfl)))
        simp only [Act.put, List.getElem_toArray, List.getElem_cons_zero, List.getElem_cons_succ, List.setIfInBounds_toArray, List.set_cons_zero, List.set_cons_succ]
        refine wpAnyH_done (by kernel_rfl) ?_ _
        refine NoPanic.normal ?_
        go_wp2
        go_ret
        exact ⟨_, rfl, owns_insV r4 hw1 hI.out, bAll hal (bAll b1 b4')⟩
      · go_simp
        refine hK.out _ _ ?_ (fun hHeld => ?_)
        · exact bKeeps (bAll b1 (bAlloc (bDrew1 _) _)) B0.out
        clear hK K
        refine wpAnyH_ready (rs := [3]) (by kernel_rfl) (by simp) ?_
        refine AllReadyH.cons rfl (fun K hK => ?_) AllReadyH.nil
        go_simp
        (go_at_call 54; refine (copyV_any _ q (ppcells (xs.take q)) _ ((kt.out _).keep (bAlloc (bDrew1 _) _)) (ppcells_one _) (by omega)).mono ?_; rintro e w2 ⟨v2, rfl, r2, b2⟩; have b2' : Below w1.heap.size w1 w2 := bAll (bAlloc (bDrew1 _) _) b2)
        refine hK.out _ _ ?_ (fun hHeld => ?_)
        · exact bKeeps (bAll b1 b2') B0.out
        clear hK K
        refine wpAnyH_ready (rs := [6]) (by kernel_rfl) (by simp) ?_
        refine AllReadyH.cons rfl (fun K hK => ?_) AllReadyH.nil
        refine step_appendA rfl (.tmp 26) (.tmp 28) 33 rfl w1.heap.size 56 i1 (.agg #[.int .i64 0, .int .i64 0, .int .i64 0, .int .i64 0, .int .i64 0, .int .i64 0, .int .i64 0, .int .i64 0, .int .i64 0, .int .i64 0, .int .i64 0, .int .i64 0]) 12 96 Try.underlying33 gi gz0 gz1 gz2 rfl (by decide) v2 q (ppcells (xs.take q)) rfl (RowA.mono (.inl r2) (by simp)) ⟨w1.heap.size, 0, none⟩ 1 1 (ppcell (s, b, x)) rfl rfl (newV_later w1.drew (s, b, x) _ b2) (ppcell_one _) (by decide) (by unfold maxLen; omega) (by omega) (b2').size ?_
        intro v3 w3 r3 u3
        have b3 : Below w1.heap.size w1 w3 := bAll3 (b2') u3
        refine hK.out _ _ ?_ (fun hHeld => ?_)
        · exact bKeeps (bAll b1 b3) B0.out
        clear hK K
        refine wpAnyH_ready (rs := [8]) (by kernel_rfl) (by simp) ?_
        refine AllReadyH.cons rfl (fun K hK => ?_) AllReadyH.nil
        refine step_append_row rfl (.tmp 29) (.tmp 30) 33 rfl w1.heap.size 56 i1 (.agg #[.int .i64 0, .int .i64 0, .int .i64 0, .int .i64 0, .int .i64 0, .int .i64 0, .int .i64 0, .int .i64 0, .int .i64 0, .int .i64 0, .int .i64 0, .int .i64 0]) 12 96 Try.underlying33 gi gz0 gz1 gz2 rfl (by decide) v3 (q + 1) _ rfl r3 _ (n - q) (ppcells (xs.drop (q))) rfl ((kb.out _).keep b3) (ppcells_one _) (by omega) (by omega) b3.size ?_
        intro v4 w4 r4 b4
        have b4' : Below w1.heap.size w1 w4 := b3.trans b4
        refine hK.out _ _ ?_ (fun hHeld => ?_)
        · exact bKeeps (bAll b1 b4') B0.out
        clear hK K
        refine wpAnyH_take (i := 9) (v := ?v12) rfl (by kernel_rfl) (by kernel_rfl) (by kernel_rfl) (fun _ _ _ h => h) (Or.inl ⟨by rfl, ?hy12⟩) (by assumption) ?rest12
        case hy12 => ((intro w hSw; (try dsimp only at hSw); (try simp only [List.getElem_toArray, List.getElem_cons_zero, List.getElem_cons_succ]); go_simp; first | done | (with_reducible rfl)))
        simp only [Act.put, List.getElem_toArray, List.getElem_cons_zero, List.getElem_cons_succ, List.setIfInBounds_toArray, List.set_cons_zero, List.set_cons_succ]
        refine wpAnyH_done (by kernel_rfl) ?_ _
        refine NoPanic.normal ?_
        go_wp2
        go_ret
        exact ⟨_, rfl, owns_insV r4 hw1 hI.out, bAll hal (bAll b1 b4')⟩
  · simp only [if_true] at hI
    have hql : q < n := by
      obtain ⟨y, hy, _⟩ := hat.th.1 rfl
      have := (List.getElem?_eq_some_iff.1 hy).1
      have := Hl.out
      omega
    obtain ⟨bb, oo, rfl⟩ := Hr.out.addr (by omega)
    have kb0 : Hid (∀ c', RowR w1 12 (.slice (some ⟨bb, oo + (q + 1) * 12, none⟩) (n - (q + 1)) c') (n - (q + 1)) (ppcells (xs.drop (q + 1)))) := by
      show ∀ c', RowR _ _ _ _ _
      intro c'
      have := RowR.drop (k := q + 1) (c' := c') (Hr.out.keep (bAll hal b1)) (by omega)
      rwa [ppcells, fm_drop ppcell_len] at this
    replace hI : Hid (xs.take q ++ (s, b, x) :: xs.drop (q + 1) = insL ordV xs (s, b, x) ∧ (insL ordV xs (s, b, x)).length = q + 1 + (n - (q + 1))) := ⟨hI.out, by rw [← hI.out]; simp; have := Hl.out; omega⟩
    have hne : ¬ ca = q := by omega
    have hge : (1 : Int) ≤ ((n - q : Nat) : Int) := by omega
    clear hr Hr
    by_cases hc1 : ca - q = 1
    · have hnq : n - q = 1 := by omega
      have hnq' : n - (q + 1) = 0 := by omega
      have kb : Hid (∀ c', RowR w1 12 (.slice (some ⟨bb, oo + q * 12, none⟩) 0 c') 0 (ppcells (xs.drop (q + 1)))) := by
        show ∀ c', RowR _ _ _ _ _
        intro c'
        rw [List.drop_of_length_le (by rw [Hl.out]; omega)]
        exact RowR.zero
      rw [hnq'] at hI
      rw [hnq] at hge
      clear kb0
      go_wp2
      refine wp_region_noPanic ?_
      refine wp_region_held_drew (S := (fun w' => w'.heap[w.heap.size]? = some (.cells (pparr (s, b, x)) 56 (0, 0)))) (by kernel_rfl) ?_ (fun hHeld => ?_)
      · exact bKeeps (bAll b1 (bDrew1 _)) B0.out
      refine wpAnyH_take (i := 0) (v := ?v13) rfl (by kernel_rfl) (by kernel_rfl) (by kernel_rfl) (fun _ _ _ h => h) (Or.inl ⟨by rfl, ?hy13⟩) (by assumption) ?rest13
      case hy13 => ((intro w hSw; (try dsimp only at hSw); (try simp only [List.getElem_toArray, List.getElem_cons_zero]); go_simp; first | done | (with_reducible rfl)))
      simp only [Act.put, List.getElem_toArray, List.getElem_cons_zero, List.setIfInBounds_toArray, List.set_cons_zero, List.set_cons_succ]
      refine wpAnyH_take (i := 1) (v := ?v14) rfl (by kernel_rfl) (by kernel_rfl) (by kernel_rfl) (fun _ _ _ h => h) (Or.inl ⟨by rfl, ?hy14⟩) (by assumption) ?rest14
      case hy14 => ((intro w hSw; (try dsimp only at hSw); (try simp only [List.getElem_toArray, List.getElem_cons_zero, List.getElem_cons_succ]); go_simp; first | done | (with_reducible rfl)))
      simp only [Act.put, List.getElem_toArray, List.getElem_cons_zero, List.getElem_cons_succ, List.setIfInBounds_toArray, List.set_cons_zero, List.set_cons_succ]
      refine wpAnyH_take (i := 2) (v := ?v15) rfl (by kernel_rfl) (by kernel_rfl) (by kernel_rfl) (fun _ _ _ h => h) (Or.inl ⟨by rfl, ?hy15⟩) (by assumption) ?rest15
      case hy15 => ((intro w hSw; (try dsimp only at hSw); (try simp only [List.getElem_toArray, List.getElem_cons_zero, List.getElem_cons_succ]); go_simp; first | done | (with_reducible rfl)))
      simp only [Act.put, List.getElem_toArray, List.getElem_cons_zero, List.getElem_cons_succ, List.setIfInBounds_toArray, List.set_cons_zero, List.set_cons_succ]
      refine wpAnyH_take (i := 4) (v := .agg (#[.int .i64 s, .int .i64 b, .int .i64 x.c0, .int .i64 x.c1, .int .i64 x.c2, .int .i64 x.c3, .int .i64 x.c4, .int .i64 x.c5, .int .i64 x.c6, .int .i64 x.c7, .int .i64 x.c8, .int .i64 x.c9] : Array Value)) rfl (by kernel_rfl) (by kernel_rfl) (by kernel_rfl) (fun _ _ _ h => h) (yields_row rfl 56 (.tmp 4) rfl (w.heap.size) rfl _ (#[.int .i64 s, .int .i64 b, .int .i64 x.c0, .int .i64 x.c1, .int .i64 x.c2, .int .i64 x.c3, .int .i64 x.c4, .int .i64 x.c5, .int .i64 x.c6, .int .i64 x.c7, .int .i64 x.c8, .int .i64 x.c9] : Array Value) _ (fun _ h => h) Try.underlying56 rfl infoPpS) (by assumption) ?_
      simp only [Act.put, List.getElem_toArray, List.getElem_cons_zero, List.getElem_cons_succ, List.setIfInBounds_toArray, List.set_cons_zero, List.set_cons_succ]
      refine wpAnyH_take (i := 7) (v := ?v16) rfl (by kernel_rfl) (by kernel_rfl) (by kernel_rfl) (fun _ _ _ h => h) (Or.inl ⟨by rfl, ?hy16⟩) (by assumption) ?rest16
      case hy16 => ((intro w hSw; (try dsimp only at hSw); (try simp only [List.getElem_toArray, List.getElem_cons_zero, List.getElem_cons_succ]); go_simp; first | done | (with_reducible rfl)))
      simp only [Act.put, List.getElem_toArray, List.getElem_cons_zero, List.getElem_cons_succ, List.setIfInBounds_toArray, List.set_cons_zero, List.set_cons_succ]
      refine wpAnyH_ready (rs := [3, 5]) (by kernel_rfl) (by simp) ?_
      refine AllReadyH.cons rfl (fun K hK => ?_) (AllReadyH.cons rfl (fun K hK => ?_) AllReadyH.nil)
      · go_simp
        (go_at_call 54; refine (copyV_any _ q (ppcells (xs.take q)) _ ((kt.out _).keep (bDrew1 _)) (ppcells_one _) (by omega)).mono ?_; rintro e w2 ⟨v2, rfl, r2, b2⟩; have b2' : Below w1.heap.size w1 w2 := bAll (bDrew1 _) b2)
        refine hK.out _ _ ?_ (fun hHeld => ?_)
        · exact bKeeps (bAll b1 b2') B0.out
        clear hK K
        refine wpAnyH_ready (rs := [5]) (by kernel_rfl) (by simp) ?_
        refine AllReadyH.cons rfl (fun K hK => ?_) AllReadyH.nil
        go_simp
        refine hK.out _ _ ?_ (fun hHeld => ?_)
        · exact bKeeps (bAll b1 (bAlloc b2' _)) B0.out
        clear hK K
        refine wpAnyH_ready (rs := [6]) (by kernel_rfl) (by simp) ?_
        refine AllReadyH.cons rfl (fun K hK => ?_) AllReadyH.nil
        refine step_appendA rfl (.tmp 26) (.tmp 28) 33 rfl w1.heap.size 56 i1 (.agg #[.int .i64 0, .int .i64 0, .int .i64 0, .int .i64 0, .int .i64 0, .int .i64 0, .int .i64 0, .int .i64 0, .int .i64 0, .int .i64 0, .int .i64 0, .int .i64 0]) 12 96 Try.underlying33 gi gz0 gz1 gz2 rfl (by decide) v2 q (ppcells (xs.take q)) rfl (RowA.keepB (.inl r2) (bAlloc (Below.refl _ _) _)) ⟨w2.heap.size, 0, none⟩ 1 1 (ppcell (s, b, x)) rfl rfl (newV_cells w2 (s, b, x) _) (ppcell_one _) (by decide) (by unfold maxLen; omega) (by omega) (bAlloc b2' _).size ?_
        intro v3 w3 r3 u3
        have b3 : Below w1.heap.size w1 w3 := bAll3 (bAlloc b2' _) u3
        refine hK.out _ _ ?_ (fun hHeld => ?_)
        · exact bKeeps (bAll b1 b3) B0.out
        clear hK K
        refine wpAnyH_ready (rs := [8]) (by kernel_rfl) (by simp) ?_
        refine AllReadyH.cons rfl (fun K hK => ?_) AllReadyH.nil
        refine step_append_row rfl (.tmp 29) (.tmp 30) 33 rfl w1.heap.size 56 i1 (.agg #[.int .i64 0, .int .i64 0, .int .i64 0, .int .i64 0, .int .i64 0, .int .i64 0, .int .i64 0, .int .i64 0, .int .i64 0, .int .i64 0, .int .i64 0, .int .i64 0]) 12 96 Try.underlying33 gi gz0 gz1 gz2 rfl (by decide) v3 (q + 1) _ rfl r3 _ 0 (ppcells (xs.drop (q + 1))) rfl ((kb.out _).keep b3) (ppcells_one _) (by omega) (by omega) b3.size ?_
        intro v4 w4 r4 b4
        have b4' : Below w1.heap.size w1 w4 := b3.trans b4
        refine hK.out _ _ ?_ (fun hHeld => ?_)
        · exact bKeeps (bAll b1 b4') B0.out
        clear hK K
        refine wpAnyH_take (i := 9) (v := ?v17) rfl (by kernel_rfl) (by kernel_rfl) (by kernel_rfl) (fun _ _ _ h => h) (Or.inl ⟨by rfl, ?hy17⟩) (by assumption) ?rest17
        case hy17 => ((intro w hSw; (try dsimp only at hSw); (try simp only [List.getElem_toArray, List.getElem_cons_zero, List.getElem_cons_succ]); go_simp; first | done | (with_reducible rfl)))
        simp only [Act.put, List.getElem_toArray, List.getElem_cons_zero, List.getElem_cons_succ, List.setIfInBounds_toArray, List.set_cons_zero, List.set_cons_succ]
        refine wpAnyH_done (by kernel_rfl) ?_ _
        refine NoPanic.normal ?_
        go_wp2
        go_ret
        exact ⟨_, rfl, owns_insV r4 hw1 hI.out, bAll hal (bAll b1 b4')⟩
      · go_simp
        refine hK.out _ _ ?_ (fun hHeld => ?_)
        · exact bKeeps (bAll b1 (bAlloc (bDrew1 _) _)) B0.out
        clear hK K
        refine wpAnyH_ready (rs := [3]) (by kernel_rfl) (by simp) ?_
        refine AllReadyH.cons rfl (fun K hK => ?_) AllReadyH.nil
        go_simp
        (go_at_call 54; refine (copyV_any _ q (ppcells (xs.take q)) _ ((kt.out _).keep (bAlloc (bDrew1 _) _)) (ppcells_one _) (by omega)).mono ?_; rintro e w2 ⟨v2, rfl, r2, b2⟩; have b2' : Below w1.heap.size w1 w2 := bAll (bAlloc (bDrew1 _) _) b2)
        refine hK.out _ _ ?_ (fun hHeld => ?_)
        · exact bKeeps (bAll b1 b2') B0.out
        clear hK K
        refine wpAnyH_ready (rs := [6]) (by kernel_rfl) (by simp) ?_
        refine AllReadyH.cons rfl (fun K hK => ?_) AllReadyH.nil
        refine step_appendA rfl (.tmp 26) (.tmp 28) 33 rfl w1.heap.size 56 i1 (.agg #[.int .i64 0, .int .i64 0, .int .i64 0, .int .i64 0, .int .i64 0, .int .i64 0, .int .i64 0, .int .i64 0, .int .i64 0, .int .i64 0, .int .i64 0, .int .i64 0]) 12 96 Try.underlying33 gi gz0 gz1 gz2 rfl (by decide) v2 q (ppcells (xs.take q)) rfl (RowA.mono (.inl r2) (by simp)) ⟨w1.heap.size, 0, none⟩ 1 1 (ppcell (s, b, x)) rfl rfl (newV_later w1.drew (s, b, x) _ b2) (ppcell_one _) (by decide) (by unfold maxLen; omega) (by omega) (b2').size ?_
        intro v3 w3 r3 u3
        have b3 : Below w1.heap.size w1 w3 := bAll3 (b2') u3
        refine hK.out _ _ ?_ (fun hHeld => ?_)
        · exact bKeeps (bAll b1 b3) B0.out
        clear hK K
        refine wpAnyH_ready (rs := [8]) (by kernel_rfl) (by simp) ?_
        refine AllReadyH.cons rfl (fun K hK => ?_) AllReadyH.nil
        refine step_append_row rfl (.tmp 29) (.tmp 30) 33 rfl w1.heap.size 56 i1 (.agg #[.int .i64 0, .int .i64 0, .int .i64 0, .int .i64 0, .int .i64 0, .int .i64 0, .int .i64 0, .int .i64 0, .int .i64 0, .int .i64 0, .int .i64 0, .int .i64 0]) 12 96 Try.underlying33 gi gz0 gz1 gz2 rfl (by decide) v3 (q + 1) _ rfl r3 _ 0 (ppcells (xs.drop (q + 1))) rfl ((kb.out _).keep b3) (ppcells_one _) (by omega) (by omega) b3.size ?_
        intro v4 w4 r4 b4
        have b4' : Below w1.heap.size w1 w4 := b3.trans b4
        refine hK.out _ _ ?_ (fun hHeld => ?_)
        · exact bKeeps (bAll b1 b4') B0.out
        clear hK K
        refine wpAnyH_take (i := 9) (v := ?v18) rfl (by kernel_rfl) (by kernel_rfl) (by kernel_rfl) (fun _ _ _ h => h) (Or.inl ⟨by rfl, ?hy18⟩) (by assumption) ?rest18
        case hy18 => ((intro w hSw; (try dsimp only at hSw); (try simp only [List.getElem_toArray, List.getElem_cons_zero, List.getElem_cons_succ]); go_simp; first | done | (with_reducible rfl)))
        simp only [Act.put, List.getElem_toArray, List.getElem_cons_zero, List.getElem_cons_succ, List.setIfInBounds_toArray, List.set_cons_zero, List.set_cons_succ]
        refine wpAnyH_done (by kernel_rfl) ?_ _
        refine NoPanic.normal ?_
        go_wp2
        go_ret
        exact ⟨_, rfl, owns_insV r4 hw1 hI.out, bAll hal (bAll b1 b4')⟩
    · have kb : Hid (∀ c', RowR w1 12 (.slice (some ⟨bb, oo + q * 12 + 12, none⟩) (n - q - 1) c') (n - q - 1) (ppcells (xs.drop (q + 1)))) := by
        show ∀ c', RowR _ _ _ _ _
        intro c'
        have := kb0.out c'
        rwa [Nat.add_mul, Nat.one_mul, ← Nat.add_assoc, ← Nat.sub_sub] at this
      rw [← Nat.sub_sub] at hI
      clear kb0
      go_wp2
      refine wp_region_noPanic ?_
      refine wp_region_held_drew (S := (fun w' => w'.heap[w.heap.size]? = some (.cells (pparr (s, b, x)) 56 (0, 0)))) (by kernel_rfl) ?_ (fun hHeld => ?_)
      · exact bKeeps (bAll b1 (bDrew1 _)) B0.out
      refine wpAnyH_take (i := 0) (v := ?v19) rfl (by kernel_rfl) (by kernel_rfl) (by kernel_rfl) (fun _ _ _ h => h) (Or.inl ⟨by rfl, ?hy19⟩) (by assumption) ?rest19
      case hy19 => ((intro w hSw; (try dsimp only at hSw); (try simp only [List.getElem_toArray, List.getElem_cons_zero]); go_simp; first | done | (with_reducible rfl)))
      simp only [Act.put, List.getElem_toArray, List.getElem_cons_zero, List.setIfInBounds_toArray, List.set_cons_zero, List.set_cons_succ]
      refine wpAnyH_take (i := 1) (v := ?v20) rfl (by kernel_rfl) (by kernel_rfl) (by kernel_rfl) (fun _ _ _ h => h) (Or.inl ⟨by rfl, ?hy20⟩) (by assumption) ?rest20
      case hy20 => ((intro w hSw; (try dsimp only at hSw); (try simp only [List.getElem_toArray, List.getElem_cons_zero, List.getElem_cons_succ]); go_simp; first | done | (with_reducible rfl)))
      simp only [Act.put, List.getElem_toArray, List.getElem_cons_zero, List.getElem_cons_succ, List.setIfInBounds_toArray, List.set_cons_zero, List.set_cons_succ]
      refine wpAnyH_take (i := 2) (v := ?v21) rfl (by kernel_rfl) (by kernel_rfl) (by kernel_rfl) (fun _ _ _ h => h) (Or.inl ⟨by rfl, ?hy21⟩) (by assumption) ?rest21
      case hy21 => ((intro w hSw; (try dsimp only at hSw); (try simp only [List.getElem_toArray, List.getElem_cons_zero, List.getElem_cons_succ]); go_simp; first | done | (with_reducible rfl)))
      simp only [Act.put, List.getElem_toArray, List.getElem_cons_zero, List.getElem_cons_succ, List.setIfInBounds_toArray, List.set_cons_zero, List.set_cons_succ]
      refine wpAnyH_take (i := 4) (v := .agg (#[.int .i64 s, .int .i64 b, .int .i64 x.c0, .int .i64 x.c1, .int .i64 x.c2, .int .i64 x.c3, .int .i64 x.c4, .int .i64 x.c5, .int .i64 x.c6, .int .i64 x.c7, .int .i64 x.c8, .int .i64 x.c9] : Array Value)) rfl (by kernel_rfl) (by kernel_rfl) (by kernel_rfl) (fun _ _ _ h => h) (yields_row rfl 56 (.tmp 4) rfl (w.heap.size) rfl _ (#[.int .i64 s, .int .i64 b, .int .i64 x.c0, .int .i64 x.c1, .int .i64 x.c2, .int .i64 x.c3, .int .i64 x.c4, .int .i64 x.c5, .int .i64 x.c6, .int .i64 x.c7, .int .i64 x.c8, .int .i64 x.c9] : Array Value) _ (fun _ h => h) Try.underlying56 rfl infoPpS) (by assumption) ?_
      simp only [Act.put, List.getElem_toArray, List.getElem_cons_zero, List.getElem_cons_succ, List.setIfInBounds_toArray, List.set_cons_zero, List.set_cons_succ]
      refine wpAnyH_take (i := 7) (v := ?v22) rfl (by kernel_rfl) (by kernel_rfl) (by kernel_rfl) (fun _ _ _ h => h) (Or.inl ⟨by rfl, ?hy22⟩) (by assumption) ?rest22
      case hy22 => ((intro w hSw; (try dsimp only at hSw); (try simp only [List.getElem_toArray, List.getElem_cons_zero, List.getElem_cons_succ]); go_simp; first | done | (with_reducible rfl)))
      simp only [Act.put, List.getElem_toArray, List.getElem_cons_zero, List.getElem_cons_succ, List.setIfInBounds_toArray, List.set_cons_zero, List.set_cons_succ]
      refine wpAnyH_ready (rs := [3, 5]) (by kernel_rfl) (by simp) ?_
      refine AllReadyH.cons rfl (fun K hK => ?_) (AllReadyH.cons rfl (fun K hK => ?_) AllReadyH.nil)
      · go_simp
        (go_at_call 54; refine (copyV_any _ q (ppcells (xs.take q)) _ ((kt.out _).keep (bDrew1 _)) (ppcells_one _) (by omega)).mono ?_; rintro e w2 ⟨v2, rfl, r2, b2⟩; have b2' : Below w1.heap.size w1 w2 := bAll (bDrew1 _) b2)
        refine hK.out _ _ ?_ (fun hHeld => ?_)
        · exact bKeeps (bAll b1 b2') B0.out
        clear hK K
        refine wpAnyH_ready (rs := [5]) (by kernel_rfl) (by simp) ?_
        refine AllReadyH.cons rfl (fun K hK => ?_) AllReadyH.nil
        go_simp
        refine hK.out _ _ ?_ (fun hHeld => ?_)
        · exact bKeeps (bAll b1 (bAlloc b2' _)) B0.out
        clear hK K
        refine wpAnyH_ready (rs := [6]) (by kernel_rfl) (by simp) ?_
        refine AllReadyH.cons rfl (fun K hK => ?_) AllReadyH.nil
        refine step_appendA rfl (.tmp 26) (.tmp 28) 33 rfl w1.heap.size 56 i1 (.agg #[.int .i64 0, .int .i64 0, .int .i64 0, .int .i64 0, .int .i64 0, .int .i64 0, .int .i64 0, .int .i64 0, .int .i64 0, .int .i64 0, .int .i64 0, .int .i64 0]) 12 96 Try.underlying33 gi gz0 gz1 gz2 rfl (by decide) v2 q (ppcells (xs.take q)) rfl (RowA.keepB (.inl r2) (bAlloc (Below.refl _ _) _)) ⟨w2.heap.size, 0, none⟩ 1 1 (ppcell (s, b, x)) rfl rfl (newV_cells w2 (s, b, x) _) (ppcell_one _) (by decide) (by unfold maxLen; omega) (by omega) (bAlloc b2' _).size ?_
        intro v3 w3 r3 u3
        have b3 : Below w1.heap.size w1 w3 := bAll3 (bAlloc b2' _) u3
        refine hK.out _ _ ?_ (fun hHeld => ?_)
        · exact bKeeps (bAll b1 b3) B0.out
        clear hK K
        refine wpAnyH_ready (rs := [8]) (by kernel_rfl) (by simp) ?_
        refine AllReadyH.cons rfl (fun K hK => ?_) AllReadyH.nil
        refine step_append_row rfl (.tmp 29) (.tmp 30) 33 rfl w1.heap.size 56 i1 (.agg #[.int .i64 0, .int .i64 0, .int .i64 0, .int .i64 0, .int .i64 0, .int .i64 0, .int .i64 0, .int .i64 0, .int .i64 0, .int .i64 0, .int .i64 0, .int .i64 0]) 12 96 Try.underlying33 gi gz0 gz1 gz2 rfl (by decide) v3 (q + 1) _ rfl r3 _ (n - q - 1) (ppcells (xs.drop (q + 1))) rfl ((kb.out _).keep b3) (ppcells_one _) (by omega) (by omega) b3.size ?_
        intro v4 w4 r4 b4
        have b4' : Below w1.heap.size w1 w4 := b3.trans b4
        refine hK.out _ _ ?_ (fun hHeld => ?_)
        · exact bKeeps (bAll b1 b4') B0.out
        clear hK K
        refine wpAnyH_take (i := 9) (v := ?v23) rfl (by kernel_rfl) (by kernel_rfl) (by kernel_rfl) (fun _ _ _ h => h) (Or.inl ⟨by rfl, ?hy23⟩) (by assumption) ?rest23
        case hy23 => ((intro w hSw; (try dsimp only at hSw); (try simp only [List.getElem_toArray, List.getElem_cons_zero, List.getElem_cons_succ]); go_simp; first | done | (with_reducible rfl)))
        simp only [Act.put, List.getElem_toArray, List.getElem_cons_zero, List.getElem_cons_succ, List.setIfInBounds_toArray, List.set_cons_zero, List.set_cons_succ]
        refine wpAnyH_done (by kernel_rfl) ?_ _
        refine NoPanic.normal ?_
        go_wp2
        go_ret
        exact ⟨_, rfl, owns_insV r4 hw1 hI.out, bAll hal (bAll b1 b4')⟩
      · go_simp
        refine hK.out _ _ ?_ (fun hHeld => ?_)
        · exact bKeeps (bAll b1 (bAlloc (bDrew1 _) _)) B0.out
        clear hK K
        refine wpAnyH_ready (rs := [3]) (by kernel_rfl) (by simp) ?_
        refine AllReadyH.cons rfl (fun K hK => ?_) AllReadyH.nil
        go_simp
        (go_at_call 54; refine (copyV_any _ q (ppcells (xs.take q)) _ ((kt.out _).keep (bAlloc (bDrew1 _) _)) (ppcells_one _) (by omega)).mono ?_; rintro e w2 ⟨v2, rfl, r2, b2⟩; have b2' : Below w1.heap.size w1 w2 := bAll (bAlloc (bDrew1 _) _) b2)
        refine hK.out _ _ ?_ (fun hHeld => ?_)
        · exact bKeeps (bAll b1 b2') B0.out
        clear hK K
        refine wpAnyH_ready (rs := [6]) (by kernel_rfl) (by simp) ?_
        refine AllReadyH.cons rfl (fun K hK => ?_) AllReadyH.nil
        refine step_appendA rfl (.tmp 26) (.tmp 28) 33 rfl w1.heap.size 56 i1 (.agg #[.int .i64 0, .int .i64 0, .int .i64 0, .int .i64 0, .int .i64 0, .int .i64 0, .int .i64 0, .int .i64 0, .int .i64 0, .int .i64 0, .int .i64 0, .int .i64 0]) 12 96 Try.underlying33 gi gz0 gz1 gz2 rfl (by decide) v2 q (ppcells (xs.take q)) rfl (RowA.mono (.inl r2) (by simp)) ⟨w1.heap.size, 0, none⟩ 1 1 (ppcell (s, b, x)) rfl rfl (newV_later w1.drew (s, b, x) _ b2) (ppcell_one _) (by decide) (by unfold maxLen; omega) (by omega) (b2').size ?_
        intro v3 w3 r3 u3
        have b3 : Below w1.heap.size w1 w3 := bAll3 (b2') u3
        refine hK.out _ _ ?_ (fun hHeld => ?_)
        · exact bKeeps (bAll b1 b3) B0.out
        clear hK K
        refine wpAnyH_ready (rs := [8]) (by kernel_rfl) (by simp) ?_
        refine AllReadyH.cons rfl (fun K hK => ?_) AllReadyH.nil
        refine step_append_row rfl (.tmp 29) (.tmp 30) 33 rfl w1.heap.size 56 i1 (.agg #[.int .i64 0, .int .i64 0, .int .i64 0, .int .i64 0, .int .i64 0, .int .i64 0, .int .i64 0, .int .i64 0, .int .i64 0, .int .i64 0, .int .i64 0, .int .i64 0]) 12 96 Try.underlying33 gi gz0 gz1 gz2 rfl (by decide) v3 (q + 1) _ rfl r3 _ (n - q - 1) (ppcells (xs.drop (q + 1))) rfl ((kb.out _).keep b3) (ppcells_one _) (by omega) (by omega) b3.size ?_
        intro v4 w4 r4 b4
        have b4' : Below w1.heap.size w1 w4 := b3.trans b4
        refine hK.out _ _ ?_ (fun hHeld => ?_)
        · exact bKeeps (bAll b1 b4') B0.out
        clear hK K
        refine wpAnyH_take (i := 9) (v := ?v24) rfl (by kernel_rfl) (by kernel_rfl) (by kernel_rfl) (fun _ _ _ h => h) (Or.inl ⟨by rfl, ?hy24⟩) (by assumption) ?rest24
        case hy24 => ((intro w hSw; (try dsimp only at hSw); (try simp only [List.getElem_toArray, List.getElem_cons_zero, List.getElem_cons_succ]); go_simp; first | done | (with_reducible rfl)))
        simp only [Act.put, List.getElem_toArray, List.getElem_cons_zero, List.getElem_cons_succ, List.setIfInBounds_toArray, List.set_cons_zero, List.set_cons_succ]
        refine wpAnyH_done (by kernel_rfl) ?_ _
        refine NoPanic.normal ?_
        go_wp2
        go_ret
        exact ⟨_, rfl, owns_insV r4 hw1 hI.out, bAll hal (bAll b1 b4')⟩

end Go.Proofs.Ytiigcokbmggdkaa

/- How a paper is put into papers, as plain lists: plain facts; no statement of the seat is proved here. -/
namespace Go.Proofs.Ytiigcokbmggdkaa

/-- What the specification's put has of the papers ahead: those, if none is of the slot or behind it; else with the paper in its place. -/
def PutV (p : Pp) (ys out : List Pp) (done : Bool) : Prop :=
  (done = false ∧ (∀ y ∈ ys, y.1 < p.1) ∧ out = ys) ∨ (done = true ∧ (∃ z ∈ ys, p.1 ≤ z.1) ∧ out = insL ordV ys p)

theorem insV_lo {p : Pp} {ys : List Pp} (h : ∀ y ∈ ys, y.1 < p.1) : insL ordV ys p = ys ++ [p] := by
  have h1 := filter_lo (ord := ordV) (xs := ys) (x := p) (fun y hy => cmpI_neg.2 (h y hy))
  simp only [insL, h1.1, h1.2]
theorem insV_snoc {p y : Pp} {ys : List Pp} (h : p.1 < y.1) : insL ordV (ys ++ [y]) p = insL ordV ys p ++ [y] := by
  have a1 : ¬ ordV y p < 0 := by simp only [ordV, cmpI_neg]; omega
  have a2 : 0 < ordV y p := cmpI_pos.2 h
  simp [insL, a1, a2]
theorem insV_same {p y : Pp} {ys : List Pp} (h : y.1 = p.1) : insL ordV (ys ++ [y]) p = insL ordV ys p := by
  have a1 : ¬ ordV y p < 0 := by simp only [ordV, cmpI_neg]; omega
  have a2 : ¬ 0 < ordV y p := by simp only [ordV, cmpI_pos]; omega
  simp [insL, a1, a2]

theorem putV_start (p : Pp) : PutV p [] [] false := .inl ⟨rfl, by simp, rfl⟩
theorem putV_lo {p y : Pp} {ys out : List Pp} (h : PutV p ys out false) (hy : y.1 < p.1) : PutV p (ys ++ [y]) (out ++ [y]) false := by
  rcases h with ⟨-, h1, rfl⟩ | ⟨h, -⟩
  · refine .inl ⟨rfl, fun z hz => ?_, rfl⟩
    rcases List.mem_append.1 hz with hz | hz
    · exact h1 z hz
    · rw [List.mem_singleton.1 hz]; exact hy
  · cases h
theorem putV_hit {p y : Pp} {ys out : List Pp} (h : PutV p ys out false) (hy : y.1 = p.1) : PutV p (ys ++ [y]) (out ++ [p]) true := by
  rcases h with ⟨-, h1, rfl⟩ | ⟨h, -⟩
  · exact .inr ⟨rfl, ⟨y, by simp, by omega⟩, by rw [insV_same hy, insV_lo h1]⟩
  · cases h
theorem putV_over {p y : Pp} {ys out : List Pp} (h : PutV p ys out false) (hy : p.1 < y.1) : PutV p (ys ++ [y]) (out ++ [p] ++ [y]) true := by
  rcases h with ⟨-, h1, rfl⟩ | ⟨h, -⟩
  · exact .inr ⟨rfl, ⟨y, by simp, by omega⟩, by rw [insV_snoc hy, insV_lo h1]⟩
  · cases h
theorem putV_done {p y : Pp} {ys out : List Pp} (hs : Asc ordV (ys ++ [y])) (h : PutV p ys out true) : p.1 < y.1 ∧ PutV p (ys ++ [y]) (out ++ [y]) true := by
  rcases h with ⟨h, -⟩ | ⟨-, ⟨z, hz, hzp⟩, rfl⟩
  · cases h
  · have h1 : ordV z y < 0 := by
      have := List.pairwise_append.1 hs
      exact this.2.2 z hz y (by simp)
    have h2 : z.1 < y.1 := cmpI_neg.1 h1
    have h3 : p.1 < y.1 := by omega
    exact ⟨h3, .inr ⟨rfl, ⟨z, by simp [hz], hzp⟩, by rw [insV_snoc h3]⟩⟩
theorem putV_end {p : Pp} {ys out : List Pp} {done : Bool} (h : PutV p ys out done) : (if done = false then out ++ [p] else out) = insL ordV ys p := by
  rcases h with ⟨rfl, h1, rfl⟩ | ⟨rfl, -, rfl⟩
  · simp [insV_lo h1]
  · simp
theorem putV_len {p : Pp} {ys out : List Pp} {done : Bool} (h : PutV p ys out done) : out.length ≤ ys.length + 1 := by
  rcases h with ⟨-, -, rfl⟩ | ⟨-, -, rfl⟩
  · omega
  · exact ins_len ys p

end Go.Proofs.Ytiigcokbmggdkaa

/- What SecPut of the specification does: a contract; no statement of the seat is proved here. -/
namespace Go.Proofs.Ytiigcokbmggdkaa
open Go.RowKit

/-- Whether a write may wait. -/
def putB (kept : List ByteArray) (wait : List (Int × ByteArray)) (a : Int) (s : ByteArray) : Bool := okB kept wait && (writeOkB kept.length (a, s) && decide (wait.length < 600))
/-- What is kept, and what waits, behind a write. -/
def putK (kept : List ByteArray) (wait : List (Int × ByteArray)) : List ByteArray := if okB kept wait = true then kept else []
def putW (kept : List ByteArray) (wait : List (Int × ByteArray)) (a : Int) (s : ByteArray) : List (Int × ByteArray) :=
  if okB kept wait = true then (if putB kept wait a s = true then wait ++ [(a, s)] else wait) else []

theorem typed_box {w W : World} {S : Nat → Prop} {e t : TypeId} {B : Nat} {xs : Array Value} (h : w.heap[B]? = some (.cells xs t (0, 0))) (he : t ≠ e) (hW : W.heap[B]? = w.heap[B]?) : ¬ typed W S e B := by
  rintro ⟨_, c, hc⟩
  rw [hW, h] at hc
  simp at hc
  exact he hc.2

end Go.Proofs.Ytiigcokbmggdkaa

/- All numbers of a word, as the specification lists them: a contract; no statement of the seat is proved here. -/
namespace Go.Proofs.Ytiigcokbmggdkaa
open Go.RowKit

def intsV (xs : List Int) : List Value := xs.map (Value.int .i64)
theorem RowA.base {w : World} {b b' : Nat} {e : TypeId} {size : Nat} {v : Value} {n : Nat} {cs : List Value} (h : RowA w b e size v n cs) (hb : b' ≤ b) : RowA w b' e size v n cs := by
  rcases h with h | h
  · exact .inl ⟨h.1, h.2.imp id (fun ⟨g, cap, cur, e, hg, rest⟩ => ⟨g, cap, cur, e, Nat.le_trans hb hg, rest⟩)⟩
  · exact .inr h
theorem updCell {S : Nat → Prop} {w w' : World} {b o : Nat} {v : Value} (u : Upd S w w') (h : w.cell? ⟨b, o, none⟩ = some v) (hS : ¬ S b) : w'.cell? ⟨b, o, none⟩ = some v :=
  (World.cell?_of_block (a := ⟨b, o, none⟩) (u.block b (World.block_lt_of_cell? w _ h) hS)).trans h

theorem wp_appendA {P : Program} {o : Oper} {a : Act} {w : World} {K : Act → World → Prop} {Q : Exit → Act → World → Prop}
    (s x : Operand) (t : TypeId) (ho : o.op = Op.call { callee := Callee.builtin Builtin.append, args := #[s, x], argTypes := #[t, t] })
    (base : Nat) (e : TypeId) (i : TypeInfo) (z : Value) (size bytes : Nat) (ht : P.underlying t = some (.slice e)) (hi : P.info? e = some i) (hz : i.zero = some z)
    (hsize : i.size = size) (hby : i.bytes = bytes) (hzs : z.cells.size = size) (hsz : 0 < size)
    (v : Value) (n : Nat) (xs : List Value) (hs : a.eval s = v) (hown : RowA w base e size v n xs)
    (ad : Addr) (m c : Nat) (news : List Value) (hx : a.eval x = .slice (some ad) m c) (hl : news.length = m * size) (hnews : ∀ j u, news[j]? = some u → w.cell? (ad.add j) = some u) (h1 : ∀ u ∈ news, u.oneCell' = true)
    (hm : 0 < m) (h63 : n + m ≤ maxLen) (hbytes : (n + m) * bytes ≤ 140737488355328) (hbase : base ≤ w.heap.size)
    (hK : ∀ v' w', w'.ownsRow base e size v' (n + m) (xs ++ news) → Upd (typed w (fun k => base ≤ k) e) w w' → K (a.put o.dst v') w') : Oper.wp P o a w K Q := by
  obtain ⟨v', w', hrun, r1, r2⟩ := run_appendA (P := P) (w := w) base t o.type e i z size bytes ht hi hz hsize hby hzs hsz v n xs hown ad m c news hl hnews h1 hm h63 hbytes hbase
  unfold Oper.wp
  simp [execOp, ho, resolve, invoke, builtin, hs, hx, hrun, Result.andThen]
  exact hK v' w' r1 r2

end Go.Proofs.Ytiigcokbmggdkaa
