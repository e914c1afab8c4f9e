/- Contracts and plain facts that this claim leans on (texts FW4); no statement of the seat is proved here. -/
import Derived.Test.YteddhdbglciahaaLk11
import Derived.Test.YteddhdbglciahaaLk8

/- SynSeek of the specification: a contract; no statement of the seat is proved here. (Written by wip/tools/mkseek.py.) -/
namespace Go.Proofs.Yteddhdbglciahaa
open Go.RowKit

/-- May one begin to seek; the seeker then, and its words. -/
def seekI (me round slot : Int) (m : Wd) : Bool := inI me 0 4 && (inI round 1 12498 && (inI slot 1 60 && cmdI m))
def begK (me round slot : Int) (m : Wd) : Sk := ⟨slot, round * 8 + me, 1, m, (0, 0, zeroW), []⟩
def askW (me b slot : Int) : Wd := { zeroW with a0 := 1, a1 := me, a3 := b, a4 := slot }
def seekK (me round slot : Int) (m : Wd) : Sk := if seekI me round slot m = true then begK me round slot m else zeroK
def seekL (me round slot : Int) (m : Wd) : List Wd := if seekI me round slot m = true then allTo (askW me (round * 8 + me) slot) 3 else []
theorem seekK_ys (me round slot : Int) (m : Wd) : (seekK me round slot m).ys = [] := by
  unfold seekK
  split <;> rfl
/-- What SynSeek gives: a seeker's cells, and words in memory of their own. -/
def SeekO (w w' : World) (L : List Wd) (v' : Value) : Prop := Row w' 47 26 (fun j => w.heap.size ≤ j) v' L.length (fwcells L) ∧ Below w.heap.size w w'

theorem builtSk0 : Try.prog.built 39 [] = some (skarr zeroK (.slice none 0 0)) := by kernel_rfl
theorem wpList_builtSk0 {ops : Array Oper} {rest : List Oper} {o : Oper} {a : Act} {w : World} {Q : Exit → Act → World → Prop} (hg : o.guard = none) (parts : Array (Nat × Operand)) (ho : o.op = .build 39 parts)
    (hp : (parts.map fun (i, x) => (i, a.eval x)).toList = [])
    (h : wpList Try.prog ops Q rest (a.put o.dst (.agg (skarr zeroK (.slice none 0 0)))) w) : wpList Try.prog ops Q (o :: rest) a w :=
  wpList_build hg 39 parts ho (by rw [hp, builtSk0]; rfl) (by rw [hp, builtSk0]; exact h)
theorem builtSk (s b : Int) (m : Wd) : Try.prog.built 39 [(0, .int .i64 s), (1, .int .i64 b), (2, .int .i64 1), (3, .agg #[.int .i64 m.c0, .int .i64 m.c1, .int .i64 m.c2, .int .i64 m.c3, .int .i64 m.c4, .int .i64 m.c5, .int .i64 m.c6, .int .i64 m.c7, .int .i64 m.c8, .int .i64 m.c9])] = some (skarr ⟨s, b, 1, m, (0, 0, zeroW), []⟩ (.slice none 0 0)) := by kernel_rfl
theorem builtAsk1 (me b s : Int) : Try.prog.built 47 [(0, .int .i64 1), (1, .int .i64 me), (3, .int .i64 b), (4, .int .i64 s)] = some (fwarr (askW me b s)) := by kernel_rfl
set_option maxRecDepth 100000 in
set_option maxHeartbeats 8000000 in
theorem specSynSeek_any (me round slot : Int) (m : Wd) (w : World) :
    Calls Try.prog 116 #[.int .i64 me, .int .i64 round, .int .i64 slot, .agg #[.int .i64 m.c0, .int .i64 m.c1, .int .i64 m.c2, .int .i64 m.c3, .int .i64 m.c4, .int .i64 m.c5, .int .i64 m.c6, .int .i64 m.c7, .int .i64 m.c8, .int .i64 m.c9] ] w fun e w' => ∃ v', e = .returned (.tuple #[.agg (skarr (seekK me round slot m) (.slice none 0 0)), v']) ∧ SeekO w w' (seekL me round slot m) v' := by
  obtain ⟨K, hK⟩ : ∃ K, seekK me round slot m = K := ⟨_, rfl⟩
  obtain ⟨L, hL⟩ : ∃ L, seekL me round slot m = L := ⟨_, rfl⟩
  rw [hK, hL]
  have HK := hide hK
  have HL := hide hL
  obtain ⟨i1, hi1⟩ : ∃ j, inI me 0 4 = j := ⟨_, rfl⟩
  obtain ⟨i2, hi2⟩ : ∃ j, inI round 1 12498 = j := ⟨_, rfl⟩
  obtain ⟨i3, hi3⟩ : ∃ j, inI slot 1 60 = j := ⟨_, rfl⟩
  obtain ⟨i4, hi4⟩ : ∃ j, cmdI m = j := ⟨_, rfl⟩
  have c1 := fun V => l6In_inI me 0 4 V
  have c2 := fun V => l6In_inI round 1 12498 V
  have c3 := fun V => l6In_inI slot 1 60 V
  have c4 := fun V => l11CmdOk_any m V
  rw [hi1] at c1
  rw [hi2] at c2
  rw [hi3] at c3
  rw [hi4] at c4
  have HI : Hid (seekI me round slot m = (i1 && (i2 && (i3 && i4)))) := by show _ = _; rw [seekI, hi1, hi2, hi3, hi4]
  have H1 := hide hi1
  have H2 := hide hi2
  clear hK hL hi1 hi2 hi3 hi4
  go_enter Try.func116, Try.ntmps116
  go_upto_region 1 with fail
  generalize hW : World.alloc _ _ = W
  have al : Below w.heap.size w W := by rw [← hW]; exact bal (bal (Below.refl _ _) _) _
  have B0 : Hid (W.heap[w.heap.size]? = some (.cells #[.int .i64 m.c0, .int .i64 m.c1, .int .i64 m.c2, .int .i64 m.c3, .int .i64 m.c4, .int .i64 m.c5, .int .i64 m.c6, .int .i64 m.c7, .int .i64 m.c8, .int .i64 m.c9] 35 (0, 0))) := by show _ = _; rw [← hW]; exact al2_0 w _ _
  have B1 : Hid (W.heap[w.heap.size + 1]? = some (.cells (skarr zeroK (.slice none 0 0)) 39 (0, 0))) := by show _ = _; rw [← hW]; exact al2_1 w _ _
  clear hW
  go_wp2_with fail
  refine (c1 _).mono ?_
  rintro e V1 ⟨rfl, rfl⟩
  cases i1
  · have hb := B1
    have cw : Below w.heap.size w V1 := al
    have ek : K = zeroK := by rw [← HK.out, seekK, HI.out]; simp
    have el : L = [] := by rw [← HL.out, seekL, HI.out]; simp
    have ek := hide ek
    have el := hide el
    clear HK HL HI
    have al9 := bal (Below.refl V1.heap.size V1) (.cells #[] 47)
    have hb9 := hide (bKeeps al9 hb.out)
    have zV := al9.size
    go_wp2_with (first
      | (refine wpList_builtSk0 rfl _ rfl ?hp ?_; (case hp => rfl))
      | (refine wpList_store_row rfl 39 (.tmp 8) (.tmp 29) rfl (w.heap.size + 1) (skarr zeroK (.slice none 0 0)) rfl rfl _ _ hb9.out infoSk (show (26 : Nat) = 26 from rfl) (skarr_one _ _ _ _) ?_))
    have s8 := updRow (V1.alloc (.cells #[] 47)) (w.heap.size + 1) (skarr zeroK (.slice none 0 0))
    refine bodyPost_ret (v := .tuple #[.agg (skarr zeroK (.slice none 0 0)), .slice (some ⟨V1.heap.size, 0, none⟩) 0 0]) (results_row_tmp Try.results116 _ _ (w.heap.size + 1) _ _ (0, 0) _ _ rfl rfl (setRow_heap _ _ _ _ _ _ hb9.out) Try.underlying39 rfl infoSk) rfl ?_
    exact ⟨_, by rw [ek.out], by rw [el.out]; exact ⟨_, _, rfl, by simp, rfl, fun h => by simp at h⟩, (bAll cw al9).trans (s8.below (bAll cw al9).size (fun j h => by omega))⟩
  go_wp2_with fail
  refine (c2 _).mono ?_
  rintro e V2 ⟨rfl, rfl⟩
  cases i2
  · have hb := B1
    have cw : Below w.heap.size w V2 := al
    have ek : K = zeroK := by rw [← HK.out, seekK, HI.out]; simp
    have el : L = [] := by rw [← HL.out, seekL, HI.out]; simp
    have ek := hide ek
    have el := hide el
    clear HK HL HI
    have al9 := bal (Below.refl V2.heap.size V2) (.cells #[] 47)
    have hb9 := hide (bKeeps al9 hb.out)
    have zV := al9.size
    go_wp2_with (first
      | (refine wpList_builtSk0 rfl _ rfl ?hp ?_; (case hp => rfl))
      | (refine wpList_store_row rfl 39 (.tmp 8) (.tmp 29) rfl (w.heap.size + 1) (skarr zeroK (.slice none 0 0)) rfl rfl _ _ hb9.out infoSk (show (26 : Nat) = 26 from rfl) (skarr_one _ _ _ _) ?_))
    have s8 := updRow (V2.alloc (.cells #[] 47)) (w.heap.size + 1) (skarr zeroK (.slice none 0 0))
    refine bodyPost_ret (v := .tuple #[.agg (skarr zeroK (.slice none 0 0)), .slice (some ⟨V2.heap.size, 0, none⟩) 0 0]) (results_row_tmp Try.results116 _ _ (w.heap.size + 1) _ _ (0, 0) _ _ rfl rfl (setRow_heap _ _ _ _ _ _ hb9.out) Try.underlying39 rfl infoSk) rfl ?_
    exact ⟨_, by rw [ek.out], by rw [el.out]; exact ⟨_, _, rfl, by simp, rfl, fun h => by simp at h⟩, (bAll cw al9).trans (s8.below (bAll cw al9).size (fun j h => by omega))⟩
  go_wp2_with fail
  refine (c3 _).mono ?_
  rintro e V3 ⟨rfl, rfl⟩
  cases i3
  · have hb := B1
    have cw : Below w.heap.size w V3 := al
    have ek : K = zeroK := by rw [← HK.out, seekK, HI.out]; simp
    have el : L = [] := by rw [← HL.out, seekL, HI.out]; simp
    have ek := hide ek
    have el := hide el
    clear HK HL HI
    have al9 := bal (Below.refl V3.heap.size V3) (.cells #[] 47)
    have hb9 := hide (bKeeps al9 hb.out)
    have zV := al9.size
    go_wp2_with (first
      | (refine wpList_builtSk0 rfl _ rfl ?hp ?_; (case hp => rfl))
      | (refine wpList_store_row rfl 39 (.tmp 8) (.tmp 29) rfl (w.heap.size + 1) (skarr zeroK (.slice none 0 0)) rfl rfl _ _ hb9.out infoSk (show (26 : Nat) = 26 from rfl) (skarr_one _ _ _ _) ?_))
    have s8 := updRow (V3.alloc (.cells #[] 47)) (w.heap.size + 1) (skarr zeroK (.slice none 0 0))
    refine bodyPost_ret (v := .tuple #[.agg (skarr zeroK (.slice none 0 0)), .slice (some ⟨V3.heap.size, 0, none⟩) 0 0]) (results_row_tmp Try.results116 _ _ (w.heap.size + 1) _ _ (0, 0) _ _ rfl rfl (setRow_heap _ _ _ _ _ _ hb9.out) Try.underlying39 rfl infoSk) rfl ?_
    exact ⟨_, by rw [ek.out], by rw [el.out]; exact ⟨_, _, rfl, by simp, rfl, fun h => by simp at h⟩, (bAll cw al9).trans (s8.below (bAll cw al9).size (fun j h => by omega))⟩
  go_wp2_with (refine wpList_load_rowG (by rfl) 35 (.tmp 7) rfl w.heap.size rfl _ #[.int .i64 m.c0, .int .i64 m.c1, .int .i64 m.c2, .int .i64 m.c3, .int .i64 m.c4, .int .i64 m.c5, .int .i64 m.c6, .int .i64 m.c7, .int .i64 m.c8, .int .i64 m.c9] (0, 0) _ B0.out Try.underlying35 rfl infoCm10 ?_)
  refine (c4 _).mono ?_
  rintro e V4 ⟨rfl, b4⟩
  cases i4
  · have hb := hide (bKeeps b4 B1.out)
    have cw : Below w.heap.size w V4 := bAll al b4
    have ek : K = zeroK := by rw [← HK.out, seekK, HI.out]; simp
    have el : L = [] := by rw [← HL.out, seekL, HI.out]; simp
    have ek := hide ek
    have el := hide el
    clear HK HL HI
    have al9 := bal (Below.refl V4.heap.size V4) (.cells #[] 47)
    have hb9 := hide (bKeeps al9 hb.out)
    have zV := al9.size
    go_wp2_with (first
      | (refine wpList_builtSk0 rfl _ rfl ?hp ?_; (case hp => rfl))
      | (refine wpList_store_row rfl 39 (.tmp 8) (.tmp 29) rfl (w.heap.size + 1) (skarr zeroK (.slice none 0 0)) rfl rfl _ _ hb9.out infoSk (show (26 : Nat) = 26 from rfl) (skarr_one _ _ _ _) ?_))
    have s8 := updRow (V4.alloc (.cells #[] 47)) (w.heap.size + 1) (skarr zeroK (.slice none 0 0))
    refine bodyPost_ret (v := .tuple #[.agg (skarr zeroK (.slice none 0 0)), .slice (some ⟨V4.heap.size, 0, none⟩) 0 0]) (results_row_tmp Try.results116 _ _ (w.heap.size + 1) _ _ (0, 0) _ _ rfl rfl (setRow_heap _ _ _ _ _ _ hb9.out) Try.underlying39 rfl infoSk) rfl ?_
    exact ⟨_, by rw [ek.out], by rw [el.out]; exact ⟨_, _, rfl, by simp, rfl, fun h => by simp at h⟩, (bAll cw al9).trans (s8.below (bAll cw al9).size (fun j h => by omega))⟩
  have h1 := H1.out
  have h2 := H2.out
  simp only [inI, Bool.and_eq_true, decide_eq_true_eq] at h1 h2
  obtain ⟨h1a, h1b⟩ := h1
  obtain ⟨h2a, h2b⟩ := h2
  have ek : K = ⟨slot, round * 8 + me, 1, m, (0, 0, zeroW), []⟩ := by rw [← HK.out, seekK, HI.out]; rfl
  have el : L = allTo (askW me (round * 8 + me) slot) 3 := by rw [← HL.out, seekL, HI.out]; rfl
  clear HK HL HI c1 c2 c3 c4 H1 H2
  have B04 := hide (bKeeps b4 B0.out)
  have B14 := hide (bKeeps b4 B1.out)
  have z4 := b4.size
  have zal := al.size
  go_upto_region 4 with fail
  generalize round * 8 + me = B at ek el ⊢
  have ek := hide ek
  have el := hide el
  have dd := bDrewB (Below.refl V4.heap.size V4)
  have S0 : Hid (∀ V : World, Below V4.heap.size V4 V → V.heap[w.heap.size]? = some (.cells #[.int .i64 m.c0, .int .i64 m.c1, .int .i64 m.c2, .int .i64 m.c3, .int .i64 m.c4, .int .i64 m.c5, .int .i64 m.c6, .int .i64 m.c7, .int .i64 m.c8, .int .i64 m.c9] 35 (0, 0)) ∧ V.heap[w.heap.size + 1]? = some (.cells (skarr zeroK (.slice none 0 0)) 39 (0, 0))) := fun V h => ⟨bKeeps h B04.out, bKeeps h B14.out⟩
  refine wp_region_noPanic ?_
  refine wp_region_held_drew (S := (fun w' => w'.heap[w.heap.size]? = some (.cells #[.int .i64 m.c0, .int .i64 m.c1, .int .i64 m.c2, .int .i64 m.c3, .int .i64 m.c4, .int .i64 m.c5, .int .i64 m.c6, .int .i64 m.c7, .int .i64 m.c8, .int .i64 m.c9] 35 (0, 0)))) (by kernel_rfl) ?_ (fun hHeld => ?_)
  · exact (S0.out _ dd).1
  refine wpAnyH_take (i := 0) (v := ?v1) rfl (by kernel_rfl) (by kernel_rfl) (by kernel_rfl) (fun _ _ _ h => h) (Or.inl ⟨by rfl, ?hy1⟩) (by assumption) ?rest1
  case hy1 => ((intro w hSw; (try dsimp only at hSw); (try simp only [List.getElem_toArray, List.getElem_cons_zero]); go_simp; first | done | (with_reducible rfl)))
  simp only [Act.put, List.getElem_toArray, List.getElem_cons_zero, List.setIfInBounds_toArray, List.set_cons_zero, List.set_cons_succ]
  refine wpAnyH_take (i := 1) (v := ?v2) rfl (by kernel_rfl) (by kernel_rfl) (by kernel_rfl) (fun _ _ _ h => h) (Or.inl ⟨by rfl, ?hy2⟩) (by assumption) ?rest2
  case hy2 => ((intro w hSw; (try dsimp only at hSw); (try simp only [List.getElem_toArray, List.getElem_cons_zero, List.getElem_cons_succ]); go_simp; first | done | (with_reducible rfl)))
  simp only [Act.put, List.getElem_toArray, List.getElem_cons_zero, List.getElem_cons_succ, List.setIfInBounds_toArray, List.set_cons_zero, List.set_cons_succ]
  refine wpAnyH_take (i := 2) (v := .agg #[.int .i64 m.c0, .int .i64 m.c1, .int .i64 m.c2, .int .i64 m.c3, .int .i64 m.c4, .int .i64 m.c5, .int .i64 m.c6, .int .i64 m.c7, .int .i64 m.c8, .int .i64 m.c9]) rfl (by kernel_rfl) (by kernel_rfl) (by kernel_rfl) (fun _ _ _ h => h) (yields_row rfl 35 (.tmp 7) rfl (w.heap.size) rfl _ #[.int .i64 m.c0, .int .i64 m.c1, .int .i64 m.c2, .int .i64 m.c3, .int .i64 m.c4, .int .i64 m.c5, .int .i64 m.c6, .int .i64 m.c7, .int .i64 m.c8, .int .i64 m.c9] _ (fun _ h => h) Try.underlying35 rfl infoCm10) (by assumption) ?_
  simp only [Act.put, List.getElem_toArray, List.getElem_cons_zero, List.getElem_cons_succ, List.setIfInBounds_toArray, List.set_cons_zero, List.set_cons_succ]
  refine wpAnyH_take (i := 3) (v := .agg (skarr ⟨slot, B, 1, m, (0, 0, zeroW), []⟩ (.slice none 0 0))) rfl (by kernel_rfl) (by kernel_rfl) (by kernel_rfl) (fun _ _ _ h => h) (yields_build rfl 39 _ rfl [(0, .int .i64 slot), (1, .int .i64 B), (2, .int .i64 1), (3, .agg #[.int .i64 m.c0, .int .i64 m.c1, .int .i64 m.c2, .int .i64 m.c3, .int .i64 m.c4, .int .i64 m.c5, .int .i64 m.c6, .int .i64 m.c7, .int .i64 m.c8, .int .i64 m.c9])] _ ((by (conv => lhs; simp only [List.map_toArray, List.map_cons, List.map_nil]); rfl)) (builtSk slot B m)) (by assumption) ?_
  simp only [Act.put, List.getElem_toArray, List.getElem_cons_zero, List.getElem_cons_succ, List.setIfInBounds_toArray, List.set_cons_zero, List.set_cons_succ]
  refine wpAnyH_take (i := 4) (v := ?v3) rfl (by kernel_rfl) (by kernel_rfl) (by kernel_rfl) (fun _ _ _ h => h) (Or.inl ⟨by rfl, ?hy3⟩) (by assumption) ?rest3
  case hy3 => ((intro w hSw; (try dsimp only at hSw); (try simp only [List.getElem_toArray, List.getElem_cons_zero, List.getElem_cons_succ]); go_simp; first | done | (with_reducible rfl)))
  simp only [Act.put, List.getElem_toArray, List.getElem_cons_zero, List.getElem_cons_succ, List.setIfInBounds_toArray, List.set_cons_zero, List.set_cons_succ]
  refine wpAnyH_take (i := 5) (v := ?v4) rfl (by kernel_rfl) (by kernel_rfl) (by kernel_rfl) (fun _ _ _ h => h) (Or.inl ⟨by rfl, ?hy4⟩) (by assumption) ?rest4
  case hy4 => ((intro w hSw; (try dsimp only at hSw); (try simp only [List.getElem_toArray, List.getElem_cons_zero, List.getElem_cons_succ]); go_simp; first | done | (with_reducible rfl)))
  simp only [Act.put, List.getElem_toArray, List.getElem_cons_zero, List.getElem_cons_succ, List.setIfInBounds_toArray, List.set_cons_zero, List.set_cons_succ]
  refine wpAnyH_take (i := 6) (v := ?v5) rfl (by kernel_rfl) (by kernel_rfl) (by kernel_rfl) (fun _ _ _ h => h) (Or.inl ⟨by rfl, ?hy5⟩) (by assumption) ?rest5
  case hy5 => ((intro w hSw; (try dsimp only at hSw); (try simp only [List.getElem_toArray, List.getElem_cons_zero, List.getElem_cons_succ]); go_simp; first | done | (with_reducible rfl)))
  simp only [Act.put, List.getElem_toArray, List.getElem_cons_zero, List.getElem_cons_succ, List.setIfInBounds_toArray, List.set_cons_zero, List.set_cons_succ]
  refine wpAnyH_take (i := 7) (v := .agg (fwarr (askW me B slot))) rfl (by kernel_rfl) (by kernel_rfl) (by kernel_rfl) (fun _ _ _ h => h) (yields_build rfl 47 _ rfl [(0, .int .i64 1), (1, .int .i64 me), (3, .int .i64 B), (4, .int .i64 slot)] _ ((by (conv => lhs; simp only [List.map_toArray, List.map_cons, List.map_nil]); rfl)) (builtAsk1 me B slot)) (by assumption) ?_
  simp only [Act.put, List.getElem_toArray, List.getElem_cons_zero, List.getElem_cons_succ, List.setIfInBounds_toArray, List.set_cons_zero, List.set_cons_succ]
  refine wpAnyH_ready (rs := [8]) (by kernel_rfl) (by simp) ?_
  refine AllReadyH.cons rfl (fun K hK => ?_) AllReadyH.nil
  go_simp
  (go_at_call 42; refine (l22All_any (askW me B slot) _).mono ?_; rintro e V5 ⟨v5, rfl, r5, b5⟩; have c5 := bAll dd b5)
  refine hK.out _ _ ?_ (fun hHeld => ?_)
  · exact (S0.out _ c5).1
  clear hK K
  have s8 := updRow V5 (w.heap.size + 1) (skarr ⟨slot, B, 1, m, (0, 0, zeroW), []⟩ (.slice none 0 0))
  have hlt0 := heap_lt B04.out
  have hlt1 := heap_lt B14.out
  have z5 := b5.size
  refine wpAnyH_ready (rs := [9]) (by kernel_rfl) (by simp) ?_
  refine AllReadyH.cons rfl (fun K hK => ?_) AllReadyH.nil
  (refine wp_store_row 39 (.tmp 8) (.tmp 38) rfl (w.heap.size + 1) (skarr ⟨slot, B, 1, m, (0, 0, zeroW), []⟩ (.slice none 0 0)) rfl rfl _ _ (S0.out _ c5).2 infoSk (show (26 : Nat) = 26 from rfl) (skarr_one _ _ _ _) ?_)
  refine hK.out _ _ ?_ (fun hHeld => ?_)
  · exact s8.keeps (S0.out _ c5).1 (by omega)
  clear hK K
  refine wpAnyH_take (i := 10) (v := ?v6) rfl (by kernel_rfl) (by kernel_rfl) (by kernel_rfl) (fun _ _ _ h => h) (Or.inl ⟨by rfl, ?y6⟩) (by assumption) ?r6
  case y6 => (intro w hSw; go_simp; first | done | (with_reducible rfl))
  simp only [Act.put, List.getElem_toArray, List.getElem_cons_zero, List.getElem_cons_succ, List.setIfInBounds_toArray, List.set_cons_zero, List.set_cons_succ]
  refine wpAnyH_done (by kernel_rfl) ?_ _
  refine NoPanic.normal ?_
  clear hHeld
  go_wp2_with fail
  refine bodyPost_ret (v := .tuple #[.agg (skarr ⟨slot, B, 1, m, (0, 0, zeroW), []⟩ (.slice none 0 0)), v5]) (results_row_tmp Try.results116 _ _ (w.heap.size + 1) _ _ (0, 0) _ _ rfl rfl (setRow_heap _ _ _ _ _ _ (S0.out _ c5).2) Try.underlying39 rfl infoSk) rfl ?_
  have z5d : V4.heap.size ≤ V4.drew.heap.size := dd.size
  have cw := bAll (bAll al b4) c5
  refine ⟨_, by rw [ek.out], ?_, cw.trans (s8.below cw.size (fun j h => by omega))⟩
  have r6 := (r5.row (by omega)).keep s8 (fun j h1 h2 => by omega)
  rw [el.out, allTo_len]
  exact r6.mono (fun j _ h => by omega)

end Go.Proofs.Yteddhdbglciahaa
