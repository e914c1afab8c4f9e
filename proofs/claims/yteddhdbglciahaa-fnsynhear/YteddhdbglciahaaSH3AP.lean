/- SynHear of the specification, with the room of the seeker's list: a contract; no statement of the seat is proved here. (Written by wip/tools/mkhearA.py.) -/
import Derived.Test.YteddhdbglciahaaLk13
namespace Go.Proofs.Yteddhdbglciahaa
open Go.RowKit

/-- A seeker whose Yes append may be given. -/
def SkA (w : World) (base : Nat) (v : Value) (k : Sk) : Prop := ∃ yo yc, v = .agg (skarr k (.slice yo k.ys.length yc)) ∧ RowA w base 3 1 (.slice yo k.ys.length yc) k.ys.length (ints k.ys)
theorem SkA.keepB {w w' : World} {base : Nat} {v : Value} {k : Sk} (h : SkA w base v k) (b : Below w.heap.size w w') : SkA w' base v k := by
  obtain ⟨yo, yc, e, h⟩ := h
  exact ⟨yo, yc, e, h.keepB b⟩
theorem SkA.keep {w w' : World} {base : Nat} {T : Nat → Prop} {v : Value} {k : Sk} (h : SkA w base v k) (u : Upd T w w') (hT : ∀ j, base ≤ j → ¬ T j) : SkA w' base v k := by
  obtain ⟨yo, yc, e, h⟩ := h
  exact ⟨yo, yc, e, h.keep u hT⟩
theorem SkA.mono {w : World} {base base' : Nat} {v : Value} {k : Sk} (h : SkA w base v k) (hb : base' ≤ base) : SkA w base' v k := by
  obtain ⟨yo, yc, e, h⟩ := h
  exact ⟨yo, yc, e, h.mono hb⟩
theorem SkA.own {w : World} {base : Nat} {v : Value} {k : Sk} (h : SkA w base v k) (hn : k.ys.length ≤ 9223372036854775807) : SkO w (fun j => base ≤ j) v k := by
  obtain ⟨yo, yc, e, h⟩ := h
  exact ⟨yo, yc, e, h.row hn⟩
/-- What SynHear gives. -/
def HearA (w w' : World) (R : Sk × List Wd × Bool) (v u : Value) : Prop :=
  SkA w' w.heap.size v R.1 ∧ Row w' 47 26 (fun j => w.heap.size ≤ j) u R.2.1.length (fwcells R.2.1) ∧ Below w.heap.size w w'

set_option maxRecDepth 100000 in
set_option maxHeartbeats 32000000 in
theorem specSynHearA_any (v : Value) (k : Sk) (me : Int) (y : Value) (x : Wd) (w : World) (hk : SkR w v k) (hx : WdR w y x) (hn : k.ys.length ≤ 1048576) :
    Calls Try.prog 9 #[v, .int .i64 me, y] w fun e w' => ∃ v' u', e = .returned (.tuple #[v', u', .bool (hearR k me x).2.2]) ∧ HearA w w' (hearR k me x) v' u' := by
  obtain ⟨i1, gi, gz0, gz1, gz2⟩ := info_parts infoInt
  obtain ⟨R, hR⟩ : ∃ R, hearR k me x = R := ⟨_, rfl⟩
  rw [hR]
  have HR := hide hR
  clear hR
  obtain ⟨cs, rfl, hs, h1⟩ := hx.agg
  have HX := hide hx
  have HXC := hide hx.cells
  have HI := hide (infoAt infoWd hs)
  have HKR := hide hk
  obtain ⟨ao, ac, rfl, hr⟩ := hk
  have HRW := hide hr
  clear hx hs h1 hr
  obtain ⟨j1, hj1⟩ : ∃ j, okS k = j := ⟨_, rfl⟩
  obtain ⟨j2, hj2⟩ : ∃ j, (k.ph == 0) = j := ⟨_, rfl⟩
  obtain ⟨j3, hj3⟩ : ∃ j, okW x = j := ⟨_, rfl⟩
  obtain ⟨j4, hj4⟩ : ∃ j, (x.a3 == k.b) = j := ⟨_, rfl⟩
  obtain ⟨j5, hj5⟩ : ∃ j, (x.a4 == k.s) = j := ⟨_, rfl⟩
  obtain ⟨j6, hj6⟩ : ∃ j, inI x.a1 0 2 = j := ⟨_, rfl⟩
  obtain ⟨j7, hj7⟩ : ∃ j, inI me 0 4 = j := ⟨_, rfl⟩
  obtain ⟨j8, hj8⟩ : ∃ j, decide (x.a1 ∈ k.ys) = j := ⟨_, rfl⟩
  have HC : Hid (hearC k me x = (j1 && (!j2 && (j3 && (j4 && (j5 && (j6 && (j7 && !j8)))))))) := by show _ = _; rw [hearC, hj1, hj2, hj3, hj4, hj5, hj6, hj7, hj8]
  have d1 := fun v V h => specSynSeekerOk_any v k V h
  have d3 := fun v V h => specWordOk_any v x V h
  have d6 := fun V => l6In_inI x.a1 0 2 V
  have d7 := fun V => l6In_inI me 0 4 V
  have d8 := fun v V h => l22Has_any v k.ys x.a1 V h
  rw [hj1] at d1
  rw [hj3] at d3
  rw [hj6] at d6
  rw [hj7] at d7
  rw [hj8] at d8
  have H2 := hide hj2
  have H4 := hide hj4
  have H5 := hide hj5
  clear hj1 hj2 hj3 hj4 hj5 hj6 hj7 hj8
  go_enter Try.func9, Try.ntmps9
  go_upto_region 1 with fail
  generalize hW : World.alloc _ _ = W
  have al : Below w.heap.size w W := by rw [← hW]; exact bal (bal (bal (Below.refl _ _) _) _) _
  have A3 : Hid (W.heap[w.heap.size]? = some (.cells (skarr k (.slice ao k.ys.length ac)) 39 (0, 0))) := by show _ = _; rw [← hW]; exact al3_0 w _ _ _
  have A5 : Hid (W.heap[w.heap.size + 1]? = some (.cells cs 47 (0, 0))) := by show _ = _; rw [← hW]; exact al3_1 w _ _ _
  have A6 : Hid (W.heap[w.heap.size + 1 + 1]? = some (.cells (skarr zeroK (.slice none 0 0)) 39 (0, 0))) := by show _ = _; rw [← hW]; exact al3_2 w _ _ _
  have ltW := heap_lt A6.out
  clear hW
  have a1 := bal (Below.refl W.heap.size W) (.cells #[] 47)
  have A3 := hide (bKeeps a1 A3.out)
  have A5 := hide (bKeeps a1 A5.out)
  have A6 := hide (bKeeps a1 A6.out)
  have hsk := HKR.out.keep (bAll al a1)
  go_wp2_with (refine wpList_load_row rfl 39 (.tmp 3) rfl w.heap.size rfl _ (skarr k (.slice ao k.ys.length ac)) (0, 0) _ A3.out Try.underlying39 rfl infoSk ?_)
  refine (l22Copy_any _ k _ hsk hn).mono ?_
  rintro e w2 ⟨yo, yc, rfl, r2, b2⟩
  have z2 := b2.size
  simp only [World.size_alloc] at z2
  have a2 := bal (Below.refl w2.heap.size w2) (.cells (skarr k (.slice yo k.ys.length yc)) 39)
  have N10 := hide (heap_alloc_new w2 (.cells (skarr k (.slice yo k.ys.length yc)) 39))
  have A3 := hide (bKeeps a2 (bKeeps b2 A3.out))
  have A5 := hide (bKeeps a2 (bKeeps b2 A5.out))
  have A6 := hide (bKeeps a2 (bKeeps b2 A6.out))
  have R2 := hide ((r2.mono (show W.heap.size ≤ _ by simp)).keepB a2)
  have c2 : Below w.heap.size w (w2.alloc (.cells (skarr k (.slice yo k.ys.length yc)) 39)) := bAll (bAll al a1) (bAll b2 a2)
  clear r2 b2 a1 hsk
  go_upto_region 3 with (refine wpList_store_row rfl 39 (.tmp 10) (.tmp 13) rfl w2.heap.size (skarr k (.slice yo k.ys.length yc)) rfl rfl _ _ (heap_alloc_new w2 _) infoSk (show (26 : Nat) = 26 from rfl) (skarr_one _ _ _ _) ?_; rw [World.setRow_alloc_new])
  generalize hX : w2.alloc (.cells (skarr k (.slice yo k.ys.length yc)) 39) = X at N10 A3 A5 A6 R2 c2 a2 ⊢
  have ltX := heap_lt N10.out
  clear hX a2
  generalize w2.heap.size = g10 at z2 N10 ltX ⊢
  have FZ : Hid (w.heap.size + 1 + 1 < W.heap.size ∧ w.heap.size + 1 + 1 + 1 ≤ W.heap.size ∧ W.heap.size < g10 ∧ g10 < X.heap.size ∧ w.heap.size ≤ W.heap.size) := ⟨ltW, ltW, by omega, ltX, by omega⟩
  have FK : Hid (∀ V : World, Below X.heap.size X V → V.heap[w.heap.size]? = some (.cells (skarr k (.slice ao k.ys.length ac)) 39 (0, 0)) ∧ V.heap[w.heap.size + 1]? = some (.cells cs 47 (0, 0)) ∧ V.heap[w.heap.size + 1 + 1]? = some (.cells (skarr zeroK (.slice none 0 0)) 39 (0, 0)) ∧ V.heap[g10]? = some (.cells (skarr k (.slice yo k.ys.length yc)) 39 (0, 0)) ∧ RowA V W.heap.size 3 1 (.slice yo k.ys.length yc) k.ys.length (ints k.ys)) := fun V hV => ⟨bKeeps hV A3.out, bKeeps hV A5.out, bKeeps hV A6.out, bKeeps hV N10.out, R2.out.keepB hV⟩
  have HKX : Hid (∀ V : World, Below X.heap.size X V → SkR V (.agg (skarr k (.slice ao k.ys.length ac))) k ∧ WdR V (.agg cs) x ∧ RowR V 1 (.slice ao k.ys.length ac) k.ys.length (ints k.ys)) := fun V hV => ⟨HKR.out.keep (bAll c2 hV), HX.out.keep (bAll c2 hV), HRW.out.keep (bAll c2 hV)⟩
  clear N10 A3 A5 A6 R2 ltW ltX z2 HKR HX HRW
  have rX := Below.refl X.heap.size X
  have q3 := (FK.out X rX).1
  go_wp2_with (refine wpList_load_row rfl 39 (.tmp 3) rfl w.heap.size rfl _ (skarr k (.slice ao k.ys.length ac)) (0, 0) _ q3 Try.underlying39 rfl infoSk ?_)
  refine (d1 _ _ (HKX.out X rX).1).mono ?_
  rintro e V1 ⟨rfl, b1⟩
  clear q3 d1 rX
  cases j1
  · skip
    have hR : Hid (R = (k, [], false)) := by show _ = _; rw [← HR.out, hearR, if_neg (by rw [HC.out]; simp)]
    have q10 := (FK.out V1 b1).2.2.2.1
    have q6 := (FK.out V1 b1).2.2.1
    have q11 := (FK.out V1 b1).2.2.2.2
    have s8 := updRow V1 (w.heap.size + 1 + 1) (skarr k (.slice yo k.ys.length yc))
    go_wp2_with (first
      | (refine wpList_load_row rfl 39 (.tmp 10) rfl g10 rfl _ (skarr k (.slice yo k.ys.length yc)) (0, 0) _ q10 Try.underlying39 rfl infoSk ?_)
      | (refine wpList_store_row rfl 39 (.tmp 6) (.tmp 59) rfl (w.heap.size + 1 + 1) (skarr k (.slice yo k.ys.length yc)) rfl rfl _ _ q6 infoSk (show (26 : Nat) = 26 from rfl) (skarr_one _ _ _ _) ?_))
    refine bodyPost_ret (v := .tuple #[.agg (skarr k (.slice yo k.ys.length yc)), .slice (some ⟨W.heap.size, 0, none⟩) 0 0, .bool false]) (results_row_tmp_tmp Try.results9 _ _ (w.heap.size + 1 + 1) _ _ (0, 0) _ _ _ rfl rfl rfl (setRow_heap _ _ _ _ _ _ q6) Try.underlying39 rfl infoSk) rfl ?_
    have cw : Below w.heap.size w V1 := bAll c2 b1
    have z8 := FZ.out
    have zz := b1.size
    exact ⟨_, _, by rw [hR.out], ⟨by rw [hR.out]; exact ⟨yo, yc, rfl, ((q11.keep s8 (fun j h1 h2 => by omega)).mono (by omega))⟩, by rw [hR.out]; exact ⟨_, _, rfl, by simp, rfl, fun h => by simp at h⟩, cw.trans (s8.below cw.size (fun j h => by omega))⟩⟩
  have q3 := (FK.out V1 b1).1
  have q5 := (FK.out V1 b1).2.1
  have x2 := (sk_cells q3).2.2.1
  have e2 := H2.out
  cases j2
  case true =>
    have hR : Hid (R = (k, [], false)) := by show _ = _; rw [← HR.out, hearR, if_neg (by rw [HC.out]; simp)]
    have q10 := (FK.out V1 b1).2.2.2.1
    have q6 := (FK.out V1 b1).2.2.1
    have q11 := (FK.out V1 b1).2.2.2.2
    have s8 := updRow V1 (w.heap.size + 1 + 1) (skarr k (.slice yo k.ys.length yc))
    go_wp2_with (first
      | (refine wpList_load_row rfl 39 (.tmp 10) rfl g10 rfl _ (skarr k (.slice yo k.ys.length yc)) (0, 0) _ q10 Try.underlying39 rfl infoSk ?_)
      | (refine wpList_store_row rfl 39 (.tmp 6) (.tmp 59) rfl (w.heap.size + 1 + 1) (skarr k (.slice yo k.ys.length yc)) rfl rfl _ _ q6 infoSk (show (26 : Nat) = 26 from rfl) (skarr_one _ _ _ _) ?_))
    refine bodyPost_ret (v := .tuple #[.agg (skarr k (.slice yo k.ys.length yc)), .slice (some ⟨W.heap.size, 0, none⟩) 0 0, .bool false]) (results_row_tmp_tmp Try.results9 _ _ (w.heap.size + 1 + 1) _ _ (0, 0) _ _ _ rfl rfl rfl (setRow_heap _ _ _ _ _ _ q6) Try.underlying39 rfl infoSk) rfl ?_
    have cw : Below w.heap.size w V1 := bAll c2 b1
    have z8 := FZ.out
    have zz := b1.size
    exact ⟨_, _, by rw [hR.out], ⟨by rw [hR.out]; exact ⟨yo, yc, rfl, ((q11.keep s8 (fun j h1 h2 => by omega)).mono (by omega))⟩, by rw [hR.out]; exact ⟨_, _, rfl, by simp, rfl, fun h => by simp at h⟩, cw.trans (s8.below cw.size (fun j h => by omega))⟩⟩
  go_wp2_with (refine wpList_load_rowG (by rfl) 47 (.tmp 5) rfl (w.heap.size + 1) rfl _ cs (0, 0) _ q5 Try.underlying47 rfl HI.out ?_)
  refine (d3 _ _ (HKX.out V1 b1).2.1).mono ?_
  rintro e V2 ⟨rfl, b2⟩
  have b2 := bAll b1 b2
  clear q3 q5 x2 e2 d3 b1
  cases j3
  · skip
    have hR : Hid (R = (k, [], false)) := by show _ = _; rw [← HR.out, hearR, if_neg (by rw [HC.out]; simp)]
    have q10 := (FK.out V2 b2).2.2.2.1
    have q6 := (FK.out V2 b2).2.2.1
    have q11 := (FK.out V2 b2).2.2.2.2
    have s8 := updRow V2 (w.heap.size + 1 + 1) (skarr k (.slice yo k.ys.length yc))
    go_wp2_with (first
      | (refine wpList_load_row rfl 39 (.tmp 10) rfl g10 rfl _ (skarr k (.slice yo k.ys.length yc)) (0, 0) _ q10 Try.underlying39 rfl infoSk ?_)
      | (refine wpList_store_row rfl 39 (.tmp 6) (.tmp 59) rfl (w.heap.size + 1 + 1) (skarr k (.slice yo k.ys.length yc)) rfl rfl _ _ q6 infoSk (show (26 : Nat) = 26 from rfl) (skarr_one _ _ _ _) ?_))
    refine bodyPost_ret (v := .tuple #[.agg (skarr k (.slice yo k.ys.length yc)), .slice (some ⟨W.heap.size, 0, none⟩) 0 0, .bool false]) (results_row_tmp_tmp Try.results9 _ _ (w.heap.size + 1 + 1) _ _ (0, 0) _ _ _ rfl rfl rfl (setRow_heap _ _ _ _ _ _ q6) Try.underlying39 rfl infoSk) rfl ?_
    have cw : Below w.heap.size w V2 := bAll c2 b2
    have z8 := FZ.out
    have zz := b2.size
    exact ⟨_, _, by rw [hR.out], ⟨by rw [hR.out]; exact ⟨yo, yc, rfl, ((q11.keep s8 (fun j h1 h2 => by omega)).mono (by omega))⟩, by rw [hR.out]; exact ⟨_, _, rfl, by simp, rfl, fun h => by simp at h⟩, cw.trans (s8.below cw.size (fun j h => by omega))⟩⟩
  have x0 := (sk_cells (FK.out V2 b2).1).1
  have x1 := (sk_cells (FK.out V2 b2).1).2.1
  have xy := (sk_cells (FK.out V2 b2).1).2.2.2.2.2.2.2
  have w1 := (boxAt (FK.out V2 b2).2.1 1).trans HXC.out.2.1
  have w3 := (boxAt (FK.out V2 b2).2.1 3).trans HXC.out.2.2.1
  have w4 := (boxAt (FK.out V2 b2).2.1 4).trans HXC.out.2.2.2.1
  cases j4
  case false =>
    have e4 : (x.a3 != k.b) = true := by have := H4.out; simpa using this
    have hR : Hid (R = (k, [], false)) := by show _ = _; rw [← HR.out, hearR, if_neg (by rw [HC.out]; simp)]
    have q10 := (FK.out V2 b2).2.2.2.1
    have q6 := (FK.out V2 b2).2.2.1
    have q11 := (FK.out V2 b2).2.2.2.2
    have s8 := updRow V2 (w.heap.size + 1 + 1) (skarr k (.slice yo k.ys.length yc))
    go_wp2_with (first
      | (refine wpList_load_row rfl 39 (.tmp 10) rfl g10 rfl _ (skarr k (.slice yo k.ys.length yc)) (0, 0) _ q10 Try.underlying39 rfl infoSk ?_)
      | (refine wpList_store_row rfl 39 (.tmp 6) (.tmp 59) rfl (w.heap.size + 1 + 1) (skarr k (.slice yo k.ys.length yc)) rfl rfl _ _ q6 infoSk (show (26 : Nat) = 26 from rfl) (skarr_one _ _ _ _) ?_))
    refine bodyPost_ret (v := .tuple #[.agg (skarr k (.slice yo k.ys.length yc)), .slice (some ⟨W.heap.size, 0, none⟩) 0 0, .bool false]) (results_row_tmp_tmp Try.results9 _ _ (w.heap.size + 1 + 1) _ _ (0, 0) _ _ _ rfl rfl rfl (setRow_heap _ _ _ _ _ _ q6) Try.underlying39 rfl infoSk) rfl ?_
    have cw : Below w.heap.size w V2 := bAll c2 b2
    have z8 := FZ.out
    have zz := b2.size
    exact ⟨_, _, by rw [hR.out], ⟨by rw [hR.out]; exact ⟨yo, yc, rfl, ((q11.keep s8 (fun j h1 h2 => by omega)).mono (by omega))⟩, by rw [hR.out]; exact ⟨_, _, rfl, by simp, rfl, fun h => by simp at h⟩, cw.trans (s8.below cw.size (fun j h => by omega))⟩⟩
  have e4 : (x.a3 != k.b) = false := by have := H4.out; simpa using this
  cases j5
  case false =>
    have e5 : (x.a4 != k.s) = true := by have := H5.out; simpa using this
    have hR : Hid (R = (k, [], false)) := by show _ = _; rw [← HR.out, hearR, if_neg (by rw [HC.out]; simp)]
    have q10 := (FK.out V2 b2).2.2.2.1
    have q6 := (FK.out V2 b2).2.2.1
    have q11 := (FK.out V2 b2).2.2.2.2
    have s8 := updRow V2 (w.heap.size + 1 + 1) (skarr k (.slice yo k.ys.length yc))
    go_wp2_with (first
      | (refine wpList_load_row rfl 39 (.tmp 10) rfl g10 rfl _ (skarr k (.slice yo k.ys.length yc)) (0, 0) _ q10 Try.underlying39 rfl infoSk ?_)
      | (refine wpList_store_row rfl 39 (.tmp 6) (.tmp 59) rfl (w.heap.size + 1 + 1) (skarr k (.slice yo k.ys.length yc)) rfl rfl _ _ q6 infoSk (show (26 : Nat) = 26 from rfl) (skarr_one _ _ _ _) ?_))
    refine bodyPost_ret (v := .tuple #[.agg (skarr k (.slice yo k.ys.length yc)), .slice (some ⟨W.heap.size, 0, none⟩) 0 0, .bool false]) (results_row_tmp_tmp Try.results9 _ _ (w.heap.size + 1 + 1) _ _ (0, 0) _ _ _ rfl rfl rfl (setRow_heap _ _ _ _ _ _ q6) Try.underlying39 rfl infoSk) rfl ?_
    have cw : Below w.heap.size w V2 := bAll c2 b2
    have z8 := FZ.out
    have zz := b2.size
    exact ⟨_, _, by rw [hR.out], ⟨by rw [hR.out]; exact ⟨yo, yc, rfl, ((q11.keep s8 (fun j h1 h2 => by omega)).mono (by omega))⟩, by rw [hR.out]; exact ⟨_, _, rfl, by simp, rfl, fun h => by simp at h⟩, cw.trans (s8.below cw.size (fun j h => by omega))⟩⟩
  have e5 : (x.a4 != k.s) = false := by have := H5.out; simpa using this
  go_wp2_with fail
  refine (d6 _).mono ?_
  rintro e V3 ⟨rfl, rfl⟩
  cases j6
  · skip
    have hR : Hid (R = (k, [], false)) := by show _ = _; rw [← HR.out, hearR, if_neg (by rw [HC.out]; simp)]
    have q10 := (FK.out V3 b2).2.2.2.1
    have q6 := (FK.out V3 b2).2.2.1
    have q11 := (FK.out V3 b2).2.2.2.2
    have s8 := updRow V3 (w.heap.size + 1 + 1) (skarr k (.slice yo k.ys.length yc))
    go_wp2_with (first
      | (refine wpList_load_row rfl 39 (.tmp 10) rfl g10 rfl _ (skarr k (.slice yo k.ys.length yc)) (0, 0) _ q10 Try.underlying39 rfl infoSk ?_)
      | (refine wpList_store_row rfl 39 (.tmp 6) (.tmp 59) rfl (w.heap.size + 1 + 1) (skarr k (.slice yo k.ys.length yc)) rfl rfl _ _ q6 infoSk (show (26 : Nat) = 26 from rfl) (skarr_one _ _ _ _) ?_))
    refine bodyPost_ret (v := .tuple #[.agg (skarr k (.slice yo k.ys.length yc)), .slice (some ⟨W.heap.size, 0, none⟩) 0 0, .bool false]) (results_row_tmp_tmp Try.results9 _ _ (w.heap.size + 1 + 1) _ _ (0, 0) _ _ _ rfl rfl rfl (setRow_heap _ _ _ _ _ _ q6) Try.underlying39 rfl infoSk) rfl ?_
    have cw : Below w.heap.size w V3 := bAll c2 b2
    have z8 := FZ.out
    have zz := b2.size
    exact ⟨_, _, by rw [hR.out], ⟨by rw [hR.out]; exact ⟨yo, yc, rfl, ((q11.keep s8 (fun j h1 h2 => by omega)).mono (by omega))⟩, by rw [hR.out]; exact ⟨_, _, rfl, by simp, rfl, fun h => by simp at h⟩, cw.trans (s8.below cw.size (fun j h => by omega))⟩⟩
  go_wp2_with fail
  refine (d7 _).mono ?_
  rintro e V4 ⟨rfl, rfl⟩
  cases j7
  · skip
    have hR : Hid (R = (k, [], false)) := by show _ = _; rw [← HR.out, hearR, if_neg (by rw [HC.out]; simp)]
    have q10 := (FK.out V4 b2).2.2.2.1
    have q6 := (FK.out V4 b2).2.2.1
    have q11 := (FK.out V4 b2).2.2.2.2
    have s8 := updRow V4 (w.heap.size + 1 + 1) (skarr k (.slice yo k.ys.length yc))
    go_wp2_with (first
      | (refine wpList_load_row rfl 39 (.tmp 10) rfl g10 rfl _ (skarr k (.slice yo k.ys.length yc)) (0, 0) _ q10 Try.underlying39 rfl infoSk ?_)
      | (refine wpList_store_row rfl 39 (.tmp 6) (.tmp 59) rfl (w.heap.size + 1 + 1) (skarr k (.slice yo k.ys.length yc)) rfl rfl _ _ q6 infoSk (show (26 : Nat) = 26 from rfl) (skarr_one _ _ _ _) ?_))
    refine bodyPost_ret (v := .tuple #[.agg (skarr k (.slice yo k.ys.length yc)), .slice (some ⟨W.heap.size, 0, none⟩) 0 0, .bool false]) (results_row_tmp_tmp Try.results9 _ _ (w.heap.size + 1 + 1) _ _ (0, 0) _ _ _ rfl rfl rfl (setRow_heap _ _ _ _ _ _ q6) Try.underlying39 rfl infoSk) rfl ?_
    have cw : Below w.heap.size w V4 := bAll c2 b2
    have z8 := FZ.out
    have zz := b2.size
    exact ⟨_, _, by rw [hR.out], ⟨by rw [hR.out]; exact ⟨yo, yc, rfl, ((q11.keep s8 (fun j h1 h2 => by omega)).mono (by omega))⟩, by rw [hR.out]; exact ⟨_, _, rfl, by simp, rfl, fun h => by simp at h⟩, cw.trans (s8.below cw.size (fun j h => by omega))⟩⟩
  go_wp2_with fail
  refine (d8 _ _ (HKX.out V4 b2).2.2).mono ?_
  rintro e V5 ⟨rfl, b5⟩
  have b5 := bAll b2 b5
  clear x0 x1 xy w1 w3 w4 e4 e5 d6 d7 d8 b2
  cases j8
  case true =>
    have hR : Hid (R = (k, [], false)) := by show _ = _; rw [← HR.out, hearR, if_neg (by rw [HC.out]; simp)]
    have q10 := (FK.out V5 b5).2.2.2.1
    have q6 := (FK.out V5 b5).2.2.1
    have q11 := (FK.out V5 b5).2.2.2.2
    have s8 := updRow V5 (w.heap.size + 1 + 1) (skarr k (.slice yo k.ys.length yc))
    go_wp2_with (first
      | (refine wpList_load_row rfl 39 (.tmp 10) rfl g10 rfl _ (skarr k (.slice yo k.ys.length yc)) (0, 0) _ q10 Try.underlying39 rfl infoSk ?_)
      | (refine wpList_store_row rfl 39 (.tmp 6) (.tmp 59) rfl (w.heap.size + 1 + 1) (skarr k (.slice yo k.ys.length yc)) rfl rfl _ _ q6 infoSk (show (26 : Nat) = 26 from rfl) (skarr_one _ _ _ _) ?_))
    refine bodyPost_ret (v := .tuple #[.agg (skarr k (.slice yo k.ys.length yc)), .slice (some ⟨W.heap.size, 0, none⟩) 0 0, .bool false]) (results_row_tmp_tmp Try.results9 _ _ (w.heap.size + 1 + 1) _ _ (0, 0) _ _ _ rfl rfl rfl (setRow_heap _ _ _ _ _ _ q6) Try.underlying39 rfl infoSk) rfl ?_
    have cw : Below w.heap.size w V5 := bAll c2 b5
    have z8 := FZ.out
    have zz := b5.size
    exact ⟨_, _, by rw [hR.out], ⟨by rw [hR.out]; exact ⟨yo, yc, rfl, ((q11.keep s8 (fun j h1 h2 => by omega)).mono (by omega))⟩, by rw [hR.out]; exact ⟨_, _, rfl, by simp, rfl, fun h => by simp at h⟩, cw.trans (s8.below cw.size (fun j h => by omega))⟩⟩
  have HCT : Hid (hearC k me x = true) := by show _ = _; rw [HC.out]; rfl
  clear HC H2 H4 H5
  have x0 := (sk_cells (FK.out V5 b5).1).1
  have x1 := (sk_cells (FK.out V5 b5).1).2.1
  have x2 := (sk_cells (FK.out V5 b5).1).2.2.1
  have x14 := (sk_cells (FK.out V5 b5).1).2.2.2.2.2.2.1
  have w0 := (boxAt (FK.out V5 b5).2.1 0).trans HXC.out.1
  have w1 := (boxAt (FK.out V5 b5).2.1 1).trans HXC.out.2.1
  have w3 := (boxAt (FK.out V5 b5).2.1 3).trans HXC.out.2.2.1
  have w5 := (boxAt (FK.out V5 b5).2.1 5).trans HXC.out.2.2.2.2.1
  have XC : Hid (∀ j z, (#[.int .i64 x.c0, .int .i64 x.c1, .int .i64 x.c2, .int .i64 x.c3, .int .i64 x.c4, .int .i64 x.c5, .int .i64 x.c6, .int .i64 x.c7, .int .i64 x.c8, .int .i64 x.c9] : Array Value)[j]? = some z → V5.cell? ⟨w.heap.size + 1, 6 + j, none⟩ = some z) := fun j z hj => (boxAt (FK.out V5 b5).2.1 (6 + j)).trans (HXC.out.2.2.2.2.2 j z hj)
  by_cases hp : k.ph = 1
  · have e1 : (k.ph == 1) = true := by simpa using hp
    have e2 : (k.ph == 2) = false := by simp [hp]
    by_cases ha : x.a0 = 2
    · have e3 : (x.a0 == 2) = true := by simpa using ha
      by_cases hb : x.a5 < k.b
      · have e4 : decide (x.a5 < k.b) = true := by simpa using hb
        have hR1 : Hid (hearR k me x = (if k.ys.length = 0 then ({ toldK k x with ys := k.ys ++ [x.a1] }, [], false) else ({ toldK k x with ph := 2, ys := [] }, allTo (accW me k.b k.s (valW (toldK k x))) 3, false))) := by show _ = _; rw [hearR, if_pos HCT.out, if_pos ⟨hp, ha, hb⟩]
        obtain ⟨k1, hk1⟩ : ∃ k1, toldK k x = k1 := ⟨_, rfl⟩
        rw [hk1] at hR1
        have HK1 := hide hk1
        clear hp ha hb hk1
        by_cases hc : k.p.2.1 < x.a5
        · have e5 : decide (x.a5 > k.p.2.1) = true := by simpa using hc
          have T0 := hide (FK.out V5 b5).2.2.2.1
          have hput : putAt (skarr k (.slice yo k.ys.length yc)) 13 (pparr (k.s, x.a5, x)) = skarr { k with p := (k.s, x.a5, x) } (.slice yo k.ys.length yc) := rfl
          have hk1 : k1 = { k with p := (k.s, x.a5, x) } := by rw [← HK1.out, toldK, if_pos hc]
          have u7 := updRow V5 g10 (skarr k1 (.slice yo k.ys.length yc))
          have T7 := hide (setRow_heap _ _ _ (skarr k1 (.slice yo k.ys.length yc)) _ _ T0.out)
          clear hc
          go_upto_region 7 with fail
          go_upto_region 8 with (first
            | (refine wpList_load_at rfl 35 (.tmp 87) rfl (w.heap.size + 1) 6 rfl #[.int .i64 x.c0, .int .i64 x.c1, .int .i64 x.c2, .int .i64 x.c3, .int .i64 x.c4, .int .i64 x.c5, .int .i64 x.c6, .int .i64 x.c7, .int .i64 x.c8, .int .i64 x.c9] _ XC.out Try.underlying35 rfl infoCm10 ?_)
            | (refine wpList_builtBest k.s x.a5 x rfl _ rfl ?hp ?_; (case hp => ((conv => lhs; simp only [List.map_toArray, List.map_cons, List.map_nil]); rfl)))
            | (refine wpList_store_at rfl 37 (.tmp 90) (.tmp 89) rfl g10 13 (pparr (k.s, x.a5, x)) rfl rfl _ _ T0.out infoPpS (show (13 + 12 : Nat) ≤ 26 by omega) (pparr_one _) ?_; rw [hput, ← hk1]))
          clear hput hk1 T0 x0 x1 x2 x14 w0 w1 w3 w5 e1 e2 e3 e4 e5 XC
          generalize hV : V5.setRow g10 (skarr k1 (.slice yo k.ys.length yc)) = V at u7 T7 ⊢
          clear hV
          have l7 : V.cell? ⟨g10, 25, none⟩ = some (.slice yo k.ys.length yc) := boxAt T7.out 25
          have m7 : V.cell? ⟨w.heap.size + 1, 1, none⟩ = some (.int .i64 x.a1) := updCell u7 ((boxAt (FK.out V5 b5).2.1 1).trans HXC.out.2.1) (by have := FZ.out; omega)
          have al8 := bal (Below.refl V.heap.size V) (.cells #[.int .i64 x.a1] 3)
          have rowV := (rowA_keep_box (by decide) (FK.out V5 b5).2.2.2.2 (FK.out V5 b5).2.2.2.1 u7).keepB al8
          have NV := hide (newI_cells V x.a1 3)
          have T8 := hide (bKeeps al8 T7.out)
          go_wp2_with (at_builtin; refine wpList_appendA _ rfl _ _ 26 rfl W.heap.size 3 i1 (.int .i64 0) 1 8 Try.underlying26 gi gz0 gz1 gz2 rfl (by decide) _ k.ys.length (ints k.ys) rfl rowV ⟨V.heap.size, 0, none⟩ 1 1 [.int .i64 x.a1] rfl rfl NV.out (oneI _) (by decide) ?q63 ?qby ?qbase ?_)
          case q63 => unfold maxLen; omega
          case qby => omega
          case qbase => (have := FZ.out; have := b5.size; have := al8.size; have := u7.size; omega)
          intro v8 w8 r8 u8
          obtain ⟨so8, sc8, rfl, hcap8⟩ := owns_shape r8
          have B8 := hide (typed_keeps (by decide) u8 T8.out)
          have R8 := hide (show RowA w8 W.heap.size 3 1 _ _ _ from .inl r8)
          have z8 := u8.size
          have zal := al8.size
          have UV : Upd (fun j => W.heap.size ≤ j) X w8 := ((((Upd.ofBelow b5).trans (u7.mono (fun j h => by have := FZ.out; omega))).trans (Upd.ofBelow al8)).trans (u8.mono (fun j h => h.1)))
          have S6 : Hid (w8.heap[w.heap.size + 1 + 1]? = some (.cells (skarr zeroK (.slice none 0 0)) 39 (0, 0))) := UV.keeps (FK.out X (Below.refl _ _)).2.2.1 (by have := FZ.out; omega)
          have S3 : Hid (w8.heap[w.heap.size]? = some (.cells (skarr k (.slice ao k.ys.length ac)) 39 (0, 0))) := UV.keeps (FK.out X (Below.refl _ _)).1 (by have := FZ.out; omega)
          have c8 : Below w.heap.size w w8 := c2.trans (UV.below c2.size (fun j h => by have := FZ.out; omega))
          have g8 : g10 < w8.heap.size := heap_lt B8.out
          have f0 : w8.cell? ⟨g10, 25, none⟩ = some (.slice yo k.ys.length yc) := boxAt B8.out 25
          have f1 : w8.frozen? ⟨g10, 25, none⟩ = false := boxFz B8.out 25
          clear rowV NV T8 r8 u8 al8 UV l7 m7
          go_upto_region 9 with fail
          generalize hV : World.setCell _ _ _ = V9
          have u9 : Upd (fun j => j = g10) w8 V9 := by rw [← hV]; exact Upd.setCell _ _ _ _ rfl
          have T9 : Hid (V9.heap[g10]? = some (.cells (skarr k1 (.slice so8 (k.ys.length + 1) sc8)) 39 (0, 0))) := by show _ = _; rw [← hV]; exact row_set _ B8.out
          have R9 := hide (rowA_keep_box (by decide) R8.out B8.out u9)
          have Q6 := hide (u9.keeps S6.out (by have := FZ.out; omega))
          have Q3 := hide (u9.keeps S3.out (by have := FZ.out; omega))
          have c9 : Below w.heap.size w V9 := c8.trans (u9.below c8.size (fun j h => by have := FZ.out; omega))
          have z9 := u9.size
          have l9 : V9.cell? ⟨g10, 25, none⟩ = some (.slice so8 (k.ys.length + 1) sc8) := boxAt T9.out 25
          clear hV f0 f1 B8 R8 S6 S3 u9 c8
          by_cases hn0 : k.ys.length = 0
          · have e6 : decide (((k.ys.length + 1 : Nat) : Int) < 2) = true := decide_eq_true (by omega)
            have e7 : decide ((k.ys.length : Int) + 1 < 2) = true := decide_eq_true (by omega)
            have hR : Hid (R = ({ k1 with ys := k.ys ++ [x.a1] }, [], false)) := by show _ = _; rw [← HR.out, hR1.out, if_pos hn0]
            clear hn0
            have s8 := updRow V9 (w.heap.size + 1 + 1) (skarr k1 (.slice so8 (k.ys.length + 1) sc8))
            have z10 := FZ.out
            go_wp2_with (first
              | (refine wpList_load_row rfl 39 (.tmp 10) rfl g10 rfl _ (skarr k1 (.slice so8 (k.ys.length + 1) sc8)) (0, 0) _ T9.out Try.underlying39 rfl infoSk ?_)
              | (refine wpList_store_row rfl 39 (.tmp 6) (.tmp 102) rfl (w.heap.size + 1 + 1) (skarr k1 (.slice so8 (k.ys.length + 1) sc8)) rfl rfl _ _ Q6.out infoSk (show (26 : Nat) = 26 from rfl) (skarr_one _ _ _ _) ?_))
            refine bodyPost_ret (v := .tuple #[.agg (skarr k1 (.slice so8 (k.ys.length + 1) sc8)), .slice (some ⟨W.heap.size, 0, none⟩) 0 0, .bool false]) (results_row_tmp_tmp Try.results9 _ _ (w.heap.size + 1 + 1) _ _ (0, 0) _ _ _ rfl rfl rfl (setRow_heap _ _ _ _ _ _ Q6.out) Try.underlying39 rfl infoSk) rfl ?_
            exact ⟨_, _, by rw [hR.out], ⟨by rw [hR.out]; exact ⟨so8, sc8, by simp [sk_ys], by simpa [ints] using ((R9.out.keep s8 (fun j h1 h2 => by omega)).mono (base' := w.heap.size) (by omega))⟩, by rw [hR.out]; exact ⟨_, _, rfl, by simp, rfl, fun h => by simp at h⟩, c9.trans (s8.below c9.size (fun j h => by omega))⟩⟩
          · have e6 : decide (((k.ys.length + 1 : Nat) : Int) < 2) = false := decide_eq_false (by omega)
            have e7 : decide ((k.ys.length : Int) + 1 < 2) = false := decide_eq_false (by omega)
            have hR : Hid (R = ({ k1 with ph := 2, ys := [] }, allTo (accW me k.b k.s (valW k1)) 3, false)) := by show _ = _; rw [← HR.out, hR1.out, if_neg hn0]
            clear hn0
            have p2 : V9.cell? ⟨g10, 2, none⟩ = some (.int .i64 k1.ph) := boxAt T9.out 2
            have p2' := boxFz T9.out 2
            have p25' := boxFz T9.out 25
            have g9 := heap_lt T9.out
            go_upto_region 13 with fail
            generalize hV : World.alloc _ _ = V12
            have m9 : Upd (fun j => j = g10) V9 (V9.setCell ⟨g10, 2, none⟩ (.int .i64 2)) := Upd.setCell _ _ _ _ rfl
            have n9 := row_set (.int .i64 2) T9.out (j := 2)
            have T12 : Hid (V12.heap[g10]? = some (.cells (skarr { k1 with ph := 2, ys := [] } (.slice (some ⟨V9.heap.size, 0, none⟩) 0 0)) 39 (0, 0))) := by show _ = _; rw [← hV]; exact bKeeps (bal (Below.refl _ _) _) (row_set _ n9)
            have m12 : Upd (fun j => j = g10) V9 V12 := by rw [← hV]; exact (m9.trans (Upd.setCell _ _ _ _ rfl)).trans (Upd.ofBelow (bal (Below.refl _ _) _))
            have z12 := m12.size
            have Q6 := hide (m12.keeps Q6.out (by have := FZ.out; omega))
            have Q3 := hide (m12.keeps Q3.out (by have := FZ.out; omega))
            have c12 : Below w.heap.size w V12 := c9.trans (m12.below c9.size (fun j h => by have := FZ.out; omega))
            generalize V9.heap.size = e12 at T12 ⊢
            clear hV m9 n9 m12 p2 p2' p25' g9 l9 T9 R9 c9 e6 e7
            have dd := bDrewB (Below.refl V12.heap.size V12)
            have S0 : Hid (∀ V : World, Below V12.heap.size V12 V → (V.heap[g10]? = some (.cells (skarr { k1 with ph := 2, ys := [] } (.slice (some ⟨e12, 0, none⟩) 0 0)) 39 (0, 0)) ∧ V.cell? ⟨w.heap.size, 0, none⟩ = some (.int .i64 k.s) ∧ V.cell? ⟨w.heap.size, 1, none⟩ = some (.int .i64 k.b)) ∧ V.heap[w.heap.size + 1 + 1]? = some (.cells (skarr zeroK (.slice none 0 0)) 39 (0, 0))) := fun V h => ⟨⟨bKeeps h T12.out, (sk_cells (bKeeps h Q3.out)).1, (sk_cells (bKeeps h Q3.out)).2.1⟩, bKeeps h Q6.out⟩
            refine wp_region_noPanic ?_
            refine wp_region_held_drew (S := (fun w' => w'.heap[g10]? = some (.cells (skarr { k1 with ph := 2, ys := [] } (.slice (some ⟨e12, 0, none⟩) 0 0)) 39 (0, 0)) ∧ w'.cell? ⟨w.heap.size, 0, none⟩ = some (.int .i64 k.s) ∧ w'.cell? ⟨w.heap.size, 1, none⟩ = some (.int .i64 k.b))) (by kernel_rfl) ?_ (fun hHeld => ?_)
            · exact (S0.out _ dd).1
            refine wpAnyH_take (i := 0) (v := .agg (skarr { k1 with ph := 2, ys := [] } (.slice (some ⟨e12, 0, none⟩) 0 0))) rfl (by kernel_rfl) (by kernel_rfl) (by kernel_rfl) (fun _ _ _ h => h) (yields_row rfl 39 (.tmp 10) rfl (g10) rfl _ (skarr { k1 with ph := 2, ys := [] } (.slice (some ⟨e12, 0, none⟩) 0 0)) _ (fun _ h => h.1) Try.underlying39 rfl infoSk) (by assumption) ?_
            simp only [Act.put, List.getElem_toArray, List.getElem_cons_zero, List.setIfInBounds_toArray, List.set_cons_zero, List.set_cons_succ]
            refine wpAnyH_take (i := 1) (v := ?v1) rfl (by kernel_rfl) (by kernel_rfl) (by kernel_rfl) (fun _ _ _ h => h) (Or.inl ⟨by rfl, ?hy1⟩) (by assumption) ?rest1
            case hy1 => ((intro w hSw; (try dsimp only at hSw); (try simp only [List.getElem_toArray, List.getElem_cons_zero, List.getElem_cons_succ]); go_simp; first | done | (with_reducible rfl)))
            simp only [Act.put, List.getElem_toArray, List.getElem_cons_zero, List.getElem_cons_succ, List.setIfInBounds_toArray, List.set_cons_zero, List.set_cons_succ]
            refine wpAnyH_take (i := 2) (v := ?v2) rfl (by kernel_rfl) (by kernel_rfl) (by kernel_rfl) (fun _ _ _ h => h) (Or.inl ⟨by rfl, ?hy2⟩) (by assumption) ?rest2
            case hy2 => ((intro w hSw; (try dsimp only at hSw); (try simp only [List.getElem_toArray, List.getElem_cons_zero, List.getElem_cons_succ]); go_simp; first | done | (with_reducible rfl)))
            simp only [Act.put, List.getElem_toArray, List.getElem_cons_zero, List.getElem_cons_succ, List.setIfInBounds_toArray, List.set_cons_zero, List.set_cons_succ]
            refine wpAnyH_take (i := 3) (v := ?v3) rfl (by kernel_rfl) (by kernel_rfl) (by kernel_rfl) (fun _ _ _ h => h) (Or.inl ⟨by rfl, ?hy3⟩) (by assumption) ?rest3
            case hy3 => ((intro w hSw; (try dsimp only at hSw); (try simp only [List.getElem_toArray, List.getElem_cons_zero, List.getElem_cons_succ]); go_simp; first | done | (with_reducible rfl)))
            simp only [Act.put, List.getElem_toArray, List.getElem_cons_zero, List.getElem_cons_succ, List.setIfInBounds_toArray, List.set_cons_zero, List.set_cons_succ]
            refine wpAnyH_take (i := 4) (v := ?v4) rfl (by kernel_rfl) (by kernel_rfl) (by kernel_rfl) (fun _ _ _ h => h) (Or.inl ⟨by rfl, ?hy4⟩) (by assumption) ?rest4
            case hy4 => ((intro w hSw; (try dsimp only at hSw); (try simp only [List.getElem_toArray, List.getElem_cons_zero, List.getElem_cons_succ]); go_simp; first | done | (with_reducible rfl)))
            simp only [Act.put, List.getElem_toArray, List.getElem_cons_zero, List.getElem_cons_succ, List.setIfInBounds_toArray, List.set_cons_zero, List.set_cons_succ]
            refine wpAnyH_take (i := 5) (v := ?v5) rfl (by kernel_rfl) (by kernel_rfl) (by kernel_rfl) (fun _ _ _ h => h) (Or.inl ⟨by rfl, ?hy5⟩) (by assumption) ?rest5
            case hy5 => ((intro w hSw; (try dsimp only at hSw); (try simp only [List.getElem_toArray, List.getElem_cons_zero, List.getElem_cons_succ]); go_simp; first | done | (with_reducible rfl)))
            simp only [Act.put, List.getElem_toArray, List.getElem_cons_zero, List.getElem_cons_succ, List.setIfInBounds_toArray, List.set_cons_zero, List.set_cons_succ]
            refine wpAnyH_take (i := 6) (v := .agg (skarr { k1 with ph := 2, ys := [] } (.slice (some ⟨e12, 0, none⟩) 0 0))) rfl (by kernel_rfl) (by kernel_rfl) (by kernel_rfl) (fun _ _ _ h => h) (yields_row rfl 39 (.tmp 10) rfl (g10) rfl _ (skarr { k1 with ph := 2, ys := [] } (.slice (some ⟨e12, 0, none⟩) 0 0)) _ (fun _ h => h.1) Try.underlying39 rfl infoSk) (by assumption) ?_
            simp only [Act.put, List.getElem_toArray, List.getElem_cons_zero, List.getElem_cons_succ, List.setIfInBounds_toArray, List.set_cons_zero, List.set_cons_succ]
            refine wpAnyH_ready (rs := [7]) (by kernel_rfl) (by simp) ?_
            refine AllReadyH.cons rfl (fun K hK => ?_) AllReadyH.nil
            go_simp
            (go_at_call 43; refine (l22Value_any { k1 with ph := 2, ys := [] } _ _ _ _).mono ?_; rintro e V13 ⟨rfl, b13⟩; have b13' := bAll dd b13)
            refine hK.out _ _ ?_ (fun hHeld => ?_)
            · exact (S0.out _ b13').1
            clear hK K
            refine wpAnyH_take (i := 8) (v := .agg (fwarr (accW me k.b k.s (valW k1)))) rfl (by kernel_rfl) (by kernel_rfl) (by kernel_rfl) (fun _ _ _ h => h) (yields_build rfl 47 _ rfl [(0, .int .i64 3), (1, .int .i64 me), (3, .int .i64 k.b), (4, .int .i64 k.s), (6, .agg (wcmd (valW k1)))] _ ((by (conv => lhs; simp only [List.map_toArray, List.map_cons, List.map_nil]); rfl)) (builtAcc me k.b k.s (valW k1))) (by assumption) ?_
            simp only [Act.put, List.getElem_toArray, List.getElem_cons_zero, List.getElem_cons_succ, List.setIfInBounds_toArray, List.set_cons_zero, List.set_cons_succ]
            refine wpAnyH_ready (rs := [9]) (by kernel_rfl) (by simp) ?_
            refine AllReadyH.cons rfl (fun K hK => ?_) AllReadyH.nil
            go_simp
            (go_at_call 42; refine (l22All_any (accW me k.b k.s (valW k1)) _).mono ?_; rintro e V14 ⟨v14, rfl, r14, b14⟩; have b14' := bAll b13' b14)
            refine hK.out _ _ ?_ (fun hHeld => ?_)
            · exact (S0.out _ b14').1
            clear hK K
            have s10 := updRow V14 (w.heap.size + 1 + 1) (skarr { k1 with ph := 2, ys := [] } (.slice (some ⟨e12, 0, none⟩) 0 0))
            have z14 := b14.size
            have z13 := b13'.size
            have zf := FZ.out
            have q14 := S0.out _ b14'
            have q15 := s10.keeps q14.1.1 (by omega)
            have q16 := updCell s10 q14.1.2.1 (by omega)
            have q17 := updCell s10 q14.1.2.2 (by omega)
            refine wpAnyH_ready (rs := [10]) (by kernel_rfl) (by simp) ?_
            refine AllReadyH.cons rfl (fun K hK => ?_) AllReadyH.nil
            (refine wp_store_row 39 (.tmp 6) (.tmp 107) rfl (w.heap.size + 1 + 1) (skarr { k1 with ph := 2, ys := [] } (.slice (some ⟨e12, 0, none⟩) 0 0)) rfl rfl _ _ q14.2 infoSk (show (26 : Nat) = 26 from rfl) (skarr_one _ _ _ _) ?_)
            refine hK.out _ _ ?_ (fun hHeld => ?_)
            · exact ⟨q15, q16, q17⟩
            clear hK K
            refine wpAnyH_take (i := 11) (v := ?v6) rfl (by kernel_rfl) (by kernel_rfl) (by kernel_rfl) (fun _ _ _ h => h) (Or.inl ⟨by rfl, ?y6⟩) (by assumption) ?r6
            case y6 => (intro w hSw; go_simp; first | done | (with_reducible rfl))
            simp only [Act.put, List.getElem_toArray, List.getElem_cons_zero, List.getElem_cons_succ, List.setIfInBounds_toArray, List.set_cons_zero, List.set_cons_succ]
            refine wpAnyH_take (i := 12) (v := ?v7) rfl (by kernel_rfl) (by kernel_rfl) (by kernel_rfl) (fun _ _ _ h => h) (Or.inl ⟨by rfl, ?y7⟩) (by assumption) ?r7
            case y7 => (intro w hSw; go_simp; first | done | (with_reducible rfl))
            simp only [Act.put, List.getElem_toArray, List.getElem_cons_zero, List.getElem_cons_succ, List.setIfInBounds_toArray, List.set_cons_zero, List.set_cons_succ]
            refine wpAnyH_done (by kernel_rfl) ?_ _
            refine NoPanic.normal ?_
            clear hHeld
            go_wp2_with fail
            refine bodyPost_ret (v := .tuple #[.agg (skarr { k1 with ph := 2, ys := [] } (.slice (some ⟨e12, 0, none⟩) 0 0)), v14, .bool false]) (results_row_tmp_tmp Try.results9 _ _ (w.heap.size + 1 + 1) _ _ (0, 0) _ _ _ rfl rfl rfl (setRow_heap _ _ _ _ _ _ q14.2) Try.underlying39 rfl infoSk) rfl ?_
            have cw := bAll c12 b14'
            have r15 := ((r14.row (by omega)).keep s10 (fun j h1 h2 => by omega)).mono (T := fun j => w.heap.size ≤ j) (fun j _ h => by omega)
            exact ⟨_, _, by rw [hR.out], ⟨by rw [hR.out]; exact ⟨some ⟨e12, 0, none⟩, 0, rfl, .inr ⟨rfl, rfl, _, rfl⟩⟩, by rw [hR.out, allTo_len]; exact r15, cw.trans (s10.below cw.size (fun j h => by omega))⟩⟩
        · have e5 : decide (x.a5 > k.p.2.1) = false := by simpa using hc
          have hk1 : k1 = k := by rw [← HK1.out, toldK, if_neg hc]
          have T7 : Hid (V5.heap[g10]? = some (.cells (skarr k1 (.slice yo k.ys.length yc)) 39 (0, 0))) := by show _ = _; rw [hk1]; exact (FK.out V5 b5).2.2.2.1
          have u7 : Upd (fun j => j = g10) V5 V5 := Upd.refl _ _
          clear hc hk1
          go_upto_region 8 with fail
          clear x0 x1 x2 x14 w0 w1 w3 w5 e1 e2 e3 e4 e5 XC
          obtain ⟨V, hV⟩ : ∃ V, V = V5 := ⟨_, rfl⟩
          rw [← hV]
          have T7 : Hid (V.heap[g10]? = some (.cells (skarr k1 (.slice yo k.ys.length yc)) 39 (0, 0))) := by rw [hV]; exact T7
          have u7 : Upd (fun j => j = g10) V5 V := by rw [hV]; exact Upd.refl _ _
          clear hV
          have l7 : V.cell? ⟨g10, 25, none⟩ = some (.slice yo k.ys.length yc) := boxAt T7.out 25
          have m7 : V.cell? ⟨w.heap.size + 1, 1, none⟩ = some (.int .i64 x.a1) := updCell u7 ((boxAt (FK.out V5 b5).2.1 1).trans HXC.out.2.1) (by have := FZ.out; omega)
          have al8 := bal (Below.refl V.heap.size V) (.cells #[.int .i64 x.a1] 3)
          have rowV := (rowA_keep_box (by decide) (FK.out V5 b5).2.2.2.2 (FK.out V5 b5).2.2.2.1 u7).keepB al8
          have NV := hide (newI_cells V x.a1 3)
          have T8 := hide (bKeeps al8 T7.out)
          go_wp2_with (at_builtin; refine wpList_appendA _ rfl _ _ 26 rfl W.heap.size 3 i1 (.int .i64 0) 1 8 Try.underlying26 gi gz0 gz1 gz2 rfl (by decide) _ k.ys.length (ints k.ys) rfl rowV ⟨V.heap.size, 0, none⟩ 1 1 [.int .i64 x.a1] rfl rfl NV.out (oneI _) (by decide) ?q63 ?qby ?qbase ?_)
          case q63 => unfold maxLen; omega
          case qby => omega
          case qbase => (have := FZ.out; have := b5.size; have := al8.size; have := u7.size; omega)
          intro v8 w8 r8 u8
          obtain ⟨so8, sc8, rfl, hcap8⟩ := owns_shape r8
          have B8 := hide (typed_keeps (by decide) u8 T8.out)
          have R8 := hide (show RowA w8 W.heap.size 3 1 _ _ _ from .inl r8)
          have z8 := u8.size
          have zal := al8.size
          have UV : Upd (fun j => W.heap.size ≤ j) X w8 := ((((Upd.ofBelow b5).trans (u7.mono (fun j h => by have := FZ.out; omega))).trans (Upd.ofBelow al8)).trans (u8.mono (fun j h => h.1)))
          have S6 : Hid (w8.heap[w.heap.size + 1 + 1]? = some (.cells (skarr zeroK (.slice none 0 0)) 39 (0, 0))) := UV.keeps (FK.out X (Below.refl _ _)).2.2.1 (by have := FZ.out; omega)
          have S3 : Hid (w8.heap[w.heap.size]? = some (.cells (skarr k (.slice ao k.ys.length ac)) 39 (0, 0))) := UV.keeps (FK.out X (Below.refl _ _)).1 (by have := FZ.out; omega)
          have c8 : Below w.heap.size w w8 := c2.trans (UV.below c2.size (fun j h => by have := FZ.out; omega))
          have g8 : g10 < w8.heap.size := heap_lt B8.out
          have f0 : w8.cell? ⟨g10, 25, none⟩ = some (.slice yo k.ys.length yc) := boxAt B8.out 25
          have f1 : w8.frozen? ⟨g10, 25, none⟩ = false := boxFz B8.out 25
          clear rowV NV T8 r8 u8 al8 UV l7 m7
          go_upto_region 9 with fail
          generalize hV : World.setCell _ _ _ = V9
          have u9 : Upd (fun j => j = g10) w8 V9 := by rw [← hV]; exact Upd.setCell _ _ _ _ rfl
          have T9 : Hid (V9.heap[g10]? = some (.cells (skarr k1 (.slice so8 (k.ys.length + 1) sc8)) 39 (0, 0))) := by show _ = _; rw [← hV]; exact row_set _ B8.out
          have R9 := hide (rowA_keep_box (by decide) R8.out B8.out u9)
          have Q6 := hide (u9.keeps S6.out (by have := FZ.out; omega))
          have Q3 := hide (u9.keeps S3.out (by have := FZ.out; omega))
          have c9 : Below w.heap.size w V9 := c8.trans (u9.below c8.size (fun j h => by have := FZ.out; omega))
          have z9 := u9.size
          have l9 : V9.cell? ⟨g10, 25, none⟩ = some (.slice so8 (k.ys.length + 1) sc8) := boxAt T9.out 25
          clear hV f0 f1 B8 R8 S6 S3 u9 c8
          by_cases hn0 : k.ys.length = 0
          · have e6 : decide (((k.ys.length + 1 : Nat) : Int) < 2) = true := decide_eq_true (by omega)
            have e7 : decide ((k.ys.length : Int) + 1 < 2) = true := decide_eq_true (by omega)
            have hR : Hid (R = ({ k1 with ys := k.ys ++ [x.a1] }, [], false)) := by show _ = _; rw [← HR.out, hR1.out, if_pos hn0]
            clear hn0
            have s8 := updRow V9 (w.heap.size + 1 + 1) (skarr k1 (.slice so8 (k.ys.length + 1) sc8))
            have z10 := FZ.out
            go_wp2_with (first
              | (refine wpList_load_row rfl 39 (.tmp 10) rfl g10 rfl _ (skarr k1 (.slice so8 (k.ys.length + 1) sc8)) (0, 0) _ T9.out Try.underlying39 rfl infoSk ?_)
              | (refine wpList_store_row rfl 39 (.tmp 6) (.tmp 102) rfl (w.heap.size + 1 + 1) (skarr k1 (.slice so8 (k.ys.length + 1) sc8)) rfl rfl _ _ Q6.out infoSk (show (26 : Nat) = 26 from rfl) (skarr_one _ _ _ _) ?_))
            refine bodyPost_ret (v := .tuple #[.agg (skarr k1 (.slice so8 (k.ys.length + 1) sc8)), .slice (some ⟨W.heap.size, 0, none⟩) 0 0, .bool false]) (results_row_tmp_tmp Try.results9 _ _ (w.heap.size + 1 + 1) _ _ (0, 0) _ _ _ rfl rfl rfl (setRow_heap _ _ _ _ _ _ Q6.out) Try.underlying39 rfl infoSk) rfl ?_
            exact ⟨_, _, by rw [hR.out], ⟨by rw [hR.out]; exact ⟨so8, sc8, by simp [sk_ys], by simpa [ints] using ((R9.out.keep s8 (fun j h1 h2 => by omega)).mono (base' := w.heap.size) (by omega))⟩, by rw [hR.out]; exact ⟨_, _, rfl, by simp, rfl, fun h => by simp at h⟩, c9.trans (s8.below c9.size (fun j h => by omega))⟩⟩
          · have e6 : decide (((k.ys.length + 1 : Nat) : Int) < 2) = false := decide_eq_false (by omega)
            have e7 : decide ((k.ys.length : Int) + 1 < 2) = false := decide_eq_false (by omega)
            have hR : Hid (R = ({ k1 with ph := 2, ys := [] }, allTo (accW me k.b k.s (valW k1)) 3, false)) := by show _ = _; rw [← HR.out, hR1.out, if_neg hn0]
            clear hn0
            have p2 : V9.cell? ⟨g10, 2, none⟩ = some (.int .i64 k1.ph) := boxAt T9.out 2
            have p2' := boxFz T9.out 2
            have p25' := boxFz T9.out 25
            have g9 := heap_lt T9.out
            go_upto_region 13 with fail
            generalize hV : World.alloc _ _ = V12
            have m9 : Upd (fun j => j = g10) V9 (V9.setCell ⟨g10, 2, none⟩ (.int .i64 2)) := Upd.setCell _ _ _ _ rfl
            have n9 := row_set (.int .i64 2) T9.out (j := 2)
            have T12 : Hid (V12.heap[g10]? = some (.cells (skarr { k1 with ph := 2, ys := [] } (.slice (some ⟨V9.heap.size, 0, none⟩) 0 0)) 39 (0, 0))) := by show _ = _; rw [← hV]; exact bKeeps (bal (Below.refl _ _) _) (row_set _ n9)
            have m12 : Upd (fun j => j = g10) V9 V12 := by rw [← hV]; exact (m9.trans (Upd.setCell _ _ _ _ rfl)).trans (Upd.ofBelow (bal (Below.refl _ _) _))
            have z12 := m12.size
            have Q6 := hide (m12.keeps Q6.out (by have := FZ.out; omega))
            have Q3 := hide (m12.keeps Q3.out (by have := FZ.out; omega))
            have c12 : Below w.heap.size w V12 := c9.trans (m12.below c9.size (fun j h => by have := FZ.out; omega))
            generalize V9.heap.size = e12 at T12 ⊢
            clear hV m9 n9 m12 p2 p2' p25' g9 l9 T9 R9 c9 e6 e7
            have dd := bDrewB (Below.refl V12.heap.size V12)
            have S0 : Hid (∀ V : World, Below V12.heap.size V12 V → (V.heap[g10]? = some (.cells (skarr { k1 with ph := 2, ys := [] } (.slice (some ⟨e12, 0, none⟩) 0 0)) 39 (0, 0)) ∧ V.cell? ⟨w.heap.size, 0, none⟩ = some (.int .i64 k.s) ∧ V.cell? ⟨w.heap.size, 1, none⟩ = some (.int .i64 k.b)) ∧ V.heap[w.heap.size + 1 + 1]? = some (.cells (skarr zeroK (.slice none 0 0)) 39 (0, 0))) := fun V h => ⟨⟨bKeeps h T12.out, (sk_cells (bKeeps h Q3.out)).1, (sk_cells (bKeeps h Q3.out)).2.1⟩, bKeeps h Q6.out⟩
            refine wp_region_noPanic ?_
            refine wp_region_held_drew (S := (fun w' => w'.heap[g10]? = some (.cells (skarr { k1 with ph := 2, ys := [] } (.slice (some ⟨e12, 0, none⟩) 0 0)) 39 (0, 0)) ∧ w'.cell? ⟨w.heap.size, 0, none⟩ = some (.int .i64 k.s) ∧ w'.cell? ⟨w.heap.size, 1, none⟩ = some (.int .i64 k.b))) (by kernel_rfl) ?_ (fun hHeld => ?_)
            · exact (S0.out _ dd).1
            refine wpAnyH_take (i := 0) (v := .agg (skarr { k1 with ph := 2, ys := [] } (.slice (some ⟨e12, 0, none⟩) 0 0))) rfl (by kernel_rfl) (by kernel_rfl) (by kernel_rfl) (fun _ _ _ h => h) (yields_row rfl 39 (.tmp 10) rfl (g10) rfl _ (skarr { k1 with ph := 2, ys := [] } (.slice (some ⟨e12, 0, none⟩) 0 0)) _ (fun _ h => h.1) Try.underlying39 rfl infoSk) (by assumption) ?_
            simp only [Act.put, List.getElem_toArray, List.getElem_cons_zero, List.setIfInBounds_toArray, List.set_cons_zero, List.set_cons_succ]
            refine wpAnyH_take (i := 1) (v := ?v8) rfl (by kernel_rfl) (by kernel_rfl) (by kernel_rfl) (fun _ _ _ h => h) (Or.inl ⟨by rfl, ?hy8⟩) (by assumption) ?rest8
            case hy8 => ((intro w hSw; (try dsimp only at hSw); (try simp only [List.getElem_toArray, List.getElem_cons_zero, List.getElem_cons_succ]); go_simp; first | done | (with_reducible rfl)))
            simp only [Act.put, List.getElem_toArray, List.getElem_cons_zero, List.getElem_cons_succ, List.setIfInBounds_toArray, List.set_cons_zero, List.set_cons_succ]
            refine wpAnyH_take (i := 2) (v := ?v9) rfl (by kernel_rfl) (by kernel_rfl) (by kernel_rfl) (fun _ _ _ h => h) (Or.inl ⟨by rfl, ?hy9⟩) (by assumption) ?rest9
            case hy9 => ((intro w hSw; (try dsimp only at hSw); (try simp only [List.getElem_toArray, List.getElem_cons_zero, List.getElem_cons_succ]); go_simp; first | done | (with_reducible rfl)))
            simp only [Act.put, List.getElem_toArray, List.getElem_cons_zero, List.getElem_cons_succ, List.setIfInBounds_toArray, List.set_cons_zero, List.set_cons_succ]
            refine wpAnyH_take (i := 3) (v := ?v10) rfl (by kernel_rfl) (by kernel_rfl) (by kernel_rfl) (fun _ _ _ h => h) (Or.inl ⟨by rfl, ?hy10⟩) (by assumption) ?rest10
            case hy10 => ((intro w hSw; (try dsimp only at hSw); (try simp only [List.getElem_toArray, List.getElem_cons_zero, List.getElem_cons_succ]); go_simp; first | done | (with_reducible rfl)))
            simp only [Act.put, List.getElem_toArray, List.getElem_cons_zero, List.getElem_cons_succ, List.setIfInBounds_toArray, List.set_cons_zero, List.set_cons_succ]
            refine wpAnyH_take (i := 4) (v := ?v11) rfl (by kernel_rfl) (by kernel_rfl) (by kernel_rfl) (fun _ _ _ h => h) (Or.inl ⟨by rfl, ?hy11⟩) (by assumption) ?rest11
            case hy11 => ((intro w hSw; (try dsimp only at hSw); (try simp only [List.getElem_toArray, List.getElem_cons_zero, List.getElem_cons_succ]); go_simp; first | done | (with_reducible rfl)))
            simp only [Act.put, List.getElem_toArray, List.getElem_cons_zero, List.getElem_cons_succ, List.setIfInBounds_toArray, List.set_cons_zero, List.set_cons_succ]
            refine wpAnyH_take (i := 5) (v := ?v12) rfl (by kernel_rfl) (by kernel_rfl) (by kernel_rfl) (fun _ _ _ h => h) (Or.inl ⟨by rfl, ?hy12⟩) (by assumption) ?rest12
            case hy12 => ((intro w hSw; (try dsimp only at hSw); (try simp only [List.getElem_toArray, List.getElem_cons_zero, List.getElem_cons_succ]); go_simp; first | done | (with_reducible rfl)))
            simp only [Act.put, List.getElem_toArray, List.getElem_cons_zero, List.getElem_cons_succ, List.setIfInBounds_toArray, List.set_cons_zero, List.set_cons_succ]
            refine wpAnyH_take (i := 6) (v := .agg (skarr { k1 with ph := 2, ys := [] } (.slice (some ⟨e12, 0, none⟩) 0 0))) rfl (by kernel_rfl) (by kernel_rfl) (by kernel_rfl) (fun _ _ _ h => h) (yields_row rfl 39 (.tmp 10) rfl (g10) rfl _ (skarr { k1 with ph := 2, ys := [] } (.slice (some ⟨e12, 0, none⟩) 0 0)) _ (fun _ h => h.1) Try.underlying39 rfl infoSk) (by assumption) ?_
            simp only [Act.put, List.getElem_toArray, List.getElem_cons_zero, List.getElem_cons_succ, List.setIfInBounds_toArray, List.set_cons_zero, List.set_cons_succ]
            refine wpAnyH_ready (rs := [7]) (by kernel_rfl) (by simp) ?_
            refine AllReadyH.cons rfl (fun K hK => ?_) AllReadyH.nil
            go_simp
            (go_at_call 43; refine (l22Value_any { k1 with ph := 2, ys := [] } _ _ _ _).mono ?_; rintro e V13 ⟨rfl, b13⟩; have b13' := bAll dd b13)
            refine hK.out _ _ ?_ (fun hHeld => ?_)
            · exact (S0.out _ b13').1
            clear hK K
            refine wpAnyH_take (i := 8) (v := .agg (fwarr (accW me k.b k.s (valW k1)))) rfl (by kernel_rfl) (by kernel_rfl) (by kernel_rfl) (fun _ _ _ h => h) (yields_build rfl 47 _ rfl [(0, .int .i64 3), (1, .int .i64 me), (3, .int .i64 k.b), (4, .int .i64 k.s), (6, .agg (wcmd (valW k1)))] _ ((by (conv => lhs; simp only [List.map_toArray, List.map_cons, List.map_nil]); rfl)) (builtAcc me k.b k.s (valW k1))) (by assumption) ?_
            simp only [Act.put, List.getElem_toArray, List.getElem_cons_zero, List.getElem_cons_succ, List.setIfInBounds_toArray, List.set_cons_zero, List.set_cons_succ]
            refine wpAnyH_ready (rs := [9]) (by kernel_rfl) (by simp) ?_
            refine AllReadyH.cons rfl (fun K hK => ?_) AllReadyH.nil
            go_simp
            (go_at_call 42; refine (l22All_any (accW me k.b k.s (valW k1)) _).mono ?_; rintro e V14 ⟨v14, rfl, r14, b14⟩; have b14' := bAll b13' b14)
            refine hK.out _ _ ?_ (fun hHeld => ?_)
            · exact (S0.out _ b14').1
            clear hK K
            have s10 := updRow V14 (w.heap.size + 1 + 1) (skarr { k1 with ph := 2, ys := [] } (.slice (some ⟨e12, 0, none⟩) 0 0))
            have z14 := b14.size
            have z13 := b13'.size
            have zf := FZ.out
            have q14 := S0.out _ b14'
            have q15 := s10.keeps q14.1.1 (by omega)
            have q16 := updCell s10 q14.1.2.1 (by omega)
            have q17 := updCell s10 q14.1.2.2 (by omega)
            refine wpAnyH_ready (rs := [10]) (by kernel_rfl) (by simp) ?_
            refine AllReadyH.cons rfl (fun K hK => ?_) AllReadyH.nil
            (refine wp_store_row 39 (.tmp 6) (.tmp 107) rfl (w.heap.size + 1 + 1) (skarr { k1 with ph := 2, ys := [] } (.slice (some ⟨e12, 0, none⟩) 0 0)) rfl rfl _ _ q14.2 infoSk (show (26 : Nat) = 26 from rfl) (skarr_one _ _ _ _) ?_)
            refine hK.out _ _ ?_ (fun hHeld => ?_)
            · exact ⟨q15, q16, q17⟩
            clear hK K
            refine wpAnyH_take (i := 11) (v := ?v13) rfl (by kernel_rfl) (by kernel_rfl) (by kernel_rfl) (fun _ _ _ h => h) (Or.inl ⟨by rfl, ?y13⟩) (by assumption) ?r13
            case y13 => (intro w hSw; go_simp; first | done | (with_reducible rfl))
            simp only [Act.put, List.getElem_toArray, List.getElem_cons_zero, List.getElem_cons_succ, List.setIfInBounds_toArray, List.set_cons_zero, List.set_cons_succ]
            refine wpAnyH_take (i := 12) (v := ?v14) rfl (by kernel_rfl) (by kernel_rfl) (by kernel_rfl) (fun _ _ _ h => h) (Or.inl ⟨by rfl, ?y14⟩) (by assumption) ?r14
            case y14 => (intro w hSw; go_simp; first | done | (with_reducible rfl))
            simp only [Act.put, List.getElem_toArray, List.getElem_cons_zero, List.getElem_cons_succ, List.setIfInBounds_toArray, List.set_cons_zero, List.set_cons_succ]
            refine wpAnyH_done (by kernel_rfl) ?_ _
            refine NoPanic.normal ?_
            clear hHeld
            go_wp2_with fail
            refine bodyPost_ret (v := .tuple #[.agg (skarr { k1 with ph := 2, ys := [] } (.slice (some ⟨e12, 0, none⟩) 0 0)), v14, .bool false]) (results_row_tmp_tmp Try.results9 _ _ (w.heap.size + 1 + 1) _ _ (0, 0) _ _ _ rfl rfl rfl (setRow_heap _ _ _ _ _ _ q14.2) Try.underlying39 rfl infoSk) rfl ?_
            have cw := bAll c12 b14'
            have r15 := ((r14.row (by omega)).keep s10 (fun j h1 h2 => by omega)).mono (T := fun j => w.heap.size ≤ j) (fun j _ h => by omega)
            exact ⟨_, _, by rw [hR.out], ⟨by rw [hR.out]; exact ⟨some ⟨e12, 0, none⟩, 0, rfl, .inr ⟨rfl, rfl, _, rfl⟩⟩, by rw [hR.out, allTo_len]; exact r15, cw.trans (s10.below cw.size (fun j h => by omega))⟩⟩
      · have e4 : decide (x.a5 < k.b) = false := by simpa using hb
        have hno : Hid (¬ (k.ph = 1 ∧ x.a0 = 2 ∧ x.a5 < k.b)) := fun h => hb h.2.2
        have hno2 : Hid (¬ (k.ph = 2 ∧ x.a0 = 4)) := fun h => by omega
        clear hp ha hb
        have hR : Hid (R = (k, [], false)) := by show _ = _; rw [← HR.out, hearR, if_pos HCT.out, if_neg hno.out, if_neg hno2.out]
        have q10 := (FK.out V5 b5).2.2.2.1
        have q6 := (FK.out V5 b5).2.2.1
        have q11 := (FK.out V5 b5).2.2.2.2
        have s8 := updRow V5 (w.heap.size + 1 + 1) (skarr k (.slice yo k.ys.length yc))
        go_wp2_with (first
          | (refine wpList_load_row rfl 39 (.tmp 10) rfl g10 rfl _ (skarr k (.slice yo k.ys.length yc)) (0, 0) _ q10 Try.underlying39 rfl infoSk ?_)
          | (refine wpList_store_row rfl 39 (.tmp 6) (.tmp 139) rfl (w.heap.size + 1 + 1) (skarr k (.slice yo k.ys.length yc)) rfl rfl _ _ q6 infoSk (show (26 : Nat) = 26 from rfl) (skarr_one _ _ _ _) ?_))
        refine bodyPost_ret (v := .tuple #[.agg (skarr k (.slice yo k.ys.length yc)), .slice (some ⟨W.heap.size, 0, none⟩) 0 0, .bool false]) (results_row_tmp_tmp Try.results9 _ _ (w.heap.size + 1 + 1) _ _ (0, 0) _ _ _ rfl rfl rfl (setRow_heap _ _ _ _ _ _ q6) Try.underlying39 rfl infoSk) rfl ?_
        have cw : Below w.heap.size w V5 := bAll c2 b5
        have z8 := FZ.out
        have zz := b5.size
        exact ⟨_, _, by rw [hR.out], ⟨by rw [hR.out]; exact ⟨yo, yc, rfl, ((q11.keep s8 (fun j h1 h2 => by omega)).mono (by omega))⟩, by rw [hR.out]; exact ⟨_, _, rfl, by simp, rfl, fun h => by simp at h⟩, cw.trans (s8.below cw.size (fun j h => by omega))⟩⟩
    · have e3 : (x.a0 == 2) = false := by simpa using ha
      have hno : Hid (¬ (k.ph = 1 ∧ x.a0 = 2 ∧ x.a5 < k.b)) := fun h => ha h.2.1
      have hno2 : Hid (¬ (k.ph = 2 ∧ x.a0 = 4)) := fun h => by omega
      clear hp ha
      have hR : Hid (R = (k, [], false)) := by show _ = _; rw [← HR.out, hearR, if_pos HCT.out, if_neg hno.out, if_neg hno2.out]
      have q10 := (FK.out V5 b5).2.2.2.1
      have q6 := (FK.out V5 b5).2.2.1
      have q11 := (FK.out V5 b5).2.2.2.2
      have s8 := updRow V5 (w.heap.size + 1 + 1) (skarr k (.slice yo k.ys.length yc))
      go_wp2_with (first
        | (refine wpList_load_row rfl 39 (.tmp 10) rfl g10 rfl _ (skarr k (.slice yo k.ys.length yc)) (0, 0) _ q10 Try.underlying39 rfl infoSk ?_)
        | (refine wpList_store_row rfl 39 (.tmp 6) (.tmp 139) rfl (w.heap.size + 1 + 1) (skarr k (.slice yo k.ys.length yc)) rfl rfl _ _ q6 infoSk (show (26 : Nat) = 26 from rfl) (skarr_one _ _ _ _) ?_))
      refine bodyPost_ret (v := .tuple #[.agg (skarr k (.slice yo k.ys.length yc)), .slice (some ⟨W.heap.size, 0, none⟩) 0 0, .bool false]) (results_row_tmp_tmp Try.results9 _ _ (w.heap.size + 1 + 1) _ _ (0, 0) _ _ _ rfl rfl rfl (setRow_heap _ _ _ _ _ _ q6) Try.underlying39 rfl infoSk) rfl ?_
      have cw : Below w.heap.size w V5 := bAll c2 b5
      have z8 := FZ.out
      have zz := b5.size
      exact ⟨_, _, by rw [hR.out], ⟨by rw [hR.out]; exact ⟨yo, yc, rfl, ((q11.keep s8 (fun j h1 h2 => by omega)).mono (by omega))⟩, by rw [hR.out]; exact ⟨_, _, rfl, by simp, rfl, fun h => by simp at h⟩, cw.trans (s8.below cw.size (fun j h => by omega))⟩⟩
  · have e1 : (k.ph == 1) = false := by simpa using hp
    have hno : Hid (¬ (k.ph = 1 ∧ x.a0 = 2 ∧ x.a5 < k.b)) := fun h => hp h.1
    by_cases hq : k.ph = 2
    · have e2 : (k.ph == 2) = true := by simpa using hq
      by_cases ha : x.a0 = 4
      · have e3 : (x.a0 == 4) = true := by simpa using ha
        have hR1 : Hid (hearR k me x = ({ k with ys := k.ys ++ [x.a1] }, [], decide (k.ys.length = 1))) := by show _ = _; rw [hearR, if_pos HCT.out, if_neg hno.out, if_pos ⟨hq, ha⟩]
        clear hp hq ha
        have T7 := hide (FK.out V5 b5).2.2.2.1
        have l7 : V5.cell? ⟨g10, 25, none⟩ = some (.slice yo k.ys.length yc) := boxAt T7.out 25
        have u7 : Upd (fun j => j = g10) V5 V5 := Upd.refl _ _
        go_upto_region 15 with fail
        have al8 := bal (Below.refl V5.heap.size V5) (.cells #[.int .i64 x.a1] 3)
        have rowV := (FK.out V5 b5).2.2.2.2.keepB al8
        have NV := hide (newI_cells V5 x.a1 3)
        have T8 := hide (bKeeps al8 T7.out)
        go_wp2_with (at_builtin; refine wpList_appendA _ rfl _ _ 26 rfl W.heap.size 3 i1 (.int .i64 0) 1 8 Try.underlying26 gi gz0 gz1 gz2 rfl (by decide) _ k.ys.length (ints k.ys) rfl rowV ⟨V5.heap.size, 0, none⟩ 1 1 [.int .i64 x.a1] rfl rfl NV.out (oneI _) (by decide) ?q63 ?qby ?qbase ?_)
        case q63 => unfold maxLen; omega
        case qby => omega
        case qbase => (have := FZ.out; have := b5.size; have := al8.size; have := u7.size; omega)
        intro v8 w8 r8 u8
        obtain ⟨so8, sc8, rfl, hcap8⟩ := owns_shape r8
        have B8 := hide (typed_keeps (by decide) u8 T8.out)
        have R8 := hide (show RowA w8 W.heap.size 3 1 _ _ _ from .inl r8)
        have z8 := u8.size
        have zal := al8.size
        have UV : Upd (fun j => W.heap.size ≤ j) X w8 := ((((Upd.ofBelow b5).trans (u7.mono (fun j h => by have := FZ.out; omega))).trans (Upd.ofBelow al8)).trans (u8.mono (fun j h => h.1)))
        have S6 : Hid (w8.heap[w.heap.size + 1 + 1]? = some (.cells (skarr zeroK (.slice none 0 0)) 39 (0, 0))) := UV.keeps (FK.out X (Below.refl _ _)).2.2.1 (by have := FZ.out; omega)
        have S3 : Hid (w8.heap[w.heap.size]? = some (.cells (skarr k (.slice ao k.ys.length ac)) 39 (0, 0))) := UV.keeps (FK.out X (Below.refl _ _)).1 (by have := FZ.out; omega)
        have c8 : Below w.heap.size w w8 := c2.trans (UV.below c2.size (fun j h => by have := FZ.out; omega))
        have g8 : g10 < w8.heap.size := heap_lt B8.out
        have f0 : w8.cell? ⟨g10, 25, none⟩ = some (.slice yo k.ys.length yc) := boxAt B8.out 25
        have f1 : w8.frozen? ⟨g10, 25, none⟩ = false := boxFz B8.out 25
        clear rowV NV T8 r8 u8 al8 UV l7
        go_upto_region 16 with fail
        generalize hV : World.setCell _ _ _ = V9
        have u9 : Upd (fun j => j = g10) w8 V9 := by rw [← hV]; exact Upd.setCell _ _ _ _ rfl
        have T9 : Hid (V9.heap[g10]? = some (.cells (skarr k (.slice so8 (k.ys.length + 1) sc8)) 39 (0, 0))) := by show _ = _; rw [← hV]; exact row_set _ B8.out
        have R9 := hide (rowA_keep_box (by decide) R8.out B8.out u9)
        have Q6 := hide (u9.keeps S6.out (by have := FZ.out; omega))
        have Q3 := hide (u9.keeps S3.out (by have := FZ.out; omega))
        have c9 : Below w.heap.size w V9 := c8.trans (u9.below c8.size (fun j h => by have := FZ.out; omega))
        have z9 := u9.size
        have l9 : V9.cell? ⟨g10, 25, none⟩ = some (.slice so8 (k.ys.length + 1) sc8) := boxAt T9.out 25
        clear hV f0 f1 B8 R8 S6 S3 u9 c8
        clear l9
        have dd := bDrewB (Below.refl V9.heap.size V9)
        have hR : Hid (R = ({ k with ys := k.ys ++ [x.a1] }, [], decide (k.ys.length = 1))) := by show _ = _; rw [← HR.out, hR1.out]
        obtain ⟨dc, hdc⟩ : ∃ d, (((k.ys.length + 1 : Nat) : Int) == 2) = d := ⟨_, rfl⟩
        have hdc2 : Hid (decide (k.ys.length = 1) = dc) := by show _ = _; rw [← hdc]; by_cases h : k.ys.length = 1 <;> simp [h] <;> omega
        refine wp_region_noPanic ?_
        refine wp_region_held_drew (S := (fun w' => w'.heap[g10]? = some (.cells (skarr k (.slice so8 (k.ys.length + 1) sc8)) 39 (0, 0)) ∧ w'.cell? ⟨g10, 25, none⟩ = some (.slice so8 (k.ys.length + 1) sc8))) (by kernel_rfl) ?_ (fun hHeld => ?_)
        · exact ⟨bKeeps dd T9.out, boxAt (bKeeps dd T9.out) 25⟩
        refine wpAnyH_take (i := 0) (v := .agg (skarr k (.slice so8 (k.ys.length + 1) sc8))) rfl (by kernel_rfl) (by kernel_rfl) (by kernel_rfl) (fun _ _ _ h => h) (yields_row rfl 39 (.tmp 10) rfl (g10) rfl _ (skarr k (.slice so8 (k.ys.length + 1) sc8)) _ (fun _ h => h.1) Try.underlying39 rfl infoSk) (by assumption) ?_
        simp only [Act.put, List.getElem_toArray, List.getElem_cons_zero, List.setIfInBounds_toArray, List.set_cons_zero, List.set_cons_succ]
        refine wpAnyH_take (i := 1) (v := ?v15) rfl (by kernel_rfl) (by kernel_rfl) (by kernel_rfl) (fun _ _ _ h => h) (Or.inl ⟨by rfl, ?hy15⟩) (by assumption) ?rest15
        case hy15 => ((intro w hSw; (try dsimp only at hSw); (try simp only [List.getElem_toArray, List.getElem_cons_zero, List.getElem_cons_succ]); go_simp; first | done | (with_reducible rfl)))
        simp only [Act.put, List.getElem_toArray, List.getElem_cons_zero, List.getElem_cons_succ, List.setIfInBounds_toArray, List.set_cons_zero, List.set_cons_succ]
        refine wpAnyH_take (i := 2) (v := ?v16) rfl (by kernel_rfl) (by kernel_rfl) (by kernel_rfl) (fun _ _ _ h => h) (Or.inl ⟨by rfl, ?hy16⟩) (by assumption) ?rest16
        case hy16 => ((intro w hSw; (try dsimp only at hSw); (try simp only [List.getElem_toArray, List.getElem_cons_zero, List.getElem_cons_succ]); go_simp; first | done | (with_reducible rfl)))
        simp only [Act.put, List.getElem_toArray, List.getElem_cons_zero, List.getElem_cons_succ, List.setIfInBounds_toArray, List.set_cons_zero, List.set_cons_succ]
        refine wpAnyH_take (i := 3) (v := ?v17) rfl (by kernel_rfl) (by kernel_rfl) (by kernel_rfl) (fun _ _ _ h => h) (Or.inl ⟨by rfl, ?hy17⟩) (by assumption) ?rest17
        case hy17 => ((intro w hSw; (try dsimp only at hSw); (try simp only [List.getElem_toArray, List.getElem_cons_zero, List.getElem_cons_succ]); go_simp; first | done | (with_reducible rfl)))
        simp only [Act.put, List.getElem_toArray, List.getElem_cons_zero, List.getElem_cons_succ, List.setIfInBounds_toArray, List.set_cons_zero, List.set_cons_succ]
        refine wpAnyH_take (i := 4) (v := ?v18) rfl (by kernel_rfl) (by kernel_rfl) (by kernel_rfl) (fun _ _ _ h => h) (Or.inl ⟨by rfl, ?hy18⟩) (by assumption) ?rest18
        case hy18 => ((intro w hSw; (try dsimp only at hSw); (try simp only [List.getElem_toArray, List.getElem_cons_zero, List.getElem_cons_succ]); go_simp; first | done | (with_reducible rfl)))
        simp only [Act.put, List.getElem_toArray, List.getElem_cons_zero, List.getElem_cons_succ, List.setIfInBounds_toArray, List.set_cons_zero, List.set_cons_succ]
        refine wpAnyH_take (i := 5) (v := ?v19) rfl (by kernel_rfl) (by kernel_rfl) (by kernel_rfl) (fun _ _ _ h => h) (Or.inl ⟨by rfl, ?hy19⟩) (by assumption) ?rest19
        case hy19 => ((intro w hSw; (try dsimp only at hSw); (try simp only [List.getElem_toArray, List.getElem_cons_zero, List.getElem_cons_succ]); go_simp; first | done | (with_reducible rfl)))
        simp only [Act.put, List.getElem_toArray, List.getElem_cons_zero, List.getElem_cons_succ, List.setIfInBounds_toArray, List.set_cons_zero, List.set_cons_succ]
        have s10 := updRow V9.drew (w.heap.size + 1 + 1) (skarr k (.slice so8 (k.ys.length + 1) sc8))
        have zf := FZ.out
        have q6 := bKeeps dd Q6.out
        have q14 := bKeeps dd T9.out
        have q15 := s10.keeps q14 (by omega)
        refine wpAnyH_ready (rs := [6]) (by kernel_rfl) (by simp) ?_
        refine AllReadyH.cons rfl (fun K hK => ?_) AllReadyH.nil
        (refine wp_store_row 39 (.tmp 6) (.tmp 133) rfl (w.heap.size + 1 + 1) (skarr k (.slice so8 (k.ys.length + 1) sc8)) rfl rfl _ _ q6 infoSk (show (26 : Nat) = 26 from rfl) (skarr_one _ _ _ _) ?_)
        refine hK.out _ _ ?_ (fun hHeld => ?_)
        · exact ⟨q15, boxAt q15 25⟩
        clear hK K
        refine wpAnyH_take (i := 7) (v := ?v20) rfl (by kernel_rfl) (by kernel_rfl) (by kernel_rfl) (fun _ _ _ h => h) (Or.inl ⟨by rfl, ?y20⟩) (by assumption) ?r20
        case y20 => (intro w hSw; go_simp; first | done | (with_reducible rfl))
        simp only [Act.put, List.getElem_toArray, List.getElem_cons_zero, List.getElem_cons_succ, List.setIfInBounds_toArray, List.set_cons_zero, List.set_cons_succ]
        refine wpAnyH_take (i := 8) (v := ?v21) rfl (by kernel_rfl) (by kernel_rfl) (by kernel_rfl) (fun _ _ _ h => h) (Or.inl ⟨by rfl, ?y21⟩) (by assumption) ?r21
        case y21 => (intro w hSw; go_simp; first | done | (with_reducible rfl))
        simp only [Act.put, List.getElem_toArray, List.getElem_cons_zero, List.getElem_cons_succ, List.setIfInBounds_toArray, List.set_cons_zero, List.set_cons_succ]
        refine wpAnyH_done (by kernel_rfl) ?_ _
        refine NoPanic.normal ?_
        clear hHeld
        go_wp2_with fail
        refine bodyPost_ret (v := .tuple #[.agg (skarr k (.slice so8 (k.ys.length + 1) sc8)), .slice (some ⟨W.heap.size, 0, none⟩) 0 0, .bool _]) (results_row_tmp_tmp Try.results9 _ _ (w.heap.size + 1 + 1) _ _ (0, 0) _ _ _ rfl rfl rfl (setRow_heap _ _ _ _ _ _ q6) Try.underlying39 rfl infoSk) rfl ?_
        have cw := bAll c9 dd
        have zd : V9.drew.heap.size = V9.heap.size := rfl
        exact ⟨_, _, by rw [hR.out, hdc2.out, ← hdc]; rfl, ⟨by rw [hR.out]; exact ⟨so8, sc8, by simp [sk_ys], by simpa [ints] using (((R9.out.keepB dd).keep s10 (fun j h1 h2 => by omega)).mono (base' := w.heap.size) (by omega))⟩, by rw [hR.out]; exact ⟨_, _, rfl, by simp, rfl, fun h => by simp at h⟩, cw.trans (s10.below cw.size (fun j h => by omega))⟩⟩
      · have e3 : (x.a0 == 4) = false := by simpa using ha
        have hno2 : Hid (¬ (k.ph = 2 ∧ x.a0 = 4)) := fun h => ha h.2
        clear hp hq ha
        have hR : Hid (R = (k, [], false)) := by show _ = _; rw [← HR.out, hearR, if_pos HCT.out, if_neg hno.out, if_neg hno2.out]
        have q10 := (FK.out V5 b5).2.2.2.1
        have q6 := (FK.out V5 b5).2.2.1
        have q11 := (FK.out V5 b5).2.2.2.2
        have s8 := updRow V5 (w.heap.size + 1 + 1) (skarr k (.slice yo k.ys.length yc))
        go_wp2_with (first
          | (refine wpList_load_row rfl 39 (.tmp 10) rfl g10 rfl _ (skarr k (.slice yo k.ys.length yc)) (0, 0) _ q10 Try.underlying39 rfl infoSk ?_)
          | (refine wpList_store_row rfl 39 (.tmp 6) (.tmp 139) rfl (w.heap.size + 1 + 1) (skarr k (.slice yo k.ys.length yc)) rfl rfl _ _ q6 infoSk (show (26 : Nat) = 26 from rfl) (skarr_one _ _ _ _) ?_))
        refine bodyPost_ret (v := .tuple #[.agg (skarr k (.slice yo k.ys.length yc)), .slice (some ⟨W.heap.size, 0, none⟩) 0 0, .bool false]) (results_row_tmp_tmp Try.results9 _ _ (w.heap.size + 1 + 1) _ _ (0, 0) _ _ _ rfl rfl rfl (setRow_heap _ _ _ _ _ _ q6) Try.underlying39 rfl infoSk) rfl ?_
        have cw : Below w.heap.size w V5 := bAll c2 b5
        have z8 := FZ.out
        have zz := b5.size
        exact ⟨_, _, by rw [hR.out], ⟨by rw [hR.out]; exact ⟨yo, yc, rfl, ((q11.keep s8 (fun j h1 h2 => by omega)).mono (by omega))⟩, by rw [hR.out]; exact ⟨_, _, rfl, by simp, rfl, fun h => by simp at h⟩, cw.trans (s8.below cw.size (fun j h => by omega))⟩⟩
    · have e2 : (k.ph == 2) = false := by simpa using hq
      have hno2 : Hid (¬ (k.ph = 2 ∧ x.a0 = 4)) := fun h => hq h.1
      clear hp hq
      have hR : Hid (R = (k, [], false)) := by show _ = _; rw [← HR.out, hearR, if_pos HCT.out, if_neg hno.out, if_neg hno2.out]
      have q10 := (FK.out V5 b5).2.2.2.1
      have q6 := (FK.out V5 b5).2.2.1
      have q11 := (FK.out V5 b5).2.2.2.2
      have s8 := updRow V5 (w.heap.size + 1 + 1) (skarr k (.slice yo k.ys.length yc))
      go_wp2_with (first
        | (refine wpList_load_row rfl 39 (.tmp 10) rfl g10 rfl _ (skarr k (.slice yo k.ys.length yc)) (0, 0) _ q10 Try.underlying39 rfl infoSk ?_)
        | (refine wpList_store_row rfl 39 (.tmp 6) (.tmp 139) rfl (w.heap.size + 1 + 1) (skarr k (.slice yo k.ys.length yc)) rfl rfl _ _ q6 infoSk (show (26 : Nat) = 26 from rfl) (skarr_one _ _ _ _) ?_))
      refine bodyPost_ret (v := .tuple #[.agg (skarr k (.slice yo k.ys.length yc)), .slice (some ⟨W.heap.size, 0, none⟩) 0 0, .bool false]) (results_row_tmp_tmp Try.results9 _ _ (w.heap.size + 1 + 1) _ _ (0, 0) _ _ _ rfl rfl rfl (setRow_heap _ _ _ _ _ _ q6) Try.underlying39 rfl infoSk) rfl ?_
      have cw : Below w.heap.size w V5 := bAll c2 b5
      have z8 := FZ.out
      have zz := b5.size
      exact ⟨_, _, by rw [hR.out], ⟨by rw [hR.out]; exact ⟨yo, yc, rfl, ((q11.keep s8 (fun j h1 h2 => by omega)).mono (by omega))⟩, by rw [hR.out]; exact ⟨_, _, rfl, by simp, rfl, fun h => by simp at h⟩, cw.trans (s8.below cw.size (fun j h => by omega))⟩⟩

end Go.Proofs.Yteddhdbglciahaa
