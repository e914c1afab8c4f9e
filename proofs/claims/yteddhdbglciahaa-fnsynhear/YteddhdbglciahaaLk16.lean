/- Contracts and plain facts that this claim leans on (texts SH10, SH11, SH12); no statement of the seat is proved here. -/
import Derived.Test.YteddhdbglciahaaLk15
import Derived.Test.YteddhdbglciahaaSH9P

/- The phases gathered: what a phase, whichever it is, does with a word, and what the next one tells: contracts; no statement of the seat is proved here. -/
namespace Go.Proofs.Yteddhdbglciahaa
open Go.RowKit

/-- What the phase of a seeker does with a word: the word with which all are asked, the next phase's type, its seeker, and whether it rests. -/
def hearP (k : Sk) (x : Wd) : Wd × TypeId × Sk × Option Bool :=
  if k.ph = 1 then hear1R k x else if k.ph = 2 then (zeroW, hear2R k x) else (zeroW, 164, k, some false)

/-- A phase's type goes with whether it rests. -/
def PhT (T : TypeId) (c : Option Bool) : Prop := (T = 161 ∧ c = none) ∨ (T = 162 ∧ c = none) ∨ (T = 164 ∧ ∃ b, c = some b)

theorem hearP_T (k : Sk) (x : Wd) : PhT (hearP k x).2.1 (hearP k x).2.2.2 := by
  unfold hearP
  split
  · unfold hear1R
    split
    · split
      · exact .inl ⟨rfl, rfl⟩
      · exact .inr (.inl ⟨rfl, rfl⟩)
    · exact .inl ⟨rfl, rfl⟩
  · split
    · unfold hear2R
      split
      · split
        · exact .inr (.inl ⟨rfl, rfl⟩)
        · exact .inr (.inr ⟨rfl, true, rfl⟩)
      · exact .inr (.inl ⟨rfl, rfl⟩)
    · exact .inr (.inr ⟨rfl, false, rfl⟩)

theorem hearP_len (k : Sk) (x : Wd) (hn : k.ys.length ≤ 1) : (hearP k x).2.2.1.ys.length ≤ 2 := by
  unfold hearP
  split
  · unfold hear1R
    split
    · split
      · show (k.ys ++ [x.a1]).length ≤ 2
        simp; omega
      · show ([] : List Int).length ≤ 2
        simp
    · show k.ys.length ≤ 2
      omega
  · split
    · unfold hear2R
      split
      · split <;> (show (k.ys ++ [x.a1]).length ≤ 2; simp; omega)
      · show k.ys.length ≤ 2
        omega
    · show k.ys.length ≤ 2
      omega

theorem call_hear1 (u v : Value) (w : World) : (callFunc 160 #[u, v]).run Try.prog w = .ok (.enter 160 #[u, v]) w := by kernel_rfl
theorem call_tell1 (u : Value) (w : World) : (callFunc 161 #[u]).run Try.prog w = .ok (.enter 161 #[u]) w := by kernel_rfl
theorem call_hear2 (u v : Value) (w : World) : (callFunc 163 #[u, v]).run Try.prog w = .ok (.enter 163 #[u, v]) w := by kernel_rfl
theorem call_tell2 (u : Value) (w : World) : (callFunc 164 #[u]).run Try.prog w = .ok (.enter 164 #[u]) w := by kernel_rfl
theorem call_hear0 (u v : Value) (w : World) : (callFunc 165 #[u, v]).run Try.prog w = .ok (.enter 165 #[u, v]) w := by kernel_rfl
theorem call_tell0 (u : Value) (w : World) : (callFunc 166 #[u]).run Try.prog w = .ok (.enter 166 #[u]) w := by kernel_rfl

theorem hear_any (k : Sk) (yo : Option Addr) (yc : Nat) (x : Wd) (hn : k.ys.length ≤ 1) :
    ∃ T recv f, phV k (.slice yo k.ys.length yc) = .iface T recv ∧ (∀ (u v : Value) (w : World), (callFunc f #[u, v]).run Try.prog w = .ok (.enter f #[u, v]) w) ∧ (∀ w : World, (Go.method 369 T recv "loop.example/pannier/impl.hear").run Try.prog w = .ok (f, recv) w) ∧
      (∀ (w : World) (base : Nat) (u : Value), RowA w base 3 1 (.slice yo k.ys.length yc) k.ys.length (ints k.ys) → base ≤ w.heap.size → WdR w u x →
        Calls Try.prog f #[recv, u] w fun e w' => ∃ v, e = .returned v ∧ PhO w w' base (hearP k x).1 (hearP k x).2.1 (hearP k x).2.2.1 (hearP k x).2.2.2 v) := by
  by_cases h1 : k.ph = 1
  · refine ⟨_, _, _, by rw [phV, if_pos h1], call_hear1, fun w => meth_hear1 k yo _ yc w, fun w base u hr hb hx => ?_⟩
    rw [hearP, if_pos h1]
    exact hear1_any k yo yc base u x w hn hr hb hx
  · by_cases h2 : k.ph = 2
    · refine ⟨_, _, _, by rw [phV, if_neg h1, if_pos h2], call_hear2, fun w => meth_hear2 k yo _ yc w, fun w base u hr hb hx => ?_⟩
      rw [hearP, if_neg h1, if_pos h2]
      exact hear2_any k yo yc base u x w hn hr hb hx
    · refine ⟨_, _, _, by rw [phV, if_neg h1, if_neg h2], call_hear0, fun w => meth_hear0 k yo _ yc false w, fun w base u hr hb hx => ?_⟩
      rw [hearP, if_neg h1, if_neg h2]
      exact hear0_any k yo yc base false u x w hr hb hx

theorem tell_any (T : TypeId) (K : Sk) (c : Option Bool) (yo : Option Addr) (n yc : Nat) (cs : Array Value) (hc : cs = (match c with | none => skarr K (.slice yo n yc) | some c => rest0 K (.slice yo n yc) c)) (hT : PhT T c) :
    ∃ f, (∀ (u : Value) (w : World), (callFunc f #[u]).run Try.prog w = .ok (.enter f #[u]) w) ∧ (∀ w : World, (Go.method 369 T (.agg cs) "loop.example/pannier/impl.tell").run Try.prog w = .ok (f, .agg cs) w) ∧
      (∀ w : World, Calls Try.prog f #[.agg cs] w fun e w' => e = .returned (.tuple #[.agg (skarr K (.slice yo n yc)), .bool (c.getD false)]) ∧ Below w.heap.size w w') := by
  rcases hT with ⟨rfl, rfl⟩ | ⟨rfl, rfl⟩ | ⟨rfl, b, rfl⟩
  · subst hc
    exact ⟨_, call_tell1, fun w => meth_tell1 K yo n yc w, fun w => tell1_any K yo n yc w⟩
  · subst hc
    exact ⟨_, call_tell2, fun w => meth_tell2 K yo n yc w, fun w => tell2_any K yo n yc w⟩
  · subst hc
    exact ⟨_, call_tell0, fun w => meth_tell0 K yo n yc b w, fun w => tell0_any K yo n yc b w⟩

/-- Does the program's seeker hear a word? -/
def hearI (k : Sk) (me : Int) (x : Wd) : Bool := okS k && (inI me 0 4 && mayH k x)

end Go.Proofs.Yteddhdbglciahaa

/- The program's SynHear: a contract; no statement of the seat is proved here. (Written by wip/tools/mkhear3.py.) -/
namespace Go.Proofs.Yteddhdbglciahaa
open Go.RowKit

/-- What the program's SynHear gives. -/
def hearQ (k : Sk) (me : Int) (x : Wd) : Sk × List Wd × Bool :=
  if hearI k me x = true then ((hearP k x).2.2.1, (if (hearP k x).1.a0 = 0 then [] else allTo { (hearP k x).1 with a1 := me } 3), (hearP k x).2.2.2.getD false) else (k, [], false)

theorem okS_len {k : Sk} (h : okS k = true) : k.ys.length ≤ 1 := by
  simp only [okS, noS, mayS, yesI, Bool.or_eq_true, Bool.and_eq_true, decide_eq_true_eq] at h
  rcases h with h | h
  · omega
  · rcases h.2.2.1 with h | h <;> omega

set_option maxRecDepth 100000 in
set_option maxHeartbeats 16000000 in
theorem implSynHear_any (me : Int) (v u : Value) (k : Sk) (x : Wd) (w : World) (hn : k.ys.length ≤ 1048576) (hk : SkR w v k) (hx : WdR w u x) :
    Calls Try.prog 12 #[v, .int .i64 me, u] w fun e w' => ∃ v' u', e = .returned (.tuple #[v', u', .bool (hearQ k me x).2.2]) ∧ HearO w w' (hearQ k me x) v' u' := by
  obtain ⟨R, hR⟩ : ∃ R, hearQ k me x = R := ⟨_, rfl⟩
  rw [hR]
  have HR := hide hR
  clear hR
  obtain ⟨cs, rfl, hs, -⟩ := hx.agg
  have HX := hide hx
  have HI := hide (infoAt infoWd hs)
  obtain ⟨ao, ac, rfl, hr⟩ := hk
  have HRW := hide hr
  clear hx hs hr
  obtain ⟨j1, hj1⟩ : ∃ j, okS k = j := ⟨_, rfl⟩
  obtain ⟨j2, hj2⟩ : ∃ j, inI me 0 4 = j := ⟨_, rfl⟩
  obtain ⟨j3, hj3⟩ : ∃ j, mayH k x = j := ⟨_, rfl⟩
  have HC : Hid (hearI k me x = (j1 && (j2 && j3))) := by show _ = _; rw [hearI, hj1, hj2, hj3]
  have HL := hide (fun h : okS k = true => okS_len h)
  have d1 := fun v V h => implSynSeekerOk_any v k V h
  have d2 := fun V => wordIsServer_any me V
  have d3 := fun g yo yc t u V h1 h2 h3 => mayHear_any g k yo yc t u x V h1 h2 h3
  rw [hj1] at d1 HL
  rw [hj2] at d2
  rw [hj3] at d3
  clear hj1 hj2 hj3
  go_enter Try.func12, Try.ntmps12
  go_upto_region 1 with fail
  generalize hW : World.alloc _ _ = W
  have al : Below w.heap.size w W := by rw [← hW]; exact bal (bal (bal (Below.refl _ _) _) _) _
  have A0 : Hid (W.heap[w.heap.size]? = some (.cells (skarr k (.slice ao k.ys.length ac)) 39 (0, 0))) := by show _ = _; rw [← hW]; exact al3_0 w _ _ _
  have A1 : Hid (W.heap[w.heap.size + 1]? = some (.cells cs 47 (0, 0))) := by show _ = _; rw [← hW]; exact al3_1 w _ _ _
  have A2 : Hid (W.heap[w.heap.size + 1 + 1]? = some (.cells (skarr zeroK (.slice none 0 0)) 39 (0, 0))) := by show _ = _; rw [← hW]; exact al3_2 w _ _ _
  have ltW := heap_lt A2.out
  clear hW
  have x25 : W.cell? ⟨w.heap.size, 25, none⟩ = some (.slice ao k.ys.length ac) := boxAt A0.out 25
  go_wp2_with fail
  refine (copyI_any _ k.ys.length (ints k.ys) _ (HRW.out.keep al) (ints_one _) hn).mono ?_
  rintro e w2 ⟨v2, rfl, r2, b2⟩
  obtain ⟨yo, yc, rfl, hcap⟩ := owns_shape r2
  have z2 := b2.size
  have B0 := hide (bKeeps b2 A0.out)
  have B1 := hide (bKeeps b2 A1.out)
  have B2 := hide (bKeeps b2 A2.out)
  have R2 := hide (show RowA w2 W.heap.size 3 1 _ _ _ from .inl r2)
  have c2 := bAll al b2
  have f0 : w2.cell? ⟨w.heap.size, 25, none⟩ = some (.slice ao k.ys.length ac) := boxAt B0.out 25
  have f1 : w2.frozen? ⟨w.heap.size, 25, none⟩ = false := boxFz B0.out 25
  clear A0 A1 A2 x25 r2 b2 al
  go_upto_region 2 with fail
  generalize hX : World.setCell _ _ _ = X
  have uX : Upd (fun j => j = w.heap.size) w2 X := by rw [← hX]; exact Upd.setCell _ _ _ _ rfl
  have T0 : Hid (X.heap[w.heap.size]? = some (.cells (skarr k (.slice yo k.ys.length yc)) 39 (0, 0))) := by show _ = _; rw [← hX]; exact row_set _ B0.out
  have T1 := hide (uX.keeps B1.out (by omega))
  have T2 := hide (uX.keeps B2.out (by omega))
  have RX := hide (rowA_keep_box (by decide) R2.out B0.out uX)
  have cX : Below w.heap.size w X := c2.trans (uX.below c2.size (fun j h => by omega))
  have zX := uX.size
  have FZ : Hid (w.heap.size + 1 + 1 < W.heap.size ∧ W.heap.size ≤ X.heap.size) := ⟨ltW, by omega⟩
  clear hX f0 f1 B0 B1 B2 R2 uX c2 z2 zX ltW
  have FK : Hid (∀ V : World, Below X.heap.size X V → V.heap[w.heap.size]? = some (.cells (skarr k (.slice yo k.ys.length yc)) 39 (0, 0)) ∧ V.heap[w.heap.size + 1]? = some (.cells cs 47 (0, 0)) ∧ V.heap[w.heap.size + 1 + 1]? = some (.cells (skarr zeroK (.slice none 0 0)) 39 (0, 0)) ∧ RowA V W.heap.size 3 1 (.slice yo k.ys.length yc) k.ys.length (ints k.ys) ∧ SkR V (.agg (skarr k (.slice yo k.ys.length yc))) k ∧ WdR V (.agg cs) x) := fun V hV => ⟨bKeeps hV T0.out, bKeeps hV T1.out, bKeeps hV T2.out, RX.out.keepB hV, ⟨yo, yc, rfl, ((RX.out.keepB hV).row (by omega)).reads⟩, HX.out.keep (bAll cX hV)⟩
  clear T0 T1 T2 RX HX HRW
  have q0 := (FK.out X (Below.refl _ _)).1
  go_wp2_with (refine wpList_load_row rfl 39 (.tmp 3) rfl w.heap.size rfl _ (skarr k (.slice yo k.ys.length yc)) (0, 0) _ q0 Try.underlying39 rfl infoSk ?_)
  refine (d1 _ _ (FK.out X (Below.refl _ _)).2.2.2.2.1).mono ?_
  rintro e V1 ⟨rfl, b1⟩
  clear q0 d1
  cases j1
  · skip
    have hR : Hid (R = (k, [], false)) := by show _ = _; rw [← HR.out, hearQ, if_neg (by rw [HC.out]; simp)]
    have q0 := (FK.out V1 b1).1
    have q2 := (FK.out V1 b1).2.2.1
    have q3 := (FK.out V1 b1).2.2.2.1
    have s8 := updRow V1 (w.heap.size + 1 + 1) (skarr k (.slice yo k.ys.length yc))
    go_wp2_with (first
      | (refine wpList_load_row rfl 39 (.tmp 3) rfl w.heap.size rfl _ (skarr k (.slice yo k.ys.length yc)) (0, 0) _ q0 Try.underlying39 rfl infoSk ?_)
      | (refine wpList_store_row rfl 39 (.tmp 6) (.tmp 30) rfl (w.heap.size + 1 + 1) (skarr k (.slice yo k.ys.length yc)) rfl rfl _ _ q2 infoSk (show (26 : Nat) = 26 from rfl) (skarr_one _ _ _ _) ?_))
    refine bodyPost_ret (v := .tuple #[.agg (skarr k (.slice yo k.ys.length yc)), .slice none 0 0, .bool false]) (results_row_tmp_tmp Try.results12 _ _ (w.heap.size + 1 + 1) _ _ (0, 0) _ _ _ rfl rfl rfl (setRow_heap _ _ _ _ _ _ q2) Try.underlying39 rfl infoSk) rfl ?_
    have cw : Below w.heap.size w V1 := bAll cX b1
    have z8 := FZ.out
    have zz := b1.size
    exact ⟨_, _, by rw [hR.out], ⟨by rw [hR.out]; exact ⟨yo, yc, rfl, (((q3.row (by omega)).keep s8 (fun j h1 h2 => by omega)).mono (fun j _ h => by omega))⟩, by rw [hR.out]; exact ⟨none, 0, rfl, by simp, rfl, fun h => by simp at h⟩, cw.trans (s8.below cw.size (fun j h => by omega))⟩⟩
  go_wp2_with fail
  refine (d2 _).mono ?_
  rintro e V1b ⟨rfl, rfl⟩
  clear d2
  cases j2
  · skip
    have hR : Hid (R = (k, [], false)) := by show _ = _; rw [← HR.out, hearQ, if_neg (by rw [HC.out]; simp)]
    have q0 := (FK.out V1b b1).1
    have q2 := (FK.out V1b b1).2.2.1
    have q3 := (FK.out V1b b1).2.2.2.1
    have s8 := updRow V1b (w.heap.size + 1 + 1) (skarr k (.slice yo k.ys.length yc))
    go_wp2_with (first
      | (refine wpList_load_row rfl 39 (.tmp 3) rfl w.heap.size rfl _ (skarr k (.slice yo k.ys.length yc)) (0, 0) _ q0 Try.underlying39 rfl infoSk ?_)
      | (refine wpList_store_row rfl 39 (.tmp 6) (.tmp 30) rfl (w.heap.size + 1 + 1) (skarr k (.slice yo k.ys.length yc)) rfl rfl _ _ q2 infoSk (show (26 : Nat) = 26 from rfl) (skarr_one _ _ _ _) ?_))
    refine bodyPost_ret (v := .tuple #[.agg (skarr k (.slice yo k.ys.length yc)), .slice none 0 0, .bool false]) (results_row_tmp_tmp Try.results12 _ _ (w.heap.size + 1 + 1) _ _ (0, 0) _ _ _ rfl rfl rfl (setRow_heap _ _ _ _ _ _ q2) Try.underlying39 rfl infoSk) rfl ?_
    have cw : Below w.heap.size w V1b := bAll cX b1
    have z8 := FZ.out
    have zz := b1.size
    exact ⟨_, _, by rw [hR.out], ⟨by rw [hR.out]; exact ⟨yo, yc, rfl, (((q3.row (by omega)).keep s8 (fun j h1 h2 => by omega)).mono (fun j _ h => by omega))⟩, by rw [hR.out]; exact ⟨none, 0, rfl, by simp, rfl, fun h => by simp at h⟩, cw.trans (s8.below cw.size (fun j h => by omega))⟩⟩
  have q1 := (FK.out V1b b1).2.1
  go_wp2_with (refine wpList_load_rowG (by rfl) 47 (.tmp 5) rfl (w.heap.size + 1) rfl _ cs (0, 0) _ q1 Try.underlying47 rfl HI.out ?_)
  refine (d3 _ yo yc _ _ _ (FK.out V1b b1).1 ((FK.out V1b b1).2.2.2.1.row (by omega)).reads (FK.out V1b b1).2.2.2.2.2).mono ?_
  rintro e V2 ⟨rfl, b2⟩
  have b2 := bAll b1 b2
  clear d3 q1 b1
  cases j3
  · skip
    have hR : Hid (R = (k, [], false)) := by show _ = _; rw [← HR.out, hearQ, if_neg (by rw [HC.out]; simp)]
    have q0 := (FK.out V2 b2).1
    have q2 := (FK.out V2 b2).2.2.1
    have q3 := (FK.out V2 b2).2.2.2.1
    have s8 := updRow V2 (w.heap.size + 1 + 1) (skarr k (.slice yo k.ys.length yc))
    go_wp2_with (first
      | (refine wpList_load_row rfl 39 (.tmp 3) rfl w.heap.size rfl _ (skarr k (.slice yo k.ys.length yc)) (0, 0) _ q0 Try.underlying39 rfl infoSk ?_)
      | (refine wpList_store_row rfl 39 (.tmp 6) (.tmp 30) rfl (w.heap.size + 1 + 1) (skarr k (.slice yo k.ys.length yc)) rfl rfl _ _ q2 infoSk (show (26 : Nat) = 26 from rfl) (skarr_one _ _ _ _) ?_))
    refine bodyPost_ret (v := .tuple #[.agg (skarr k (.slice yo k.ys.length yc)), .slice none 0 0, .bool false]) (results_row_tmp_tmp Try.results12 _ _ (w.heap.size + 1 + 1) _ _ (0, 0) _ _ _ rfl rfl rfl (setRow_heap _ _ _ _ _ _ q2) Try.underlying39 rfl infoSk) rfl ?_
    have cw : Below w.heap.size w V2 := bAll cX b2
    have z8 := FZ.out
    have zz := b2.size
    exact ⟨_, _, by rw [hR.out], ⟨by rw [hR.out]; exact ⟨yo, yc, rfl, (((q3.row (by omega)).keep s8 (fun j h1 h2 => by omega)).mono (fun j _ h => by omega))⟩, by rw [hR.out]; exact ⟨none, 0, rfl, by simp, rfl, fun h => by simp at h⟩, cw.trans (s8.below cw.size (fun j h => by omega))⟩⟩
  go_upto_region 4 with fail
  obtain ⟨T, recv, f, hz, hf, hm, hcall⟩ := hear_any k yo yc x (HL.out (by trivial))
  obtain ⟨P, hP⟩ : ∃ P, hearP k x = P := ⟨_, rfl⟩
  have hT := hearP_T k x
  have hl2 := hearP_len k x (HL.out (by trivial))
  rw [hP] at hT hl2
  simp only [hP] at hcall
  obtain ⟨a, U, Q, c⟩ := P
  dsimp only at hT hcall hl2
  have HL2 := hide hl2
  clear hl2
  have HP := hide hP
  have HT := hide hT
  have HZ := hide hz
  have HCALL := hide hcall
  clear hP hT hz hcall HL
  go_cut [9, 10] (fun s9 s10 wx => ∃ g y4 c4 cs4, s9 = .pointer (some ⟨g, 0, none⟩) ∧ s10 = .iface U (.agg cs4) ∧ cs4 = (match c with | none => skarr Q (.slice y4 Q.ys.length c4) | some c => rest0 Q (.slice y4 Q.ys.length c4) c) ∧ wx.heap[g]? = some (.cells (fwarr a) 47 (0, 0)) ∧ RowA wx W.heap.size 3 1 (.slice y4 Q.ys.length c4) Q.ys.length (ints Q.ys) ∧ Upd (fun j => W.heap.size ≤ j) V2 wx ∧ W.heap.size ≤ g)
  case first =>
    have dd := bDrewB (Below.refl V2.heap.size V2)
    have bd := bAll b2 dd
    have z1 := FZ.out
    have zb := b2.size
    have zd := dd.size
    have ba := bAll bd (bal (Below.refl _ V2.drew) (.cells #[.int .i64 0, .int .i64 0, .int .i64 0, .int .i64 0, .int .i64 0, .int .i64 0, .int .i64 0, .int .i64 0, .int .i64 0, .int .i64 0, .int .i64 0, .int .i64 0, .int .i64 0, .int .i64 0, .int .i64 0, .int .i64 0, .int .i64 0, .int .i64 0, .int .i64 0, .int .i64 0, .int .i64 0, .int .i64 0, .int .i64 0, .int .i64 0, .slice none 0 0, .slice none 0 0] 47))
    have ba2 := bal dd (.cells #[.int .i64 0, .int .i64 0, .int .i64 0, .int .i64 0, .int .i64 0, .int .i64 0, .int .i64 0, .int .i64 0, .int .i64 0, .int .i64 0, .int .i64 0, .int .i64 0, .int .i64 0, .int .i64 0, .int .i64 0, .int .i64 0, .int .i64 0, .int .i64 0, .int .i64 0, .int .i64 0, .int .i64 0, .int .i64 0, .int .i64 0, .int .i64 0, .slice none 0 0, .slice none 0 0] 47)
    have za := ba2.size
    refine wp_region_noPanic ?_
    refine wp_region_held_drew (S := (fun V => V.heap[w.heap.size + 1]? = some (.cells cs 47 (0, 0)))) (by kernel_rfl) ?_ (fun hHeld => ?_)
    · exact (FK.out _ bd).2.1
    refine wpAnyH_take (i := 1) (v := .agg cs) rfl (by kernel_rfl) (by kernel_rfl) (by kernel_rfl) (fun _ _ _ h => h) (yields_row rfl 47 (.tmp 5) rfl (w.heap.size + 1) rfl _ cs _ (fun _ h => h) Try.underlying47 rfl HI.out) (by assumption) ?_
    simp only [Act.put, List.getElem_toArray, List.getElem_cons_zero, List.getElem_cons_succ, List.setIfInBounds_toArray, List.set_cons_zero, List.set_cons_succ]
    refine wpAnyH_ready (rs := [0, 6]) (by kernel_rfl) (by simp) ?_
    refine AllReadyH.cons rfl (fun K hK => ?_) (AllReadyH.cons rfl (fun K hK => ?_) AllReadyH.nil)
    · go_simp
      go_at_call 52
      refine (phase_any w.heap.size k yo k.ys.length yc _ (FK.out _ bd).1).mono ?_
      rintro e V3 ⟨he, rfl⟩
      rw [HZ.out] at he
      subst he
      refine hK.out _ _ ?_ (fun hHeld => ?_)
      · exact (FK.out _ bd).2.1
      clear hK K
      refine wpAnyH_ready (rs := [2, 6]) (by kernel_rfl) (by simp) ?_
      refine AllReadyH.cons rfl (fun K hK => ?_) (AllReadyH.cons rfl (fun K hK => ?_) AllReadyH.nil)
      · go_simp
        refine (HCALL.out _ W.heap.size _ (FK.out _ bd).2.2.2.1 (by omega) (FK.out _ bd).2.2.2.2.2).mono ?_
        rintro e V4 ⟨v4, rfl, y4, c4, cs4, rfl, hcs0, r4, u4, k4⟩
        have hcs := hide hcs0
        clear hcs0
        have q4 := u4.keeps (FK.out _ bd).2.1 (by omega)
        have z4 := u4.size
        refine hK.out _ _ ?_ (fun hHeld => ?_)
        · exact q4
        clear hK K
        refine wpAnyH_take (i := 3) (v := ?v1) rfl (by kernel_rfl) (by kernel_rfl) (by kernel_rfl) (fun _ _ _ h => h) (Or.inl ⟨by rfl, ?y1⟩) (by assumption) ?r1
        case y1 => (intro w hSw; go_simp; first | done | (with_reducible rfl))
        simp only [Act.put, List.getElem_toArray, List.getElem_cons_zero, List.getElem_cons_succ, List.setIfInBounds_toArray, List.set_cons_zero, List.set_cons_succ]
        refine wpAnyH_take (i := 4) (v := ?v2) rfl (by kernel_rfl) (by kernel_rfl) (by kernel_rfl) (fun _ _ _ h => h) (Or.inl ⟨by rfl, ?y2⟩) (by assumption) ?r2
        case y2 => (intro w hSw; go_simp; first | done | (with_reducible rfl))
        simp only [Act.put, List.getElem_toArray, List.getElem_cons_zero, List.getElem_cons_succ, List.setIfInBounds_toArray, List.set_cons_zero, List.set_cons_succ]
        refine wpAnyH_take (i := 5) (v := ?v3) rfl (by kernel_rfl) (by kernel_rfl) (by kernel_rfl) (fun _ _ _ h => h) (Or.inl ⟨by rfl, ?y3⟩) (by assumption) ?r3
        case y3 => (intro w hSw; go_simp; first | done | (with_reducible rfl))
        simp only [Act.put, List.getElem_toArray, List.getElem_cons_zero, List.getElem_cons_succ, List.setIfInBounds_toArray, List.set_cons_zero, List.set_cons_succ]
        refine wpAnyH_ready (rs := [6]) (by kernel_rfl) (by simp) ?_
        refine AllReadyH.cons rfl (fun K hK => ?_) AllReadyH.nil
        go_simp
        (skip)
        refine hK.out _ _ ?_ (fun hHeld => ?_)
        · exact bKeeps (bal (Below.refl _ _) _) q4
        clear hK K
        have s8 := updRow (V4.alloc (.cells #[.int .i64 0, .int .i64 0, .int .i64 0, .int .i64 0, .int .i64 0, .int .i64 0, .int .i64 0, .int .i64 0, .int .i64 0, .int .i64 0, .int .i64 0, .int .i64 0, .int .i64 0, .int .i64 0, .int .i64 0, .int .i64 0, .int .i64 0, .int .i64 0, .int .i64 0, .int .i64 0, .int .i64 0, .int .i64 0, .int .i64 0, .int .i64 0, .slice none 0 0, .slice none 0 0] 47)) V4.heap.size (fwarr a)
        refine wpAnyH_ready (rs := [7]) (by kernel_rfl) (by simp) ?_
        refine AllReadyH.cons rfl (fun K hK => ?_) AllReadyH.nil
        (refine wp_store_row 47 (.tmp 9) (.tmp 35) rfl V4.heap.size (fwarr a) rfl rfl _ _ (heap_alloc_new V4 _) infoWd (show (26 : Nat) = 26 from rfl) (fw_one _) ?_)
        refine hK.out _ _ ?_ (fun hHeld => ?_)
        · exact s8.keeps (bKeeps (bal (Below.refl _ _) _) q4) (by omega)
        clear hK K
        refine wpAnyH_take (i := 8) (v := ?v4) rfl (by kernel_rfl) (by kernel_rfl) (by kernel_rfl) (fun _ _ _ h => h) (Or.inl ⟨by rfl, ?y4⟩) (by assumption) ?r4
        case y4 => (intro w hSw; go_simp; first | done | (with_reducible rfl))
        simp only [Act.put, List.getElem_toArray, List.getElem_cons_zero, List.getElem_cons_succ, List.setIfInBounds_toArray, List.set_cons_zero, List.set_cons_succ]
        refine wpAnyH_done (by kernel_rfl) ?_ _
        refine NoPanic.normal ?_
        clear hHeld
        go_wp2_with fail
        go_meet
        exact ⟨V4.heap.size, y4, c4, cs4, rfl, rfl, (by cases c <;> exact hcs.out), setRow_heap _ _ _ _ _ _ (heap_alloc_new V4 _), rowA_keep_box (by decide) (r4.keepB (bal (Below.refl _ _) _)) (heap_alloc_new V4 _) s8, ((Upd.ofBelow dd).trans u4).trans ((Upd.ofBelow (bal (Below.refl _ _) _)).trans (s8.mono (fun j h => by omega))), by omega⟩
      · go_simp
        refine hK.out _ _ ?_ (fun hHeld => ?_)
        · exact (FK.out _ ba).2.1
        clear hK K
        refine wpAnyH_ready (rs := [2]) (by kernel_rfl) (by simp) ?_
        refine AllReadyH.cons rfl (fun K hK => ?_) AllReadyH.nil
        go_simp
        (refine (HCALL.out _ W.heap.size _ (FK.out _ ba).2.2.2.1 (by omega) (FK.out _ ba).2.2.2.2.2).mono ?_; rintro e V4 ⟨v4, rfl, y4, c4, cs4, rfl, hcs0, r4, u4, k4⟩; have hcs := hide hcs0; clear hcs0; have q4 := u4.keeps (FK.out _ ba).2.1 (by omega))
        refine hK.out _ _ ?_ (fun hHeld => ?_)
        · exact q4
        clear hK K
        have N9 := k4 V2.heap.size 47 #[.int .i64 0, .int .i64 0, .int .i64 0, .int .i64 0, .int .i64 0, .int .i64 0, .int .i64 0, .int .i64 0, .int .i64 0, .int .i64 0, .int .i64 0, .int .i64 0, .int .i64 0, .int .i64 0, .int .i64 0, .int .i64 0, .int .i64 0, .int .i64 0, .int .i64 0, .int .i64 0, .int .i64 0, .int .i64 0, .int .i64 0, .int .i64 0, .slice none 0 0, .slice none 0 0] (by simp) (by decide) (heap_alloc_new V2.drew _)
        have z4 := u4.size
        refine wpAnyH_take (i := 3) (v := ?v5) rfl (by kernel_rfl) (by kernel_rfl) (by kernel_rfl) (fun _ _ _ h => h) (Or.inl ⟨by rfl, ?y5⟩) (by assumption) ?r5
        case y5 => (intro w hSw; go_simp; first | done | (with_reducible rfl))
        simp only [Act.put, List.getElem_toArray, List.getElem_cons_zero, List.getElem_cons_succ, List.setIfInBounds_toArray, List.set_cons_zero, List.set_cons_succ]
        refine wpAnyH_take (i := 4) (v := ?v6) rfl (by kernel_rfl) (by kernel_rfl) (by kernel_rfl) (fun _ _ _ h => h) (Or.inl ⟨by rfl, ?y6⟩) (by assumption) ?r6
        case y6 => (intro w hSw; go_simp; first | done | (with_reducible rfl))
        simp only [Act.put, List.getElem_toArray, List.getElem_cons_zero, List.getElem_cons_succ, List.setIfInBounds_toArray, List.set_cons_zero, List.set_cons_succ]
        refine wpAnyH_take (i := 5) (v := ?v7) rfl (by kernel_rfl) (by kernel_rfl) (by kernel_rfl) (fun _ _ _ h => h) (Or.inl ⟨by rfl, ?y7⟩) (by assumption) ?r7
        case y7 => (intro w hSw; go_simp; first | done | (with_reducible rfl))
        simp only [Act.put, List.getElem_toArray, List.getElem_cons_zero, List.getElem_cons_succ, List.setIfInBounds_toArray, List.set_cons_zero, List.set_cons_succ]
        have s8 := updRow V4 V2.heap.size (fwarr a)
        refine wpAnyH_ready (rs := [7]) (by kernel_rfl) (by simp) ?_
        refine AllReadyH.cons rfl (fun K hK => ?_) AllReadyH.nil
        (refine wp_store_row 47 (.tmp 9) (.tmp 35) rfl V2.heap.size (fwarr a) rfl rfl _ _ N9 infoWd (show (26 : Nat) = 26 from rfl) (fw_one _) ?_)
        refine hK.out _ _ ?_ (fun hHeld => ?_)
        · exact s8.keeps q4 (by omega)
        clear hK K
        refine wpAnyH_take (i := 8) (v := ?v8) rfl (by kernel_rfl) (by kernel_rfl) (by kernel_rfl) (fun _ _ _ h => h) (Or.inl ⟨by rfl, ?y8⟩) (by assumption) ?r8
        case y8 => (intro w hSw; go_simp; first | done | (with_reducible rfl))
        simp only [Act.put, List.getElem_toArray, List.getElem_cons_zero, List.getElem_cons_succ, List.setIfInBounds_toArray, List.set_cons_zero, List.set_cons_succ]
        refine wpAnyH_done (by kernel_rfl) ?_ _
        refine NoPanic.normal ?_
        clear hHeld
        go_wp2_with fail
        go_meet
        exact ⟨V2.heap.size, y4, c4, cs4, rfl, rfl, (by cases c <;> exact hcs.out), setRow_heap _ _ _ _ _ _ N9, rowA_keep_box (by decide) r4 N9 s8, ((Upd.ofBelow ba2).trans u4).trans (s8.mono (fun j h => by omega)), by omega⟩
    · go_simp
      refine hK.out _ _ ?_ (fun hHeld => ?_)
      · exact (FK.out _ ba).2.1
      clear hK K
      refine wpAnyH_ready (rs := [0]) (by kernel_rfl) (by simp) ?_
      refine AllReadyH.cons rfl (fun K hK => ?_) AllReadyH.nil
      go_simp
      (go_at_call 52; refine (phase_any w.heap.size k yo k.ys.length yc _ (FK.out _ ba).1).mono ?_; rintro e V3 ⟨he, rfl⟩; rw [HZ.out] at he; subst he)
      refine hK.out _ _ ?_ (fun hHeld => ?_)
      · exact (FK.out _ ba).2.1
      clear hK K
      refine wpAnyH_ready (rs := [2]) (by kernel_rfl) (by simp) ?_
      refine AllReadyH.cons rfl (fun K hK => ?_) AllReadyH.nil
      go_simp
      (refine (HCALL.out _ W.heap.size _ (FK.out _ ba).2.2.2.1 (by omega) (FK.out _ ba).2.2.2.2.2).mono ?_; rintro e V4 ⟨v4, rfl, y4, c4, cs4, rfl, hcs0, r4, u4, k4⟩; have hcs := hide hcs0; clear hcs0; have q4 := u4.keeps (FK.out _ ba).2.1 (by omega))
      refine hK.out _ _ ?_ (fun hHeld => ?_)
      · exact q4
      clear hK K
      have N9 := k4 V2.heap.size 47 #[.int .i64 0, .int .i64 0, .int .i64 0, .int .i64 0, .int .i64 0, .int .i64 0, .int .i64 0, .int .i64 0, .int .i64 0, .int .i64 0, .int .i64 0, .int .i64 0, .int .i64 0, .int .i64 0, .int .i64 0, .int .i64 0, .int .i64 0, .int .i64 0, .int .i64 0, .int .i64 0, .int .i64 0, .int .i64 0, .int .i64 0, .int .i64 0, .slice none 0 0, .slice none 0 0] (by simp) (by decide) (heap_alloc_new V2.drew _)
      have z4 := u4.size
      refine wpAnyH_take (i := 3) (v := ?v9) rfl (by kernel_rfl) (by kernel_rfl) (by kernel_rfl) (fun _ _ _ h => h) (Or.inl ⟨by rfl, ?y9⟩) (by assumption) ?r9
      case y9 => (intro w hSw; go_simp; first | done | (with_reducible rfl))
      simp only [Act.put, List.getElem_toArray, List.getElem_cons_zero, List.getElem_cons_succ, List.setIfInBounds_toArray, List.set_cons_zero, List.set_cons_succ]
      refine wpAnyH_take (i := 4) (v := ?v10) rfl (by kernel_rfl) (by kernel_rfl) (by kernel_rfl) (fun _ _ _ h => h) (Or.inl ⟨by rfl, ?y10⟩) (by assumption) ?r10
      case y10 => (intro w hSw; go_simp; first | done | (with_reducible rfl))
      simp only [Act.put, List.getElem_toArray, List.getElem_cons_zero, List.getElem_cons_succ, List.setIfInBounds_toArray, List.set_cons_zero, List.set_cons_succ]
      refine wpAnyH_take (i := 5) (v := ?v11) rfl (by kernel_rfl) (by kernel_rfl) (by kernel_rfl) (fun _ _ _ h => h) (Or.inl ⟨by rfl, ?y11⟩) (by assumption) ?r11
      case y11 => (intro w hSw; go_simp; first | done | (with_reducible rfl))
      simp only [Act.put, List.getElem_toArray, List.getElem_cons_zero, List.getElem_cons_succ, List.setIfInBounds_toArray, List.set_cons_zero, List.set_cons_succ]
      have s8 := updRow V4 V2.heap.size (fwarr a)
      refine wpAnyH_ready (rs := [7]) (by kernel_rfl) (by simp) ?_
      refine AllReadyH.cons rfl (fun K hK => ?_) AllReadyH.nil
      (refine wp_store_row 47 (.tmp 9) (.tmp 35) rfl V2.heap.size (fwarr a) rfl rfl _ _ N9 infoWd (show (26 : Nat) = 26 from rfl) (fw_one _) ?_)
      refine hK.out _ _ ?_ (fun hHeld => ?_)
      · exact s8.keeps q4 (by omega)
      clear hK K
      refine wpAnyH_take (i := 8) (v := ?v12) rfl (by kernel_rfl) (by kernel_rfl) (by kernel_rfl) (fun _ _ _ h => h) (Or.inl ⟨by rfl, ?y12⟩) (by assumption) ?r12
      case y12 => (intro w hSw; go_simp; first | done | (with_reducible rfl))
      simp only [Act.put, List.getElem_toArray, List.getElem_cons_zero, List.getElem_cons_succ, List.setIfInBounds_toArray, List.set_cons_zero, List.set_cons_succ]
      refine wpAnyH_done (by kernel_rfl) ?_ _
      refine NoPanic.normal ?_
      clear hHeld
      go_wp2_with fail
      go_meet
      exact ⟨V2.heap.size, y4, c4, cs4, rfl, rfl, (by cases c <;> exact hcs.out), setRow_heap _ _ _ _ _ _ N9, rowA_keep_box (by decide) r4 N9 s8, ((Upd.ofBelow ba2).trans u4).trans (s8.mono (fun j h => by omega)), by omega⟩
  case rest =>
  obtain ⟨g, y4, c4, cs4, rfl, rfl, hcs, hg, r4, u4, hgW⟩ := hcut
  obtain ⟨f2, hf2, hm2, htell⟩ := tell_any U Q c y4 Q.ys.length c4 cs4 hcs HT.out
  have q2 := u4.keeps (FK.out _ b2).2.2.1 (by have := FZ.out; omega)
  have zb := b2.size
  have z4 := u4.size
  have c4' : Below w.heap.size w wc := (bAll cX b2).trans (u4.below (by have := FZ.out; have := cX.size; omega) (fun j h => by have := FZ.out; omega))
  have HTELL := hide htell
  have hR : Hid (R = (Q, (if a.a0 = 0 then [] else allTo { a with a1 := me } 3), c.getD false)) := by show _ = _; rw [← HR.out, hearQ, if_pos (by rw [HC.out]; rfl), HP.out]
  clear hcs htell HCALL HP HT HZ hm hf FK u4 HI
  go_wp2_with fail
  refine (HTELL.out _).mono ?_
  rintro e V5 ⟨rfl, b5⟩
  go_upto_region 6 with (refine wpList_store_row rfl 39 (.tmp 11) (.tmp 40) rfl V5.heap.size (skarr Q (.slice y4 Q.ys.length c4)) rfl rfl _ _ (heap_alloc_new V5 _) infoSk (show (26 : Nat) = 26 from rfl) (skarr_one _ _ _ _) ?_; rw [World.setRow_alloc_new])
  have b6 := bAll b5 (bal (Below.refl V5.heap.size V5) (.cells (skarr Q (.slice y4 Q.ys.length c4)) 39))
  have N11 := heap_alloc_new V5 (.cells (skarr Q (.slice y4 Q.ys.length c4)) 39)
  generalize V5.alloc (.cells (skarr Q (.slice y4 Q.ys.length c4)) 39) = V6 at b6 N11 ⊢
  have z5 := b5.size
  have z6 := b6.size
  have dd := bDrewB (Below.refl V6.heap.size V6)
  have F6 : Hid (∀ V, Below V6.heap.size V6 V → (V.heap[V5.heap.size]? = some (.cells (skarr Q (.slice y4 Q.ys.length c4)) 39 (0, 0)) ∧ V.heap[g]? = some (.cells (fwarr a) 47 (0, 0))) ∧ V.heap[w.heap.size + 1 + 1]? = some (.cells (skarr zeroK (.slice none 0 0)) 39 (0, 0)) ∧ RowA V W.heap.size 3 1 (.slice y4 Q.ys.length c4) Q.ys.length (ints Q.ys) ∧ Below w.heap.size w V) := fun V h => ⟨⟨bKeeps h N11, bKeeps h (bKeeps b6 hg)⟩, bKeeps h (bKeeps b6 q2), (r4.keepB b6).keepB h, bAll (bAll c4' b6) h⟩
  have g2 := heap_lt q2
  have g9 := heap_lt hg
  clear b5 hg r4 q2 N11 HTELL hm2 hf2 c4'
  refine wp_region_noPanic ?_
  refine wp_region_held_drew (S := (fun V => V.heap[V5.heap.size]? = some (.cells (skarr Q (.slice y4 Q.ys.length c4)) 39 (0, 0)) ∧ V.heap[g]? = some (.cells (fwarr a) 47 (0, 0)))) (by kernel_rfl) ?_ (fun hHeld => ?_)
  · exact (F6.out _ dd).1
  refine wpAnyH_take (i := 0) (v := .agg (skarr Q (.slice y4 Q.ys.length c4))) rfl (by kernel_rfl) (by kernel_rfl) (by kernel_rfl) (fun _ _ _ h => h) (yields_row rfl 39 (.tmp 11) rfl (V5.heap.size) rfl _ (skarr Q (.slice y4 Q.ys.length c4)) _ (fun _ h => h.1) Try.underlying39 rfl infoSk) (by assumption) ?_
  simp only [Act.put, List.getElem_toArray, List.getElem_cons_zero, List.setIfInBounds_toArray, List.set_cons_zero, List.set_cons_succ]
  refine wpAnyH_take (i := 1) (v := ?v13) rfl (by kernel_rfl) (by kernel_rfl) (by kernel_rfl) (fun _ _ _ h => h) (Or.inl ⟨by rfl, ?hy13⟩) (by assumption) ?rest13
  case hy13 => ((intro w hSw; (try dsimp only at hSw); (try simp only [List.getElem_toArray, List.getElem_cons_zero, List.getElem_cons_succ]); go_simp; first | done | (with_reducible rfl)))
  simp only [Act.put, List.getElem_toArray, List.getElem_cons_zero, List.getElem_cons_succ, List.setIfInBounds_toArray, List.set_cons_zero, List.set_cons_succ]
  refine wpAnyH_take (i := 2) (v := .agg (fwarr a)) rfl (by kernel_rfl) (by kernel_rfl) (by kernel_rfl) (fun _ _ _ h => h) (yields_row rfl 47 (.tmp 9) rfl (g) rfl _ (fwarr a) _ (fun _ h => h.2) Try.underlying47 rfl infoWd) (by assumption) ?_
  simp only [Act.put, List.getElem_toArray, List.getElem_cons_zero, List.getElem_cons_succ, List.setIfInBounds_toArray, List.set_cons_zero, List.set_cons_succ]
  refine wpAnyH_take (i := 4) (v := ?v14) rfl (by kernel_rfl) (by kernel_rfl) (by kernel_rfl) (fun _ _ _ h => h) (Or.inl ⟨by rfl, ?hy14⟩) (by assumption) ?rest14
  case hy14 => ((intro w hSw; (try dsimp only at hSw); (try simp only [List.getElem_toArray, List.getElem_cons_zero, List.getElem_cons_succ]); go_simp; first | done | (with_reducible rfl)))
  simp only [Act.put, List.getElem_toArray, List.getElem_cons_zero, List.getElem_cons_succ, List.setIfInBounds_toArray, List.set_cons_zero, List.set_cons_succ]
  refine wpAnyH_ready (rs := [3]) (by kernel_rfl) (by simp) ?_
  refine AllReadyH.cons rfl (fun K hK => ?_) AllReadyH.nil
  go_simp
  (go_at_call 53; refine (synAskAll_any me a _).mono ?_; rintro e V7 ⟨v7, rfl, r7, b7⟩; have b7' := bAll dd b7)
  refine hK.out _ _ ?_ (fun hHeld => ?_)
  · exact (F6.out _ b7').1
  clear hK K
  have z7 := b7'.size
  have z8 := b7.size
  have zz := FZ.out
  have q7 := F6.out _ b7'
  have s8 := updRow V7 (w.heap.size + 1 + 1) (skarr Q (.slice y4 Q.ys.length c4))
  have p1 := s8.keeps q7.1.1 (by omega)
  have p2 := s8.keeps q7.1.2 (by omega)
  refine wpAnyH_ready (rs := [5]) (by kernel_rfl) (by simp) ?_
  refine AllReadyH.cons rfl (fun K hK => ?_) AllReadyH.nil
  (refine wp_store_row 39 (.tmp 6) (.tmp 42) rfl (w.heap.size + 1 + 1) (skarr Q (.slice y4 Q.ys.length c4)) rfl rfl _ _ q7.2.1 infoSk (show (26 : Nat) = 26 from rfl) (skarr_one _ _ _ _) ?_)
  refine hK.out _ _ ?_ (fun hHeld => ?_)
  · exact ⟨p1, p2⟩
  clear hK K
  refine wpAnyH_take (i := 6) (v := ?v15) rfl (by kernel_rfl) (by kernel_rfl) (by kernel_rfl) (fun _ _ _ h => h) (Or.inl ⟨by rfl, ?y15⟩) (by assumption) ?r15
  case y15 => (intro w hSw; go_simp; first | done | (with_reducible rfl))
  simp only [Act.put, List.getElem_toArray, List.getElem_cons_zero, List.getElem_cons_succ, List.setIfInBounds_toArray, List.set_cons_zero, List.set_cons_succ]
  refine wpAnyH_take (i := 7) (v := ?v16) rfl (by kernel_rfl) (by kernel_rfl) (by kernel_rfl) (fun _ _ _ h => h) (Or.inl ⟨by rfl, ?y16⟩) (by assumption) ?r16
  case y16 => (intro w hSw; go_simp; first | done | (with_reducible rfl))
  simp only [Act.put, List.getElem_toArray, List.getElem_cons_zero, List.getElem_cons_succ, List.setIfInBounds_toArray, List.set_cons_zero, List.set_cons_succ]
  refine wpAnyH_done (by kernel_rfl) ?_ _
  refine NoPanic.normal ?_
  clear hHeld
  go_wp2_with fail
  refine bodyPost_ret (v := .tuple #[.agg (skarr Q (.slice y4 Q.ys.length c4)), v7, .bool (c.getD false)]) (results_row_tmp_tmp Try.results12 _ _ (w.heap.size + 1 + 1) _ _ (0, 0) _ _ _ rfl rfl rfl (setRow_heap _ _ _ _ _ _ q7.2.1) Try.underlying39 rfl infoSk) rfl ?_
  have zd := dd.size
  have rw7 : Row (V7.setRow (w.heap.size + 1 + 1) (skarr Q (.slice y4 Q.ys.length c4))) 47 26 (fun j => w.heap.size ≤ j) v7 (if a.a0 = 0 then [] else allTo { a with a1 := me } 3).length (fwcells (if a.a0 = 0 then [] else allTo { a with a1 := me } 3)) := by
    rcases r7 with ⟨h0, rfl⟩ | ⟨h0, r7⟩
    · rw [if_pos h0]
      exact ⟨none, 0, rfl, by simp, rfl, fun h => by simp at h⟩
    · rw [if_neg h0, allTo_len]
      exact ((r7.row (by omega)).keep s8 (fun j h1 h2 => by omega)).mono (fun j _ h => by omega)
  have qlen : Q.ys.length ≤ 9223372036854775807 := by have := HL2.out; omega
  exact ⟨_, _, by rw [hR.out], ⟨by rw [hR.out]; exact ⟨y4, c4, rfl, (((q7.2.2.1.row qlen).keep s8 (fun j h1 h2 => by omega)).mono (fun j _ h => by omega))⟩, by rw [hR.out]; exact rw7, q7.2.2.2.trans (s8.below q7.2.2.2.size (fun j h => by omega))⟩⟩

end Go.Proofs.Yteddhdbglciahaa

/- What the program's SynHear gives is what the specification's gives: plain facts; no statement of the seat is proved here. -/
namespace Go.Proofs.Yteddhdbglciahaa

theorem hearC_I (k : Sk) (me : Int) (x : Wd) : hearC k me x = (hearI k me x && !(k.ph == 0)) := by
  unfold hearC hearI mayH
  cases okS k <;> cases okW x <;> cases (k.ph == 0) <;> cases (x.a3 == k.b) <;> cases (x.a4 == k.s) <;> cases inI x.a1 0 2 <;> cases inI me 0 4 <;> cases decide (x.a1 ∈ k.ys) <;> rfl

theorem val_fwd (k : Sk) (h : (isZP k.p = true ∧ k.p.2.1 ≤ 0) ∨ (isZP k.p = false ∧ 0 < k.p.2.1)) : valW k = fwdW k := by
  unfold valW fwdW
  rcases h with ⟨h1, h2⟩ | ⟨h1, h2⟩
  · rw [if_neg (by omega), if_pos h1]
  · rw [if_pos h2, if_neg (by rw [h1]; simp)]

theorem isZP_no {p : Pp} (h : p.2.1 ≠ 0) : isZP p = false := by
  have e : (p.2.1 == 0) = false := by simpa using h
  simp [isZP, e]

theorem best_val {k : Sk} (h : mayS k = true) : (isZP k.p = true ∧ k.p.2.1 ≤ 0) ∨ (isZP k.p = false ∧ 0 < k.p.2.1) := by
  simp only [mayS, bestI, Bool.and_eq_true, Bool.or_eq_true] at h
  rcases h.2.2.2 with h1 | h1
  · left
    refine ⟨h1, ?_⟩
    simp only [isZP, Bool.and_eq_true, beq_iff_eq] at h1
    omega
  · right
    have h2 := h1.1
    simp only [ppI, inI, Bool.and_eq_true, decide_eq_true_eq] at h2
    exact ⟨isZP_no (by omega), by omega⟩

theorem told_val {k : Sk} (x : Wd) (h : mayS k = true) : valW (toldK k x) = fwdW (toldK k x) := by
  have hb := best_val h
  unfold toldK
  split
  · rename_i hc
    refine val_fwd _ (.inr ?_)
    have h0 : 0 ≤ k.p.2.1 := by
      rcases hb with ⟨h1, -⟩ | h1
      · simp only [isZP, Bool.and_eq_true, beq_iff_eq] at h1
        omega
      · omega
    exact ⟨isZP_no (show x.a5 ≠ 0 by omega), show 0 < x.a5 by omega⟩
  · exact val_fwd _ hb

theorem hear_same (k : Sk) (me : Int) (x : Wd) : hearQ k me x = hearR k me x := by
  by_cases hi : hearI k me x = true
  · have hok : okS k = true := by
      simp only [hearI, Bool.and_eq_true] at hi
      exact hi.1
    have hl := okS_len hok
    obtain ⟨G, hG⟩ : ∃ G : Wd × TypeId × Sk × Option Bool → Sk × List Wd × Bool, ∀ P, G P = (P.2.2.1, (if P.1.a0 = 0 then [] else allTo { P.1 with a1 := me } 3), P.2.2.2.getD false) := ⟨fun P => (P.2.2.1, (if P.1.a0 = 0 then [] else allTo { P.1 with a1 := me } 3), P.2.2.2.getD false), fun _ => rfl⟩
    have eQ : hearQ k me x = G (hearP k x) := by rw [hG, hearQ, if_pos hi]
    rw [eQ]
    unfold hearR
    rw [hearC_I, hi]
    by_cases h0 : k.ph = 0
    · rw [if_neg (by simp [h0])]
      have e : hearP k x = (zeroW, 164, k, some false) := by rw [hearP, if_neg (by omega), if_neg (by omega)]
      rw [e, hG]
      rfl
    · rw [if_pos (by simpa using h0)]
      have hm : mayS k = true := by
        simp only [okS, noS, Bool.or_eq_true, Bool.and_eq_true, beq_iff_eq] at hok
        rcases hok with h | h
        · exact absurd h.2.2.1 h0
        · exact h
      have hph : k.ph = 1 ∨ k.ph = 2 := by
        have h := hm
        simp only [mayS, inI, Bool.and_eq_true, decide_eq_true_eq] at h
        have h1 := h.2.1
        omega
      rcases hph with h1 | h1
      · have e : hearP k x = hear1R k x := by rw [hearP, if_pos h1]
        rw [e]
        unfold hear1R
        by_cases hc : x.a0 = 2 ∧ x.a5 < k.b
        · rw [if_pos (show x.a0 = 2 ∧ x.a5 < k.b from hc), if_pos (show k.ph = 1 ∧ x.a0 = 2 ∧ x.a5 < k.b from ⟨h1, hc⟩)]
          by_cases hn : k.ys.length = 0
          · rw [if_pos hn, if_pos hn]
            rw [hG]
            rfl
          · rw [if_neg hn, if_neg hn, told_val x hm, hG]
            rfl
        · rw [if_neg hc, if_neg (show ¬ (k.ph = 1 ∧ x.a0 = 2 ∧ x.a5 < k.b) from fun h => hc h.2), if_neg (show ¬ (k.ph = 2 ∧ x.a0 = 4) from fun h => by have := h.1; omega), hG]
          rfl
      · have e : hearP k x = (zeroW, hear2R k x) := by rw [hearP, if_neg (by omega), if_pos h1]
        rw [e]
        unfold hear2R
        rw [if_neg (show ¬ (k.ph = 1 ∧ x.a0 = 2 ∧ x.a5 < k.b) from fun h => by have := h.1; omega)]
        by_cases hc : x.a0 = 4
        · rw [if_pos (show x.a0 = 4 from hc), if_pos (show k.ph = 2 ∧ x.a0 = 4 from ⟨h1, hc⟩)]
          by_cases hn : k.ys.length = 0
          · rw [if_pos hn, hn, hG]
            rfl
          · rw [if_neg hn, show k.ys.length = 1 by omega, hG]
            rfl
        · rw [if_neg hc, if_neg (show ¬ (k.ph = 2 ∧ x.a0 = 4) from fun h => hc h.2), hG]
          rfl
  · rw [hearQ, if_neg hi, hearR, if_neg (by rw [hearC_I]; simp [hi])]

end Go.Proofs.Yteddhdbglciahaa
