/- Contracts and plain facts that this claim leans on (texts SH8); no statement of the seat is proved here. -/
import Derived.Test.YteddhdbglciahaaHk11
import Derived.Test.YteddhdbglciahaaSH3P

/- What the phases of the program do with a word: contracts; no statement of the seat is proved here. (Written by wip/tools/mkhear1.py.) -/
namespace Go.Proofs.Yteddhdbglciahaa
open Go.RowKit

theorem builtZw : Try.prog.built 47 [] = some (fwarr zeroW) := by kernel_rfl
theorem builtAcc2 (b s : Int) (c : Wd) : Try.prog.built 47 [(0, .int .i64 3), (3, .int .i64 b), (4, .int .i64 s), (6, .agg (wcmd c))] = some (fwarr (accW 0 b s c)) := by kernel_rfl
theorem infoPr : (Try.prog.info? 161).map (·.size) = some 26 := by kernel_rfl
theorem infoVo : (Try.prog.info? 162).map (·.size) = some 26 := by kernel_rfl
theorem infoRe : (Try.prog.info? 164).map (·.size) = some 27 := by kernel_rfl
/-- Blocks below b of other types than int are kept. -/
def KpH2 (b : Nat) (w w' : World) : Prop := ∀ g t cs, g < b → t ≠ 3 → w.heap[g]? = some (.cells cs t (0, 0)) → w'.heap[g]? = some (.cells cs t (0, 0))
theorem KpH2.trans {b : Nat} {w w' w'' : World} (h : KpH2 b w w') (h' : KpH2 b w' w'') : KpH2 b w w'' := fun g t cs hb ht hg => h' g t cs hb ht (h g t cs hb ht hg)
theorem KpH2.below {b : Nat} {w w' : World} (h : Below w.heap.size w w') : KpH2 b w w' := fun _ _ _ _ _ hg => bKeeps h hg
theorem KpH2.upd {b : Nat} {S : Nat → Prop} {w w' : World} (u : Upd S w w') (hS : ∀ j, S j → b ≤ j) : KpH2 b w w' := fun g _ _ hb _ hg => u.keeps hg (fun h => by have := hS g h; omega)
theorem KpH2.typed {b : Nat} {S : Nat → Prop} {w w' : World} (u : Upd (typed w S 3) w w') : KpH2 b w w' := fun _ _ _ _ ht hg => typed_keeps ht.symm u hg

/-- What a phase gives at a word: a word with which all are asked, and the next phase. -/
def PhO (w w' : World) (base : Nat) (a : Wd) (T : TypeId) (K : Sk) (c : Option Bool) (v : Value) : Prop :=
  ∃ yo yc cs, v = .tuple #[.agg (fwarr a), .iface T (.agg cs)] ∧ cs = (match c with | none => skarr K (.slice yo K.ys.length yc) | some c => rest0 K (.slice yo K.ys.length yc) c) ∧ RowA w' base 3 1 (.slice yo K.ys.length yc) K.ys.length (ints K.ys) ∧ Upd (fun j => base ≤ j) w w' ∧ KpH2 w.heap.size w w'

set_option maxRecDepth 100000 in
set_option maxHeartbeats 8000000 in
theorem hear0_any (k : Sk) (yo : Option Addr) (yc base : Nat) (c : Bool) (u : Value) (x : Wd) (w : World) (hr : RowA w base 3 1 (.slice yo k.ys.length yc) k.ys.length (ints k.ys)) (hb : base ≤ w.heap.size) (hx : WdR w u x) :
    Calls Try.prog 165 #[.agg (rest0 k (.slice yo k.ys.length yc) c), u] w fun e w' => ∃ v, e = .returned v ∧ PhO w w' base zeroW 164 k (some c) v := by
  obtain ⟨i1, gi, gz0, gz1, gz2⟩ := info_parts infoInt
  obtain ⟨cs, rfl, hs, -⟩ := hx.agg
  have HXC := hide hx.cells
  have HR := hide hr
  clear hx hs hr
  go_enter Try.func165, Try.ntmps165
  go_upto_region 1 with fail
  generalize hW : World.alloc _ _ = W
  have al : Below w.heap.size w W := by rw [← hW]; exact bal (bal (bal (Below.refl _ _) _) _) _
  have A0 : Hid (W.heap[w.heap.size]? = some (.cells (rest0 k (.slice yo k.ys.length yc) c) 164 (0, 0))) := by show _ = _; rw [← hW]; exact al3_0 w _ _ _
  have A1 : Hid (W.heap[w.heap.size + 1]? = some (.cells cs 47 (0, 0))) := by show _ = _; rw [← hW]; exact al3_1 w _ _ _
  have A2 : Hid (W.heap[w.heap.size + 1 + 1]? = some (.cells #[.int .i64 0, .int .i64 0, .int .i64 0, .int .i64 0, .int .i64 0, .int .i64 0, .int .i64 0, .int .i64 0, .int .i64 0, .int .i64 0, .int .i64 0, .int .i64 0, .int .i64 0, .int .i64 0, .int .i64 0, .int .i64 0, .int .i64 0, .int .i64 0, .int .i64 0, .int .i64 0, .int .i64 0, .int .i64 0, .int .i64 0, .int .i64 0, .slice none 0 0, .slice none 0 0] 47 (0, 0))) := by show _ = _; rw [← hW]; exact al3_2 w _ _ _
  have ltW := heap_lt A2.out
  have RW := hide (HR.out.keepB al)
  clear hW
  have dd := bDrewB (Below.refl W.heap.size W)
  have E0 := hide (bKeeps dd A0.out)
  have E2 := hide (bKeeps dd A2.out)
  have s9 := updRow W.drew (w.heap.size + 1 + 1) (fwarr zeroW)
  have E3 := s9.keeps E0.out (by omega)
  go_wp2
  refine wp_region_noPanic ?_
  refine wp_region_held_drew (S := (fun w' => w'.heap[w.heap.size]? = some (.cells (rest0 k (.slice yo k.ys.length yc) c) 164 (0, 0)))) (by kernel_rfl) ?_ (fun hHeld => ?_)
  · exact E0.out
  refine wpAnyH_take (i := 0) (v := .agg (fwarr zeroW)) rfl (by kernel_rfl) (by kernel_rfl) (by kernel_rfl) (fun _ _ _ h => h) (yields_build rfl 47 _ rfl [] _ (by simp) builtZw) (by assumption) ?_
  simp only [Act.put, List.getElem_toArray, List.getElem_cons_zero, List.setIfInBounds_toArray, List.set_cons_zero, List.set_cons_succ]
  refine wpAnyH_take (i := 1) (v := .agg (rest0 k (.slice yo k.ys.length yc) c)) rfl (by kernel_rfl) (by kernel_rfl) (by kernel_rfl) (fun _ _ _ h => h) (yields_row rfl 164 (.tmp 2) rfl (w.heap.size) rfl _ (rest0 k (.slice yo k.ys.length yc) c) _ (fun _ h => h) Try.underlying164 rfl infoRe) (by assumption) ?_
  simp only [Act.put, List.getElem_toArray, List.getElem_cons_zero, List.getElem_cons_succ, List.setIfInBounds_toArray, List.set_cons_zero, List.set_cons_succ]
  refine wpAnyH_take (i := 2) (v := ?v1) rfl (by kernel_rfl) (by kernel_rfl) (by kernel_rfl) (fun _ _ _ h => h) (Or.inl ⟨by rfl, ?hy1⟩) (by assumption) ?rest1
  case hy1 => ((intro w hSw; (try dsimp only at hSw); (try simp only [List.getElem_toArray, List.getElem_cons_zero, List.getElem_cons_succ]); go_simp; first | done | (with_reducible rfl)))
  simp only [Act.put, List.getElem_toArray, List.getElem_cons_zero, List.getElem_cons_succ, List.setIfInBounds_toArray, List.set_cons_zero, List.set_cons_succ]
  refine wpAnyH_ready (rs := [3]) (by kernel_rfl) (by simp) ?_
  refine AllReadyH.cons rfl (fun K hK => ?_) AllReadyH.nil
  (refine wp_store_row 47 (.tmp 4) (.tmp 6) rfl (w.heap.size + 1 + 1) (fwarr zeroW) rfl rfl _ _ E2.out infoWd (show (26 : Nat) = 26 from rfl) (fw_one _) ?_)
  refine hK.out _ _ ?_ (fun hHeld => ?_)
  · exact E3
  clear hK K
  refine wpAnyH_take (i := 4) (v := ?v2) rfl (by kernel_rfl) (by kernel_rfl) (by kernel_rfl) (fun _ _ _ h => h) (Or.inl ⟨by rfl, ?y2⟩) (by assumption) ?r2
  case y2 => (intro w hSw; go_simp; first | done | (with_reducible rfl))
  simp only [Act.put, List.getElem_toArray, List.getElem_cons_zero, List.getElem_cons_succ, List.setIfInBounds_toArray, List.set_cons_zero, List.set_cons_succ]
  refine wpAnyH_done (by kernel_rfl) ?_ _
  refine NoPanic.normal ?_
  clear hHeld
  go_wp2_with fail
  refine bodyPost_ret (v := .tuple #[.agg (fwarr zeroW), .iface 164 (.agg (rest0 k (.slice yo k.ys.length yc) c))]) (results_row_tmp Try.results165 _ _ (w.heap.size + 1 + 1) _ _ (0, 0) _ _ rfl rfl (setRow_heap _ _ _ _ _ _ E2.out) Try.underlying47 rfl infoWd) rfl ?_
  have zd := dd.size
  have zal := al.size
  have rr : RowA (W.drew.setRow (w.heap.size + 1 + 1) (fwarr zeroW)) base 3 1 (.slice yo k.ys.length yc) k.ys.length (ints k.ys) := RowA.keepTy8 (RW.out.keepB dd) s9 (fun j h1 h2 => by subst h2; exact typed_box E2.out (by decide) rfl h1)
  exact ⟨_, rfl, yo, yc, _, rfl, rfl, rr, (Upd.ofBelow (bAll al dd)).trans (s9.mono (fun j h => by omega)), (KpH2.below al).trans ((KpH2.below dd).trans (KpH2.upd s9 (fun j h => by omega)))⟩

/-- What a phase that waits for votes does with a word. -/
def hear2R (k : Sk) (x : Wd) : TypeId × Sk × Option Bool :=
  if x.a0 = 4 then
    if k.ys.length = 0 then (162, { k with ys := k.ys ++ [x.a1] }, none)
    else (164, { k with ys := k.ys ++ [x.a1] }, some true)
  else (162, k, none)

theorem rowA_more {w : World} {base : Nat} {o : Option Addr} {n c : Nat} {l : List Int} {x : Int} (h : RowA w base 3 1 (.slice o (n + 1) c) (n + 1) (ints l ++ [.int .i64 x])) (hn : l.length = n) : RowA w base 3 1 (.slice o (l ++ [x]).length c) (l ++ [x]).length (ints (l ++ [x])) := by
  have e : (l ++ [x]).length = n + 1 := by simp [hn]
  have e2 : ints (l ++ [x]) = ints l ++ [.int .i64 x] := by simp [ints]
  rw [e, e2]
  exact h

set_option maxRecDepth 100000 in
set_option maxHeartbeats 8000000 in
theorem hear2_any (k : Sk) (yo : Option Addr) (yc base : Nat) (u : Value) (x : Wd) (w : World) (hn : k.ys.length ≤ 1) (hr : RowA w base 3 1 (.slice yo k.ys.length yc) k.ys.length (ints k.ys)) (hb : base ≤ w.heap.size) (hx : WdR w u x) :
    Calls Try.prog 163 #[.agg (skarr k (.slice yo k.ys.length yc)), u] w fun e w' => ∃ v, e = .returned v ∧ PhO w w' base zeroW (hear2R k x).1 (hear2R k x).2.1 (hear2R k x).2.2 v := by
  obtain ⟨R, hR⟩ : ∃ R, hear2R k x = R := ⟨_, rfl⟩
  rw [hR]
  have HR2 := hide hR
  clear hR
  obtain ⟨i1, gi, gz0, gz1, gz2⟩ := info_parts infoInt
  obtain ⟨cs, rfl, hs, -⟩ := hx.agg
  have HXC := hide hx.cells
  have HR := hide hr
  clear hx hs hr
  go_enter Try.func163, Try.ntmps163
  go_upto_region 1 with fail
  generalize hW : World.alloc _ _ = W
  have al : Below w.heap.size w W := by rw [← hW]; exact bal (bal (bal (Below.refl _ _) _) _) _
  have A0 : Hid (W.heap[w.heap.size]? = some (.cells (skarr k (.slice yo k.ys.length yc)) 162 (0, 0))) := by show _ = _; rw [← hW]; exact al3_0 w _ _ _
  have A1 : Hid (W.heap[w.heap.size + 1]? = some (.cells cs 47 (0, 0))) := by show _ = _; rw [← hW]; exact al3_1 w _ _ _
  have A2 : Hid (W.heap[w.heap.size + 1 + 1]? = some (.cells #[.int .i64 0, .int .i64 0, .int .i64 0, .int .i64 0, .int .i64 0, .int .i64 0, .int .i64 0, .int .i64 0, .int .i64 0, .int .i64 0, .int .i64 0, .int .i64 0, .int .i64 0, .int .i64 0, .int .i64 0, .int .i64 0, .int .i64 0, .int .i64 0, .int .i64 0, .int .i64 0, .int .i64 0, .int .i64 0, .int .i64 0, .int .i64 0, .slice none 0 0, .slice none 0 0] 47 (0, 0))) := by show _ = _; rw [← hW]; exact al3_2 w _ _ _
  have ltW := heap_lt A2.out
  have RW := hide (HR.out.keepB al)
  clear hW
  have w0 : W.cell? ⟨w.heap.size + 1, 0, none⟩ = some (.int .i64 x.a0) := (boxAt A1.out 0).trans HXC.out.1
  by_cases ha : x.a0 = 4
  · have e1 : (x.a0 != 4) = false := by simpa using ha
    have hR : Hid (R = if k.ys.length = 0 then (162, { k with ys := k.ys ++ [x.a1] }, none) else (164, { k with ys := k.ys ++ [x.a1] }, some true)) := by show _ = _; rw [← HR2.out, hear2R, if_pos ha]
    clear ha
    go_upto_region 3 with fail
    clear w0 e1
    have l7 : W.cell? ⟨w.heap.size, 25, none⟩ = some (.slice yo k.ys.length yc) := boxAt A0.out 25
    have m7 : W.cell? ⟨w.heap.size + 1, 1, none⟩ = some (.int .i64 x.a1) := (boxAt A1.out 1).trans HXC.out.2.1
    have al8 := bal (Below.refl W.heap.size W) (.cells #[.int .i64 x.a1] 3)
    have rowV := RW.out.keepB al8
    have NV := hide (newI_cells W x.a1 3)
    have T8 := hide (bKeeps al8 A0.out)
    have O8 := hide (bKeeps al8 A2.out)
    go_wp2_with (at_builtin; refine wpList_appendA _ rfl _ _ 26 rfl base 3 i1 (.int .i64 0) 1 8 Try.underlying26 gi gz0 gz1 gz2 rfl (by decide) _ k.ys.length (ints k.ys) rfl rowV ⟨W.heap.size, 0, none⟩ 1 1 [.int .i64 x.a1] rfl rfl NV.out (oneI _) (by decide) ?q63 ?qby ?qbase ?_)
    case q63 => unfold maxLen; omega
    case qby => omega
    case qbase => (have := al.size; have := al8.size; omega)
    intro v8 w8 r8 u8
    obtain ⟨so8, sc8, rfl, hcap8⟩ := owns_shape r8
    have B8 := hide (typed_keeps (by decide) u8 T8.out)
    have P8 := hide (typed_keeps (by decide) u8 O8.out)
    have R8 := hide (show RowA w8 base 3 1 _ _ _ from .inl r8)
    have z8 := u8.size
    have zal := al8.size
    have UV : Upd (fun j => base ≤ j) w w8 := (Upd.ofBelow (bAll al al8)).trans (u8.mono (fun j h => h.1))
    have UK : KpH2 w.heap.size w w8 := ((KpH2.below al).trans (KpH2.below al8)).trans (KpH2.typed u8)
    have f0 : w8.cell? ⟨w.heap.size, 25, none⟩ = some (.slice yo k.ys.length yc) := boxAt B8.out 25
    have f1 : w8.frozen? ⟨w.heap.size, 25, none⟩ = false := boxFz B8.out 25
    clear rowV NV T8 O8 r8 u8 al8 l7 m7
    go_upto_region 4 with fail
    generalize hV : World.setCell _ _ _ = V9
    have u9 : Upd (fun j => j = w.heap.size) w8 V9 := by rw [← hV]; exact Upd.setCell _ _ _ _ rfl
    have T9 : Hid (V9.heap[w.heap.size]? = some (.cells (skarr k (.slice so8 (k.ys.length + 1) sc8)) 162 (0, 0))) := by show _ = _; rw [← hV]; exact row_set _ B8.out
    have R9 := hide (rowA_keep_box (by decide) R8.out B8.out u9)
    have P9 := hide (u9.keeps P8.out (by omega))
    have c9 : Upd (fun j => base ≤ j) w V9 := UV.trans (u9.mono (fun j h => by omega))
    have k9 : KpH2 w.heap.size w V9 := UK.trans (KpH2.upd u9 (fun j h => by omega))
    have z9 := u9.size
    have l9 : V9.cell? ⟨w.heap.size, 25, none⟩ = some (.slice so8 (k.ys.length + 1) sc8) := boxAt T9.out 25
    clear hV f0 f1 B8 P8 R8 u9 UV UK
    by_cases hn0 : k.ys.length = 0
    · have e6 : decide (((k.ys.length + 1 : Nat) : Int) < 2) = true := decide_eq_true (by omega)
      have e7 : decide ((k.ys.length : Int) + 1 < 2) = true := decide_eq_true (by omega)
      have hR3 : Hid (R = (162, { k with ys := k.ys ++ [x.a1] }, none)) := by show _ = _; rw [hR.out, if_pos hn0]
      clear hn0
      go_upto_region 5 with fail
      clear e6 e7 l9
      have dd := bDrewB (Below.refl V9.heap.size V9)
      have E0 := hide (bKeeps dd T9.out)
      have E2 := hide (bKeeps dd P9.out)
      have s9 := updRow V9.drew (w.heap.size + 1 + 1) (fwarr zeroW)
      have E3 := s9.keeps E0.out (by omega)
      go_wp2
      refine wp_region_noPanic ?_
      refine wp_region_held_drew (S := (fun w' => w'.heap[w.heap.size]? = some (.cells (skarr k (.slice so8 (k.ys.length + 1) sc8)) 162 (0, 0)))) (by kernel_rfl) ?_ (fun hHeld => ?_)
      · exact E0.out
      refine wpAnyH_take (i := 0) (v := .agg (fwarr zeroW)) rfl (by kernel_rfl) (by kernel_rfl) (by kernel_rfl) (fun _ _ _ h => h) (yields_build rfl 47 _ rfl [] _ (by simp) builtZw) (by assumption) ?_
      simp only [Act.put, List.getElem_toArray, List.getElem_cons_zero, List.setIfInBounds_toArray, List.set_cons_zero, List.set_cons_succ]
      refine wpAnyH_take (i := 1) (v := .agg (skarr k (.slice so8 (k.ys.length + 1) sc8))) rfl (by kernel_rfl) (by kernel_rfl) (by kernel_rfl) (fun _ _ _ h => h) (yields_row rfl 162 (.tmp 2) rfl (w.heap.size) rfl _ (skarr k (.slice so8 (k.ys.length + 1) sc8)) _ (fun _ h => h) Try.underlying162 rfl infoVo) (by assumption) ?_
      simp only [Act.put, List.getElem_toArray, List.getElem_cons_zero, List.getElem_cons_succ, List.setIfInBounds_toArray, List.set_cons_zero, List.set_cons_succ]
      refine wpAnyH_take (i := 2) (v := ?v3) rfl (by kernel_rfl) (by kernel_rfl) (by kernel_rfl) (fun _ _ _ h => h) (Or.inl ⟨by rfl, ?hy3⟩) (by assumption) ?rest3
      case hy3 => ((intro w hSw; (try dsimp only at hSw); (try simp only [List.getElem_toArray, List.getElem_cons_zero, List.getElem_cons_succ]); go_simp; first | done | (with_reducible rfl)))
      simp only [Act.put, List.getElem_toArray, List.getElem_cons_zero, List.getElem_cons_succ, List.setIfInBounds_toArray, List.set_cons_zero, List.set_cons_succ]
      refine wpAnyH_ready (rs := [3]) (by kernel_rfl) (by simp) ?_
      refine AllReadyH.cons rfl (fun K hK => ?_) AllReadyH.nil
      (refine wp_store_row 47 (.tmp 4) (.tmp 26) rfl (w.heap.size + 1 + 1) (fwarr zeroW) rfl rfl _ _ E2.out infoWd (show (26 : Nat) = 26 from rfl) (fw_one _) ?_)
      refine hK.out _ _ ?_ (fun hHeld => ?_)
      · exact E3
      clear hK K
      refine wpAnyH_take (i := 4) (v := ?v4) rfl (by kernel_rfl) (by kernel_rfl) (by kernel_rfl) (fun _ _ _ h => h) (Or.inl ⟨by rfl, ?y4⟩) (by assumption) ?r4
      case y4 => (intro w hSw; go_simp; first | done | (with_reducible rfl))
      simp only [Act.put, List.getElem_toArray, List.getElem_cons_zero, List.getElem_cons_succ, List.setIfInBounds_toArray, List.set_cons_zero, List.set_cons_succ]
      refine wpAnyH_done (by kernel_rfl) ?_ _
      refine NoPanic.normal ?_
      clear hHeld
      go_wp2_with fail
      refine bodyPost_ret (v := .tuple #[.agg (fwarr zeroW), .iface 162 (.agg (skarr k (.slice so8 (k.ys.length + 1) sc8)))]) (results_row_tmp Try.results163 _ _ (w.heap.size + 1 + 1) _ _ (0, 0) _ _ rfl rfl (setRow_heap _ _ _ _ _ _ E2.out) Try.underlying47 rfl infoWd) rfl ?_
      have zd := dd.size
      have zal := al.size
      have rr : RowA (V9.drew.setRow (w.heap.size + 1 + 1) (fwarr zeroW)) base 3 1 (.slice so8 (k.ys.length + 1) sc8) (k.ys.length + 1) (ints k.ys ++ [.int .i64 x.a1]) := RowA.keepTy8 (R9.out.keepB dd) s9 (fun j h1 h2 => by subst h2; exact typed_box E2.out (by decide) rfl h1)
      rw [hR3.out]
      exact ⟨_, rfl, so8, sc8, (skarr k (.slice so8 (k.ys.length + 1) sc8)), rfl, by rw [List.length_append]; rfl, rowA_more rr rfl, (c9.trans (Upd.ofBelow dd)).trans (s9.mono (fun j h => by omega)), k9.trans ((KpH2.below dd).trans (KpH2.upd s9 (fun j h => by omega)))⟩
    · have e6 : decide (((k.ys.length + 1 : Nat) : Int) < 2) = false := decide_eq_false (by omega)
      have e7 : decide ((k.ys.length : Int) + 1 < 2) = false := decide_eq_false (by omega)
      have hR3 : Hid (R = (164, { k with ys := k.ys ++ [x.a1] }, some true)) := by show _ = _; rw [hR.out, if_neg hn0]
      clear hn0
      go_upto_region 6 with fail
      clear e6 e7 l9
      have dd := bDrewB (Below.refl V9.heap.size V9)
      have E0 := hide (bKeeps dd T9.out)
      have E2 := hide (bKeeps dd P9.out)
      have s9 := updRow V9.drew (w.heap.size + 1 + 1) (fwarr zeroW)
      have E3 := s9.keeps E0.out (by omega)
      go_wp2
      refine wp_region_noPanic ?_
      refine wp_region_held_drew (S := (fun w' => w'.heap[w.heap.size]? = some (.cells (skarr k (.slice so8 (k.ys.length + 1) sc8)) 162 (0, 0)))) (by kernel_rfl) ?_ (fun hHeld => ?_)
      · exact E0.out
      refine wpAnyH_take (i := 0) (v := .agg (fwarr zeroW)) rfl (by kernel_rfl) (by kernel_rfl) (by kernel_rfl) (fun _ _ _ h => h) (yields_build rfl 47 _ rfl [] _ (by simp) builtZw) (by assumption) ?_
      simp only [Act.put, List.getElem_toArray, List.getElem_cons_zero, List.setIfInBounds_toArray, List.set_cons_zero, List.set_cons_succ]
      refine wpAnyH_take (i := 1) (v := ?v5) rfl (by kernel_rfl) (by kernel_rfl) (by kernel_rfl) (fun _ _ _ h => h) (Or.inl ⟨by rfl, ?hy5⟩) (by assumption) ?rest5
      case hy5 => ((intro w hSw; (try dsimp only at hSw); (try simp only [List.getElem_toArray, List.getElem_cons_zero, List.getElem_cons_succ]); go_simp; first | done | (with_reducible rfl)))
      simp only [Act.put, List.getElem_toArray, List.getElem_cons_zero, List.getElem_cons_succ, List.setIfInBounds_toArray, List.set_cons_zero, List.set_cons_succ]
      refine wpAnyH_take (i := 2) (v := .agg (skarr k (.slice so8 (k.ys.length + 1) sc8))) rfl (by kernel_rfl) (by kernel_rfl) (by kernel_rfl) (fun _ _ _ h => h) (yields_row rfl 39 (.tmp 30) rfl (w.heap.size) rfl _ (skarr k (.slice so8 (k.ys.length + 1) sc8)) _ (fun _ h => h) Try.underlying39 rfl infoSk) (by assumption) ?_
      simp only [Act.put, List.getElem_toArray, List.getElem_cons_zero, List.getElem_cons_succ, List.setIfInBounds_toArray, List.set_cons_zero, List.set_cons_succ]
      refine wpAnyH_take (i := 3) (v := .agg (rest0 k (.slice so8 (k.ys.length + 1) sc8) true)) rfl (by kernel_rfl) (by kernel_rfl) (by kernel_rfl) (fun _ _ _ h => h) (yields_build rfl 164 _ rfl [(0, .agg (skarr k (.slice so8 (k.ys.length + 1) sc8))), (1, .bool true)] _ ((by (conv => lhs; simp only [List.map_toArray, List.map_cons, List.map_nil]); rfl)) (builtPhC k so8 (k.ys.length + 1) sc8)) (by assumption) ?_
      simp only [Act.put, List.getElem_toArray, List.getElem_cons_zero, List.getElem_cons_succ, List.setIfInBounds_toArray, List.set_cons_zero, List.set_cons_succ]
      refine wpAnyH_take (i := 4) (v := ?v6) rfl (by kernel_rfl) (by kernel_rfl) (by kernel_rfl) (fun _ _ _ h => h) (Or.inl ⟨by rfl, ?hy6⟩) (by assumption) ?rest6
      case hy6 => ((intro w hSw; (try dsimp only at hSw); (try simp only [List.getElem_toArray, List.getElem_cons_zero, List.getElem_cons_succ]); go_simp; first | done | (with_reducible rfl)))
      simp only [Act.put, List.getElem_toArray, List.getElem_cons_zero, List.getElem_cons_succ, List.setIfInBounds_toArray, List.set_cons_zero, List.set_cons_succ]
      refine wpAnyH_ready (rs := [5]) (by kernel_rfl) (by simp) ?_
      refine AllReadyH.cons rfl (fun K hK => ?_) AllReadyH.nil
      (refine wp_store_row 47 (.tmp 4) (.tmp 29) rfl (w.heap.size + 1 + 1) (fwarr zeroW) rfl rfl _ _ E2.out infoWd (show (26 : Nat) = 26 from rfl) (fw_one _) ?_)
      refine hK.out _ _ ?_ (fun hHeld => ?_)
      · exact E3
      clear hK K
      refine wpAnyH_take (i := 6) (v := ?v7) rfl (by kernel_rfl) (by kernel_rfl) (by kernel_rfl) (fun _ _ _ h => h) (Or.inl ⟨by rfl, ?y7⟩) (by assumption) ?r7
      case y7 => (intro w hSw; go_simp; first | done | (with_reducible rfl))
      simp only [Act.put, List.getElem_toArray, List.getElem_cons_zero, List.getElem_cons_succ, List.setIfInBounds_toArray, List.set_cons_zero, List.set_cons_succ]
      refine wpAnyH_done (by kernel_rfl) ?_ _
      refine NoPanic.normal ?_
      clear hHeld
      go_wp2_with fail
      refine bodyPost_ret (v := .tuple #[.agg (fwarr zeroW), .iface 164 (.agg (rest0 k (.slice so8 (k.ys.length + 1) sc8) true))]) (results_row_tmp Try.results163 _ _ (w.heap.size + 1 + 1) _ _ (0, 0) _ _ rfl rfl (setRow_heap _ _ _ _ _ _ E2.out) Try.underlying47 rfl infoWd) rfl ?_
      have zd := dd.size
      have zal := al.size
      have rr : RowA (V9.drew.setRow (w.heap.size + 1 + 1) (fwarr zeroW)) base 3 1 (.slice so8 (k.ys.length + 1) sc8) (k.ys.length + 1) (ints k.ys ++ [.int .i64 x.a1]) := RowA.keepTy8 (R9.out.keepB dd) s9 (fun j h1 h2 => by subst h2; exact typed_box E2.out (by decide) rfl h1)
      rw [hR3.out]
      exact ⟨_, rfl, so8, sc8, (rest0 k (.slice so8 (k.ys.length + 1) sc8) true), rfl, by rw [List.length_append]; rfl, rowA_more rr rfl, (c9.trans (Upd.ofBelow dd)).trans (s9.mono (fun j h => by omega)), k9.trans ((KpH2.below dd).trans (KpH2.upd s9 (fun j h => by omega)))⟩
  · have e1 : (x.a0 != 4) = true := by simpa using ha
    have hR : Hid (R = (162, k, none)) := by show _ = _; rw [← HR2.out, hear2R, if_neg ha]
    clear ha
    go_upto_region 2 with fail
    clear w0 e1
    have dd := bDrewB (Below.refl W.heap.size W)
    have E0 := hide (bKeeps dd A0.out)
    have E2 := hide (bKeeps dd A2.out)
    have s9 := updRow W.drew (w.heap.size + 1 + 1) (fwarr zeroW)
    have E3 := s9.keeps E0.out (by omega)
    go_wp2
    refine wp_region_noPanic ?_
    refine wp_region_held_drew (S := (fun w' => w'.heap[w.heap.size]? = some (.cells (skarr k (.slice yo k.ys.length yc)) 162 (0, 0)))) (by kernel_rfl) ?_ (fun hHeld => ?_)
    · exact E0.out
    refine wpAnyH_take (i := 0) (v := .agg (fwarr zeroW)) rfl (by kernel_rfl) (by kernel_rfl) (by kernel_rfl) (fun _ _ _ h => h) (yields_build rfl 47 _ rfl [] _ (by simp) builtZw) (by assumption) ?_
    simp only [Act.put, List.getElem_toArray, List.getElem_cons_zero, List.setIfInBounds_toArray, List.set_cons_zero, List.set_cons_succ]
    refine wpAnyH_take (i := 1) (v := .agg (skarr k (.slice yo k.ys.length yc))) rfl (by kernel_rfl) (by kernel_rfl) (by kernel_rfl) (fun _ _ _ h => h) (yields_row rfl 162 (.tmp 2) rfl (w.heap.size) rfl _ (skarr k (.slice yo k.ys.length yc)) _ (fun _ h => h) Try.underlying162 rfl infoVo) (by assumption) ?_
    simp only [Act.put, List.getElem_toArray, List.getElem_cons_zero, List.getElem_cons_succ, List.setIfInBounds_toArray, List.set_cons_zero, List.set_cons_succ]
    refine wpAnyH_take (i := 2) (v := ?v8) rfl (by kernel_rfl) (by kernel_rfl) (by kernel_rfl) (fun _ _ _ h => h) (Or.inl ⟨by rfl, ?hy8⟩) (by assumption) ?rest8
    case hy8 => ((intro w hSw; (try dsimp only at hSw); (try simp only [List.getElem_toArray, List.getElem_cons_zero, List.getElem_cons_succ]); go_simp; first | done | (with_reducible rfl)))
    simp only [Act.put, List.getElem_toArray, List.getElem_cons_zero, List.getElem_cons_succ, List.setIfInBounds_toArray, List.set_cons_zero, List.set_cons_succ]
    refine wpAnyH_ready (rs := [3]) (by kernel_rfl) (by simp) ?_
    refine AllReadyH.cons rfl (fun K hK => ?_) AllReadyH.nil
    (refine wp_store_row 47 (.tmp 4) (.tmp 9) rfl (w.heap.size + 1 + 1) (fwarr zeroW) rfl rfl _ _ E2.out infoWd (show (26 : Nat) = 26 from rfl) (fw_one _) ?_)
    refine hK.out _ _ ?_ (fun hHeld => ?_)
    · exact E3
    clear hK K
    refine wpAnyH_take (i := 4) (v := ?v9) rfl (by kernel_rfl) (by kernel_rfl) (by kernel_rfl) (fun _ _ _ h => h) (Or.inl ⟨by rfl, ?y9⟩) (by assumption) ?r9
    case y9 => (intro w hSw; go_simp; first | done | (with_reducible rfl))
    simp only [Act.put, List.getElem_toArray, List.getElem_cons_zero, List.getElem_cons_succ, List.setIfInBounds_toArray, List.set_cons_zero, List.set_cons_succ]
    refine wpAnyH_done (by kernel_rfl) ?_ _
    refine NoPanic.normal ?_
    clear hHeld
    go_wp2_with fail
    refine bodyPost_ret (v := .tuple #[.agg (fwarr zeroW), .iface 162 (.agg (skarr k (.slice yo k.ys.length yc)))]) (results_row_tmp Try.results163 _ _ (w.heap.size + 1 + 1) _ _ (0, 0) _ _ rfl rfl (setRow_heap _ _ _ _ _ _ E2.out) Try.underlying47 rfl infoWd) rfl ?_
    have zd := dd.size
    have zal := al.size
    rw [hR.out]
    have rr : RowA (W.drew.setRow (w.heap.size + 1 + 1) (fwarr zeroW)) base 3 1 (.slice yo k.ys.length yc) k.ys.length (ints k.ys) := RowA.keepTy8 (RW.out.keepB dd) s9 (fun j h1 h2 => by subst h2; exact typed_box E2.out (by decide) rfl h1)
    exact ⟨_, rfl, yo, yc, _, rfl, rfl, rr, (Upd.ofBelow (bAll al dd)).trans (s9.mono (fun j h => by omega)), (KpH2.below al).trans ((KpH2.below dd).trans (KpH2.upd s9 (fun j h => by omega)))⟩

end Go.Proofs.Yteddhdbglciahaa
