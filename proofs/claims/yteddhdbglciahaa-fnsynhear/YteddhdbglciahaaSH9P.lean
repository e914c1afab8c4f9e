/- What a phase that waits for promises does with a word: a contract; no statement of the seat is proved here. (Written by wip/tools/mkhear2.py.) -/
import Derived.Test.YteddhdbglciahaaLk15
namespace Go.Proofs.Yteddhdbglciahaa
open Go.RowKit

def hear1R (k : Sk) (x : Wd) : Wd × TypeId × Sk × Option Bool :=
  if x.a0 = 2 ∧ x.a5 < k.b then
    if k.ys.length = 0 then (zeroW, 161, { toldK k x with ys := k.ys ++ [x.a1] }, none)
    else (accW 0 k.b k.s (fwdW (toldK k x)), 162, { toldK k x with ph := 2, ys := [] }, none)
  else (zeroW, 161, k, none)

theorem told_s (k : Sk) (x : Wd) : (toldK k x).s = k.s ∧ (toldK k x).b = k.b ∧ (toldK k x).ys = k.ys := by
  unfold toldK
  split <;> exact ⟨rfl, rfl, rfl⟩

set_option maxRecDepth 100000 in
set_option maxHeartbeats 16000000 in
theorem hear1_any (k : Sk) (yo : Option Addr) (yc base : Nat) (u : Value) (x : Wd) (w : World) (hn : k.ys.length ≤ 1) (hr : RowA w base 3 1 (.slice yo k.ys.length yc) k.ys.length (ints k.ys)) (hb : base ≤ w.heap.size) (hx : WdR w u x) :
    Calls Try.prog 160 #[.agg (skarr k (.slice yo k.ys.length yc)), u] w fun e w' => ∃ v, e = .returned v ∧ PhO w w' base (hear1R k x).1 (hear1R k x).2.1 (hear1R k x).2.2.1 (hear1R k x).2.2.2 v := by
  obtain ⟨R, hR⟩ : ∃ R, hear1R k x = R := ⟨_, rfl⟩
  rw [hR]
  have HR2 := hide hR
  clear hR
  obtain ⟨i1, gi, gz0, gz1, gz2⟩ := info_parts infoInt
  obtain ⟨cs, rfl, hs, -⟩ := hx.agg
  have HXC := hide hx.cells
  have HR := hide hr
  clear hx hs hr
  go_enter Try.func160, Try.ntmps160
  go_upto_region 1 with fail
  generalize hW : World.alloc _ _ = W
  have al : Below w.heap.size w W := by rw [← hW]; exact bal (bal (bal (Below.refl _ _) _) _) _
  have A0 : Hid (W.heap[w.heap.size]? = some (.cells (skarr k (.slice yo k.ys.length yc)) 161 (0, 0))) := by show _ = _; rw [← hW]; exact al3_0 w _ _ _
  have A1 : Hid (W.heap[w.heap.size + 1]? = some (.cells cs 47 (0, 0))) := by show _ = _; rw [← hW]; exact al3_1 w _ _ _
  have A2 : Hid (W.heap[w.heap.size + 1 + 1]? = some (.cells #[.int .i64 0, .int .i64 0, .int .i64 0, .int .i64 0, .int .i64 0, .int .i64 0, .int .i64 0, .int .i64 0, .int .i64 0, .int .i64 0, .int .i64 0, .int .i64 0, .int .i64 0, .int .i64 0, .int .i64 0, .int .i64 0, .int .i64 0, .int .i64 0, .int .i64 0, .int .i64 0, .int .i64 0, .int .i64 0, .int .i64 0, .int .i64 0, .slice none 0 0, .slice none 0 0] 47 (0, 0))) := by show _ = _; rw [← hW]; exact al3_2 w _ _ _
  have ltW := heap_lt A2.out
  have RW := hide (HR.out.keepB al)
  clear hW
  obtain ⟨x0, x1, x2, xm, xp, x13, x14, x25⟩ := sk_cells A0.out
  clear xm xp
  have w0 : W.cell? ⟨w.heap.size + 1, 0, none⟩ = some (.int .i64 x.a0) := (boxAt A1.out 0).trans HXC.out.1
  have w5 : W.cell? ⟨w.heap.size + 1, 5, none⟩ = some (.int .i64 x.a5) := (boxAt A1.out 5).trans HXC.out.2.2.2.2.1
  have XC : ∀ j z, (#[.int .i64 x.c0, .int .i64 x.c1, .int .i64 x.c2, .int .i64 x.c3, .int .i64 x.c4, .int .i64 x.c5, .int .i64 x.c6, .int .i64 x.c7, .int .i64 x.c8, .int .i64 x.c9] : Array Value)[j]? = some z → W.cell? ⟨w.heap.size + 1, 6 + j, none⟩ = some z := fun j z hj => (boxAt A1.out (6 + j)).trans (HXC.out.2.2.2.2.2 j z hj)
  have XC := hide XC
  by_cases ha : x.a0 = 2
  · have e3 : (x.a0 != 2) = false := by simpa using ha
    by_cases hb5 : x.a5 < k.b
    · have e4 : decide (x.a5 ≥ k.b) = false := decide_eq_false (by omega)
      have hR : Hid (R = if k.ys.length = 0 then (zeroW, 161, { toldK k x with ys := k.ys ++ [x.a1] }, none) else (accW 0 k.b k.s (fwdW (toldK k x)), 162, { toldK k x with ph := 2, ys := [] }, none)) := by show _ = _; rw [← HR2.out, hear1R, if_pos ⟨ha, hb5⟩]
      obtain ⟨k1, hk1⟩ : ∃ k1, toldK k x = k1 := ⟨_, rfl⟩
      rw [hk1] at hR
      have HKS := hide (told_s k x)
      rw [hk1] at HKS
      have HK1 := hide hk1
      clear ha hb5 hk1 HR2
      go_upto_region 3 with fail
      by_cases hc : k.p.2.1 < x.a5
      · have e5 : decide (x.a5 > k.p.2.1) = true := by simpa using hc
        have T0 := hide A0.out
        have hput : putAt (skarr k (.slice yo k.ys.length yc)) 13 (pparr (k.s, x.a5, x)) = skarr { k with p := (k.s, x.a5, x) } (.slice yo k.ys.length yc) := rfl
        have hk1 : k1 = { k with p := (k.s, x.a5, x) } := by rw [← HK1.out, toldK, if_pos hc]
        have u7 := updRow W w.heap.size (skarr k1 (.slice yo k.ys.length yc))
        have T7 := hide (setRow_heap _ _ _ (skarr k1 (.slice yo k.ys.length yc)) _ _ T0.out)
        clear hc
        go_upto_region 4 with fail
        go_upto_region 5 with (first
          | (refine wpList_load_at rfl 35 (.tmp 32) rfl (w.heap.size + 1) 6 rfl #[.int .i64 x.c0, .int .i64 x.c1, .int .i64 x.c2, .int .i64 x.c3, .int .i64 x.c4, .int .i64 x.c5, .int .i64 x.c6, .int .i64 x.c7, .int .i64 x.c8, .int .i64 x.c9] _ XC.out Try.underlying35 rfl infoCm10 ?_)
          | (refine wpList_builtBest k.s x.a5 x rfl _ rfl ?hp ?_; (case hp => ((conv => lhs; simp only [List.map_toArray, List.map_cons, List.map_nil]); rfl)))
          | (refine wpList_store_at rfl 37 (.tmp 36) (.tmp 34) rfl w.heap.size 13 (pparr (k.s, x.a5, x)) rfl rfl _ _ T0.out infoPpS (show (13 + 12 : Nat) ≤ 26 by omega) (pparr_one _) ?_; rw [hput, ← hk1]))
        clear hput hk1 T0 x0 x1 x2 x13 x14 x25 w0 w5 e3 e4 e5 XC
        generalize hV : W.setRow w.heap.size (skarr k1 (.slice yo k.ys.length yc)) = V at u7 T7 ⊢
        clear hV
        have l7 : V.cell? ⟨w.heap.size, 25, none⟩ = some (.slice yo k.ys.length yc) := boxAt T7.out 25
        have m7 : V.cell? ⟨w.heap.size + 1, 1, none⟩ = some (.int .i64 x.a1) := (boxAt (u7.keeps A1.out (by omega)) 1).trans HXC.out.2.1
        have O7 := hide (u7.keeps A2.out (by omega))
        have z7 := u7.size
        have al8 := bal (Below.refl V.heap.size V) (.cells #[.int .i64 x.a1] 3)
        have rowV := (rowA_keep_box (by decide) RW.out A0.out u7).keepB al8
        have NV := hide (newI_cells V x.a1 3)
        have T8 := hide (bKeeps al8 T7.out)
        have O8 := hide (bKeeps al8 O7.out)
        go_wp2_with (at_builtin; refine wpList_appendA _ rfl _ _ 26 rfl base 3 i1 (.int .i64 0) 1 8 Try.underlying26 gi gz0 gz1 gz2 rfl (by decide) _ k.ys.length (ints k.ys) rfl rowV ⟨V.heap.size, 0, none⟩ 1 1 [.int .i64 x.a1] rfl rfl NV.out (oneI _) (by decide) ?q63 ?qby ?qbase ?_)
        case q63 => unfold maxLen; omega
        case qby => omega
        case qbase => (have := al.size; have := al8.size; omega)
        intro v8 w8 r8 u8
        obtain ⟨so8, sc8, rfl, hcap8⟩ := owns_shape r8
        have B8 := hide (typed_keeps (by decide) u8 T8.out)
        have P8 := hide (typed_keeps (by decide) u8 O8.out)
        have R8 := hide (show RowA w8 base 3 1 _ _ _ from .inl r8)
        have z8 := u8.size
        have zal := al8.size
        have UV : Upd (fun j => base ≤ j) w w8 := (((Upd.ofBelow al).trans (u7.mono (fun j h => by omega))).trans (Upd.ofBelow al8)).trans (u8.mono (fun j h => h.1))
        have UK : KpH2 w.heap.size w w8 := (((KpH2.below al).trans (KpH2.upd u7 (fun j h => by omega))).trans (KpH2.below al8)).trans (KpH2.typed u8)
        have f0 : w8.cell? ⟨w.heap.size, 25, none⟩ = some (.slice yo k.ys.length yc) := boxAt B8.out 25
        have f1 : w8.frozen? ⟨w.heap.size, 25, none⟩ = false := boxFz B8.out 25
        clear rowV NV T8 O8 r8 u8 al8 l7 m7
        go_upto_region 6 with fail
        generalize hV : World.setCell _ _ _ = V9
        have u9 : Upd (fun j => j = w.heap.size) w8 V9 := by rw [← hV]; exact Upd.setCell _ _ _ _ rfl
        have T9 : Hid (V9.heap[w.heap.size]? = some (.cells (skarr k1 (.slice so8 (k.ys.length + 1) sc8)) 161 (0, 0))) := by show _ = _; rw [← hV]; exact row_set _ B8.out
        have R9 := hide (rowA_keep_box (by decide) R8.out B8.out u9)
        have P9 := hide (u9.keeps P8.out (by omega))
        have c9 : Upd (fun j => base ≤ j) w V9 := UV.trans (u9.mono (fun j h => by omega))
        have k9 : KpH2 w.heap.size w V9 := UK.trans (KpH2.upd u9 (fun j h => by omega))
        have z9 := u9.size
        have l9 : V9.cell? ⟨w.heap.size, 25, none⟩ = some (.slice so8 (k.ys.length + 1) sc8) := boxAt T9.out 25
        clear hV f0 f1 B8 P8 R8 u9 UV UK u7 T7 O7
        by_cases hn0 : k.ys.length = 0
        · have e6 : decide (((k.ys.length + 1 : Nat) : Int) < 2) = true := decide_eq_true (by omega)
          have e7 : decide ((k.ys.length : Int) + 1 < 2) = true := decide_eq_true (by omega)
          have hR3 : Hid (R = (zeroW, 161, { k1 with ys := k.ys ++ [x.a1] }, none)) := by show _ = _; rw [hR.out, if_pos hn0]
          clear hn0
          go_upto_region 7 with fail
          clear e6 e7 l9
          have dd := bDrewB (Below.refl V9.heap.size V9)
          have E0 := hide (bKeeps dd T9.out)
          have E2 := hide (bKeeps dd P9.out)
          have s9 := updRow V9.drew (w.heap.size + 1 + 1) (fwarr zeroW)
          have E3 := s9.keeps E0.out (by omega)
          go_wp2
          refine wp_region_noPanic ?_
          refine wp_region_held_drew (S := (fun w' => w'.heap[w.heap.size]? = some (.cells (skarr k1 (.slice so8 (k.ys.length + 1) sc8)) 161 (0, 0)))) (by kernel_rfl) ?_ (fun hHeld => ?_)
          · exact E0.out
          refine wpAnyH_take (i := 0) (v := .agg (fwarr zeroW)) rfl (by kernel_rfl) (by kernel_rfl) (by kernel_rfl) (fun _ _ _ h => h) (yields_build rfl 47 _ rfl [] _ (by simp) builtZw) (by assumption) ?_
          simp only [Act.put, List.getElem_toArray, List.getElem_cons_zero, List.setIfInBounds_toArray, List.set_cons_zero, List.set_cons_succ]
          refine wpAnyH_take (i := 1) (v := .agg (skarr k1 (.slice so8 (k.ys.length + 1) sc8))) rfl (by kernel_rfl) (by kernel_rfl) (by kernel_rfl) (fun _ _ _ h => h) (yields_row rfl 161 (.tmp 2) rfl (w.heap.size) rfl _ (skarr k1 (.slice so8 (k.ys.length + 1) sc8)) _ (fun _ h => h) Try.underlying161 rfl infoPr) (by assumption) ?_
          simp only [Act.put, List.getElem_toArray, List.getElem_cons_zero, List.getElem_cons_succ, List.setIfInBounds_toArray, List.set_cons_zero, List.set_cons_succ]
          refine wpAnyH_take (i := 2) (v := ?v1) rfl (by kernel_rfl) (by kernel_rfl) (by kernel_rfl) (fun _ _ _ h => h) (Or.inl ⟨by rfl, ?hy1⟩) (by assumption) ?rest1
          case hy1 => ((intro w hSw; (try dsimp only at hSw); (try simp only [List.getElem_toArray, List.getElem_cons_zero, List.getElem_cons_succ]); go_simp; first | done | (with_reducible rfl)))
          simp only [Act.put, List.getElem_toArray, List.getElem_cons_zero, List.getElem_cons_succ, List.setIfInBounds_toArray, List.set_cons_zero, List.set_cons_succ]
          refine wpAnyH_ready (rs := [3]) (by kernel_rfl) (by simp) ?_
          refine AllReadyH.cons rfl (fun K hK => ?_) AllReadyH.nil
          (refine wp_store_row 47 (.tmp 4) (.tmp 51) rfl (w.heap.size + 1 + 1) (fwarr zeroW) rfl rfl _ _ E2.out infoWd (show (26 : Nat) = 26 from rfl) (fw_one _) ?_)
          refine hK.out _ _ ?_ (fun hHeld => ?_)
          · exact E3
          clear hK K
          refine wpAnyH_take (i := 4) (v := ?v2) rfl (by kernel_rfl) (by kernel_rfl) (by kernel_rfl) (fun _ _ _ h => h) (Or.inl ⟨by rfl, ?y2⟩) (by assumption) ?r2
          case y2 => (intro w hSw; go_simp; first | done | (with_reducible rfl))
          simp only [Act.put, List.getElem_toArray, List.getElem_cons_zero, List.getElem_cons_succ, List.setIfInBounds_toArray, List.set_cons_zero, List.set_cons_succ]
          refine wpAnyH_done (by kernel_rfl) ?_ _
          refine NoPanic.normal ?_
          clear hHeld
          go_wp2_with fail
          refine bodyPost_ret (v := .tuple #[.agg (fwarr zeroW), .iface 161 (.agg (skarr k1 (.slice so8 (k.ys.length + 1) sc8)))]) (results_row_tmp Try.results160 _ _ (w.heap.size + 1 + 1) _ _ (0, 0) _ _ rfl rfl (setRow_heap _ _ _ _ _ _ E2.out) Try.underlying47 rfl infoWd) rfl ?_
          have zd := dd.size
          have rr : RowA (V9.drew.setRow (w.heap.size + 1 + 1) (fwarr zeroW)) base 3 1 (.slice so8 (k.ys.length + 1) sc8) (k.ys.length + 1) (ints k.ys ++ [.int .i64 x.a1]) := RowA.keepTy8 (R9.out.keepB dd) s9 (fun j h1 h2 => by subst h2; exact typed_box E2.out (by decide) rfl h1)
          rw [hR3.out]
          exact ⟨_, rfl, so8, sc8, (skarr k1 (.slice so8 (k.ys.length + 1) sc8)), rfl, by rw [List.length_append]; rfl, rowA_more rr rfl, (c9.trans (Upd.ofBelow dd)).trans (s9.mono (fun j h => by omega)), k9.trans ((KpH2.below dd).trans (KpH2.upd s9 (fun j h => by omega)))⟩
        · have e6 : decide (((k.ys.length + 1 : Nat) : Int) < 2) = false := decide_eq_false (by omega)
          have e7 : decide ((k.ys.length : Int) + 1 < 2) = false := decide_eq_false (by omega)
          have hR3 : Hid (R = (accW 0 k.b k.s (fwdW k1), 162, { k1 with ph := 2, ys := [] }, none)) := by show _ = _; rw [hR.out, if_neg hn0]
          clear hn0
          go_upto_region 8 with fail
          clear e6 e7
          have p2 : V9.cell? ⟨w.heap.size, 2, none⟩ = some (.int .i64 k1.ph) := boxAt T9.out 2
          have p2' := boxFz T9.out 2
          have p25' := boxFz T9.out 25
          go_upto_region 9 with fail
          generalize hV : World.setCell _ _ _ = V12
          have m9 : Upd (fun j => j = w.heap.size) V9 (V9.setCell ⟨w.heap.size, 2, none⟩ (.int .i64 2)) := Upd.setCell _ _ _ _ rfl
          have n9 := row_set (.int .i64 2) T9.out (j := 2)
          have T12 : Hid (V12.heap[w.heap.size]? = some (.cells (skarr { k1 with ph := 2, ys := [] } (.slice none 0 0)) 161 (0, 0))) := by show _ = _; rw [← hV]; exact row_set _ n9
          have m12 : Upd (fun j => j = w.heap.size) V9 V12 := by rw [← hV]; exact m9.trans (Upd.setCell _ _ _ _ rfl)
          have z12 := m12.size
          have P12 := hide (m12.keeps P9.out (by omega))
          have k12 : KpH2 w.heap.size w V12 := k9.trans (KpH2.upd m12 (fun j h => by omega))
          have c12 : Upd (fun j => base ≤ j) w V12 := c9.trans (m12.mono (fun j h => by omega))
          clear hV m9 n9 m12 p2 p2' p25' l9 T9 R9 P9 c9 k9
          have dd := bDrewB (Below.refl V12.heap.size V12)
          have FS : Hid (∀ V : World, Below V12.heap.size V12 V → (V.heap[w.heap.size]? = some (.cells (skarr { k1 with ph := 2, ys := [] } (.slice none 0 0)) 161 (0, 0)) ∧ V.cell? ⟨w.heap.size, 0, none⟩ = some (.int .i64 k.s) ∧ V.cell? ⟨w.heap.size, 1, none⟩ = some (.int .i64 k.b)) ∧ V.heap[w.heap.size + 1 + 1]? = some (.cells #[.int .i64 0, .int .i64 0, .int .i64 0, .int .i64 0, .int .i64 0, .int .i64 0, .int .i64 0, .int .i64 0, .int .i64 0, .int .i64 0, .int .i64 0, .int .i64 0, .int .i64 0, .int .i64 0, .int .i64 0, .int .i64 0, .int .i64 0, .int .i64 0, .int .i64 0, .int .i64 0, .int .i64 0, .int .i64 0, .int .i64 0, .int .i64 0, .slice none 0 0, .slice none 0 0] 47 (0, 0))) := fun V h => ⟨⟨bKeeps h T12.out, by rw [← HKS.out.1]; exact (sk_cells (bKeeps h T12.out)).1, by rw [← HKS.out.2.1]; exact (sk_cells (bKeeps h T12.out)).2.1⟩, bKeeps h P12.out⟩
          go_wp2
          refine wp_region_noPanic ?_
          refine wp_region_held_drew (S := (fun w' => w'.heap[w.heap.size]? = some (.cells (skarr { k1 with ph := 2, ys := [] } (.slice none 0 0)) 161 (0, 0)) ∧ w'.cell? ⟨w.heap.size, 0, none⟩ = some (.int .i64 k.s) ∧ w'.cell? ⟨w.heap.size, 1, none⟩ = some (.int .i64 k.b))) (by kernel_rfl) ?_ (fun hHeld => ?_)
          · exact (FS.out _ dd).1
          refine wpAnyH_take (i := 0) (v := ?v3) rfl (by kernel_rfl) (by kernel_rfl) (by kernel_rfl) (fun _ _ _ h => h) (Or.inl ⟨by rfl, ?hy3⟩) (by assumption) ?rest3
          case hy3 => ((intro w hSw; (try dsimp only at hSw); (try simp only [List.getElem_toArray, List.getElem_cons_zero]); go_simp; first | done | (with_reducible rfl)))
          simp only [Act.put, List.getElem_toArray, List.getElem_cons_zero, List.setIfInBounds_toArray, List.set_cons_zero, List.set_cons_succ]
          refine wpAnyH_take (i := 1) (v := ?v4) rfl (by kernel_rfl) (by kernel_rfl) (by kernel_rfl) (fun _ _ _ h => h) (Or.inl ⟨by rfl, ?hy4⟩) (by assumption) ?rest4
          case hy4 => ((intro w hSw; (try dsimp only at hSw); (try simp only [List.getElem_toArray, List.getElem_cons_zero, List.getElem_cons_succ]); go_simp; first | done | (with_reducible rfl)))
          simp only [Act.put, List.getElem_toArray, List.getElem_cons_zero, List.getElem_cons_succ, List.setIfInBounds_toArray, List.set_cons_zero, List.set_cons_succ]
          refine wpAnyH_take (i := 2) (v := ?v5) rfl (by kernel_rfl) (by kernel_rfl) (by kernel_rfl) (fun _ _ _ h => h) (Or.inl ⟨by rfl, ?hy5⟩) (by assumption) ?rest5
          case hy5 => ((intro w hSw; (try dsimp only at hSw); (try simp only [List.getElem_toArray, List.getElem_cons_zero, List.getElem_cons_succ]); go_simp; first | done | (with_reducible rfl)))
          simp only [Act.put, List.getElem_toArray, List.getElem_cons_zero, List.getElem_cons_succ, List.setIfInBounds_toArray, List.set_cons_zero, List.set_cons_succ]
          refine wpAnyH_take (i := 3) (v := ?v6) rfl (by kernel_rfl) (by kernel_rfl) (by kernel_rfl) (fun _ _ _ h => h) (Or.inl ⟨by rfl, ?hy6⟩) (by assumption) ?rest6
          case hy6 => ((intro w hSw; (try dsimp only at hSw); (try simp only [List.getElem_toArray, List.getElem_cons_zero, List.getElem_cons_succ]); go_simp; first | done | (with_reducible rfl)))
          simp only [Act.put, List.getElem_toArray, List.getElem_cons_zero, List.getElem_cons_succ, List.setIfInBounds_toArray, List.set_cons_zero, List.set_cons_succ]
          refine wpAnyH_take (i := 4) (v := ?v7) rfl (by kernel_rfl) (by kernel_rfl) (by kernel_rfl) (fun _ _ _ h => h) (Or.inl ⟨by rfl, ?hy7⟩) (by assumption) ?rest7
          case hy7 => ((intro w hSw; (try dsimp only at hSw); (try simp only [List.getElem_toArray, List.getElem_cons_zero, List.getElem_cons_succ]); go_simp; first | done | (with_reducible rfl)))
          simp only [Act.put, List.getElem_toArray, List.getElem_cons_zero, List.getElem_cons_succ, List.setIfInBounds_toArray, List.set_cons_zero, List.set_cons_succ]
          refine wpAnyH_take (i := 5) (v := ?v8) rfl (by kernel_rfl) (by kernel_rfl) (by kernel_rfl) (fun _ _ _ h => h) (Or.inl ⟨by rfl, ?hy8⟩) (by assumption) ?rest8
          case hy8 => ((intro w hSw; (try dsimp only at hSw); (try simp only [List.getElem_toArray, List.getElem_cons_zero, List.getElem_cons_succ]); go_simp; first | done | (with_reducible rfl)))
          simp only [Act.put, List.getElem_toArray, List.getElem_cons_zero, List.getElem_cons_succ, List.setIfInBounds_toArray, List.set_cons_zero, List.set_cons_succ]
          refine wpAnyH_take (i := 6) (v := ?v9) rfl (by kernel_rfl) (by kernel_rfl) (by kernel_rfl) (fun _ _ _ h => h) (Or.inl ⟨by rfl, ?hy9⟩) (by assumption) ?rest9
          case hy9 => ((intro w hSw; (try dsimp only at hSw); (try simp only [List.getElem_toArray, List.getElem_cons_zero, List.getElem_cons_succ]); go_simp; first | done | (with_reducible rfl)))
          simp only [Act.put, List.getElem_toArray, List.getElem_cons_zero, List.getElem_cons_succ, List.setIfInBounds_toArray, List.set_cons_zero, List.set_cons_succ]
          refine wpAnyH_take (i := 9) (v := ?v10) rfl (by kernel_rfl) (by kernel_rfl) (by kernel_rfl) (fun _ _ _ h => h) (Or.inl ⟨by rfl, ?hy10⟩) (by assumption) ?rest10
          case hy10 => ((intro w hSw; (try dsimp only at hSw); (try simp only [List.getElem_toArray, List.getElem_cons_zero, List.getElem_cons_succ]); go_simp; first | done | (with_reducible rfl)))
          simp only [Act.put, List.getElem_toArray, List.getElem_cons_zero, List.getElem_cons_succ, List.setIfInBounds_toArray, List.set_cons_zero, List.set_cons_succ]
          refine wpAnyH_take (i := 10) (v := .agg (skarr { k1 with ph := 2, ys := [] } (.slice none 0 0))) rfl (by kernel_rfl) (by kernel_rfl) (by kernel_rfl) (fun _ _ _ h => h) (yields_row rfl 39 (.tmp 67) rfl (w.heap.size) rfl _ (skarr { k1 with ph := 2, ys := [] } (.slice none 0 0)) _ (fun _ h => h.1) Try.underlying39 rfl infoSk) (by assumption) ?_
          simp only [Act.put, List.getElem_toArray, List.getElem_cons_zero, List.getElem_cons_succ, List.setIfInBounds_toArray, List.set_cons_zero, List.set_cons_succ]
          refine wpAnyH_take (i := 11) (v := .agg (skarr { k1 with ph := 2, ys := [] } (.slice none 0 0))) rfl (by kernel_rfl) (by kernel_rfl) (by kernel_rfl) (fun _ _ _ h => h) (yields_build rfl 162 _ rfl [(0, .agg (skarr { k1 with ph := 2, ys := [] } (.slice none 0 0)))] _ ((by (conv => lhs; simp only [List.map_toArray, List.map_cons, List.map_nil]); rfl)) (builtPh2 { k1 with ph := 2, ys := [] } none 0 0)) (by assumption) ?_
          simp only [Act.put, List.getElem_toArray, List.getElem_cons_zero, List.getElem_cons_succ, List.setIfInBounds_toArray, List.set_cons_zero, List.set_cons_succ]
          refine wpAnyH_take (i := 12) (v := ?v11) rfl (by kernel_rfl) (by kernel_rfl) (by kernel_rfl) (fun _ _ _ h => h) (Or.inl ⟨by rfl, ?hy11⟩) (by assumption) ?rest11
          case hy11 => ((intro w hSw; (try dsimp only at hSw); (try simp only [List.getElem_toArray, List.getElem_cons_zero, List.getElem_cons_succ]); go_simp; first | done | (with_reducible rfl)))
          simp only [Act.put, List.getElem_toArray, List.getElem_cons_zero, List.getElem_cons_succ, List.setIfInBounds_toArray, List.set_cons_zero, List.set_cons_succ]
          refine wpAnyH_ready (rs := [7]) (by kernel_rfl) (by simp) ?_
          refine AllReadyH.cons rfl (fun K hK => ?_) AllReadyH.nil
          go_simp
          (go_at_call 162; refine (forward_any _ { k1 with ph := 2, ys := [] } _ _ _ (FS.out _ dd).1.1).mono ?_; rintro e V13 ⟨rfl, b13⟩; have b13' := bAll dd b13)
          refine hK.out _ _ ?_ (fun hHeld => ?_)
          · exact (FS.out _ b13').1
          clear hK K
          refine wpAnyH_take (i := 8) (v := .agg (fwarr (accW 0 k.b k.s (fwdW k1)))) rfl (by kernel_rfl) (by kernel_rfl) (by kernel_rfl) (fun _ _ _ h => h) (yields_build rfl 47 _ rfl [(0, .int .i64 3), (3, .int .i64 k.b), (4, .int .i64 k.s), (6, .agg (wcmd (fwdW k1)))] _ ((by (conv => lhs; simp only [List.map_toArray, List.map_cons, List.map_nil]); rfl)) (builtAcc2 k.b k.s (fwdW k1))) (by assumption) ?_
          simp only [Act.put, List.getElem_toArray, List.getElem_cons_zero, List.getElem_cons_succ, List.setIfInBounds_toArray, List.set_cons_zero, List.set_cons_succ]
          have E2 := hide (FS.out _ b13').2
          have s9 := updRow V13 (w.heap.size + 1 + 1) (fwarr (accW 0 k.b k.s (fwdW k1)))
          have q15 := s9.keeps (FS.out _ b13').1.1 (by omega)
          have q16 := updCell s9 (FS.out _ b13').1.2.1 (by omega)
          have q17 := updCell s9 (FS.out _ b13').1.2.2 (by omega)
          refine wpAnyH_ready (rs := [13]) (by kernel_rfl) (by simp) ?_
          refine AllReadyH.cons rfl (fun K hK => ?_) AllReadyH.nil
          (refine wp_store_row 47 (.tmp 4) (.tmp 66) rfl (w.heap.size + 1 + 1) (fwarr (accW 0 k.b k.s (fwdW k1))) rfl rfl _ _ E2.out infoWd (show (26 : Nat) = 26 from rfl) (fw_one _) ?_)
          refine hK.out _ _ ?_ (fun hHeld => ?_)
          · exact ⟨q15, q16, q17⟩
          clear hK K
          refine wpAnyH_take (i := 14) (v := ?v12) rfl (by kernel_rfl) (by kernel_rfl) (by kernel_rfl) (fun _ _ _ h => h) (Or.inl ⟨by rfl, ?y12⟩) (by assumption) ?r12
          case y12 => (intro w hSw; go_simp; first | done | (with_reducible rfl))
          simp only [Act.put, List.getElem_toArray, List.getElem_cons_zero, List.getElem_cons_succ, List.setIfInBounds_toArray, List.set_cons_zero, List.set_cons_succ]
          refine wpAnyH_done (by kernel_rfl) ?_ _
          refine NoPanic.normal ?_
          clear hHeld
          go_wp2_with fail
          refine bodyPost_ret (v := .tuple #[.agg (fwarr (accW 0 k.b k.s (fwdW k1))), .iface 162 (.agg (skarr { k1 with ph := 2, ys := [] } (.slice none 0 0)))]) (results_row_tmp Try.results160 _ _ (w.heap.size + 1 + 1) _ _ (0, 0) _ _ rfl rfl (setRow_heap _ _ _ _ _ _ E2.out) Try.underlying47 rfl infoWd) rfl ?_
          have z13 := b13'.size
          rw [hR3.out]
          exact ⟨_, rfl, none, 0, (skarr { k1 with ph := 2, ys := [] } (.slice none 0 0)), rfl, rfl, (.inr ⟨rfl, rfl, none, rfl⟩), (c12.trans (Upd.ofBelow b13')).trans (s9.mono (fun j h => by omega)), k12.trans ((KpH2.below b13').trans (KpH2.upd s9 (fun j h => by omega)))⟩
      · have e5 : decide (x.a5 > k.p.2.1) = false := by simpa using hc
        have hk1 : k1 = k := by rw [← HK1.out, toldK, if_neg hc]
        have T7 : Hid (W.heap[w.heap.size]? = some (.cells (skarr k1 (.slice yo k.ys.length yc)) 161 (0, 0))) := by show _ = _; rw [hk1]; exact A0.out
        clear hc hk1
        go_upto_region 5 with fail
        clear x0 x1 x2 x13 x14 x25 w0 w5 e3 e4 e5 XC
        obtain ⟨V, hV⟩ : ∃ V, V = W := ⟨_, rfl⟩
        rw [← hV]
        have T7 : Hid (V.heap[w.heap.size]? = some (.cells (skarr k1 (.slice yo k.ys.length yc)) 161 (0, 0))) := by rw [hV]; exact T7
        have u7 : Upd (fun j => j = w.heap.size) W V := by rw [hV]; exact Upd.refl _ _
        clear hV
        have l7 : V.cell? ⟨w.heap.size, 25, none⟩ = some (.slice yo k.ys.length yc) := boxAt T7.out 25
        have m7 : V.cell? ⟨w.heap.size + 1, 1, none⟩ = some (.int .i64 x.a1) := (boxAt (u7.keeps A1.out (by omega)) 1).trans HXC.out.2.1
        have O7 := hide (u7.keeps A2.out (by omega))
        have z7 := u7.size
        have al8 := bal (Below.refl V.heap.size V) (.cells #[.int .i64 x.a1] 3)
        have rowV := (rowA_keep_box (by decide) RW.out A0.out u7).keepB al8
        have NV := hide (newI_cells V x.a1 3)
        have T8 := hide (bKeeps al8 T7.out)
        have O8 := hide (bKeeps al8 O7.out)
        go_wp2_with (at_builtin; refine wpList_appendA _ rfl _ _ 26 rfl base 3 i1 (.int .i64 0) 1 8 Try.underlying26 gi gz0 gz1 gz2 rfl (by decide) _ k.ys.length (ints k.ys) rfl rowV ⟨V.heap.size, 0, none⟩ 1 1 [.int .i64 x.a1] rfl rfl NV.out (oneI _) (by decide) ?q63 ?qby ?qbase ?_)
        case q63 => unfold maxLen; omega
        case qby => omega
        case qbase => (have := al.size; have := al8.size; omega)
        intro v8 w8 r8 u8
        obtain ⟨so8, sc8, rfl, hcap8⟩ := owns_shape r8
        have B8 := hide (typed_keeps (by decide) u8 T8.out)
        have P8 := hide (typed_keeps (by decide) u8 O8.out)
        have R8 := hide (show RowA w8 base 3 1 _ _ _ from .inl r8)
        have z8 := u8.size
        have zal := al8.size
        have UV : Upd (fun j => base ≤ j) w w8 := (((Upd.ofBelow al).trans (u7.mono (fun j h => by omega))).trans (Upd.ofBelow al8)).trans (u8.mono (fun j h => h.1))
        have UK : KpH2 w.heap.size w w8 := (((KpH2.below al).trans (KpH2.upd u7 (fun j h => by omega))).trans (KpH2.below al8)).trans (KpH2.typed u8)
        have f0 : w8.cell? ⟨w.heap.size, 25, none⟩ = some (.slice yo k.ys.length yc) := boxAt B8.out 25
        have f1 : w8.frozen? ⟨w.heap.size, 25, none⟩ = false := boxFz B8.out 25
        clear rowV NV T8 O8 r8 u8 al8 l7 m7
        go_upto_region 6 with fail
        generalize hV : World.setCell _ _ _ = V9
        have u9 : Upd (fun j => j = w.heap.size) w8 V9 := by rw [← hV]; exact Upd.setCell _ _ _ _ rfl
        have T9 : Hid (V9.heap[w.heap.size]? = some (.cells (skarr k1 (.slice so8 (k.ys.length + 1) sc8)) 161 (0, 0))) := by show _ = _; rw [← hV]; exact row_set _ B8.out
        have R9 := hide (rowA_keep_box (by decide) R8.out B8.out u9)
        have P9 := hide (u9.keeps P8.out (by omega))
        have c9 : Upd (fun j => base ≤ j) w V9 := UV.trans (u9.mono (fun j h => by omega))
        have k9 : KpH2 w.heap.size w V9 := UK.trans (KpH2.upd u9 (fun j h => by omega))
        have z9 := u9.size
        have l9 : V9.cell? ⟨w.heap.size, 25, none⟩ = some (.slice so8 (k.ys.length + 1) sc8) := boxAt T9.out 25
        clear hV f0 f1 B8 P8 R8 u9 UV UK u7 T7 O7
        by_cases hn0 : k.ys.length = 0
        · have e6 : decide (((k.ys.length + 1 : Nat) : Int) < 2) = true := decide_eq_true (by omega)
          have e7 : decide ((k.ys.length : Int) + 1 < 2) = true := decide_eq_true (by omega)
          have hR3 : Hid (R = (zeroW, 161, { k1 with ys := k.ys ++ [x.a1] }, none)) := by show _ = _; rw [hR.out, if_pos hn0]
          clear hn0
          go_upto_region 7 with fail
          clear e6 e7 l9
          have dd := bDrewB (Below.refl V9.heap.size V9)
          have E0 := hide (bKeeps dd T9.out)
          have E2 := hide (bKeeps dd P9.out)
          have s9 := updRow V9.drew (w.heap.size + 1 + 1) (fwarr zeroW)
          have E3 := s9.keeps E0.out (by omega)
          go_wp2
          refine wp_region_noPanic ?_
          refine wp_region_held_drew (S := (fun w' => w'.heap[w.heap.size]? = some (.cells (skarr k1 (.slice so8 (k.ys.length + 1) sc8)) 161 (0, 0)))) (by kernel_rfl) ?_ (fun hHeld => ?_)
          · exact E0.out
          refine wpAnyH_take (i := 0) (v := .agg (fwarr zeroW)) rfl (by kernel_rfl) (by kernel_rfl) (by kernel_rfl) (fun _ _ _ h => h) (yields_build rfl 47 _ rfl [] _ (by simp) builtZw) (by assumption) ?_
          simp only [Act.put, List.getElem_toArray, List.getElem_cons_zero, List.setIfInBounds_toArray, List.set_cons_zero, List.set_cons_succ]
          refine wpAnyH_take (i := 1) (v := .agg (skarr k1 (.slice so8 (k.ys.length + 1) sc8))) rfl (by kernel_rfl) (by kernel_rfl) (by kernel_rfl) (fun _ _ _ h => h) (yields_row rfl 161 (.tmp 2) rfl (w.heap.size) rfl _ (skarr k1 (.slice so8 (k.ys.length + 1) sc8)) _ (fun _ h => h) Try.underlying161 rfl infoPr) (by assumption) ?_
          simp only [Act.put, List.getElem_toArray, List.getElem_cons_zero, List.getElem_cons_succ, List.setIfInBounds_toArray, List.set_cons_zero, List.set_cons_succ]
          refine wpAnyH_take (i := 2) (v := ?v13) rfl (by kernel_rfl) (by kernel_rfl) (by kernel_rfl) (fun _ _ _ h => h) (Or.inl ⟨by rfl, ?hy13⟩) (by assumption) ?rest13
          case hy13 => ((intro w hSw; (try dsimp only at hSw); (try simp only [List.getElem_toArray, List.getElem_cons_zero, List.getElem_cons_succ]); go_simp; first | done | (with_reducible rfl)))
          simp only [Act.put, List.getElem_toArray, List.getElem_cons_zero, List.getElem_cons_succ, List.setIfInBounds_toArray, List.set_cons_zero, List.set_cons_succ]
          refine wpAnyH_ready (rs := [3]) (by kernel_rfl) (by simp) ?_
          refine AllReadyH.cons rfl (fun K hK => ?_) AllReadyH.nil
          (refine wp_store_row 47 (.tmp 4) (.tmp 51) rfl (w.heap.size + 1 + 1) (fwarr zeroW) rfl rfl _ _ E2.out infoWd (show (26 : Nat) = 26 from rfl) (fw_one _) ?_)
          refine hK.out _ _ ?_ (fun hHeld => ?_)
          · exact E3
          clear hK K
          refine wpAnyH_take (i := 4) (v := ?v14) rfl (by kernel_rfl) (by kernel_rfl) (by kernel_rfl) (fun _ _ _ h => h) (Or.inl ⟨by rfl, ?y14⟩) (by assumption) ?r14
          case y14 => (intro w hSw; go_simp; first | done | (with_reducible rfl))
          simp only [Act.put, List.getElem_toArray, List.getElem_cons_zero, List.getElem_cons_succ, List.setIfInBounds_toArray, List.set_cons_zero, List.set_cons_succ]
          refine wpAnyH_done (by kernel_rfl) ?_ _
          refine NoPanic.normal ?_
          clear hHeld
          go_wp2_with fail
          refine bodyPost_ret (v := .tuple #[.agg (fwarr zeroW), .iface 161 (.agg (skarr k1 (.slice so8 (k.ys.length + 1) sc8)))]) (results_row_tmp Try.results160 _ _ (w.heap.size + 1 + 1) _ _ (0, 0) _ _ rfl rfl (setRow_heap _ _ _ _ _ _ E2.out) Try.underlying47 rfl infoWd) rfl ?_
          have zd := dd.size
          have rr : RowA (V9.drew.setRow (w.heap.size + 1 + 1) (fwarr zeroW)) base 3 1 (.slice so8 (k.ys.length + 1) sc8) (k.ys.length + 1) (ints k.ys ++ [.int .i64 x.a1]) := RowA.keepTy8 (R9.out.keepB dd) s9 (fun j h1 h2 => by subst h2; exact typed_box E2.out (by decide) rfl h1)
          rw [hR3.out]
          exact ⟨_, rfl, so8, sc8, (skarr k1 (.slice so8 (k.ys.length + 1) sc8)), rfl, by rw [List.length_append]; rfl, rowA_more rr rfl, (c9.trans (Upd.ofBelow dd)).trans (s9.mono (fun j h => by omega)), k9.trans ((KpH2.below dd).trans (KpH2.upd s9 (fun j h => by omega)))⟩
        · have e6 : decide (((k.ys.length + 1 : Nat) : Int) < 2) = false := decide_eq_false (by omega)
          have e7 : decide ((k.ys.length : Int) + 1 < 2) = false := decide_eq_false (by omega)
          have hR3 : Hid (R = (accW 0 k.b k.s (fwdW k1), 162, { k1 with ph := 2, ys := [] }, none)) := by show _ = _; rw [hR.out, if_neg hn0]
          clear hn0
          go_upto_region 8 with fail
          clear e6 e7
          have p2 : V9.cell? ⟨w.heap.size, 2, none⟩ = some (.int .i64 k1.ph) := boxAt T9.out 2
          have p2' := boxFz T9.out 2
          have p25' := boxFz T9.out 25
          go_upto_region 9 with fail
          generalize hV : World.setCell _ _ _ = V12
          have m9 : Upd (fun j => j = w.heap.size) V9 (V9.setCell ⟨w.heap.size, 2, none⟩ (.int .i64 2)) := Upd.setCell _ _ _ _ rfl
          have n9 := row_set (.int .i64 2) T9.out (j := 2)
          have T12 : Hid (V12.heap[w.heap.size]? = some (.cells (skarr { k1 with ph := 2, ys := [] } (.slice none 0 0)) 161 (0, 0))) := by show _ = _; rw [← hV]; exact row_set _ n9
          have m12 : Upd (fun j => j = w.heap.size) V9 V12 := by rw [← hV]; exact m9.trans (Upd.setCell _ _ _ _ rfl)
          have z12 := m12.size
          have P12 := hide (m12.keeps P9.out (by omega))
          have k12 : KpH2 w.heap.size w V12 := k9.trans (KpH2.upd m12 (fun j h => by omega))
          have c12 : Upd (fun j => base ≤ j) w V12 := c9.trans (m12.mono (fun j h => by omega))
          clear hV m9 n9 m12 p2 p2' p25' l9 T9 R9 P9 c9 k9
          have dd := bDrewB (Below.refl V12.heap.size V12)
          have FS : Hid (∀ V : World, Below V12.heap.size V12 V → (V.heap[w.heap.size]? = some (.cells (skarr { k1 with ph := 2, ys := [] } (.slice none 0 0)) 161 (0, 0)) ∧ V.cell? ⟨w.heap.size, 0, none⟩ = some (.int .i64 k.s) ∧ V.cell? ⟨w.heap.size, 1, none⟩ = some (.int .i64 k.b)) ∧ V.heap[w.heap.size + 1 + 1]? = some (.cells #[.int .i64 0, .int .i64 0, .int .i64 0, .int .i64 0, .int .i64 0, .int .i64 0, .int .i64 0, .int .i64 0, .int .i64 0, .int .i64 0, .int .i64 0, .int .i64 0, .int .i64 0, .int .i64 0, .int .i64 0, .int .i64 0, .int .i64 0, .int .i64 0, .int .i64 0, .int .i64 0, .int .i64 0, .int .i64 0, .int .i64 0, .int .i64 0, .slice none 0 0, .slice none 0 0] 47 (0, 0))) := fun V h => ⟨⟨bKeeps h T12.out, by rw [← HKS.out.1]; exact (sk_cells (bKeeps h T12.out)).1, by rw [← HKS.out.2.1]; exact (sk_cells (bKeeps h T12.out)).2.1⟩, bKeeps h P12.out⟩
          go_wp2
          refine wp_region_noPanic ?_
          refine wp_region_held_drew (S := (fun w' => w'.heap[w.heap.size]? = some (.cells (skarr { k1 with ph := 2, ys := [] } (.slice none 0 0)) 161 (0, 0)) ∧ w'.cell? ⟨w.heap.size, 0, none⟩ = some (.int .i64 k.s) ∧ w'.cell? ⟨w.heap.size, 1, none⟩ = some (.int .i64 k.b))) (by kernel_rfl) ?_ (fun hHeld => ?_)
          · exact (FS.out _ dd).1
          refine wpAnyH_take (i := 0) (v := ?v15) rfl (by kernel_rfl) (by kernel_rfl) (by kernel_rfl) (fun _ _ _ h => h) (Or.inl ⟨by rfl, ?hy15⟩) (by assumption) ?rest15
          case hy15 => ((intro w hSw; (try dsimp only at hSw); (try simp only [List.getElem_toArray, List.getElem_cons_zero]); go_simp; first | done | (with_reducible rfl)))
          simp only [Act.put, List.getElem_toArray, List.getElem_cons_zero, List.setIfInBounds_toArray, List.set_cons_zero, List.set_cons_succ]
          refine wpAnyH_take (i := 1) (v := ?v16) rfl (by kernel_rfl) (by kernel_rfl) (by kernel_rfl) (fun _ _ _ h => h) (Or.inl ⟨by rfl, ?hy16⟩) (by assumption) ?rest16
          case hy16 => ((intro w hSw; (try dsimp only at hSw); (try simp only [List.getElem_toArray, List.getElem_cons_zero, List.getElem_cons_succ]); go_simp; first | done | (with_reducible rfl)))
          simp only [Act.put, List.getElem_toArray, List.getElem_cons_zero, List.getElem_cons_succ, List.setIfInBounds_toArray, List.set_cons_zero, List.set_cons_succ]
          refine wpAnyH_take (i := 2) (v := ?v17) rfl (by kernel_rfl) (by kernel_rfl) (by kernel_rfl) (fun _ _ _ h => h) (Or.inl ⟨by rfl, ?hy17⟩) (by assumption) ?rest17
          case hy17 => ((intro w hSw; (try dsimp only at hSw); (try simp only [List.getElem_toArray, List.getElem_cons_zero, List.getElem_cons_succ]); go_simp; first | done | (with_reducible rfl)))
          simp only [Act.put, List.getElem_toArray, List.getElem_cons_zero, List.getElem_cons_succ, List.setIfInBounds_toArray, List.set_cons_zero, List.set_cons_succ]
          refine wpAnyH_take (i := 3) (v := ?v18) rfl (by kernel_rfl) (by kernel_rfl) (by kernel_rfl) (fun _ _ _ h => h) (Or.inl ⟨by rfl, ?hy18⟩) (by assumption) ?rest18
          case hy18 => ((intro w hSw; (try dsimp only at hSw); (try simp only [List.getElem_toArray, List.getElem_cons_zero, List.getElem_cons_succ]); go_simp; first | done | (with_reducible rfl)))
          simp only [Act.put, List.getElem_toArray, List.getElem_cons_zero, List.getElem_cons_succ, List.setIfInBounds_toArray, List.set_cons_zero, List.set_cons_succ]
          refine wpAnyH_take (i := 4) (v := ?v19) rfl (by kernel_rfl) (by kernel_rfl) (by kernel_rfl) (fun _ _ _ h => h) (Or.inl ⟨by rfl, ?hy19⟩) (by assumption) ?rest19
          case hy19 => ((intro w hSw; (try dsimp only at hSw); (try simp only [List.getElem_toArray, List.getElem_cons_zero, List.getElem_cons_succ]); go_simp; first | done | (with_reducible rfl)))
          simp only [Act.put, List.getElem_toArray, List.getElem_cons_zero, List.getElem_cons_succ, List.setIfInBounds_toArray, List.set_cons_zero, List.set_cons_succ]
          refine wpAnyH_take (i := 5) (v := ?v20) rfl (by kernel_rfl) (by kernel_rfl) (by kernel_rfl) (fun _ _ _ h => h) (Or.inl ⟨by rfl, ?hy20⟩) (by assumption) ?rest20
          case hy20 => ((intro w hSw; (try dsimp only at hSw); (try simp only [List.getElem_toArray, List.getElem_cons_zero, List.getElem_cons_succ]); go_simp; first | done | (with_reducible rfl)))
          simp only [Act.put, List.getElem_toArray, List.getElem_cons_zero, List.getElem_cons_succ, List.setIfInBounds_toArray, List.set_cons_zero, List.set_cons_succ]
          refine wpAnyH_take (i := 6) (v := ?v21) rfl (by kernel_rfl) (by kernel_rfl) (by kernel_rfl) (fun _ _ _ h => h) (Or.inl ⟨by rfl, ?hy21⟩) (by assumption) ?rest21
          case hy21 => ((intro w hSw; (try dsimp only at hSw); (try simp only [List.getElem_toArray, List.getElem_cons_zero, List.getElem_cons_succ]); go_simp; first | done | (with_reducible rfl)))
          simp only [Act.put, List.getElem_toArray, List.getElem_cons_zero, List.getElem_cons_succ, List.setIfInBounds_toArray, List.set_cons_zero, List.set_cons_succ]
          refine wpAnyH_take (i := 9) (v := ?v22) rfl (by kernel_rfl) (by kernel_rfl) (by kernel_rfl) (fun _ _ _ h => h) (Or.inl ⟨by rfl, ?hy22⟩) (by assumption) ?rest22
          case hy22 => ((intro w hSw; (try dsimp only at hSw); (try simp only [List.getElem_toArray, List.getElem_cons_zero, List.getElem_cons_succ]); go_simp; first | done | (with_reducible rfl)))
          simp only [Act.put, List.getElem_toArray, List.getElem_cons_zero, List.getElem_cons_succ, List.setIfInBounds_toArray, List.set_cons_zero, List.set_cons_succ]
          refine wpAnyH_take (i := 10) (v := .agg (skarr { k1 with ph := 2, ys := [] } (.slice none 0 0))) rfl (by kernel_rfl) (by kernel_rfl) (by kernel_rfl) (fun _ _ _ h => h) (yields_row rfl 39 (.tmp 67) rfl (w.heap.size) rfl _ (skarr { k1 with ph := 2, ys := [] } (.slice none 0 0)) _ (fun _ h => h.1) Try.underlying39 rfl infoSk) (by assumption) ?_
          simp only [Act.put, List.getElem_toArray, List.getElem_cons_zero, List.getElem_cons_succ, List.setIfInBounds_toArray, List.set_cons_zero, List.set_cons_succ]
          refine wpAnyH_take (i := 11) (v := .agg (skarr { k1 with ph := 2, ys := [] } (.slice none 0 0))) rfl (by kernel_rfl) (by kernel_rfl) (by kernel_rfl) (fun _ _ _ h => h) (yields_build rfl 162 _ rfl [(0, .agg (skarr { k1 with ph := 2, ys := [] } (.slice none 0 0)))] _ ((by (conv => lhs; simp only [List.map_toArray, List.map_cons, List.map_nil]); rfl)) (builtPh2 { k1 with ph := 2, ys := [] } none 0 0)) (by assumption) ?_
          simp only [Act.put, List.getElem_toArray, List.getElem_cons_zero, List.getElem_cons_succ, List.setIfInBounds_toArray, List.set_cons_zero, List.set_cons_succ]
          refine wpAnyH_take (i := 12) (v := ?v23) rfl (by kernel_rfl) (by kernel_rfl) (by kernel_rfl) (fun _ _ _ h => h) (Or.inl ⟨by rfl, ?hy23⟩) (by assumption) ?rest23
          case hy23 => ((intro w hSw; (try dsimp only at hSw); (try simp only [List.getElem_toArray, List.getElem_cons_zero, List.getElem_cons_succ]); go_simp; first | done | (with_reducible rfl)))
          simp only [Act.put, List.getElem_toArray, List.getElem_cons_zero, List.getElem_cons_succ, List.setIfInBounds_toArray, List.set_cons_zero, List.set_cons_succ]
          refine wpAnyH_ready (rs := [7]) (by kernel_rfl) (by simp) ?_
          refine AllReadyH.cons rfl (fun K hK => ?_) AllReadyH.nil
          go_simp
          (go_at_call 162; refine (forward_any _ { k1 with ph := 2, ys := [] } _ _ _ (FS.out _ dd).1.1).mono ?_; rintro e V13 ⟨rfl, b13⟩; have b13' := bAll dd b13)
          refine hK.out _ _ ?_ (fun hHeld => ?_)
          · exact (FS.out _ b13').1
          clear hK K
          refine wpAnyH_take (i := 8) (v := .agg (fwarr (accW 0 k.b k.s (fwdW k1)))) rfl (by kernel_rfl) (by kernel_rfl) (by kernel_rfl) (fun _ _ _ h => h) (yields_build rfl 47 _ rfl [(0, .int .i64 3), (3, .int .i64 k.b), (4, .int .i64 k.s), (6, .agg (wcmd (fwdW k1)))] _ ((by (conv => lhs; simp only [List.map_toArray, List.map_cons, List.map_nil]); rfl)) (builtAcc2 k.b k.s (fwdW k1))) (by assumption) ?_
          simp only [Act.put, List.getElem_toArray, List.getElem_cons_zero, List.getElem_cons_succ, List.setIfInBounds_toArray, List.set_cons_zero, List.set_cons_succ]
          have E2 := hide (FS.out _ b13').2
          have s9 := updRow V13 (w.heap.size + 1 + 1) (fwarr (accW 0 k.b k.s (fwdW k1)))
          have q15 := s9.keeps (FS.out _ b13').1.1 (by omega)
          have q16 := updCell s9 (FS.out _ b13').1.2.1 (by omega)
          have q17 := updCell s9 (FS.out _ b13').1.2.2 (by omega)
          refine wpAnyH_ready (rs := [13]) (by kernel_rfl) (by simp) ?_
          refine AllReadyH.cons rfl (fun K hK => ?_) AllReadyH.nil
          (refine wp_store_row 47 (.tmp 4) (.tmp 66) rfl (w.heap.size + 1 + 1) (fwarr (accW 0 k.b k.s (fwdW k1))) rfl rfl _ _ E2.out infoWd (show (26 : Nat) = 26 from rfl) (fw_one _) ?_)
          refine hK.out _ _ ?_ (fun hHeld => ?_)
          · exact ⟨q15, q16, q17⟩
          clear hK K
          refine wpAnyH_take (i := 14) (v := ?v24) rfl (by kernel_rfl) (by kernel_rfl) (by kernel_rfl) (fun _ _ _ h => h) (Or.inl ⟨by rfl, ?y24⟩) (by assumption) ?r24
          case y24 => (intro w hSw; go_simp; first | done | (with_reducible rfl))
          simp only [Act.put, List.getElem_toArray, List.getElem_cons_zero, List.getElem_cons_succ, List.setIfInBounds_toArray, List.set_cons_zero, List.set_cons_succ]
          refine wpAnyH_done (by kernel_rfl) ?_ _
          refine NoPanic.normal ?_
          clear hHeld
          go_wp2_with fail
          refine bodyPost_ret (v := .tuple #[.agg (fwarr (accW 0 k.b k.s (fwdW k1))), .iface 162 (.agg (skarr { k1 with ph := 2, ys := [] } (.slice none 0 0)))]) (results_row_tmp Try.results160 _ _ (w.heap.size + 1 + 1) _ _ (0, 0) _ _ rfl rfl (setRow_heap _ _ _ _ _ _ E2.out) Try.underlying47 rfl infoWd) rfl ?_
          have z13 := b13'.size
          rw [hR3.out]
          exact ⟨_, rfl, none, 0, (skarr { k1 with ph := 2, ys := [] } (.slice none 0 0)), rfl, rfl, (.inr ⟨rfl, rfl, none, rfl⟩), (c12.trans (Upd.ofBelow b13')).trans (s9.mono (fun j h => by omega)), k12.trans ((KpH2.below b13').trans (KpH2.upd s9 (fun j h => by omega)))⟩
    · have e4 : decide (x.a5 ≥ k.b) = true := decide_eq_true (by omega)
      have hR : Hid (R = (zeroW, 161, k, none)) := by show _ = _; rw [← HR2.out, hear1R, if_neg (fun h => hb5 h.2)]
      clear ha hb5
      go_upto_region 2 with fail
      clear w0 w5 e3 e4 x0 x1 x2 x13 x14 x25 XC
      have dd := bDrewB (Below.refl W.heap.size W)
      have E0 := hide (bKeeps dd A0.out)
      have E2 := hide (bKeeps dd A2.out)
      have s9 := updRow W.drew (w.heap.size + 1 + 1) (fwarr zeroW)
      have E3 := s9.keeps E0.out (by omega)
      go_wp2
      refine wp_region_noPanic ?_
      refine wp_region_held_drew (S := (fun w' => w'.heap[w.heap.size]? = some (.cells (skarr k (.slice yo k.ys.length yc)) 161 (0, 0)))) (by kernel_rfl) ?_ (fun hHeld => ?_)
      · exact E0.out
      refine wpAnyH_take (i := 0) (v := .agg (fwarr zeroW)) rfl (by kernel_rfl) (by kernel_rfl) (by kernel_rfl) (fun _ _ _ h => h) (yields_build rfl 47 _ rfl [] _ (by simp) builtZw) (by assumption) ?_
      simp only [Act.put, List.getElem_toArray, List.getElem_cons_zero, List.setIfInBounds_toArray, List.set_cons_zero, List.set_cons_succ]
      refine wpAnyH_take (i := 1) (v := .agg (skarr k (.slice yo k.ys.length yc))) rfl (by kernel_rfl) (by kernel_rfl) (by kernel_rfl) (fun _ _ _ h => h) (yields_row rfl 161 (.tmp 2) rfl (w.heap.size) rfl _ (skarr k (.slice yo k.ys.length yc)) _ (fun _ h => h) Try.underlying161 rfl infoPr) (by assumption) ?_
      simp only [Act.put, List.getElem_toArray, List.getElem_cons_zero, List.getElem_cons_succ, List.setIfInBounds_toArray, List.set_cons_zero, List.set_cons_succ]
      refine wpAnyH_take (i := 2) (v := ?v25) rfl (by kernel_rfl) (by kernel_rfl) (by kernel_rfl) (fun _ _ _ h => h) (Or.inl ⟨by rfl, ?hy25⟩) (by assumption) ?rest25
      case hy25 => ((intro w hSw; (try dsimp only at hSw); (try simp only [List.getElem_toArray, List.getElem_cons_zero, List.getElem_cons_succ]); go_simp; first | done | (with_reducible rfl)))
      simp only [Act.put, List.getElem_toArray, List.getElem_cons_zero, List.getElem_cons_succ, List.setIfInBounds_toArray, List.set_cons_zero, List.set_cons_succ]
      refine wpAnyH_ready (rs := [3]) (by kernel_rfl) (by simp) ?_
      refine AllReadyH.cons rfl (fun K hK => ?_) AllReadyH.nil
      (refine wp_store_row 47 (.tmp 4) (.tmp 17) rfl (w.heap.size + 1 + 1) (fwarr zeroW) rfl rfl _ _ E2.out infoWd (show (26 : Nat) = 26 from rfl) (fw_one _) ?_)
      refine hK.out _ _ ?_ (fun hHeld => ?_)
      · exact E3
      clear hK K
      refine wpAnyH_take (i := 4) (v := ?v26) rfl (by kernel_rfl) (by kernel_rfl) (by kernel_rfl) (fun _ _ _ h => h) (Or.inl ⟨by rfl, ?y26⟩) (by assumption) ?r26
      case y26 => (intro w hSw; go_simp; first | done | (with_reducible rfl))
      simp only [Act.put, List.getElem_toArray, List.getElem_cons_zero, List.getElem_cons_succ, List.setIfInBounds_toArray, List.set_cons_zero, List.set_cons_succ]
      refine wpAnyH_done (by kernel_rfl) ?_ _
      refine NoPanic.normal ?_
      clear hHeld
      go_wp2_with fail
      refine bodyPost_ret (v := .tuple #[.agg (fwarr zeroW), .iface 161 (.agg (skarr k (.slice yo k.ys.length yc)))]) (results_row_tmp Try.results160 _ _ (w.heap.size + 1 + 1) _ _ (0, 0) _ _ rfl rfl (setRow_heap _ _ _ _ _ _ E2.out) Try.underlying47 rfl infoWd) rfl ?_
      have zd := dd.size
      have zal := al.size
      rw [hR.out]
      have rr : RowA (W.drew.setRow (w.heap.size + 1 + 1) (fwarr zeroW)) base 3 1 (.slice yo k.ys.length yc) k.ys.length (ints k.ys) := RowA.keepTy8 (RW.out.keepB dd) s9 (fun j h1 h2 => by subst h2; exact typed_box E2.out (by decide) rfl h1)
      exact ⟨_, rfl, yo, yc, _, rfl, rfl, rr, (Upd.ofBelow (bAll al dd)).trans (s9.mono (fun j h => by omega)), (KpH2.below al).trans ((KpH2.below dd).trans (KpH2.upd s9 (fun j h => by omega)))⟩
  · have e3 : (x.a0 != 2) = true := by simpa using ha
    have hR : Hid (R = (zeroW, 161, k, none)) := by show _ = _; rw [← HR2.out, hear1R, if_neg (fun h => ha h.1)]
    clear ha
    go_upto_region 2 with fail
    clear w0 w5 e3 x0 x1 x2 x13 x14 x25 XC
    have dd := bDrewB (Below.refl W.heap.size W)
    have E0 := hide (bKeeps dd A0.out)
    have E2 := hide (bKeeps dd A2.out)
    have s9 := updRow W.drew (w.heap.size + 1 + 1) (fwarr zeroW)
    have E3 := s9.keeps E0.out (by omega)
    go_wp2
    refine wp_region_noPanic ?_
    refine wp_region_held_drew (S := (fun w' => w'.heap[w.heap.size]? = some (.cells (skarr k (.slice yo k.ys.length yc)) 161 (0, 0)))) (by kernel_rfl) ?_ (fun hHeld => ?_)
    · exact E0.out
    refine wpAnyH_take (i := 0) (v := .agg (fwarr zeroW)) rfl (by kernel_rfl) (by kernel_rfl) (by kernel_rfl) (fun _ _ _ h => h) (yields_build rfl 47 _ rfl [] _ (by simp) builtZw) (by assumption) ?_
    simp only [Act.put, List.getElem_toArray, List.getElem_cons_zero, List.setIfInBounds_toArray, List.set_cons_zero, List.set_cons_succ]
    refine wpAnyH_take (i := 1) (v := .agg (skarr k (.slice yo k.ys.length yc))) rfl (by kernel_rfl) (by kernel_rfl) (by kernel_rfl) (fun _ _ _ h => h) (yields_row rfl 161 (.tmp 2) rfl (w.heap.size) rfl _ (skarr k (.slice yo k.ys.length yc)) _ (fun _ h => h) Try.underlying161 rfl infoPr) (by assumption) ?_
    simp only [Act.put, List.getElem_toArray, List.getElem_cons_zero, List.getElem_cons_succ, List.setIfInBounds_toArray, List.set_cons_zero, List.set_cons_succ]
    refine wpAnyH_take (i := 2) (v := ?v27) rfl (by kernel_rfl) (by kernel_rfl) (by kernel_rfl) (fun _ _ _ h => h) (Or.inl ⟨by rfl, ?hy27⟩) (by assumption) ?rest27
    case hy27 => ((intro w hSw; (try dsimp only at hSw); (try simp only [List.getElem_toArray, List.getElem_cons_zero, List.getElem_cons_succ]); go_simp; first | done | (with_reducible rfl)))
    simp only [Act.put, List.getElem_toArray, List.getElem_cons_zero, List.getElem_cons_succ, List.setIfInBounds_toArray, List.set_cons_zero, List.set_cons_succ]
    refine wpAnyH_ready (rs := [3]) (by kernel_rfl) (by simp) ?_
    refine AllReadyH.cons rfl (fun K hK => ?_) AllReadyH.nil
    (refine wp_store_row 47 (.tmp 4) (.tmp 17) rfl (w.heap.size + 1 + 1) (fwarr zeroW) rfl rfl _ _ E2.out infoWd (show (26 : Nat) = 26 from rfl) (fw_one _) ?_)
    refine hK.out _ _ ?_ (fun hHeld => ?_)
    · exact E3
    clear hK K
    refine wpAnyH_take (i := 4) (v := ?v28) rfl (by kernel_rfl) (by kernel_rfl) (by kernel_rfl) (fun _ _ _ h => h) (Or.inl ⟨by rfl, ?y28⟩) (by assumption) ?r28
    case y28 => (intro w hSw; go_simp; first | done | (with_reducible rfl))
    simp only [Act.put, List.getElem_toArray, List.getElem_cons_zero, List.getElem_cons_succ, List.setIfInBounds_toArray, List.set_cons_zero, List.set_cons_succ]
    refine wpAnyH_done (by kernel_rfl) ?_ _
    refine NoPanic.normal ?_
    clear hHeld
    go_wp2_with fail
    refine bodyPost_ret (v := .tuple #[.agg (fwarr zeroW), .iface 161 (.agg (skarr k (.slice yo k.ys.length yc)))]) (results_row_tmp Try.results160 _ _ (w.heap.size + 1 + 1) _ _ (0, 0) _ _ rfl rfl (setRow_heap _ _ _ _ _ _ E2.out) Try.underlying47 rfl infoWd) rfl ?_
    have zd := dd.size
    have zal := al.size
    rw [hR.out]
    have rr : RowA (W.drew.setRow (w.heap.size + 1 + 1) (fwarr zeroW)) base 3 1 (.slice yo k.ys.length yc) k.ys.length (ints k.ys) := RowA.keepTy8 (RW.out.keepB dd) s9 (fun j h1 h2 => by subst h2; exact typed_box E2.out (by decide) rfl h1)
    exact ⟨_, rfl, yo, yc, _, rfl, rfl, rr, (Upd.ofBelow (bAll al dd)).trans (s9.mono (fun j h => by omega)), (KpH2.below al).trans ((KpH2.below dd).trans (KpH2.upd s9 (fun j h => by omega)))⟩

end Go.Proofs.Yteddhdbglciahaa
