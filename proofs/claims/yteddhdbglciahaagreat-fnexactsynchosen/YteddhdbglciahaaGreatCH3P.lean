/- The program's SynChosen: a contract; no statement of the seat is proved here. (Written by wip/tools/mkch.py.) -/
import Derived.Test.YteddhdbglciahaaGreatZk15
namespace Go.Proofs.YteddhdbglciahaaGreat
open Go.RowKit

set_option maxRecDepth 100000 in
set_option maxHeartbeats 16000000 in
theorem implSynChosen_any (v : Value) (c : Cn) (s : Int) (w : World) (h : CnR w v c) :
    Calls Tryz.prog 8 #[v, .int .i64 s] w fun e w' => e = .returned (.tuple #[.agg (cmdv (chosR s c).1), .bool (chosR s c).2]) ∧ Below w.heap.size w w' := by
  obtain ⟨v0, v1, v2, v3, v4, rfl, h⟩ := h
  obtain ⟨⟨a0, k0, rfl⟩, ⟨a1, k1, rfl⟩, ⟨a2, k2, rfl⟩, ⟨a3, k3, rfl⟩, ⟨a4, k4, rfl⟩⟩ := h.shapes
  have HA := hide h
  clear h
  obtain ⟨R, hR⟩ : ∃ R, chosR s c = R := ⟨_, rfl⟩
  rw [hR]
  have HR := hide hR
  clear hR
  go_enter Tryz.func8, Tryz.ntmps8
  go_upto_region 1 with fail
  generalize hW : World.alloc _ _ = W0
  have al : Below w.heap.size w W0 := by rw [← hW]; exact bal (bal (Below.refl _ _) _) _
  have A0 : Hid (W0.heap[w.heap.size]? = some (.cells #[.slice a0 c.vs.length k0, .slice a1 c.rs.length k1, .slice a2 c.ks.length k2, .slice a3 c.ws.length k3, .slice a4 c.ts.length k4] 39 (0, 0))) := by show _ = _; rw [← hW]; exact al2_0 w _ _
  have B0 : Hid (W0.heap[w.heap.size + 1]? = some (.cells #[.int .i64 0, .int .i64 0, .int .i64 0, .int .i64 0, .int .i64 0, .int .i64 0, .int .i64 0, .int .i64 0, .int .i64 0, .int .i64 0] 31 (0, 0))) := by show _ = _; rw [← hW]; exact al2_1 w _ _
  have lt0 := heap_lt B0.out
  clear hW
  have HA := hide (HA.out.keep al)
  have cO := implSynCouncilOk_any _ c W0 ⟨_, _, _, _, _, rfl, HA.out⟩
  obtain ⟨q, hq⟩ : ∃ q, okCn c = q := ⟨_, rfl⟩
  rw [hq] at cO
  have HQ := hide hq
  clear hq
  go_wp2_with (refine wpList_load_row rfl 39 (.tmp 2) rfl w.heap.size rfl _ #[.slice a0 c.vs.length k0, .slice a1 c.rs.length k1, .slice a2 c.ks.length k2, .slice a3 c.ws.length k3, .slice a4 c.ts.length k4] (0, 0) _ A0.out Tryz.underlying39 rfl infoCnI ?_)
  refine cO.mono ?_
  rintro e W1 ⟨rfl, b1⟩
  clear cO
  cases q with
  | false =>
    have e : R = (zeroW, false) := by rw [← HR.out, chosR, if_neg (by rw [HQ.out]; simp)]
    have hb0 := bKeeps b1 B0.out
    have s9 := updRow W1 (w.heap.size + 1) #[.int .i64 0, .int .i64 0, .int .i64 0, .int .i64 0, .int .i64 0, .int .i64 0, .int .i64 0, .int .i64 0, .int .i64 0, .int .i64 0]
    go_wp2_with (first
      | (refine wpList_builtNoCmd rfl _ rfl ?hp ?_; (case hp => ((conv => lhs; simp only [List.map_toArray, List.map_nil]); rfl)))
      | (refine wpList_store_row rfl 31 (.tmp 4) (.tmp 12) rfl (w.heap.size + 1) #[.int .i64 0, .int .i64 0, .int .i64 0, .int .i64 0, .int .i64 0, .int .i64 0, .int .i64 0, .int .i64 0, .int .i64 0, .int .i64 0] rfl rfl _ _ hb0 infoCm5 (show (10 : Nat) = 10 from rfl) (all_of_list rfl) ?_))
    refine bodyPost_ret (v := .tuple #[.agg #[.int .i64 0, .int .i64 0, .int .i64 0, .int .i64 0, .int .i64 0, .int .i64 0, .int .i64 0, .int .i64 0, .int .i64 0, .int .i64 0], .bool _]) (results_row_tmp Tryz.results8 _ _ (w.heap.size + 1) _ _ (0, 0) _ _ rfl rfl (setRow_heap _ _ _ _ _ _ hb0) Tryz.underlying31 rfl infoCm5) rfl ?_
    have cw : Below w.heap.size w W1 := bAll al b1
    exact ⟨by first | (rw [e]; rfl) | rfl, cw.trans (s9.below cw.size (fun j h => by omega))⟩
  | true =>
    have hRc : Hid (R = choC s c) := by show _ = _; rw [← HR.out, chosR, if_pos HQ.out]
    obtain ⟨h3, hvk⟩ := okCn_facts HQ.out
    have H3 := hide h3
    have HV := hide hvk
    clear HR HQ h3 hvk
    have y0 : W1.cell? ⟨w.heap.size, 0, none⟩ = some (.slice a0 c.vs.length k0) := boxAt (bKeeps b1 A0.out) 0
    obtain ⟨n3, hn3⟩ : ∃ n3 : Nat, n3 = c.vs.length := ⟨_, rfl⟩
    have HN3 : Hid (n3 = 3) := by rw [hn3]; exact H3.out
    rw [← hn3] at y0
    have HNL := hide hn3
    have bn3 : (n3 : Int) ≤ 3 := by have := HN3.out; omega
    clear hn3
    go_wp2
    go_loopw [16] (fun iv wr => ∃ i' : Nat, i' ≤ n3 ∧ iv = .int .i64 i' ∧ (∀ a b, b < a → a < i' → good (papC s c a) (papC s c b) = false) ∧ Below W0.heap.size W0 wr) (fun iv _ => n3 - (intOf iv).toNat)
    case atStart => exact ⟨0, Nat.zero_le _, rfl, fun a b h1 h2 => by omega, b1⟩
    case round =>
      obtain ⟨i, hi3, rfl, hno, hbel⟩ := hrel
      have HN := hide hno
      clear hno b1 y0
      by_cases hlt : i < n3
      · have hi : (i : Int) < (n3 : Int) := by omega
        obtain ⟨x, hx⟩ := getAt c.vs i (by have := HNL.out; omega)
        have P := HA.out.keep hbel
        obtain ⟨-, b0, o0, rfl, cs, -, -, hc, he⟩ := P.vs.elem hx
        obtain ⟨ai, ci, gi, ri⟩ := vx_cell hc he
        have y0 : wr.cell? ⟨w.heap.size, 0, none⟩ = some (.slice (some ⟨b0, o0, none⟩) n3 k0) := by rw [HNL.out]; exact boxAt (bKeeps hbel A0.out) 0
        have Px := hide (papC_at (s := s) hx)
        obtain ⟨sx, lx, zx⟩ := vok_facts (HV.out _ _ hx)
        have c1 := paper_any b0 (o0 + i * 2) _ x.2 s wr gi ri lx sx
        obtain ⟨p, hp⟩ : ∃ p, paperOf s x.2 = p := ⟨_, rfl⟩
        rw [hp] at c1 Px
        clear hx hc he P ri gi sx lx zx hp
        go_wp2_with fail
        refine c1.mono ?_
        rintro e V1 ⟨rfl, d1⟩
        have f1 := bAll hbel d1
        have a7 := bal (Below.refl V1.heap.size V1) (.cells (pparr p) 64)
        have N7 := hide (heap_alloc_new V1 (.cells (pparr p) 64))
        have f7 := bAll f1 a7
        clear c1 d1 y0
        go_upto_region 7 with (refine wpList_store_row rfl 64 (.tmp 7) (.tmp 24) rfl V1.heap.size (pparr p) rfl rfl _ _ (heap_alloc_new V1 _) infoPpS (show (12 : Nat) = 12 from rfl) (pparr_one _) ?_; rw [World.setRow_alloc_new])
        generalize hX : V1.alloc (.cells (pparr p) 64) = X at a7 N7 f7 ⊢
        have hg7 := f1.size
        generalize V1.heap.size = g7 at N7 hg7 ⊢
        clear hX a7 f1
        go_wp2
        go_loopw [26] (fun kv wr => ∃ k : Nat, k ≤ i ∧ kv = .int .i64 k ∧ (∀ b, b < k → good (papC s c i) (papC s c b) = false) ∧ Below X.heap.size X wr) (fun kv _ => i - (intOf kv).toNat)
        case atStart => exact ⟨0, Nat.zero_le _, rfl, fun b h => by omega, Below.refl _ _⟩
        case round =>
          obtain ⟨k, hki, rfl, hno2, hbx⟩ := hrel
          have HN2 := hide hno2
          clear hno2
          have fr := bAll f7 hbx
          by_cases hlk : k < i
          · have hk : (k : Int) < (i : Int) := by omega
            obtain ⟨y, hy⟩ := getAt c.vs k (by have := HNL.out; omega)
            have dd := bDrewB (Below.refl wr.heap.size wr)
            go_upto_region 10 with fail
            have fd := bAll fr dd
            have P := HA.out.keep fd
            obtain ⟨-, b0', o0', e0, ds, -, -, hd, hf⟩ := P.vs.elem hy
            obtain ⟨rfl, rfl⟩ : b0 = b0' ∧ o0 = o0' := by injection e0 with e0; injection e0 with e1 e2 e3; exact ⟨e1, e2⟩
            obtain ⟨ak, ck, gk, rk⟩ := vx_cell hd hf
            have Py := hide (papC_at (s := s) hy)
            obtain ⟨sy, ly, -⟩ := vok_facts (HV.out _ _ hy)
            have c2 := paper_any b0 (o0 + k * 2) _ y.2 s wr.drew gk rk ly sy
            obtain ⟨q, hq⟩ : ∃ q, paperOf s y.2 = q := ⟨_, rfl⟩
            rw [hq] at c2 Py
            have jk : (k : Int) < (n3 : Int) := by omega
            have hgd : good (papC s c i) (papC s c k) = (!isZP p && eqP p q) := by rw [Px.out, Py.out, good]
            have hpi : papC s c i = p := Px.out
            clear hy hd hf e0 P rk gk sy ly hq Py
            have S0 : Hid (∀ V : World, Below wr.heap.size wr V → V.heap[g7]? = some (.cells (pparr p) 64 (0, 0)) ∧ V.cell? ⟨w.heap.size, 0, none⟩ = some (.slice (some ⟨b0, o0, none⟩) n3 k0)) := fun V hV => ⟨bKeeps (bAll hbx hV) N7.out, by rw [HNL.out]; exact boxAt (bKeeps (bAll fr hV) A0.out) 0⟩
            refine wp_region_noPanic ?_
            refine wp_region_held_drew (S := (fun w' => w'.heap[g7]? = some (.cells (pparr p) 64 (0, 0)) ∧ w'.cell? ⟨w.heap.size, 0, none⟩ = some (.slice (some ⟨b0, o0, none⟩) n3 k0))) (by kernel_rfl) ?_ (fun hHeld => ?_)
            · exact S0.out _ dd
            refine wpAnyH_take (i := 0) (v := .agg (pparr p)) rfl (by kernel_rfl) (by kernel_rfl) (by kernel_rfl) (fun _ _ _ h => h) (yields_row rfl 64 (.tmp 7) rfl (g7) rfl _ (pparr p) _ (fun _ h => h.1) Tryz.underlying64 rfl infoPpS) (by assumption) ?_
            simp only [Act.put, List.getElem_toArray, List.getElem_cons_zero, List.setIfInBounds_toArray, List.set_cons_zero, List.set_cons_succ]
            refine wpAnyH_take (i := 1) (v := .agg (pparr (0, 0, zeroW))) rfl (by kernel_rfl) (by kernel_rfl) (by kernel_rfl) (fun _ _ _ h => h) (yields_build rfl 64 _ rfl [] _ (by conv => lhs; simp only [List.map_toArray, List.map_nil]) builtNoPp) (by assumption) ?_
            simp only [Act.put, List.getElem_toArray, List.getElem_cons_zero, List.getElem_cons_succ, List.setIfInBounds_toArray, List.set_cons_zero, List.set_cons_succ]
            obtain ⟨z, hz⟩ : ∃ z, isZP p = z := ⟨_, rfl⟩
            refine wpAnyH_take (i := 2) (v := .bool (!z)) rfl (by kernel_rfl) (by kernel_rfl) (by kernel_rfl) (fun _ _ _ h => h) (yields_neqPpG rfl _ _ _ rfl p (0, 0, zeroW) rfl rfl (!z) (by rw [eqP_zero, hz])) (by assumption) ?_
            simp only [Act.put, List.getElem_toArray, List.getElem_cons_zero, List.getElem_cons_succ, List.setIfInBounds_toArray, List.set_cons_zero, List.set_cons_succ]
            rw [hz] at hgd
            cases z with
            | true =>
              clear c2
              have hgd : good (papC s c i) (papC s c k) = false := hgd
              refine wpAnyH_take (i := 3) (v := ?v1) rfl (by kernel_rfl) (by kernel_rfl) (by kernel_rfl) (fun _ _ _ h => h) (Or.inl ⟨by rfl, ?hy1⟩) (by assumption) ?rest1
              case hy1 => ((intro w hSw; (try dsimp only at hSw); (try simp only [List.getElem_toArray, List.getElem_cons_zero, List.getElem_cons_succ]); go_simp; first | done | (with_reducible rfl)))
              simp only [Act.put, List.getElem_toArray, List.getElem_cons_zero, List.getElem_cons_succ, List.setIfInBounds_toArray, List.set_cons_zero, List.set_cons_succ]
              refine wpAnyH_take (i := 4) (v := undef) rfl (by kernel_rfl) (by kernel_rfl) (by kernel_rfl) (fun _ _ _ h => h) (Or.inr ⟨by rfl, rfl⟩) (by assumption) ?_
              simp only [Act.put, List.getElem_toArray, List.getElem_cons_zero, List.getElem_cons_succ, List.setIfInBounds_toArray, List.set_cons_zero, List.set_cons_succ]
              refine wpAnyH_take (i := 5) (v := undef) rfl (by kernel_rfl) (by kernel_rfl) (by kernel_rfl) (fun _ _ _ h => h) (Or.inr ⟨by rfl, rfl⟩) (by assumption) ?_
              simp only [Act.put, List.getElem_toArray, List.getElem_cons_zero, List.getElem_cons_succ, List.setIfInBounds_toArray, List.set_cons_zero, List.set_cons_succ]
              refine wpAnyH_take (i := 6) (v := undef) rfl (by kernel_rfl) (by kernel_rfl) (by kernel_rfl) (fun _ _ _ h => h) (Or.inr ⟨by rfl, rfl⟩) (by assumption) ?_
              simp only [Act.put, List.getElem_toArray, List.getElem_cons_zero, List.getElem_cons_succ, List.setIfInBounds_toArray, List.set_cons_zero, List.set_cons_succ]
              refine wpAnyH_take (i := 7) (v := undef) rfl (by kernel_rfl) (by kernel_rfl) (by kernel_rfl) (fun _ _ _ h => h) (Or.inr ⟨by rfl, rfl⟩) (by assumption) ?_
              simp only [Act.put, List.getElem_toArray, List.getElem_cons_zero, List.getElem_cons_succ, List.setIfInBounds_toArray, List.set_cons_zero, List.set_cons_succ]
              refine wpAnyH_take (i := 8) (v := undef) rfl (by kernel_rfl) (by kernel_rfl) (by kernel_rfl) (fun _ _ _ h => h) (Or.inr ⟨by rfl, rfl⟩) (by assumption) ?_
              simp only [Act.put, List.getElem_toArray, List.getElem_cons_zero, List.getElem_cons_succ, List.setIfInBounds_toArray, List.set_cons_zero, List.set_cons_succ]
              refine wpAnyH_take (i := 9) (v := undef) rfl (by kernel_rfl) (by kernel_rfl) (by kernel_rfl) (fun _ _ _ h => h) (Or.inr ⟨by rfl, rfl⟩) (by assumption) ?_
              simp only [Act.put, List.getElem_toArray, List.getElem_cons_zero, List.getElem_cons_succ, List.setIfInBounds_toArray, List.set_cons_zero, List.set_cons_succ]
              refine wpAnyH_take (i := 10) (v := undef) rfl (by kernel_rfl) (by kernel_rfl) (by kernel_rfl) (fun _ _ _ h => h) (Or.inr ⟨by rfl, rfl⟩) (by assumption) ?_
              simp only [Act.put, List.getElem_toArray, List.getElem_cons_zero, List.getElem_cons_succ, List.setIfInBounds_toArray, List.set_cons_zero, List.set_cons_succ]
              refine wpAnyH_take (i := 11) (v := undef) rfl (by kernel_rfl) (by kernel_rfl) (by kernel_rfl) (fun _ _ _ h => h) (Or.inr ⟨by rfl, rfl⟩) (by assumption) ?_
              simp only [Act.put, List.getElem_toArray, List.getElem_cons_zero, List.getElem_cons_succ, List.setIfInBounds_toArray, List.set_cons_zero, List.set_cons_succ]
              refine wpAnyH_take (i := 12) (v := ?v2) rfl (by kernel_rfl) (by kernel_rfl) (by kernel_rfl) (fun _ _ _ h => h) (Or.inl ⟨by rfl, ?hy2⟩) (by assumption) ?rest2
              case hy2 => ((intro w hSw; (try dsimp only at hSw); (try simp only [List.getElem_toArray, List.getElem_cons_zero, List.getElem_cons_succ]); go_simp; first | done | (with_reducible rfl)))
              simp only [Act.put, List.getElem_toArray, List.getElem_cons_zero, List.getElem_cons_succ, List.setIfInBounds_toArray, List.set_cons_zero, List.set_cons_succ]
              refine wpAnyH_done (by kernel_rfl) ?_ _
              refine NoPanic.normal ?_
              have fE := bAll hbx dd
              clear hHeld
              go_wp2_with fail
              go_roundw
              case rel =>
                refine ⟨k + 1, by omega, by go_num, fun b' h => ?_, fE⟩
                by_cases hbk : b' = k
                · subst hbk
                  exact hgd
                · exact HN2.out b' (by omega)
              case measure => simp [intOf]; omega
            | false =>
              have hgd : good (papC s c i) (papC s c k) = eqP p q := hgd
              refine wpAnyH_take (i := 3) (v := ?v3) rfl (by kernel_rfl) (by kernel_rfl) (by kernel_rfl) (fun _ _ _ h => h) (Or.inl ⟨by rfl, ?hy3⟩) (by assumption) ?rest3
              case hy3 => ((intro w hSw; (try dsimp only at hSw); (try simp only [List.getElem_toArray, List.getElem_cons_zero, List.getElem_cons_succ]); go_simp; first | done | (with_reducible rfl)))
              simp only [Act.put, List.getElem_toArray, List.getElem_cons_zero, List.getElem_cons_succ, List.setIfInBounds_toArray, List.set_cons_zero, List.set_cons_succ]
              refine wpAnyH_take (i := 4) (v := .agg (pparr p)) rfl (by kernel_rfl) (by kernel_rfl) (by kernel_rfl) (fun _ _ _ h => h) (yields_row rfl 64 (.tmp 7) rfl (g7) rfl _ (pparr p) _ (fun _ h => h.1) Tryz.underlying64 rfl infoPpS) (by assumption) ?_
              simp only [Act.put, List.getElem_toArray, List.getElem_cons_zero, List.getElem_cons_succ, List.setIfInBounds_toArray, List.set_cons_zero, List.set_cons_succ]
              refine wpAnyH_take (i := 5) (v := ?v4) rfl (by kernel_rfl) (by kernel_rfl) (by kernel_rfl) (fun _ _ _ h => h) (Or.inl ⟨by rfl, ?hy4⟩) (by assumption) ?rest4
              case hy4 => ((intro w hSw; (try dsimp only at hSw); (try simp only [List.getElem_toArray, List.getElem_cons_zero, List.getElem_cons_succ]); go_simp; first | done | (with_reducible rfl)))
              simp only [Act.put, List.getElem_toArray, List.getElem_cons_zero, List.getElem_cons_succ, List.setIfInBounds_toArray, List.set_cons_zero, List.set_cons_succ]
              refine wpAnyH_take (i := 6) (v := ?v5) rfl (by kernel_rfl) (by kernel_rfl) (by kernel_rfl) (fun _ _ _ h => h) (Or.inl ⟨by rfl, ?hy5⟩) (by assumption) ?rest5
              case hy5 => ((intro w hSw; (try dsimp only at hSw); (try simp only [List.getElem_toArray, List.getElem_cons_zero, List.getElem_cons_succ]); go_simp; first | done | (with_reducible rfl)))
              simp only [Act.put, List.getElem_toArray, List.getElem_cons_zero, List.getElem_cons_succ, List.setIfInBounds_toArray, List.set_cons_zero, List.set_cons_succ]
              refine wpAnyH_take (i := 7) (v := ?v6) rfl (by kernel_rfl) (by kernel_rfl) (by kernel_rfl) (fun _ _ _ h => h) (Or.inl ⟨by rfl, ?hy6⟩) (by assumption) ?rest6
              case hy6 => ((intro w hSw; (try dsimp only at hSw); (try simp only [List.getElem_toArray, List.getElem_cons_zero, List.getElem_cons_succ]); go_simp; first | done | (with_reducible rfl)))
              simp only [Act.put, List.getElem_toArray, List.getElem_cons_zero, List.getElem_cons_succ, List.setIfInBounds_toArray, List.set_cons_zero, List.set_cons_succ]
              refine wpAnyH_take (i := 8) (v := ?v7) rfl (by kernel_rfl) (by kernel_rfl) (by kernel_rfl) (fun _ _ _ h => h) (Or.inl ⟨by rfl, ?hy7⟩) (by assumption) ?rest7
              case hy7 => ((intro w hSw; (try dsimp only at hSw); (try simp only [List.getElem_toArray, List.getElem_cons_zero, List.getElem_cons_succ]); go_simp; first | done | (with_reducible rfl)))
              simp only [Act.put, List.getElem_toArray, List.getElem_cons_zero, List.getElem_cons_succ, List.setIfInBounds_toArray, List.set_cons_zero, List.set_cons_succ]
              refine wpAnyH_take (i := 9) (v := ?v8) rfl (by kernel_rfl) (by kernel_rfl) (by kernel_rfl) (fun _ _ _ h => h) (Or.inl ⟨by rfl, ?hy8⟩) (by assumption) ?rest8
              case hy8 => ((intro w hSw; (try dsimp only at hSw); (try simp only [List.getElem_toArray, List.getElem_cons_zero, List.getElem_cons_succ]); go_simp; first | done | (with_reducible rfl)))
              simp only [Act.put, List.getElem_toArray, List.getElem_cons_zero, List.getElem_cons_succ, List.setIfInBounds_toArray, List.set_cons_zero, List.set_cons_succ]
              refine wpAnyH_ready (rs := [10]) (by kernel_rfl) (by simp) ?_
              refine AllReadyH.cons rfl (fun K hK => ?_) AllReadyH.nil
              go_simp
              (go_at_call 29; refine c2.mono ?_; rintro e V4 ⟨rfl, d4⟩; have f4 := bAll dd d4)
              refine hK.out _ _ ?_ (fun hHeld => ?_)
              · exact S0.out _ f4
              clear hK K
              obtain ⟨j, hj⟩ : ∃ j, eqP p q = j := ⟨_, rfl⟩
              rw [hj] at hgd
              refine wpAnyH_take (i := 11) (v := .bool j) rfl (by kernel_rfl) (by kernel_rfl) (by kernel_rfl) (fun _ _ _ h => h) (yields_eqlPp rfl _ _ _ rfl p q rfl rfl j hj) (by assumption) ?_
              simp only [Act.put, List.getElem_toArray, List.getElem_cons_zero, List.getElem_cons_succ, List.setIfInBounds_toArray, List.set_cons_zero, List.set_cons_succ]
              have fE := bAll hbx f4
              clear c2 hj
              cases j with
              | false =>
                refine wpAnyH_take (i := 12) (v := ?v9) rfl (by kernel_rfl) (by kernel_rfl) (by kernel_rfl) (fun _ _ _ h => h) (Or.inl ⟨by rfl, ?hy9⟩) (by assumption) ?rest9
                case hy9 => ((intro w hSw; (try dsimp only at hSw); (try simp only [List.getElem_toArray, List.getElem_cons_zero, List.getElem_cons_succ]); go_simp; first | done | (with_reducible rfl)))
                simp only [Act.put, List.getElem_toArray, List.getElem_cons_zero, List.getElem_cons_succ, List.setIfInBounds_toArray, List.set_cons_zero, List.set_cons_succ]
                refine wpAnyH_done (by kernel_rfl) ?_ _
                refine NoPanic.normal ?_
                clear hHeld
                go_wp2_with fail
                go_roundw
                case rel =>
                  refine ⟨k + 1, by omega, by go_num, fun b' h => ?_, fE⟩
                  by_cases hbk : b' = k
                  · subst hbk
                    exact hgd
                  · exact HN2.out b' (by omega)
                case measure => simp [intOf]; omega
              | true =>
                refine wpAnyH_take (i := 12) (v := ?v10) rfl (by kernel_rfl) (by kernel_rfl) (by kernel_rfl) (fun _ _ _ h => h) (Or.inl ⟨by rfl, ?hy10⟩) (by assumption) ?rest10
                case hy10 => ((intro w hSw; (try dsimp only at hSw); (try simp only [List.getElem_toArray, List.getElem_cons_zero, List.getElem_cons_succ]); go_simp; first | done | (with_reducible rfl)))
                simp only [Act.put, List.getElem_toArray, List.getElem_cons_zero, List.getElem_cons_succ, List.setIfInBounds_toArray, List.set_cons_zero, List.set_cons_succ]
                refine wpAnyH_done (by kernel_rfl) ?_ _
                refine NoPanic.normal ?_
                clear hHeld
                have e : R = (p.2.2, true) := by rw [hRc.out, choC_hit (by have := HN3.out; omega) hlk HN.out HN2.out hgd, hpi]
                have N7' := (S0.out _ f4).1
                have fw := bAll f7 fE
                have KC : Hid (∀ j u, (#[.int .i64 p.2.2.c0, .int .i64 p.2.2.c1, .int .i64 p.2.2.c2, .int .i64 p.2.2.c3, .int .i64 p.2.2.c4, .int .i64 p.2.2.c5, .int .i64 p.2.2.c6, .int .i64 p.2.2.c7, .int .i64 p.2.2.c8, .int .i64 p.2.2.c9] : Array Value)[j]? = some u → V4.cell? ⟨g7, 2 + j, none⟩ = some u) := by
                  intro j u hu
                  rw [boxAt N7' (2 + j)]
                  have hj10 : j < 10 := (Array.getElem?_eq_some_iff.1 hu).1
                  rcases (by omega : j = 0 ∨ j = 1 ∨ j = 2 ∨ j = 3 ∨ j = 4 ∨ j = 5 ∨ j = 6 ∨ j = 7 ∨ j = 8 ∨ j = 9) with rfl | rfl | rfl | rfl | rfl | rfl | rfl | rfl | rfl | rfl <;> exact hu
                clear N7' hgd hpi S0
                have hb0 := bKeeps fw B0.out
                have s9 := updRow V4 (w.heap.size + 1) #[.int .i64 p.2.2.c0, .int .i64 p.2.2.c1, .int .i64 p.2.2.c2, .int .i64 p.2.2.c3, .int .i64 p.2.2.c4, .int .i64 p.2.2.c5, .int .i64 p.2.2.c6, .int .i64 p.2.2.c7, .int .i64 p.2.2.c8, .int .i64 p.2.2.c9]
                go_wp2_with (first
                  | (refine wpList_load_at rfl 31 (.tmp 42) rfl g7 2 rfl #[.int .i64 p.2.2.c0, .int .i64 p.2.2.c1, .int .i64 p.2.2.c2, .int .i64 p.2.2.c3, .int .i64 p.2.2.c4, .int .i64 p.2.2.c5, .int .i64 p.2.2.c6, .int .i64 p.2.2.c7, .int .i64 p.2.2.c8, .int .i64 p.2.2.c9] _ KC.out Tryz.underlying31 rfl infoCm10 ?_)
                  | (refine wpList_store_row rfl 31 (.tmp 4) (.tmp 43) rfl (w.heap.size + 1) #[.int .i64 p.2.2.c0, .int .i64 p.2.2.c1, .int .i64 p.2.2.c2, .int .i64 p.2.2.c3, .int .i64 p.2.2.c4, .int .i64 p.2.2.c5, .int .i64 p.2.2.c6, .int .i64 p.2.2.c7, .int .i64 p.2.2.c8, .int .i64 p.2.2.c9] rfl rfl _ _ hb0 infoCm5 (show (10 : Nat) = 10 from rfl) (all_of_list rfl) ?_))
                refine bodyPost_ret (v := .tuple #[.agg #[.int .i64 p.2.2.c0, .int .i64 p.2.2.c1, .int .i64 p.2.2.c2, .int .i64 p.2.2.c3, .int .i64 p.2.2.c4, .int .i64 p.2.2.c5, .int .i64 p.2.2.c6, .int .i64 p.2.2.c7, .int .i64 p.2.2.c8, .int .i64 p.2.2.c9], .bool _]) (results_row_tmp Tryz.results8 _ _ (w.heap.size + 1) _ _ (0, 0) _ _ rfl rfl (setRow_heap _ _ _ _ _ _ hb0) Tryz.underlying31 rfl infoCm5) rfl ?_
                have cw : Below w.heap.size w V4 := bAll al fw
                exact ⟨by first | (rw [e]; rfl) | rfl, cw.trans (s9.below cw.size (fun j h => by omega))⟩
          · have hk : ¬ (k : Int) < (i : Int) := by omega
            have HN4 : Hid (∀ b, b < i → good (papC s c i) (papC s c b) = false) := fun b hb => HN2.out b (by omega)
            clear HN2
            go_wp2
            go_roundw
            case rel =>
              refine ⟨i + 1, by omega, by go_num, fun a b h1 h2 => ?_, fr⟩
              by_cases hai : a = i
              · subst hai
                exact HN4.out b h1
              · exact HN.out a b h1 (by omega)
            case measure => simp [intOf]; omega
      · have hi : ¬ (i : Int) < (n3 : Int) := by omega
        have e : R = (zeroW, false) := by rw [hRc.out, choC_none (fun a b h1 h2 => HN.out a b h1 (by have := HN3.out; omega))]
        have hb0 := bKeeps hbel B0.out
        have s9 := updRow wr (w.heap.size + 1) #[.int .i64 0, .int .i64 0, .int .i64 0, .int .i64 0, .int .i64 0, .int .i64 0, .int .i64 0, .int .i64 0, .int .i64 0, .int .i64 0]
        go_wp2_with (first
          | (refine wpList_builtNoCmd rfl _ rfl ?hp ?_; (case hp => ((conv => lhs; simp only [List.map_toArray, List.map_nil]); rfl)))
          | (refine wpList_store_row rfl 31 (.tmp 4) (.tmp 46) rfl (w.heap.size + 1) #[.int .i64 0, .int .i64 0, .int .i64 0, .int .i64 0, .int .i64 0, .int .i64 0, .int .i64 0, .int .i64 0, .int .i64 0, .int .i64 0] rfl rfl _ _ hb0 infoCm5 (show (10 : Nat) = 10 from rfl) (all_of_list rfl) ?_))
        refine bodyPost_ret (v := .tuple #[.agg #[.int .i64 0, .int .i64 0, .int .i64 0, .int .i64 0, .int .i64 0, .int .i64 0, .int .i64 0, .int .i64 0, .int .i64 0, .int .i64 0], .bool _]) (results_row_tmp Tryz.results8 _ _ (w.heap.size + 1) _ _ (0, 0) _ _ rfl rfl (setRow_heap _ _ _ _ _ _ hb0) Tryz.underlying31 rfl infoCm5) rfl ?_
        have cw : Below w.heap.size w wr := bAll al hbel
        exact ⟨by first | (rw [e]; rfl) | rfl, cw.trans (s9.below cw.size (fun j h => by omega))⟩

end Go.Proofs.YteddhdbglciahaaGreat
