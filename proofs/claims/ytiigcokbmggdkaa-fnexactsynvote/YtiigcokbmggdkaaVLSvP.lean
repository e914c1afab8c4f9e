/- What the law FnExactSynVote does: its walk; the statement itself is proved elsewhere. (Written by wip/tools/mkvlv.py.) -/
import Derived.Test.YtiigcokbmggdkaaPk18
namespace Go.Proofs.Ytiigcokbmggdkaa
open Go.RowKit

/-- A new box of a word, of a voter. -/
abbrev Zwo : Obj := .cells #[.int .i64 0, .int .i64 0, .int .i64 0, .int .i64 0, .int .i64 0, .int .i64 0, .int .i64 0, .int .i64 0, .int .i64 0, .int .i64 0, .int .i64 0, .int .i64 0, .int .i64 0, .int .i64 0, .int .i64 0, .int .i64 0, .int .i64 0, .int .i64 0, .int .i64 0, .int .i64 0, .int .i64 0, .int .i64 0, .int .i64 0, .int .i64 0, .slice none 0 0, .slice none 0 0] 40
abbrev Zvo : Obj := .cells #[.int .i64 0, .slice none 0 0] 35

/-- What is left of a region in which calls and new boxes float is proved once, however they came. -/
theorem shareV {R : Prop} {F : World → Nat → Nat → Value → Value → Value → Value → Nat → Nat → Prop} (G : World → Nat → Nat → Value → Value → Value → Value → Prop)
    (h1 : (∀ X g h v1 v2 v3 y3 lo hi, F X g h v1 v2 v3 y3 lo hi → G X g h v1 v2 v3 y3) → R) (h2 : ∀ X g h v1 v2 v3 y3 lo hi, F X g h v1 v2 v3 y3 lo hi → G X g h v1 v2 v3 y3) : R := h1 h2
/-- What the calls and the new boxes leave. -/
structure VLF (base X : World) (g8 g9 : Nat) (v3 y3 : Value) (lo hi : Nat) (R : Int × List Pp × Wd × Bool) : Prop where
  c : Below base.heap.size base X
  n8 : X.heap[g8]? = some Zvo
  n9 : X.heap[g9]? = some Zwo
  d3 : VtO X (fun k => lo ≤ k ∧ k < hi) v3 R.1 R.2.1
  d4 : WdO X (fun _ => False) y3 R.2.2.1
  q1 : base.heap.size ≤ g8
  q2 : base.heap.size ≤ g9
  q3 : base.heap.size ≤ lo
  q4 : hi ≤ X.heap.size
  q5 : ¬ (lo ≤ g8 ∧ g8 < hi)
  q6 : ¬ (lo ≤ g9 ∧ g9 < hi)
  ne : ¬ g8 = g9

set_option maxRecDepth 100000 in
set_option maxHeartbeats 64000000 in
theorem synVote_walk (v : Value) (P : Int) (xs : List Pp) (me : Int) (y : Value) (x : Wd) (w : World) (h : VtR w v P xs) (hx : WdR w y x) :
    Calls Try.prog 3 #[v, .int .i64 me, y] w fun e w' => e = .returned (.bool true) ∧ Below w.heap.size w w' := by
  obtain ⟨R, hR⟩ : ∃ R, voteR P xs me x = R := ⟨_, rfl⟩
  have HRf : R.2.2.1.ps = [] ∧ R.2.2.1.ls = [] := by rw [← hR]; exact ⟨(voteR_flat P xs me x).1, (voteR_flat P xs me x).2.1⟩
  have HRl : R.2.1.length ≤ xs.length + 1 := by rw [← hR]; exact (voteR_flat P xs me x).2.2
  have cS := fun v y w h1 h2 h3 => specSynVote_any v P xs me y x w h1 h2 h3
  have cI := fun v y w h1 h2 h3 => implSynVote_any v P xs me y x w h1 h2 h3
  rw [hR] at cS cI
  clear hR
  obtain ⟨cs, rfl, hs, h1⟩ := hx.agg
  have HX := hide hx
  have HI := hide (infoAt infoLw hs)
  clear hx hs h1
  have HV := hide h
  obtain ⟨ao, ca, rfl, hr⟩ := h
  clear hr
  go_enter Try.func3, Try.ntmps3
  go_upto_region 1 with fail
  generalize hW : World.alloc _ _ = W
  have al : Below w.heap.size w W := by rw [← hW]; exact bal (bal (Below.refl _ _) _) _
  have B0 : Hid (W.heap[w.heap.size]? = some (.cells #[.int .i64 P, .slice ao xs.length ca] 24 (0, 0))) := by show _ = _; rw [← hW]; exact al2_0 w _ _
  have B1 : Hid (W.heap[w.heap.size + 1]? = some (.cells cs 30 (0, 0))) := by show _ = _; rw [← hW]; exact al2_1 w _ _
  clear hW
  have fA : Hid (∀ V : World, Below W.heap.size W V → V.heap[w.heap.size]? = some (.cells #[.int .i64 P, .slice ao xs.length ca] 24 (0, 0)) ∧ V.heap[w.heap.size + 1]? = some (.cells cs 30 (0, 0))) := fun V hV => ⟨bKeeps hV B0.out, bKeeps hV B1.out⟩
  have HA : Hid (∀ V : World, Below W.heap.size W V → VtR V (.agg #[.int .i64 P, .slice ao xs.length ca]) P xs ∧ WdR V (.agg cs) x) := fun V hV => ⟨HV.out.keep (bAll al hV), HX.out.keep (bAll al hV)⟩
  clear HV HX
  go_wp2_with (refine wpList_load_row rfl 24 (.tmp 3) rfl w.heap.size rfl _ _ (0, 0) _ B0.out Try.underlying24 rfl infoLv ?_)
  refine (szSynVoter_any _ P xs 1048576 _ (HA.out _ (Below.refl _ _)).1 (by omega) (by omega)).mono ?_
  rintro e U1 ⟨r, rfl, hz, b1⟩
  rcases hz with hneg | ⟨hr2, hr3⟩
  · go_wp2
    go_ret
    exact ⟨rfl, bAll al b1⟩
  have hn : xs.length ≤ 1048576 := by omega
  have hr4 : r ≤ 1048576 := by omega
  have hge : ¬ r < 0 := by omega
  have hr0 : 0 ≤ r := by omega
  clear hr2 hr3
  have C1 := hide (fA.out _ b1).2
  go_wp2_with (refine wpList_load_row rfl 30 (.tmp 5) rfl (w.heap.size + 1) rfl _ cs (0, 0) _ C1.out Try.underlying30 rfl HI.out ?_)
  refine (szWord_left x cs r _ _ (HA.out _ b1).2 hr0 hr4).mono ?_
  rintro e U2 ⟨r2, rfl, hz, b2⟩
  rcases hz with hneg | ⟨hr5, hp, hl⟩
  · go_wp2
    go_ret
    exact ⟨rfl, bAll al (bAll b1 b2)⟩
  have hge2 : ¬ r2 < 0 := by omega
  have CC := hide (bAll b1 b2)
  clear b1 b2 C1
  go_upto_region 8 with fail
  have hU2 := CC.out.size
  have SZ := hide hU2
  clear hge hr0 hr4 hU2
  go_cut [8, 9, 10] (fun s8 s9 s10 wx => ∃ g h, s8 = .pointer (some ⟨g, 0, none⟩) ∧ s9 = .pointer (some ⟨h, 0, none⟩) ∧ s10 = .bool R.2.2.2 ∧ VoB wx U2.heap.size wx.heap.size g h R ∧ Below U2.heap.size U2 wx)
  case first =>
   as_aux_lemma =>
   clear cI
   have c00 : Below U2.heap.size U2 U2.drew := bDrewB (Below.refl _ _)
   have CW : Below W.heap.size W U2.drew := bAll CC.out c00
   refine wp_region_noPanic ?_
   refine wp_region_held_drew (S := (fun w' => w'.heap[w.heap.size]? = some (.cells #[.int .i64 P, .slice ao xs.length ca] 24 (0, 0)) ∧ w'.heap[w.heap.size + 1]? = some (.cells cs 30 (0, 0)))) (by kernel_rfl) ?_ (fun hHeld => ?_)
   · exact fA.out _ CW
   refine wpAnyH_take (i := 0) (v := .agg #[.int .i64 P, .slice ao xs.length ca]) rfl (by kernel_rfl) (by kernel_rfl) (by kernel_rfl) (fun _ _ _ h => h) (yields_row rfl 24 (.tmp 3) rfl (w.heap.size) rfl _ #[.int .i64 P, .slice ao xs.length ca] _ (fun _ h => h.1) Try.underlying24 rfl infoLv) (by assumption) ?_
   simp only [Act.put, List.getElem_toArray, List.getElem_cons_zero, List.setIfInBounds_toArray, List.set_cons_zero, List.set_cons_succ]
   refine wpAnyH_take (i := 2) (v := ?v1) rfl (by kernel_rfl) (by kernel_rfl) (by kernel_rfl) (fun _ _ _ h => h) (Or.inl ⟨by rfl, ?y1⟩) (by assumption) ?r1
   case y1 => (intro w hSw; go_simp; first | done | (with_reducible rfl))
   simp only [Act.put, List.getElem_toArray, List.getElem_cons_zero, List.getElem_cons_succ, List.setIfInBounds_toArray, List.set_cons_zero, List.set_cons_succ]
   refine wpAnyH_take (i := 3) (v := .agg cs) rfl (by kernel_rfl) (by kernel_rfl) (by kernel_rfl) (fun _ _ _ h => h) (yields_row rfl 30 (.tmp 5) rfl (w.heap.size + 1) rfl _ cs _ (fun _ h => h.2) Try.underlying30 rfl HI.out) (by assumption) ?_
   simp only [Act.put, List.getElem_toArray, List.getElem_cons_zero, List.getElem_cons_succ, List.setIfInBounds_toArray, List.set_cons_zero, List.set_cons_succ]
   apply shareV (F := fun X g8 g9 v1 v2 v3 y3 lo hi => VLF U2 X g8 g9 v3 y3 lo hi R)
   · intro LEAF
     refine wpAnyH_ready (rs := [1, 10, 11]) (by kernel_rfl) (by simp) ?_
     refine AllReadyH.cons rfl (fun K hK => ?_) (AllReadyH.cons rfl (fun K hK => ?_) (AllReadyH.cons rfl (fun K hK => ?_) AllReadyH.nil))
     ·
      go_simp
      go_at_call 12
      refine (toSynVoter_any _ P xs _ (HA.out _ CW).1 hn).mono ?_
      rintro e Yw0 ⟨v1, rfl, D1', bb⟩
      have c00 := bAll c00 bb
      have CW := bAll CW bb
      have D1 := hide D1'.reads
      refine hK.out _ _ ?_ (fun hHeld => ?_)
      · exact fA.out _ CW
      clear hK K
      refine wpAnyH_ready (rs := [4, 10, 11]) (by kernel_rfl) (by simp) ?_
      refine AllReadyH.cons rfl (fun K hK => ?_) (AllReadyH.cons rfl (fun K hK => ?_) (AllReadyH.cons rfl (fun K hK => ?_) AllReadyH.nil))
      ·
       go_simp
       go_at_call 13
       refine (toWord_any _ x _ (HA.out _ CW).2 hp hl).mono ?_
       rintro e Yw1 ⟨v2, rfl, D2', bb⟩
       have c00 := bAll c00 bb
       have CW := bAll CW bb
       have D1 := hide (D1.out.keep bb)
       have D2 := hide D2'.reads
       refine hK.out _ _ ?_ (fun hHeld => ?_)
       · exact fA.out _ CW
       clear hK K
       refine wpAnyH_ready (rs := [5, 10, 11]) (by kernel_rfl) (by simp) ?_
       refine AllReadyH.cons rfl (fun K hK => ?_) (AllReadyH.cons rfl (fun K hK => ?_) (AllReadyH.cons rfl (fun K hK => ?_) AllReadyH.nil))
       ·
        go_simp
        go_at_call 11
        have hlo : U2.heap.size ≤ (Yw1).heap.size := c00.size
        refine (cS _ _ _ D1.out D2.out hn).mono ?_
        rintro e Yw2 ⟨v3, y3, rfl, D3', D4', bb⟩
        have c00 := bAll c00 bb
        have CW := bAll CW bb
        have D1 := hide (D1.out.keep bb)
        have D2 := hide (D2.out.keep bb)
        have zbb := bb.size
        have D3 := hide D3'.inside
        have D4 := hide (show WdO Yw2 (fun _ => False) y3 R.2.2.1 from D4'.flat HRf.1 HRf.2)
        refine hK.out _ _ ?_ (fun hHeld => ?_)
        · exact fA.out _ CW
        clear hK K
        refine wpAnyH_take (i := 6) (v := ?v2) rfl (by kernel_rfl) (by kernel_rfl) (by kernel_rfl) (fun _ _ _ h => h) (Or.inl ⟨by rfl, ?y2⟩) (by assumption) ?r2
        case y2 => (intro w hSw; go_simp; first | done | (with_reducible rfl))
        simp only [Act.put, List.getElem_toArray, List.getElem_cons_zero, List.getElem_cons_succ, List.setIfInBounds_toArray, List.set_cons_zero, List.set_cons_succ]
        refine wpAnyH_take (i := 7) (v := ?v3) rfl (by kernel_rfl) (by kernel_rfl) (by kernel_rfl) (fun _ _ _ h => h) (Or.inl ⟨by rfl, ?y3⟩) (by assumption) ?r3
        case y3 => (intro w hSw; go_simp; first | done | (with_reducible rfl))
        simp only [Act.put, List.getElem_toArray, List.getElem_cons_zero, List.getElem_cons_succ, List.setIfInBounds_toArray, List.set_cons_zero, List.set_cons_succ]
        refine wpAnyH_take (i := 8) (v := ?v4) rfl (by kernel_rfl) (by kernel_rfl) (by kernel_rfl) (fun _ _ _ h => h) (Or.inl ⟨by rfl, ?y4⟩) (by assumption) ?r4
        case y4 => (intro w hSw; go_simp; first | done | (with_reducible rfl))
        simp only [Act.put, List.getElem_toArray, List.getElem_cons_zero, List.getElem_cons_succ, List.setIfInBounds_toArray, List.set_cons_zero, List.set_cons_succ]
        refine wpAnyH_take (i := 9) (v := ?v5) rfl (by kernel_rfl) (by kernel_rfl) (by kernel_rfl) (fun _ _ _ h => h) (Or.inl ⟨by rfl, ?y5⟩) (by assumption) ?r5
        case y5 => (intro w hSw; go_simp; first | done | (with_reducible rfl))
        simp only [Act.put, List.getElem_toArray, List.getElem_cons_zero, List.getElem_cons_succ, List.setIfInBounds_toArray, List.set_cons_zero, List.set_cons_succ]
        refine wpAnyH_ready (rs := [10, 11]) (by kernel_rfl) (by simp) ?_
        refine AllReadyH.cons rfl (fun K hK => ?_) (AllReadyH.cons rfl (fun K hK => ?_) AllReadyH.nil)
        ·
         go_simp
         have zzN8 : U2.heap.size ≤ (Yw2).heap.size := by have := c00.size; (try simp only [World.size_alloc] at this); first | exact this | omega
         have zhN8 : Yw2.heap.size ≤ (Yw2).heap.size := by first | exact Nat.le_refl _ | omega
         have b3 := bal (Below.refl (Yw2).heap.size (Yw2)) Zvo
         have c00 := bAll c00 b3
         have CW := bAll CW b3
         have D3 := hide (D3.out.keepB b3)
         have D4 := hide (D4.out.keepB b3)
         have N8 := hide (heap_alloc_new (Yw2) Zvo)
         refine hK.out _ _ ?_ (fun hHeld => ?_)
         · exact fA.out _ CW
         clear hK K
         refine wpAnyH_ready (rs := [11]) (by kernel_rfl) (by simp) ?_
         refine AllReadyH.cons rfl (fun K hK => ?_) AllReadyH.nil
         go_simp
         have zzN9 : U2.heap.size ≤ (Yw2).heap.size + 1 := by have := c00.size; (try simp only [World.size_alloc] at this); first | exact this | omega
         have zhN9 : Yw2.heap.size ≤ (Yw2).heap.size + 1 := by first | exact Nat.le_refl _ | omega
         have b4 := bal (Below.refl (((Yw2).alloc Zvo)).heap.size (((Yw2).alloc Zvo))) Zwo
         have c00 := bAll c00 b4
         have CW := bAll CW b4
         have D3 := hide (D3.out.keepB b4)
         have D4 := hide (D4.out.keepB b4)
         have N8 := hide (bKeeps b4 N8.out)
         have N9 := hide (al2_1 (Yw2) Zvo Zwo)
         refine hK.out _ _ ?_ (fun hHeld => ?_)
         · exact fA.out _ CW
         clear hK K
         have hc8 := heap_lt N8.out
         have hc9 := heap_lt N9.out
         have zX := c00.size
         have ne89 : ¬ (Yw2).heap.size = (Yw2).heap.size + 1 := by intro e9; have h8 := N8.out; rw [e9] at h8; have := h8.symm.trans N9.out; simp at this
         have HF := VLF.mk (base := U2) (X := ((((Yw2).alloc Zvo)).alloc Zwo)) (g8 := (Yw2).heap.size) (g9 := (Yw2).heap.size + 1) (v3 := v3) (y3 := y3) (lo := (Yw1).heap.size) (hi := Yw2.heap.size) (R := R) c00 N8.out N9.out D3.out D4.out (by omega) (by omega) (by omega) (by omega) (by omega) (by omega) ne89
         clear c00 CW N8 N9 D3 D4 hHeld
         generalize (((((Yw2).alloc Zvo)).alloc Zwo)) = X at HF ⊢
         generalize hg9 : ((Yw2).heap.size + 1) = g9 at HF ⊢
         generalize hg8 : ((Yw2).heap.size) = g8 at HF ⊢
         exact LEAF X g8 g9 v1 v2 v3 y3 _ _ HF
        ·
         go_simp
         have zzN9 : U2.heap.size ≤ (Yw2).heap.size := by have := c00.size; (try simp only [World.size_alloc] at this); first | exact this | omega
         have zhN9 : Yw2.heap.size ≤ (Yw2).heap.size := by first | exact Nat.le_refl _ | omega
         have b3 := bal (Below.refl (Yw2).heap.size (Yw2)) Zwo
         have c00 := bAll c00 b3
         have CW := bAll CW b3
         have D3 := hide (D3.out.keepB b3)
         have D4 := hide (D4.out.keepB b3)
         have N9 := hide (heap_alloc_new (Yw2) Zwo)
         refine hK.out _ _ ?_ (fun hHeld => ?_)
         · exact fA.out _ CW
         clear hK K
         refine wpAnyH_ready (rs := [10]) (by kernel_rfl) (by simp) ?_
         refine AllReadyH.cons rfl (fun K hK => ?_) AllReadyH.nil
         go_simp
         have zzN8 : U2.heap.size ≤ (Yw2).heap.size + 1 := by have := c00.size; (try simp only [World.size_alloc] at this); first | exact this | omega
         have zhN8 : Yw2.heap.size ≤ (Yw2).heap.size + 1 := by first | exact Nat.le_refl _ | omega
         have b4 := bal (Below.refl (((Yw2).alloc Zwo)).heap.size (((Yw2).alloc Zwo))) Zvo
         have c00 := bAll c00 b4
         have CW := bAll CW b4
         have D3 := hide (D3.out.keepB b4)
         have D4 := hide (D4.out.keepB b4)
         have N9 := hide (bKeeps b4 N9.out)
         have N8 := hide (al2_1 (Yw2) Zwo Zvo)
         refine hK.out _ _ ?_ (fun hHeld => ?_)
         · exact fA.out _ CW
         clear hK K
         have hc8 := heap_lt N8.out
         have hc9 := heap_lt N9.out
         have zX := c00.size
         have ne89 : ¬ (Yw2).heap.size + 1 = (Yw2).heap.size := by intro e9; have h8 := N8.out; rw [e9] at h8; have := h8.symm.trans N9.out; simp at this
         exact LEAF _ _ _ v1 v2 v3 y3 _ _ (VLF.mk (base := U2) (X := ((((Yw2).alloc Zwo)).alloc Zvo)) (g8 := (Yw2).heap.size + 1) (g9 := (Yw2).heap.size) (v3 := v3) (y3 := y3) (lo := (Yw1).heap.size) (hi := Yw2.heap.size) (R := R) c00 N8.out N9.out D3.out D4.out (by omega) (by omega) (by omega) (by omega) (by omega) (by omega) ne89)
       ·
        go_simp
        have zzN8 : U2.heap.size ≤ (Yw1).heap.size := by have := c00.size; (try simp only [World.size_alloc] at this); first | exact this | omega
        have b2 := bal (Below.refl (Yw1).heap.size (Yw1)) Zvo
        have c00 := bAll c00 b2
        have CW := bAll CW b2
        have D1 := hide (D1.out.keep b2)
        have D2 := hide (D2.out.keep b2)
        have N8 := hide (heap_alloc_new (Yw1) Zvo)
        refine hK.out _ _ ?_ (fun hHeld => ?_)
        · exact fA.out _ CW
        clear hK K
        refine wpAnyH_ready (rs := [5, 11]) (by kernel_rfl) (by simp) ?_
        refine AllReadyH.cons rfl (fun K hK => ?_) (AllReadyH.cons rfl (fun K hK => ?_) AllReadyH.nil)
        ·
         go_simp
         go_at_call 11
         have hlo : U2.heap.size ≤ (((Yw1).alloc Zvo)).heap.size := c00.size
         have hbN8 := heap_lt N8.out
         refine (cS _ _ _ D1.out D2.out hn).mono ?_
         rintro e Yw3 ⟨v3, y3, rfl, D3', D4', bb⟩
         have c00 := bAll c00 bb
         have CW := bAll CW bb
         have D1 := hide (D1.out.keep bb)
         have D2 := hide (D2.out.keep bb)
         have N8 := hide (bKeeps bb N8.out)
         have zbb := bb.size
         have D3 := hide D3'.inside
         have D4 := hide (show WdO Yw3 (fun _ => False) y3 R.2.2.1 from D4'.flat HRf.1 HRf.2)
         refine hK.out _ _ ?_ (fun hHeld => ?_)
         · exact fA.out _ CW
         clear hK K
         refine wpAnyH_take (i := 6) (v := ?v6) rfl (by kernel_rfl) (by kernel_rfl) (by kernel_rfl) (fun _ _ _ h => h) (Or.inl ⟨by rfl, ?y6⟩) (by assumption) ?r6
         case y6 => (intro w hSw; go_simp; first | done | (with_reducible rfl))
         simp only [Act.put, List.getElem_toArray, List.getElem_cons_zero, List.getElem_cons_succ, List.setIfInBounds_toArray, List.set_cons_zero, List.set_cons_succ]
         refine wpAnyH_take (i := 7) (v := ?v7) rfl (by kernel_rfl) (by kernel_rfl) (by kernel_rfl) (fun _ _ _ h => h) (Or.inl ⟨by rfl, ?y7⟩) (by assumption) ?r7
         case y7 => (intro w hSw; go_simp; first | done | (with_reducible rfl))
         simp only [Act.put, List.getElem_toArray, List.getElem_cons_zero, List.getElem_cons_succ, List.setIfInBounds_toArray, List.set_cons_zero, List.set_cons_succ]
         refine wpAnyH_take (i := 8) (v := ?v8) rfl (by kernel_rfl) (by kernel_rfl) (by kernel_rfl) (fun _ _ _ h => h) (Or.inl ⟨by rfl, ?y8⟩) (by assumption) ?r8
         case y8 => (intro w hSw; go_simp; first | done | (with_reducible rfl))
         simp only [Act.put, List.getElem_toArray, List.getElem_cons_zero, List.getElem_cons_succ, List.setIfInBounds_toArray, List.set_cons_zero, List.set_cons_succ]
         refine wpAnyH_take (i := 9) (v := ?v9) rfl (by kernel_rfl) (by kernel_rfl) (by kernel_rfl) (fun _ _ _ h => h) (Or.inl ⟨by rfl, ?y9⟩) (by assumption) ?r9
         case y9 => (intro w hSw; go_simp; first | done | (with_reducible rfl))
         simp only [Act.put, List.getElem_toArray, List.getElem_cons_zero, List.getElem_cons_succ, List.setIfInBounds_toArray, List.set_cons_zero, List.set_cons_succ]
         refine wpAnyH_ready (rs := [11]) (by kernel_rfl) (by simp) ?_
         refine AllReadyH.cons rfl (fun K hK => ?_) AllReadyH.nil
         go_simp
         have zzN9 : U2.heap.size ≤ (Yw3).heap.size := by have := c00.size; (try simp only [World.size_alloc] at this); first | exact this | omega
         have zhN9 : Yw3.heap.size ≤ (Yw3).heap.size := by first | exact Nat.le_refl _ | omega
         have b4 := bal (Below.refl (Yw3).heap.size (Yw3)) Zwo
         have c00 := bAll c00 b4
         have CW := bAll CW b4
         have N8 := hide (bKeeps b4 N8.out)
         have D3 := hide (D3.out.keepB b4)
         have D4 := hide (D4.out.keepB b4)
         have N9 := hide (heap_alloc_new (Yw3) Zwo)
         refine hK.out _ _ ?_ (fun hHeld => ?_)
         · exact fA.out _ CW
         clear hK K
         have hc8 := heap_lt N8.out
         have hc9 := heap_lt N9.out
         have zX := c00.size
         have ne89 : ¬ (Yw1).heap.size = (Yw3).heap.size := by intro e9; have h8 := N8.out; rw [e9] at h8; have := h8.symm.trans N9.out; simp at this
         exact LEAF _ _ _ v1 v2 v3 y3 _ _ (VLF.mk (base := U2) (X := ((Yw3).alloc Zwo)) (g8 := (Yw1).heap.size) (g9 := (Yw3).heap.size) (v3 := v3) (y3 := y3) (lo := (((Yw1).alloc Zvo)).heap.size) (hi := Yw3.heap.size) (R := R) c00 N8.out N9.out D3.out D4.out (by omega) (by omega) (by omega) (by omega) (by omega) (by omega) ne89)
        ·
         go_simp
         have zzN9 : U2.heap.size ≤ (Yw1).heap.size + 1 := by have := c00.size; (try simp only [World.size_alloc] at this); first | exact this | omega
         have b3 := bal (Below.refl (((Yw1).alloc Zvo)).heap.size (((Yw1).alloc Zvo))) Zwo
         have c00 := bAll c00 b3
         have CW := bAll CW b3
         have D1 := hide (D1.out.keep b3)
         have D2 := hide (D2.out.keep b3)
         have N8 := hide (bKeeps b3 N8.out)
         have N9 := hide (al2_1 (Yw1) Zvo Zwo)
         refine hK.out _ _ ?_ (fun hHeld => ?_)
         · exact fA.out _ CW
         clear hK K
         refine wpAnyH_ready (rs := [5]) (by kernel_rfl) (by simp) ?_
         refine AllReadyH.cons rfl (fun K hK => ?_) AllReadyH.nil
         go_simp
         go_at_call 11
         have hlo : U2.heap.size ≤ (((((Yw1).alloc Zvo)).alloc Zwo)).heap.size := c00.size
         have hbN8 := heap_lt N8.out
         have hbN9 := heap_lt N9.out
         refine (cS _ _ _ D1.out D2.out hn).mono ?_
         rintro e Yw4 ⟨v3, y3, rfl, D3', D4', bb⟩
         have c00 := bAll c00 bb
         have CW := bAll CW bb
         have D1 := hide (D1.out.keep bb)
         have D2 := hide (D2.out.keep bb)
         have N8 := hide (bKeeps bb N8.out)
         have N9 := hide (bKeeps bb N9.out)
         have zbb := bb.size
         have D3 := hide D3'.inside
         have D4 := hide (show WdO Yw4 (fun _ => False) y3 R.2.2.1 from D4'.flat HRf.1 HRf.2)
         refine hK.out _ _ ?_ (fun hHeld => ?_)
         · exact fA.out _ CW
         clear hK K
         refine wpAnyH_take (i := 6) (v := ?v10) rfl (by kernel_rfl) (by kernel_rfl) (by kernel_rfl) (fun _ _ _ h => h) (Or.inl ⟨by rfl, ?y10⟩) (by assumption) ?r10
         case y10 => (intro w hSw; go_simp; first | done | (with_reducible rfl))
         simp only [Act.put, List.getElem_toArray, List.getElem_cons_zero, List.getElem_cons_succ, List.setIfInBounds_toArray, List.set_cons_zero, List.set_cons_succ]
         refine wpAnyH_take (i := 7) (v := ?v11) rfl (by kernel_rfl) (by kernel_rfl) (by kernel_rfl) (fun _ _ _ h => h) (Or.inl ⟨by rfl, ?y11⟩) (by assumption) ?r11
         case y11 => (intro w hSw; go_simp; first | done | (with_reducible rfl))
         simp only [Act.put, List.getElem_toArray, List.getElem_cons_zero, List.getElem_cons_succ, List.setIfInBounds_toArray, List.set_cons_zero, List.set_cons_succ]
         refine wpAnyH_take (i := 8) (v := ?v12) rfl (by kernel_rfl) (by kernel_rfl) (by kernel_rfl) (fun _ _ _ h => h) (Or.inl ⟨by rfl, ?y12⟩) (by assumption) ?r12
         case y12 => (intro w hSw; go_simp; first | done | (with_reducible rfl))
         simp only [Act.put, List.getElem_toArray, List.getElem_cons_zero, List.getElem_cons_succ, List.setIfInBounds_toArray, List.set_cons_zero, List.set_cons_succ]
         refine wpAnyH_take (i := 9) (v := ?v13) rfl (by kernel_rfl) (by kernel_rfl) (by kernel_rfl) (fun _ _ _ h => h) (Or.inl ⟨by rfl, ?y13⟩) (by assumption) ?r13
         case y13 => (intro w hSw; go_simp; first | done | (with_reducible rfl))
         simp only [Act.put, List.getElem_toArray, List.getElem_cons_zero, List.getElem_cons_succ, List.setIfInBounds_toArray, List.set_cons_zero, List.set_cons_succ]
         have hc8 := heap_lt N8.out
         have hc9 := heap_lt N9.out
         have zX := c00.size
         have ne89 : ¬ (Yw1).heap.size = (Yw1).heap.size + 1 := by intro e9; have h8 := N8.out; rw [e9] at h8; have := h8.symm.trans N9.out; simp at this
         exact LEAF _ _ _ v1 v2 v3 y3 _ _ (VLF.mk (base := U2) (X := Yw4) (g8 := (Yw1).heap.size) (g9 := (Yw1).heap.size + 1) (v3 := v3) (y3 := y3) (lo := (((((Yw1).alloc Zvo)).alloc Zwo)).heap.size) (hi := Yw4.heap.size) (R := R) c00 N8.out N9.out D3.out D4.out (by omega) (by omega) (by omega) (by omega) (by omega) (by omega) ne89)
       ·
        go_simp
        have zzN9 : U2.heap.size ≤ (Yw1).heap.size := by have := c00.size; (try simp only [World.size_alloc] at this); first | exact this | omega
        have b2 := bal (Below.refl (Yw1).heap.size (Yw1)) Zwo
        have c00 := bAll c00 b2
        have CW := bAll CW b2
        have D1 := hide (D1.out.keep b2)
        have D2 := hide (D2.out.keep b2)
        have N9 := hide (heap_alloc_new (Yw1) Zwo)
        refine hK.out _ _ ?_ (fun hHeld => ?_)
        · exact fA.out _ CW
        clear hK K
        refine wpAnyH_ready (rs := [5, 10]) (by kernel_rfl) (by simp) ?_
        refine AllReadyH.cons rfl (fun K hK => ?_) (AllReadyH.cons rfl (fun K hK => ?_) AllReadyH.nil)
        ·
         go_simp
         go_at_call 11
         have hlo : U2.heap.size ≤ (((Yw1).alloc Zwo)).heap.size := c00.size
         have hbN9 := heap_lt N9.out
         refine (cS _ _ _ D1.out D2.out hn).mono ?_
         rintro e Yw3 ⟨v3, y3, rfl, D3', D4', bb⟩
         have c00 := bAll c00 bb
         have CW := bAll CW bb
         have D1 := hide (D1.out.keep bb)
         have D2 := hide (D2.out.keep bb)
         have N9 := hide (bKeeps bb N9.out)
         have zbb := bb.size
         have D3 := hide D3'.inside
         have D4 := hide (show WdO Yw3 (fun _ => False) y3 R.2.2.1 from D4'.flat HRf.1 HRf.2)
         refine hK.out _ _ ?_ (fun hHeld => ?_)
         · exact fA.out _ CW
         clear hK K
         refine wpAnyH_take (i := 6) (v := ?v14) rfl (by kernel_rfl) (by kernel_rfl) (by kernel_rfl) (fun _ _ _ h => h) (Or.inl ⟨by rfl, ?y14⟩) (by assumption) ?r14
         case y14 => (intro w hSw; go_simp; first | done | (with_reducible rfl))
         simp only [Act.put, List.getElem_toArray, List.getElem_cons_zero, List.getElem_cons_succ, List.setIfInBounds_toArray, List.set_cons_zero, List.set_cons_succ]
         refine wpAnyH_take (i := 7) (v := ?v15) rfl (by kernel_rfl) (by kernel_rfl) (by kernel_rfl) (fun _ _ _ h => h) (Or.inl ⟨by rfl, ?y15⟩) (by assumption) ?r15
         case y15 => (intro w hSw; go_simp; first | done | (with_reducible rfl))
         simp only [Act.put, List.getElem_toArray, List.getElem_cons_zero, List.getElem_cons_succ, List.setIfInBounds_toArray, List.set_cons_zero, List.set_cons_succ]
         refine wpAnyH_take (i := 8) (v := ?v16) rfl (by kernel_rfl) (by kernel_rfl) (by kernel_rfl) (fun _ _ _ h => h) (Or.inl ⟨by rfl, ?y16⟩) (by assumption) ?r16
         case y16 => (intro w hSw; go_simp; first | done | (with_reducible rfl))
         simp only [Act.put, List.getElem_toArray, List.getElem_cons_zero, List.getElem_cons_succ, List.setIfInBounds_toArray, List.set_cons_zero, List.set_cons_succ]
         refine wpAnyH_take (i := 9) (v := ?v17) rfl (by kernel_rfl) (by kernel_rfl) (by kernel_rfl) (fun _ _ _ h => h) (Or.inl ⟨by rfl, ?y17⟩) (by assumption) ?r17
         case y17 => (intro w hSw; go_simp; first | done | (with_reducible rfl))
         simp only [Act.put, List.getElem_toArray, List.getElem_cons_zero, List.getElem_cons_succ, List.setIfInBounds_toArray, List.set_cons_zero, List.set_cons_succ]
         refine wpAnyH_ready (rs := [10]) (by kernel_rfl) (by simp) ?_
         refine AllReadyH.cons rfl (fun K hK => ?_) AllReadyH.nil
         go_simp
         have zzN8 : U2.heap.size ≤ (Yw3).heap.size := by have := c00.size; (try simp only [World.size_alloc] at this); first | exact this | omega
         have zhN8 : Yw3.heap.size ≤ (Yw3).heap.size := by first | exact Nat.le_refl _ | omega
         have b4 := bal (Below.refl (Yw3).heap.size (Yw3)) Zvo
         have c00 := bAll c00 b4
         have CW := bAll CW b4
         have N9 := hide (bKeeps b4 N9.out)
         have D3 := hide (D3.out.keepB b4)
         have D4 := hide (D4.out.keepB b4)
         have N8 := hide (heap_alloc_new (Yw3) Zvo)
         refine hK.out _ _ ?_ (fun hHeld => ?_)
         · exact fA.out _ CW
         clear hK K
         have hc8 := heap_lt N8.out
         have hc9 := heap_lt N9.out
         have zX := c00.size
         have ne89 : ¬ (Yw3).heap.size = (Yw1).heap.size := by intro e9; have h8 := N8.out; rw [e9] at h8; have := h8.symm.trans N9.out; simp at this
         exact LEAF _ _ _ v1 v2 v3 y3 _ _ (VLF.mk (base := U2) (X := ((Yw3).alloc Zvo)) (g8 := (Yw3).heap.size) (g9 := (Yw1).heap.size) (v3 := v3) (y3 := y3) (lo := (((Yw1).alloc Zwo)).heap.size) (hi := Yw3.heap.size) (R := R) c00 N8.out N9.out D3.out D4.out (by omega) (by omega) (by omega) (by omega) (by omega) (by omega) ne89)
        ·
         go_simp
         have zzN8 : U2.heap.size ≤ (Yw1).heap.size + 1 := by have := c00.size; (try simp only [World.size_alloc] at this); first | exact this | omega
         have b3 := bal (Below.refl (((Yw1).alloc Zwo)).heap.size (((Yw1).alloc Zwo))) Zvo
         have c00 := bAll c00 b3
         have CW := bAll CW b3
         have D1 := hide (D1.out.keep b3)
         have D2 := hide (D2.out.keep b3)
         have N9 := hide (bKeeps b3 N9.out)
         have N8 := hide (al2_1 (Yw1) Zwo Zvo)
         refine hK.out _ _ ?_ (fun hHeld => ?_)
         · exact fA.out _ CW
         clear hK K
         refine wpAnyH_ready (rs := [5]) (by kernel_rfl) (by simp) ?_
         refine AllReadyH.cons rfl (fun K hK => ?_) AllReadyH.nil
         go_simp
         go_at_call 11
         have hlo : U2.heap.size ≤ (((((Yw1).alloc Zwo)).alloc Zvo)).heap.size := c00.size
         have hbN8 := heap_lt N8.out
         have hbN9 := heap_lt N9.out
         refine (cS _ _ _ D1.out D2.out hn).mono ?_
         rintro e Yw4 ⟨v3, y3, rfl, D3', D4', bb⟩
         have c00 := bAll c00 bb
         have CW := bAll CW bb
         have D1 := hide (D1.out.keep bb)
         have D2 := hide (D2.out.keep bb)
         have N9 := hide (bKeeps bb N9.out)
         have N8 := hide (bKeeps bb N8.out)
         have zbb := bb.size
         have D3 := hide D3'.inside
         have D4 := hide (show WdO Yw4 (fun _ => False) y3 R.2.2.1 from D4'.flat HRf.1 HRf.2)
         refine hK.out _ _ ?_ (fun hHeld => ?_)
         · exact fA.out _ CW
         clear hK K
         refine wpAnyH_take (i := 6) (v := ?v18) rfl (by kernel_rfl) (by kernel_rfl) (by kernel_rfl) (fun _ _ _ h => h) (Or.inl ⟨by rfl, ?y18⟩) (by assumption) ?r18
         case y18 => (intro w hSw; go_simp; first | done | (with_reducible rfl))
         simp only [Act.put, List.getElem_toArray, List.getElem_cons_zero, List.getElem_cons_succ, List.setIfInBounds_toArray, List.set_cons_zero, List.set_cons_succ]
         refine wpAnyH_take (i := 7) (v := ?v19) rfl (by kernel_rfl) (by kernel_rfl) (by kernel_rfl) (fun _ _ _ h => h) (Or.inl ⟨by rfl, ?y19⟩) (by assumption) ?r19
         case y19 => (intro w hSw; go_simp; first | done | (with_reducible rfl))
         simp only [Act.put, List.getElem_toArray, List.getElem_cons_zero, List.getElem_cons_succ, List.setIfInBounds_toArray, List.set_cons_zero, List.set_cons_succ]
         refine wpAnyH_take (i := 8) (v := ?v20) rfl (by kernel_rfl) (by kernel_rfl) (by kernel_rfl) (fun _ _ _ h => h) (Or.inl ⟨by rfl, ?y20⟩) (by assumption) ?r20
         case y20 => (intro w hSw; go_simp; first | done | (with_reducible rfl))
         simp only [Act.put, List.getElem_toArray, List.getElem_cons_zero, List.getElem_cons_succ, List.setIfInBounds_toArray, List.set_cons_zero, List.set_cons_succ]
         refine wpAnyH_take (i := 9) (v := ?v21) rfl (by kernel_rfl) (by kernel_rfl) (by kernel_rfl) (fun _ _ _ h => h) (Or.inl ⟨by rfl, ?y21⟩) (by assumption) ?r21
         case y21 => (intro w hSw; go_simp; first | done | (with_reducible rfl))
         simp only [Act.put, List.getElem_toArray, List.getElem_cons_zero, List.getElem_cons_succ, List.setIfInBounds_toArray, List.set_cons_zero, List.set_cons_succ]
         have hc8 := heap_lt N8.out
         have hc9 := heap_lt N9.out
         have zX := c00.size
         have ne89 : ¬ (Yw1).heap.size + 1 = (Yw1).heap.size := by intro e9; have h8 := N8.out; rw [e9] at h8; have := h8.symm.trans N9.out; simp at this
         exact LEAF _ _ _ v1 v2 v3 y3 _ _ (VLF.mk (base := U2) (X := Yw4) (g8 := (Yw1).heap.size + 1) (g9 := (Yw1).heap.size) (v3 := v3) (y3 := y3) (lo := (((((Yw1).alloc Zwo)).alloc Zvo)).heap.size) (hi := Yw4.heap.size) (R := R) c00 N8.out N9.out D3.out D4.out (by omega) (by omega) (by omega) (by omega) (by omega) (by omega) ne89)
      ·
       go_simp
       have zzN8 : U2.heap.size ≤ (Yw0).heap.size := by have := c00.size; (try simp only [World.size_alloc] at this); first | exact this | omega
       have b1 := bal (Below.refl (Yw0).heap.size (Yw0)) Zvo
       have c00 := bAll c00 b1
       have CW := bAll CW b1
       have D1 := hide (D1.out.keep b1)
       have N8 := hide (heap_alloc_new (Yw0) Zvo)
       refine hK.out _ _ ?_ (fun hHeld => ?_)
       · exact fA.out _ CW
       clear hK K
       refine wpAnyH_ready (rs := [4, 11]) (by kernel_rfl) (by simp) ?_
       refine AllReadyH.cons rfl (fun K hK => ?_) (AllReadyH.cons rfl (fun K hK => ?_) AllReadyH.nil)
       ·
        go_simp
        go_at_call 13
        refine (toWord_any _ x _ (HA.out _ CW).2 hp hl).mono ?_
        rintro e Yw2 ⟨v2, rfl, D2', bb⟩
        have c00 := bAll c00 bb
        have CW := bAll CW bb
        have D1 := hide (D1.out.keep bb)
        have N8 := hide (bKeeps bb N8.out)
        have D2 := hide D2'.reads
        refine hK.out _ _ ?_ (fun hHeld => ?_)
        · exact fA.out _ CW
        clear hK K
        refine wpAnyH_ready (rs := [5, 11]) (by kernel_rfl) (by simp) ?_
        refine AllReadyH.cons rfl (fun K hK => ?_) (AllReadyH.cons rfl (fun K hK => ?_) AllReadyH.nil)
        ·
         go_simp
         go_at_call 11
         have hlo : U2.heap.size ≤ (Yw2).heap.size := c00.size
         have hbN8 := heap_lt N8.out
         refine (cS _ _ _ D1.out D2.out hn).mono ?_
         rintro e Yw3 ⟨v3, y3, rfl, D3', D4', bb⟩
         have c00 := bAll c00 bb
         have CW := bAll CW bb
         have D1 := hide (D1.out.keep bb)
         have N8 := hide (bKeeps bb N8.out)
         have D2 := hide (D2.out.keep bb)
         have zbb := bb.size
         have D3 := hide D3'.inside
         have D4 := hide (show WdO Yw3 (fun _ => False) y3 R.2.2.1 from D4'.flat HRf.1 HRf.2)
         refine hK.out _ _ ?_ (fun hHeld => ?_)
         · exact fA.out _ CW
         clear hK K
         refine wpAnyH_take (i := 6) (v := ?v22) rfl (by kernel_rfl) (by kernel_rfl) (by kernel_rfl) (fun _ _ _ h => h) (Or.inl ⟨by rfl, ?y22⟩) (by assumption) ?r22
         case y22 => (intro w hSw; go_simp; first | done | (with_reducible rfl))
         simp only [Act.put, List.getElem_toArray, List.getElem_cons_zero, List.getElem_cons_succ, List.setIfInBounds_toArray, List.set_cons_zero, List.set_cons_succ]
         refine wpAnyH_take (i := 7) (v := ?v23) rfl (by kernel_rfl) (by kernel_rfl) (by kernel_rfl) (fun _ _ _ h => h) (Or.inl ⟨by rfl, ?y23⟩) (by assumption) ?r23
         case y23 => (intro w hSw; go_simp; first | done | (with_reducible rfl))
         simp only [Act.put, List.getElem_toArray, List.getElem_cons_zero, List.getElem_cons_succ, List.setIfInBounds_toArray, List.set_cons_zero, List.set_cons_succ]
         refine wpAnyH_take (i := 8) (v := ?v24) rfl (by kernel_rfl) (by kernel_rfl) (by kernel_rfl) (fun _ _ _ h => h) (Or.inl ⟨by rfl, ?y24⟩) (by assumption) ?r24
         case y24 => (intro w hSw; go_simp; first | done | (with_reducible rfl))
         simp only [Act.put, List.getElem_toArray, List.getElem_cons_zero, List.getElem_cons_succ, List.setIfInBounds_toArray, List.set_cons_zero, List.set_cons_succ]
         refine wpAnyH_take (i := 9) (v := ?v25) rfl (by kernel_rfl) (by kernel_rfl) (by kernel_rfl) (fun _ _ _ h => h) (Or.inl ⟨by rfl, ?y25⟩) (by assumption) ?r25
         case y25 => (intro w hSw; go_simp; first | done | (with_reducible rfl))
         simp only [Act.put, List.getElem_toArray, List.getElem_cons_zero, List.getElem_cons_succ, List.setIfInBounds_toArray, List.set_cons_zero, List.set_cons_succ]
         refine wpAnyH_ready (rs := [11]) (by kernel_rfl) (by simp) ?_
         refine AllReadyH.cons rfl (fun K hK => ?_) AllReadyH.nil
         go_simp
         have zzN9 : U2.heap.size ≤ (Yw3).heap.size := by have := c00.size; (try simp only [World.size_alloc] at this); first | exact this | omega
         have zhN9 : Yw3.heap.size ≤ (Yw3).heap.size := by first | exact Nat.le_refl _ | omega
         have b4 := bal (Below.refl (Yw3).heap.size (Yw3)) Zwo
         have c00 := bAll c00 b4
         have CW := bAll CW b4
         have N8 := hide (bKeeps b4 N8.out)
         have D3 := hide (D3.out.keepB b4)
         have D4 := hide (D4.out.keepB b4)
         have N9 := hide (heap_alloc_new (Yw3) Zwo)
         refine hK.out _ _ ?_ (fun hHeld => ?_)
         · exact fA.out _ CW
         clear hK K
         have hc8 := heap_lt N8.out
         have hc9 := heap_lt N9.out
         have zX := c00.size
         have ne89 : ¬ (Yw0).heap.size = (Yw3).heap.size := by intro e9; have h8 := N8.out; rw [e9] at h8; have := h8.symm.trans N9.out; simp at this
         exact LEAF _ _ _ v1 v2 v3 y3 _ _ (VLF.mk (base := U2) (X := ((Yw3).alloc Zwo)) (g8 := (Yw0).heap.size) (g9 := (Yw3).heap.size) (v3 := v3) (y3 := y3) (lo := (Yw2).heap.size) (hi := Yw3.heap.size) (R := R) c00 N8.out N9.out D3.out D4.out (by omega) (by omega) (by omega) (by omega) (by omega) (by omega) ne89)
        ·
         go_simp
         have zzN9 : U2.heap.size ≤ (Yw2).heap.size := by have := c00.size; (try simp only [World.size_alloc] at this); first | exact this | omega
         have b3 := bal (Below.refl (Yw2).heap.size (Yw2)) Zwo
         have c00 := bAll c00 b3
         have CW := bAll CW b3
         have D1 := hide (D1.out.keep b3)
         have N8 := hide (bKeeps b3 N8.out)
         have D2 := hide (D2.out.keep b3)
         have N9 := hide (heap_alloc_new (Yw2) Zwo)
         refine hK.out _ _ ?_ (fun hHeld => ?_)
         · exact fA.out _ CW
         clear hK K
         refine wpAnyH_ready (rs := [5]) (by kernel_rfl) (by simp) ?_
         refine AllReadyH.cons rfl (fun K hK => ?_) AllReadyH.nil
         go_simp
         go_at_call 11
         have hlo : U2.heap.size ≤ (((Yw2).alloc Zwo)).heap.size := c00.size
         have hbN8 := heap_lt N8.out
         have hbN9 := heap_lt N9.out
         refine (cS _ _ _ D1.out D2.out hn).mono ?_
         rintro e Yw4 ⟨v3, y3, rfl, D3', D4', bb⟩
         have c00 := bAll c00 bb
         have CW := bAll CW bb
         have D1 := hide (D1.out.keep bb)
         have N8 := hide (bKeeps bb N8.out)
         have D2 := hide (D2.out.keep bb)
         have N9 := hide (bKeeps bb N9.out)
         have zbb := bb.size
         have D3 := hide D3'.inside
         have D4 := hide (show WdO Yw4 (fun _ => False) y3 R.2.2.1 from D4'.flat HRf.1 HRf.2)
         refine hK.out _ _ ?_ (fun hHeld => ?_)
         · exact fA.out _ CW
         clear hK K
         refine wpAnyH_take (i := 6) (v := ?v26) rfl (by kernel_rfl) (by kernel_rfl) (by kernel_rfl) (fun _ _ _ h => h) (Or.inl ⟨by rfl, ?y26⟩) (by assumption) ?r26
         case y26 => (intro w hSw; go_simp; first | done | (with_reducible rfl))
         simp only [Act.put, List.getElem_toArray, List.getElem_cons_zero, List.getElem_cons_succ, List.setIfInBounds_toArray, List.set_cons_zero, List.set_cons_succ]
         refine wpAnyH_take (i := 7) (v := ?v27) rfl (by kernel_rfl) (by kernel_rfl) (by kernel_rfl) (fun _ _ _ h => h) (Or.inl ⟨by rfl, ?y27⟩) (by assumption) ?r27
         case y27 => (intro w hSw; go_simp; first | done | (with_reducible rfl))
         simp only [Act.put, List.getElem_toArray, List.getElem_cons_zero, List.getElem_cons_succ, List.setIfInBounds_toArray, List.set_cons_zero, List.set_cons_succ]
         refine wpAnyH_take (i := 8) (v := ?v28) rfl (by kernel_rfl) (by kernel_rfl) (by kernel_rfl) (fun _ _ _ h => h) (Or.inl ⟨by rfl, ?y28⟩) (by assumption) ?r28
         case y28 => (intro w hSw; go_simp; first | done | (with_reducible rfl))
         simp only [Act.put, List.getElem_toArray, List.getElem_cons_zero, List.getElem_cons_succ, List.setIfInBounds_toArray, List.set_cons_zero, List.set_cons_succ]
         refine wpAnyH_take (i := 9) (v := ?v29) rfl (by kernel_rfl) (by kernel_rfl) (by kernel_rfl) (fun _ _ _ h => h) (Or.inl ⟨by rfl, ?y29⟩) (by assumption) ?r29
         case y29 => (intro w hSw; go_simp; first | done | (with_reducible rfl))
         simp only [Act.put, List.getElem_toArray, List.getElem_cons_zero, List.getElem_cons_succ, List.setIfInBounds_toArray, List.set_cons_zero, List.set_cons_succ]
         have hc8 := heap_lt N8.out
         have hc9 := heap_lt N9.out
         have zX := c00.size
         have ne89 : ¬ (Yw0).heap.size = (Yw2).heap.size := by intro e9; have h8 := N8.out; rw [e9] at h8; have := h8.symm.trans N9.out; simp at this
         exact LEAF _ _ _ v1 v2 v3 y3 _ _ (VLF.mk (base := U2) (X := Yw4) (g8 := (Yw0).heap.size) (g9 := (Yw2).heap.size) (v3 := v3) (y3 := y3) (lo := (((Yw2).alloc Zwo)).heap.size) (hi := Yw4.heap.size) (R := R) c00 N8.out N9.out D3.out D4.out (by omega) (by omega) (by omega) (by omega) (by omega) (by omega) ne89)
       ·
        go_simp
        have zzN9 : U2.heap.size ≤ (Yw0).heap.size + 1 := by have := c00.size; (try simp only [World.size_alloc] at this); first | exact this | omega
        have b2 := bal (Below.refl (((Yw0).alloc Zvo)).heap.size (((Yw0).alloc Zvo))) Zwo
        have c00 := bAll c00 b2
        have CW := bAll CW b2
        have D1 := hide (D1.out.keep b2)
        have N8 := hide (bKeeps b2 N8.out)
        have N9 := hide (al2_1 (Yw0) Zvo Zwo)
        refine hK.out _ _ ?_ (fun hHeld => ?_)
        · exact fA.out _ CW
        clear hK K
        refine wpAnyH_ready (rs := [4]) (by kernel_rfl) (by simp) ?_
        refine AllReadyH.cons rfl (fun K hK => ?_) AllReadyH.nil
        go_simp
        go_at_call 13
        refine (toWord_any _ x _ (HA.out _ CW).2 hp hl).mono ?_
        rintro e Yw3 ⟨v2, rfl, D2', bb⟩
        have c00 := bAll c00 bb
        have CW := bAll CW bb
        have D1 := hide (D1.out.keep bb)
        have N8 := hide (bKeeps bb N8.out)
        have N9 := hide (bKeeps bb N9.out)
        have D2 := hide D2'.reads
        refine hK.out _ _ ?_ (fun hHeld => ?_)
        · exact fA.out _ CW
        clear hK K
        refine wpAnyH_ready (rs := [5]) (by kernel_rfl) (by simp) ?_
        refine AllReadyH.cons rfl (fun K hK => ?_) AllReadyH.nil
        go_simp
        go_at_call 11
        have hlo : U2.heap.size ≤ (Yw3).heap.size := c00.size
        have hbN8 := heap_lt N8.out
        have hbN9 := heap_lt N9.out
        refine (cS _ _ _ D1.out D2.out hn).mono ?_
        rintro e Yw4 ⟨v3, y3, rfl, D3', D4', bb⟩
        have c00 := bAll c00 bb
        have CW := bAll CW bb
        have D1 := hide (D1.out.keep bb)
        have N8 := hide (bKeeps bb N8.out)
        have N9 := hide (bKeeps bb N9.out)
        have D2 := hide (D2.out.keep bb)
        have zbb := bb.size
        have D3 := hide D3'.inside
        have D4 := hide (show WdO Yw4 (fun _ => False) y3 R.2.2.1 from D4'.flat HRf.1 HRf.2)
        refine hK.out _ _ ?_ (fun hHeld => ?_)
        · exact fA.out _ CW
        clear hK K
        refine wpAnyH_take (i := 6) (v := ?v30) rfl (by kernel_rfl) (by kernel_rfl) (by kernel_rfl) (fun _ _ _ h => h) (Or.inl ⟨by rfl, ?y30⟩) (by assumption) ?r30
        case y30 => (intro w hSw; go_simp; first | done | (with_reducible rfl))
        simp only [Act.put, List.getElem_toArray, List.getElem_cons_zero, List.getElem_cons_succ, List.setIfInBounds_toArray, List.set_cons_zero, List.set_cons_succ]
        refine wpAnyH_take (i := 7) (v := ?v31) rfl (by kernel_rfl) (by kernel_rfl) (by kernel_rfl) (fun _ _ _ h => h) (Or.inl ⟨by rfl, ?y31⟩) (by assumption) ?r31
        case y31 => (intro w hSw; go_simp; first | done | (with_reducible rfl))
        simp only [Act.put, List.getElem_toArray, List.getElem_cons_zero, List.getElem_cons_succ, List.setIfInBounds_toArray, List.set_cons_zero, List.set_cons_succ]
        refine wpAnyH_take (i := 8) (v := ?v32) rfl (by kernel_rfl) (by kernel_rfl) (by kernel_rfl) (fun _ _ _ h => h) (Or.inl ⟨by rfl, ?y32⟩) (by assumption) ?r32
        case y32 => (intro w hSw; go_simp; first | done | (with_reducible rfl))
        simp only [Act.put, List.getElem_toArray, List.getElem_cons_zero, List.getElem_cons_succ, List.setIfInBounds_toArray, List.set_cons_zero, List.set_cons_succ]
        refine wpAnyH_take (i := 9) (v := ?v33) rfl (by kernel_rfl) (by kernel_rfl) (by kernel_rfl) (fun _ _ _ h => h) (Or.inl ⟨by rfl, ?y33⟩) (by assumption) ?r33
        case y33 => (intro w hSw; go_simp; first | done | (with_reducible rfl))
        simp only [Act.put, List.getElem_toArray, List.getElem_cons_zero, List.getElem_cons_succ, List.setIfInBounds_toArray, List.set_cons_zero, List.set_cons_succ]
        have hc8 := heap_lt N8.out
        have hc9 := heap_lt N9.out
        have zX := c00.size
        have ne89 : ¬ (Yw0).heap.size = (Yw0).heap.size + 1 := by intro e9; have h8 := N8.out; rw [e9] at h8; have := h8.symm.trans N9.out; simp at this
        exact LEAF _ _ _ v1 v2 v3 y3 _ _ (VLF.mk (base := U2) (X := Yw4) (g8 := (Yw0).heap.size) (g9 := (Yw0).heap.size + 1) (v3 := v3) (y3 := y3) (lo := (Yw3).heap.size) (hi := Yw4.heap.size) (R := R) c00 N8.out N9.out D3.out D4.out (by omega) (by omega) (by omega) (by omega) (by omega) (by omega) ne89)
      ·
       go_simp
       have zzN9 : U2.heap.size ≤ (Yw0).heap.size := by have := c00.size; (try simp only [World.size_alloc] at this); first | exact this | omega
       have b1 := bal (Below.refl (Yw0).heap.size (Yw0)) Zwo
       have c00 := bAll c00 b1
       have CW := bAll CW b1
       have D1 := hide (D1.out.keep b1)
       have N9 := hide (heap_alloc_new (Yw0) Zwo)
       refine hK.out _ _ ?_ (fun hHeld => ?_)
       · exact fA.out _ CW
       clear hK K
       refine wpAnyH_ready (rs := [4, 10]) (by kernel_rfl) (by simp) ?_
       refine AllReadyH.cons rfl (fun K hK => ?_) (AllReadyH.cons rfl (fun K hK => ?_) AllReadyH.nil)
       ·
        go_simp
        go_at_call 13
        refine (toWord_any _ x _ (HA.out _ CW).2 hp hl).mono ?_
        rintro e Yw2 ⟨v2, rfl, D2', bb⟩
        have c00 := bAll c00 bb
        have CW := bAll CW bb
        have D1 := hide (D1.out.keep bb)
        have N9 := hide (bKeeps bb N9.out)
        have D2 := hide D2'.reads
        refine hK.out _ _ ?_ (fun hHeld => ?_)
        · exact fA.out _ CW
        clear hK K
        refine wpAnyH_ready (rs := [5, 10]) (by kernel_rfl) (by simp) ?_
        refine AllReadyH.cons rfl (fun K hK => ?_) (AllReadyH.cons rfl (fun K hK => ?_) AllReadyH.nil)
        ·
         go_simp
         go_at_call 11
         have hlo : U2.heap.size ≤ (Yw2).heap.size := c00.size
         have hbN9 := heap_lt N9.out
         refine (cS _ _ _ D1.out D2.out hn).mono ?_
         rintro e Yw3 ⟨v3, y3, rfl, D3', D4', bb⟩
         have c00 := bAll c00 bb
         have CW := bAll CW bb
         have D1 := hide (D1.out.keep bb)
         have N9 := hide (bKeeps bb N9.out)
         have D2 := hide (D2.out.keep bb)
         have zbb := bb.size
         have D3 := hide D3'.inside
         have D4 := hide (show WdO Yw3 (fun _ => False) y3 R.2.2.1 from D4'.flat HRf.1 HRf.2)
         refine hK.out _ _ ?_ (fun hHeld => ?_)
         · exact fA.out _ CW
         clear hK K
         refine wpAnyH_take (i := 6) (v := ?v34) rfl (by kernel_rfl) (by kernel_rfl) (by kernel_rfl) (fun _ _ _ h => h) (Or.inl ⟨by rfl, ?y34⟩) (by assumption) ?r34
         case y34 => (intro w hSw; go_simp; first | done | (with_reducible rfl))
         simp only [Act.put, List.getElem_toArray, List.getElem_cons_zero, List.getElem_cons_succ, List.setIfInBounds_toArray, List.set_cons_zero, List.set_cons_succ]
         refine wpAnyH_take (i := 7) (v := ?v35) rfl (by kernel_rfl) (by kernel_rfl) (by kernel_rfl) (fun _ _ _ h => h) (Or.inl ⟨by rfl, ?y35⟩) (by assumption) ?r35
         case y35 => (intro w hSw; go_simp; first | done | (with_reducible rfl))
         simp only [Act.put, List.getElem_toArray, List.getElem_cons_zero, List.getElem_cons_succ, List.setIfInBounds_toArray, List.set_cons_zero, List.set_cons_succ]
         refine wpAnyH_take (i := 8) (v := ?v36) rfl (by kernel_rfl) (by kernel_rfl) (by kernel_rfl) (fun _ _ _ h => h) (Or.inl ⟨by rfl, ?y36⟩) (by assumption) ?r36
         case y36 => (intro w hSw; go_simp; first | done | (with_reducible rfl))
         simp only [Act.put, List.getElem_toArray, List.getElem_cons_zero, List.getElem_cons_succ, List.setIfInBounds_toArray, List.set_cons_zero, List.set_cons_succ]
         refine wpAnyH_take (i := 9) (v := ?v37) rfl (by kernel_rfl) (by kernel_rfl) (by kernel_rfl) (fun _ _ _ h => h) (Or.inl ⟨by rfl, ?y37⟩) (by assumption) ?r37
         case y37 => (intro w hSw; go_simp; first | done | (with_reducible rfl))
         simp only [Act.put, List.getElem_toArray, List.getElem_cons_zero, List.getElem_cons_succ, List.setIfInBounds_toArray, List.set_cons_zero, List.set_cons_succ]
         refine wpAnyH_ready (rs := [10]) (by kernel_rfl) (by simp) ?_
         refine AllReadyH.cons rfl (fun K hK => ?_) AllReadyH.nil
         go_simp
         have zzN8 : U2.heap.size ≤ (Yw3).heap.size := by have := c00.size; (try simp only [World.size_alloc] at this); first | exact this | omega
         have zhN8 : Yw3.heap.size ≤ (Yw3).heap.size := by first | exact Nat.le_refl _ | omega
         have b4 := bal (Below.refl (Yw3).heap.size (Yw3)) Zvo
         have c00 := bAll c00 b4
         have CW := bAll CW b4
         have N9 := hide (bKeeps b4 N9.out)
         have D3 := hide (D3.out.keepB b4)
         have D4 := hide (D4.out.keepB b4)
         have N8 := hide (heap_alloc_new (Yw3) Zvo)
         refine hK.out _ _ ?_ (fun hHeld => ?_)
         · exact fA.out _ CW
         clear hK K
         have hc8 := heap_lt N8.out
         have hc9 := heap_lt N9.out
         have zX := c00.size
         have ne89 : ¬ (Yw3).heap.size = (Yw0).heap.size := by intro e9; have h8 := N8.out; rw [e9] at h8; have := h8.symm.trans N9.out; simp at this
         exact LEAF _ _ _ v1 v2 v3 y3 _ _ (VLF.mk (base := U2) (X := ((Yw3).alloc Zvo)) (g8 := (Yw3).heap.size) (g9 := (Yw0).heap.size) (v3 := v3) (y3 := y3) (lo := (Yw2).heap.size) (hi := Yw3.heap.size) (R := R) c00 N8.out N9.out D3.out D4.out (by omega) (by omega) (by omega) (by omega) (by omega) (by omega) ne89)
        ·
         go_simp
         have zzN8 : U2.heap.size ≤ (Yw2).heap.size := by have := c00.size; (try simp only [World.size_alloc] at this); first | exact this | omega
         have b3 := bal (Below.refl (Yw2).heap.size (Yw2)) Zvo
         have c00 := bAll c00 b3
         have CW := bAll CW b3
         have D1 := hide (D1.out.keep b3)
         have N9 := hide (bKeeps b3 N9.out)
         have D2 := hide (D2.out.keep b3)
         have N8 := hide (heap_alloc_new (Yw2) Zvo)
         refine hK.out _ _ ?_ (fun hHeld => ?_)
         · exact fA.out _ CW
         clear hK K
         refine wpAnyH_ready (rs := [5]) (by kernel_rfl) (by simp) ?_
         refine AllReadyH.cons rfl (fun K hK => ?_) AllReadyH.nil
         go_simp
         go_at_call 11
         have hlo : U2.heap.size ≤ (((Yw2).alloc Zvo)).heap.size := c00.size
         have hbN8 := heap_lt N8.out
         have hbN9 := heap_lt N9.out
         refine (cS _ _ _ D1.out D2.out hn).mono ?_
         rintro e Yw4 ⟨v3, y3, rfl, D3', D4', bb⟩
         have c00 := bAll c00 bb
         have CW := bAll CW bb
         have D1 := hide (D1.out.keep bb)
         have N9 := hide (bKeeps bb N9.out)
         have D2 := hide (D2.out.keep bb)
         have N8 := hide (bKeeps bb N8.out)
         have zbb := bb.size
         have D3 := hide D3'.inside
         have D4 := hide (show WdO Yw4 (fun _ => False) y3 R.2.2.1 from D4'.flat HRf.1 HRf.2)
         refine hK.out _ _ ?_ (fun hHeld => ?_)
         · exact fA.out _ CW
         clear hK K
         refine wpAnyH_take (i := 6) (v := ?v38) rfl (by kernel_rfl) (by kernel_rfl) (by kernel_rfl) (fun _ _ _ h => h) (Or.inl ⟨by rfl, ?y38⟩) (by assumption) ?r38
         case y38 => (intro w hSw; go_simp; first | done | (with_reducible rfl))
         simp only [Act.put, List.getElem_toArray, List.getElem_cons_zero, List.getElem_cons_succ, List.setIfInBounds_toArray, List.set_cons_zero, List.set_cons_succ]
         refine wpAnyH_take (i := 7) (v := ?v39) rfl (by kernel_rfl) (by kernel_rfl) (by kernel_rfl) (fun _ _ _ h => h) (Or.inl ⟨by rfl, ?y39⟩) (by assumption) ?r39
         case y39 => (intro w hSw; go_simp; first | done | (with_reducible rfl))
         simp only [Act.put, List.getElem_toArray, List.getElem_cons_zero, List.getElem_cons_succ, List.setIfInBounds_toArray, List.set_cons_zero, List.set_cons_succ]
         refine wpAnyH_take (i := 8) (v := ?v40) rfl (by kernel_rfl) (by kernel_rfl) (by kernel_rfl) (fun _ _ _ h => h) (Or.inl ⟨by rfl, ?y40⟩) (by assumption) ?r40
         case y40 => (intro w hSw; go_simp; first | done | (with_reducible rfl))
         simp only [Act.put, List.getElem_toArray, List.getElem_cons_zero, List.getElem_cons_succ, List.setIfInBounds_toArray, List.set_cons_zero, List.set_cons_succ]
         refine wpAnyH_take (i := 9) (v := ?v41) rfl (by kernel_rfl) (by kernel_rfl) (by kernel_rfl) (fun _ _ _ h => h) (Or.inl ⟨by rfl, ?y41⟩) (by assumption) ?r41
         case y41 => (intro w hSw; go_simp; first | done | (with_reducible rfl))
         simp only [Act.put, List.getElem_toArray, List.getElem_cons_zero, List.getElem_cons_succ, List.setIfInBounds_toArray, List.set_cons_zero, List.set_cons_succ]
         have hc8 := heap_lt N8.out
         have hc9 := heap_lt N9.out
         have zX := c00.size
         have ne89 : ¬ (Yw2).heap.size = (Yw0).heap.size := by intro e9; have h8 := N8.out; rw [e9] at h8; have := h8.symm.trans N9.out; simp at this
         exact LEAF _ _ _ v1 v2 v3 y3 _ _ (VLF.mk (base := U2) (X := Yw4) (g8 := (Yw2).heap.size) (g9 := (Yw0).heap.size) (v3 := v3) (y3 := y3) (lo := (((Yw2).alloc Zvo)).heap.size) (hi := Yw4.heap.size) (R := R) c00 N8.out N9.out D3.out D4.out (by omega) (by omega) (by omega) (by omega) (by omega) (by omega) ne89)
       ·
        go_simp
        have zzN8 : U2.heap.size ≤ (Yw0).heap.size + 1 := by have := c00.size; (try simp only [World.size_alloc] at this); first | exact this | omega
        have b2 := bal (Below.refl (((Yw0).alloc Zwo)).heap.size (((Yw0).alloc Zwo))) Zvo
        have c00 := bAll c00 b2
        have CW := bAll CW b2
        have D1 := hide (D1.out.keep b2)
        have N9 := hide (bKeeps b2 N9.out)
        have N8 := hide (al2_1 (Yw0) Zwo Zvo)
        refine hK.out _ _ ?_ (fun hHeld => ?_)
        · exact fA.out _ CW
        clear hK K
        refine wpAnyH_ready (rs := [4]) (by kernel_rfl) (by simp) ?_
        refine AllReadyH.cons rfl (fun K hK => ?_) AllReadyH.nil
        go_simp
        go_at_call 13
        refine (toWord_any _ x _ (HA.out _ CW).2 hp hl).mono ?_
        rintro e Yw3 ⟨v2, rfl, D2', bb⟩
        have c00 := bAll c00 bb
        have CW := bAll CW bb
        have D1 := hide (D1.out.keep bb)
        have N9 := hide (bKeeps bb N9.out)
        have N8 := hide (bKeeps bb N8.out)
        have D2 := hide D2'.reads
        refine hK.out _ _ ?_ (fun hHeld => ?_)
        · exact fA.out _ CW
        clear hK K
        refine wpAnyH_ready (rs := [5]) (by kernel_rfl) (by simp) ?_
        refine AllReadyH.cons rfl (fun K hK => ?_) AllReadyH.nil
        go_simp
        go_at_call 11
        have hlo : U2.heap.size ≤ (Yw3).heap.size := c00.size
        have hbN8 := heap_lt N8.out
        have hbN9 := heap_lt N9.out
        refine (cS _ _ _ D1.out D2.out hn).mono ?_
        rintro e Yw4 ⟨v3, y3, rfl, D3', D4', bb⟩
        have c00 := bAll c00 bb
        have CW := bAll CW bb
        have D1 := hide (D1.out.keep bb)
        have N9 := hide (bKeeps bb N9.out)
        have N8 := hide (bKeeps bb N8.out)
        have D2 := hide (D2.out.keep bb)
        have zbb := bb.size
        have D3 := hide D3'.inside
        have D4 := hide (show WdO Yw4 (fun _ => False) y3 R.2.2.1 from D4'.flat HRf.1 HRf.2)
        refine hK.out _ _ ?_ (fun hHeld => ?_)
        · exact fA.out _ CW
        clear hK K
        refine wpAnyH_take (i := 6) (v := ?v42) rfl (by kernel_rfl) (by kernel_rfl) (by kernel_rfl) (fun _ _ _ h => h) (Or.inl ⟨by rfl, ?y42⟩) (by assumption) ?r42
        case y42 => (intro w hSw; go_simp; first | done | (with_reducible rfl))
        simp only [Act.put, List.getElem_toArray, List.getElem_cons_zero, List.getElem_cons_succ, List.setIfInBounds_toArray, List.set_cons_zero, List.set_cons_succ]
        refine wpAnyH_take (i := 7) (v := ?v43) rfl (by kernel_rfl) (by kernel_rfl) (by kernel_rfl) (fun _ _ _ h => h) (Or.inl ⟨by rfl, ?y43⟩) (by assumption) ?r43
        case y43 => (intro w hSw; go_simp; first | done | (with_reducible rfl))
        simp only [Act.put, List.getElem_toArray, List.getElem_cons_zero, List.getElem_cons_succ, List.setIfInBounds_toArray, List.set_cons_zero, List.set_cons_succ]
        refine wpAnyH_take (i := 8) (v := ?v44) rfl (by kernel_rfl) (by kernel_rfl) (by kernel_rfl) (fun _ _ _ h => h) (Or.inl ⟨by rfl, ?y44⟩) (by assumption) ?r44
        case y44 => (intro w hSw; go_simp; first | done | (with_reducible rfl))
        simp only [Act.put, List.getElem_toArray, List.getElem_cons_zero, List.getElem_cons_succ, List.setIfInBounds_toArray, List.set_cons_zero, List.set_cons_succ]
        refine wpAnyH_take (i := 9) (v := ?v45) rfl (by kernel_rfl) (by kernel_rfl) (by kernel_rfl) (fun _ _ _ h => h) (Or.inl ⟨by rfl, ?y45⟩) (by assumption) ?r45
        case y45 => (intro w hSw; go_simp; first | done | (with_reducible rfl))
        simp only [Act.put, List.getElem_toArray, List.getElem_cons_zero, List.getElem_cons_succ, List.setIfInBounds_toArray, List.set_cons_zero, List.set_cons_succ]
        have hc8 := heap_lt N8.out
        have hc9 := heap_lt N9.out
        have zX := c00.size
        have ne89 : ¬ (Yw0).heap.size + 1 = (Yw0).heap.size := by intro e9; have h8 := N8.out; rw [e9] at h8; have := h8.symm.trans N9.out; simp at this
        exact LEAF _ _ _ v1 v2 v3 y3 _ _ (VLF.mk (base := U2) (X := Yw4) (g8 := (Yw0).heap.size + 1) (g9 := (Yw0).heap.size) (v3 := v3) (y3 := y3) (lo := (Yw3).heap.size) (hi := Yw4.heap.size) (R := R) c00 N8.out N9.out D3.out D4.out (by omega) (by omega) (by omega) (by omega) (by omega) (by omega) ne89)
     ·
      go_simp
      have zzN8 : U2.heap.size ≤ (U2.drew).heap.size := by have := c00.size; (try simp only [World.size_alloc] at this); first | exact this | omega
      have b0 := bal (Below.refl (U2.drew).heap.size (U2.drew)) Zvo
      have c00 := bAll c00 b0
      have CW := bAll CW b0
      have N8 := hide (heap_alloc_new (U2.drew) Zvo)
      refine hK.out _ _ ?_ (fun hHeld => ?_)
      · exact fA.out _ CW
      clear hK K
      refine wpAnyH_ready (rs := [1, 11]) (by kernel_rfl) (by simp) ?_
      refine AllReadyH.cons rfl (fun K hK => ?_) (AllReadyH.cons rfl (fun K hK => ?_) AllReadyH.nil)
      ·
       go_simp
       go_at_call 12
       refine (toSynVoter_any _ P xs _ (HA.out _ CW).1 hn).mono ?_
       rintro e Yw1 ⟨v1, rfl, D1', bb⟩
       have c00 := bAll c00 bb
       have CW := bAll CW bb
       have N8 := hide (bKeeps bb N8.out)
       have D1 := hide D1'.reads
       refine hK.out _ _ ?_ (fun hHeld => ?_)
       · exact fA.out _ CW
       clear hK K
       refine wpAnyH_ready (rs := [4, 11]) (by kernel_rfl) (by simp) ?_
       refine AllReadyH.cons rfl (fun K hK => ?_) (AllReadyH.cons rfl (fun K hK => ?_) AllReadyH.nil)
       ·
        go_simp
        go_at_call 13
        refine (toWord_any _ x _ (HA.out _ CW).2 hp hl).mono ?_
        rintro e Yw2 ⟨v2, rfl, D2', bb⟩
        have c00 := bAll c00 bb
        have CW := bAll CW bb
        have N8 := hide (bKeeps bb N8.out)
        have D1 := hide (D1.out.keep bb)
        have D2 := hide D2'.reads
        refine hK.out _ _ ?_ (fun hHeld => ?_)
        · exact fA.out _ CW
        clear hK K
        refine wpAnyH_ready (rs := [5, 11]) (by kernel_rfl) (by simp) ?_
        refine AllReadyH.cons rfl (fun K hK => ?_) (AllReadyH.cons rfl (fun K hK => ?_) AllReadyH.nil)
        ·
         go_simp
         go_at_call 11
         have hlo : U2.heap.size ≤ (Yw2).heap.size := c00.size
         have hbN8 := heap_lt N8.out
         refine (cS _ _ _ D1.out D2.out hn).mono ?_
         rintro e Yw3 ⟨v3, y3, rfl, D3', D4', bb⟩
         have c00 := bAll c00 bb
         have CW := bAll CW bb
         have N8 := hide (bKeeps bb N8.out)
         have D1 := hide (D1.out.keep bb)
         have D2 := hide (D2.out.keep bb)
         have zbb := bb.size
         have D3 := hide D3'.inside
         have D4 := hide (show WdO Yw3 (fun _ => False) y3 R.2.2.1 from D4'.flat HRf.1 HRf.2)
         refine hK.out _ _ ?_ (fun hHeld => ?_)
         · exact fA.out _ CW
         clear hK K
         refine wpAnyH_take (i := 6) (v := ?v46) rfl (by kernel_rfl) (by kernel_rfl) (by kernel_rfl) (fun _ _ _ h => h) (Or.inl ⟨by rfl, ?y46⟩) (by assumption) ?r46
         case y46 => (intro w hSw; go_simp; first | done | (with_reducible rfl))
         simp only [Act.put, List.getElem_toArray, List.getElem_cons_zero, List.getElem_cons_succ, List.setIfInBounds_toArray, List.set_cons_zero, List.set_cons_succ]
         refine wpAnyH_take (i := 7) (v := ?v47) rfl (by kernel_rfl) (by kernel_rfl) (by kernel_rfl) (fun _ _ _ h => h) (Or.inl ⟨by rfl, ?y47⟩) (by assumption) ?r47
         case y47 => (intro w hSw; go_simp; first | done | (with_reducible rfl))
         simp only [Act.put, List.getElem_toArray, List.getElem_cons_zero, List.getElem_cons_succ, List.setIfInBounds_toArray, List.set_cons_zero, List.set_cons_succ]
         refine wpAnyH_take (i := 8) (v := ?v48) rfl (by kernel_rfl) (by kernel_rfl) (by kernel_rfl) (fun _ _ _ h => h) (Or.inl ⟨by rfl, ?y48⟩) (by assumption) ?r48
         case y48 => (intro w hSw; go_simp; first | done | (with_reducible rfl))
         simp only [Act.put, List.getElem_toArray, List.getElem_cons_zero, List.getElem_cons_succ, List.setIfInBounds_toArray, List.set_cons_zero, List.set_cons_succ]
         refine wpAnyH_take (i := 9) (v := ?v49) rfl (by kernel_rfl) (by kernel_rfl) (by kernel_rfl) (fun _ _ _ h => h) (Or.inl ⟨by rfl, ?y49⟩) (by assumption) ?r49
         case y49 => (intro w hSw; go_simp; first | done | (with_reducible rfl))
         simp only [Act.put, List.getElem_toArray, List.getElem_cons_zero, List.getElem_cons_succ, List.setIfInBounds_toArray, List.set_cons_zero, List.set_cons_succ]
         refine wpAnyH_ready (rs := [11]) (by kernel_rfl) (by simp) ?_
         refine AllReadyH.cons rfl (fun K hK => ?_) AllReadyH.nil
         go_simp
         have zzN9 : U2.heap.size ≤ (Yw3).heap.size := by have := c00.size; (try simp only [World.size_alloc] at this); first | exact this | omega
         have zhN9 : Yw3.heap.size ≤ (Yw3).heap.size := by first | exact Nat.le_refl _ | omega
         have b4 := bal (Below.refl (Yw3).heap.size (Yw3)) Zwo
         have c00 := bAll c00 b4
         have CW := bAll CW b4
         have N8 := hide (bKeeps b4 N8.out)
         have D3 := hide (D3.out.keepB b4)
         have D4 := hide (D4.out.keepB b4)
         have N9 := hide (heap_alloc_new (Yw3) Zwo)
         refine hK.out _ _ ?_ (fun hHeld => ?_)
         · exact fA.out _ CW
         clear hK K
         have hc8 := heap_lt N8.out
         have hc9 := heap_lt N9.out
         have zX := c00.size
         have ne89 : ¬ (U2.drew).heap.size = (Yw3).heap.size := by intro e9; have h8 := N8.out; rw [e9] at h8; have := h8.symm.trans N9.out; simp at this
         exact LEAF _ _ _ v1 v2 v3 y3 _ _ (VLF.mk (base := U2) (X := ((Yw3).alloc Zwo)) (g8 := (U2.drew).heap.size) (g9 := (Yw3).heap.size) (v3 := v3) (y3 := y3) (lo := (Yw2).heap.size) (hi := Yw3.heap.size) (R := R) c00 N8.out N9.out D3.out D4.out (by omega) (by omega) (by omega) (by omega) (by omega) (by omega) ne89)
        ·
         go_simp
         have zzN9 : U2.heap.size ≤ (Yw2).heap.size := by have := c00.size; (try simp only [World.size_alloc] at this); first | exact this | omega
         have b3 := bal (Below.refl (Yw2).heap.size (Yw2)) Zwo
         have c00 := bAll c00 b3
         have CW := bAll CW b3
         have N8 := hide (bKeeps b3 N8.out)
         have D1 := hide (D1.out.keep b3)
         have D2 := hide (D2.out.keep b3)
         have N9 := hide (heap_alloc_new (Yw2) Zwo)
         refine hK.out _ _ ?_ (fun hHeld => ?_)
         · exact fA.out _ CW
         clear hK K
         refine wpAnyH_ready (rs := [5]) (by kernel_rfl) (by simp) ?_
         refine AllReadyH.cons rfl (fun K hK => ?_) AllReadyH.nil
         go_simp
         go_at_call 11
         have hlo : U2.heap.size ≤ (((Yw2).alloc Zwo)).heap.size := c00.size
         have hbN8 := heap_lt N8.out
         have hbN9 := heap_lt N9.out
         refine (cS _ _ _ D1.out D2.out hn).mono ?_
         rintro e Yw4 ⟨v3, y3, rfl, D3', D4', bb⟩
         have c00 := bAll c00 bb
         have CW := bAll CW bb
         have N8 := hide (bKeeps bb N8.out)
         have D1 := hide (D1.out.keep bb)
         have D2 := hide (D2.out.keep bb)
         have N9 := hide (bKeeps bb N9.out)
         have zbb := bb.size
         have D3 := hide D3'.inside
         have D4 := hide (show WdO Yw4 (fun _ => False) y3 R.2.2.1 from D4'.flat HRf.1 HRf.2)
         refine hK.out _ _ ?_ (fun hHeld => ?_)
         · exact fA.out _ CW
         clear hK K
         refine wpAnyH_take (i := 6) (v := ?v50) rfl (by kernel_rfl) (by kernel_rfl) (by kernel_rfl) (fun _ _ _ h => h) (Or.inl ⟨by rfl, ?y50⟩) (by assumption) ?r50
         case y50 => (intro w hSw; go_simp; first | done | (with_reducible rfl))
         simp only [Act.put, List.getElem_toArray, List.getElem_cons_zero, List.getElem_cons_succ, List.setIfInBounds_toArray, List.set_cons_zero, List.set_cons_succ]
         refine wpAnyH_take (i := 7) (v := ?v51) rfl (by kernel_rfl) (by kernel_rfl) (by kernel_rfl) (fun _ _ _ h => h) (Or.inl ⟨by rfl, ?y51⟩) (by assumption) ?r51
         case y51 => (intro w hSw; go_simp; first | done | (with_reducible rfl))
         simp only [Act.put, List.getElem_toArray, List.getElem_cons_zero, List.getElem_cons_succ, List.setIfInBounds_toArray, List.set_cons_zero, List.set_cons_succ]
         refine wpAnyH_take (i := 8) (v := ?v52) rfl (by kernel_rfl) (by kernel_rfl) (by kernel_rfl) (fun _ _ _ h => h) (Or.inl ⟨by rfl, ?y52⟩) (by assumption) ?r52
         case y52 => (intro w hSw; go_simp; first | done | (with_reducible rfl))
         simp only [Act.put, List.getElem_toArray, List.getElem_cons_zero, List.getElem_cons_succ, List.setIfInBounds_toArray, List.set_cons_zero, List.set_cons_succ]
         refine wpAnyH_take (i := 9) (v := ?v53) rfl (by kernel_rfl) (by kernel_rfl) (by kernel_rfl) (fun _ _ _ h => h) (Or.inl ⟨by rfl, ?y53⟩) (by assumption) ?r53
         case y53 => (intro w hSw; go_simp; first | done | (with_reducible rfl))
         simp only [Act.put, List.getElem_toArray, List.getElem_cons_zero, List.getElem_cons_succ, List.setIfInBounds_toArray, List.set_cons_zero, List.set_cons_succ]
         have hc8 := heap_lt N8.out
         have hc9 := heap_lt N9.out
         have zX := c00.size
         have ne89 : ¬ (U2.drew).heap.size = (Yw2).heap.size := by intro e9; have h8 := N8.out; rw [e9] at h8; have := h8.symm.trans N9.out; simp at this
         exact LEAF _ _ _ v1 v2 v3 y3 _ _ (VLF.mk (base := U2) (X := Yw4) (g8 := (U2.drew).heap.size) (g9 := (Yw2).heap.size) (v3 := v3) (y3 := y3) (lo := (((Yw2).alloc Zwo)).heap.size) (hi := Yw4.heap.size) (R := R) c00 N8.out N9.out D3.out D4.out (by omega) (by omega) (by omega) (by omega) (by omega) (by omega) ne89)
       ·
        go_simp
        have zzN9 : U2.heap.size ≤ (Yw1).heap.size := by have := c00.size; (try simp only [World.size_alloc] at this); first | exact this | omega
        have b2 := bal (Below.refl (Yw1).heap.size (Yw1)) Zwo
        have c00 := bAll c00 b2
        have CW := bAll CW b2
        have N8 := hide (bKeeps b2 N8.out)
        have D1 := hide (D1.out.keep b2)
        have N9 := hide (heap_alloc_new (Yw1) Zwo)
        refine hK.out _ _ ?_ (fun hHeld => ?_)
        · exact fA.out _ CW
        clear hK K
        refine wpAnyH_ready (rs := [4]) (by kernel_rfl) (by simp) ?_
        refine AllReadyH.cons rfl (fun K hK => ?_) AllReadyH.nil
        go_simp
        go_at_call 13
        refine (toWord_any _ x _ (HA.out _ CW).2 hp hl).mono ?_
        rintro e Yw3 ⟨v2, rfl, D2', bb⟩
        have c00 := bAll c00 bb
        have CW := bAll CW bb
        have N8 := hide (bKeeps bb N8.out)
        have D1 := hide (D1.out.keep bb)
        have N9 := hide (bKeeps bb N9.out)
        have D2 := hide D2'.reads
        refine hK.out _ _ ?_ (fun hHeld => ?_)
        · exact fA.out _ CW
        clear hK K
        refine wpAnyH_ready (rs := [5]) (by kernel_rfl) (by simp) ?_
        refine AllReadyH.cons rfl (fun K hK => ?_) AllReadyH.nil
        go_simp
        go_at_call 11
        have hlo : U2.heap.size ≤ (Yw3).heap.size := c00.size
        have hbN8 := heap_lt N8.out
        have hbN9 := heap_lt N9.out
        refine (cS _ _ _ D1.out D2.out hn).mono ?_
        rintro e Yw4 ⟨v3, y3, rfl, D3', D4', bb⟩
        have c00 := bAll c00 bb
        have CW := bAll CW bb
        have N8 := hide (bKeeps bb N8.out)
        have D1 := hide (D1.out.keep bb)
        have N9 := hide (bKeeps bb N9.out)
        have D2 := hide (D2.out.keep bb)
        have zbb := bb.size
        have D3 := hide D3'.inside
        have D4 := hide (show WdO Yw4 (fun _ => False) y3 R.2.2.1 from D4'.flat HRf.1 HRf.2)
        refine hK.out _ _ ?_ (fun hHeld => ?_)
        · exact fA.out _ CW
        clear hK K
        refine wpAnyH_take (i := 6) (v := ?v54) rfl (by kernel_rfl) (by kernel_rfl) (by kernel_rfl) (fun _ _ _ h => h) (Or.inl ⟨by rfl, ?y54⟩) (by assumption) ?r54
        case y54 => (intro w hSw; go_simp; first | done | (with_reducible rfl))
        simp only [Act.put, List.getElem_toArray, List.getElem_cons_zero, List.getElem_cons_succ, List.setIfInBounds_toArray, List.set_cons_zero, List.set_cons_succ]
        refine wpAnyH_take (i := 7) (v := ?v55) rfl (by kernel_rfl) (by kernel_rfl) (by kernel_rfl) (fun _ _ _ h => h) (Or.inl ⟨by rfl, ?y55⟩) (by assumption) ?r55
        case y55 => (intro w hSw; go_simp; first | done | (with_reducible rfl))
        simp only [Act.put, List.getElem_toArray, List.getElem_cons_zero, List.getElem_cons_succ, List.setIfInBounds_toArray, List.set_cons_zero, List.set_cons_succ]
        refine wpAnyH_take (i := 8) (v := ?v56) rfl (by kernel_rfl) (by kernel_rfl) (by kernel_rfl) (fun _ _ _ h => h) (Or.inl ⟨by rfl, ?y56⟩) (by assumption) ?r56
        case y56 => (intro w hSw; go_simp; first | done | (with_reducible rfl))
        simp only [Act.put, List.getElem_toArray, List.getElem_cons_zero, List.getElem_cons_succ, List.setIfInBounds_toArray, List.set_cons_zero, List.set_cons_succ]
        refine wpAnyH_take (i := 9) (v := ?v57) rfl (by kernel_rfl) (by kernel_rfl) (by kernel_rfl) (fun _ _ _ h => h) (Or.inl ⟨by rfl, ?y57⟩) (by assumption) ?r57
        case y57 => (intro w hSw; go_simp; first | done | (with_reducible rfl))
        simp only [Act.put, List.getElem_toArray, List.getElem_cons_zero, List.getElem_cons_succ, List.setIfInBounds_toArray, List.set_cons_zero, List.set_cons_succ]
        have hc8 := heap_lt N8.out
        have hc9 := heap_lt N9.out
        have zX := c00.size
        have ne89 : ¬ (U2.drew).heap.size = (Yw1).heap.size := by intro e9; have h8 := N8.out; rw [e9] at h8; have := h8.symm.trans N9.out; simp at this
        exact LEAF _ _ _ v1 v2 v3 y3 _ _ (VLF.mk (base := U2) (X := Yw4) (g8 := (U2.drew).heap.size) (g9 := (Yw1).heap.size) (v3 := v3) (y3 := y3) (lo := (Yw3).heap.size) (hi := Yw4.heap.size) (R := R) c00 N8.out N9.out D3.out D4.out (by omega) (by omega) (by omega) (by omega) (by omega) (by omega) ne89)
      ·
       go_simp
       have zzN9 : U2.heap.size ≤ (U2.drew).heap.size + 1 := by have := c00.size; (try simp only [World.size_alloc] at this); first | exact this | omega
       have b1 := bal (Below.refl (((U2.drew).alloc Zvo)).heap.size (((U2.drew).alloc Zvo))) Zwo
       have c00 := bAll c00 b1
       have CW := bAll CW b1
       have N8 := hide (bKeeps b1 N8.out)
       have N9 := hide (al2_1 (U2.drew) Zvo Zwo)
       refine hK.out _ _ ?_ (fun hHeld => ?_)
       · exact fA.out _ CW
       clear hK K
       refine wpAnyH_ready (rs := [1]) (by kernel_rfl) (by simp) ?_
       refine AllReadyH.cons rfl (fun K hK => ?_) AllReadyH.nil
       go_simp
       go_at_call 12
       refine (toSynVoter_any _ P xs _ (HA.out _ CW).1 hn).mono ?_
       rintro e Yw2 ⟨v1, rfl, D1', bb⟩
       have c00 := bAll c00 bb
       have CW := bAll CW bb
       have N8 := hide (bKeeps bb N8.out)
       have N9 := hide (bKeeps bb N9.out)
       have D1 := hide D1'.reads
       refine hK.out _ _ ?_ (fun hHeld => ?_)
       · exact fA.out _ CW
       clear hK K
       refine wpAnyH_ready (rs := [4]) (by kernel_rfl) (by simp) ?_
       refine AllReadyH.cons rfl (fun K hK => ?_) AllReadyH.nil
       go_simp
       go_at_call 13
       refine (toWord_any _ x _ (HA.out _ CW).2 hp hl).mono ?_
       rintro e Yw3 ⟨v2, rfl, D2', bb⟩
       have c00 := bAll c00 bb
       have CW := bAll CW bb
       have N8 := hide (bKeeps bb N8.out)
       have N9 := hide (bKeeps bb N9.out)
       have D1 := hide (D1.out.keep bb)
       have D2 := hide D2'.reads
       refine hK.out _ _ ?_ (fun hHeld => ?_)
       · exact fA.out _ CW
       clear hK K
       refine wpAnyH_ready (rs := [5]) (by kernel_rfl) (by simp) ?_
       refine AllReadyH.cons rfl (fun K hK => ?_) AllReadyH.nil
       go_simp
       go_at_call 11
       have hlo : U2.heap.size ≤ (Yw3).heap.size := c00.size
       have hbN8 := heap_lt N8.out
       have hbN9 := heap_lt N9.out
       refine (cS _ _ _ D1.out D2.out hn).mono ?_
       rintro e Yw4 ⟨v3, y3, rfl, D3', D4', bb⟩
       have c00 := bAll c00 bb
       have CW := bAll CW bb
       have N8 := hide (bKeeps bb N8.out)
       have N9 := hide (bKeeps bb N9.out)
       have D1 := hide (D1.out.keep bb)
       have D2 := hide (D2.out.keep bb)
       have zbb := bb.size
       have D3 := hide D3'.inside
       have D4 := hide (show WdO Yw4 (fun _ => False) y3 R.2.2.1 from D4'.flat HRf.1 HRf.2)
       refine hK.out _ _ ?_ (fun hHeld => ?_)
       · exact fA.out _ CW
       clear hK K
       refine wpAnyH_take (i := 6) (v := ?v58) rfl (by kernel_rfl) (by kernel_rfl) (by kernel_rfl) (fun _ _ _ h => h) (Or.inl ⟨by rfl, ?y58⟩) (by assumption) ?r58
       case y58 => (intro w hSw; go_simp; first | done | (with_reducible rfl))
       simp only [Act.put, List.getElem_toArray, List.getElem_cons_zero, List.getElem_cons_succ, List.setIfInBounds_toArray, List.set_cons_zero, List.set_cons_succ]
       refine wpAnyH_take (i := 7) (v := ?v59) rfl (by kernel_rfl) (by kernel_rfl) (by kernel_rfl) (fun _ _ _ h => h) (Or.inl ⟨by rfl, ?y59⟩) (by assumption) ?r59
       case y59 => (intro w hSw; go_simp; first | done | (with_reducible rfl))
       simp only [Act.put, List.getElem_toArray, List.getElem_cons_zero, List.getElem_cons_succ, List.setIfInBounds_toArray, List.set_cons_zero, List.set_cons_succ]
       refine wpAnyH_take (i := 8) (v := ?v60) rfl (by kernel_rfl) (by kernel_rfl) (by kernel_rfl) (fun _ _ _ h => h) (Or.inl ⟨by rfl, ?y60⟩) (by assumption) ?r60
       case y60 => (intro w hSw; go_simp; first | done | (with_reducible rfl))
       simp only [Act.put, List.getElem_toArray, List.getElem_cons_zero, List.getElem_cons_succ, List.setIfInBounds_toArray, List.set_cons_zero, List.set_cons_succ]
       refine wpAnyH_take (i := 9) (v := ?v61) rfl (by kernel_rfl) (by kernel_rfl) (by kernel_rfl) (fun _ _ _ h => h) (Or.inl ⟨by rfl, ?y61⟩) (by assumption) ?r61
       case y61 => (intro w hSw; go_simp; first | done | (with_reducible rfl))
       simp only [Act.put, List.getElem_toArray, List.getElem_cons_zero, List.getElem_cons_succ, List.setIfInBounds_toArray, List.set_cons_zero, List.set_cons_succ]
       have hc8 := heap_lt N8.out
       have hc9 := heap_lt N9.out
       have zX := c00.size
       have ne89 : ¬ (U2.drew).heap.size = (U2.drew).heap.size + 1 := by intro e9; have h8 := N8.out; rw [e9] at h8; have := h8.symm.trans N9.out; simp at this
       exact LEAF _ _ _ v1 v2 v3 y3 _ _ (VLF.mk (base := U2) (X := Yw4) (g8 := (U2.drew).heap.size) (g9 := (U2.drew).heap.size + 1) (v3 := v3) (y3 := y3) (lo := (Yw3).heap.size) (hi := Yw4.heap.size) (R := R) c00 N8.out N9.out D3.out D4.out (by omega) (by omega) (by omega) (by omega) (by omega) (by omega) ne89)
     ·
      go_simp
      have zzN9 : U2.heap.size ≤ (U2.drew).heap.size := by have := c00.size; (try simp only [World.size_alloc] at this); first | exact this | omega
      have b0 := bal (Below.refl (U2.drew).heap.size (U2.drew)) Zwo
      have c00 := bAll c00 b0
      have CW := bAll CW b0
      have N9 := hide (heap_alloc_new (U2.drew) Zwo)
      refine hK.out _ _ ?_ (fun hHeld => ?_)
      · exact fA.out _ CW
      clear hK K
      refine wpAnyH_ready (rs := [1, 10]) (by kernel_rfl) (by simp) ?_
      refine AllReadyH.cons rfl (fun K hK => ?_) (AllReadyH.cons rfl (fun K hK => ?_) AllReadyH.nil)
      ·
       go_simp
       go_at_call 12
       refine (toSynVoter_any _ P xs _ (HA.out _ CW).1 hn).mono ?_
       rintro e Yw1 ⟨v1, rfl, D1', bb⟩
       have c00 := bAll c00 bb
       have CW := bAll CW bb
       have N9 := hide (bKeeps bb N9.out)
       have D1 := hide D1'.reads
       refine hK.out _ _ ?_ (fun hHeld => ?_)
       · exact fA.out _ CW
       clear hK K
       refine wpAnyH_ready (rs := [4, 10]) (by kernel_rfl) (by simp) ?_
       refine AllReadyH.cons rfl (fun K hK => ?_) (AllReadyH.cons rfl (fun K hK => ?_) AllReadyH.nil)
       ·
        go_simp
        go_at_call 13
        refine (toWord_any _ x _ (HA.out _ CW).2 hp hl).mono ?_
        rintro e Yw2 ⟨v2, rfl, D2', bb⟩
        have c00 := bAll c00 bb
        have CW := bAll CW bb
        have N9 := hide (bKeeps bb N9.out)
        have D1 := hide (D1.out.keep bb)
        have D2 := hide D2'.reads
        refine hK.out _ _ ?_ (fun hHeld => ?_)
        · exact fA.out _ CW
        clear hK K
        refine wpAnyH_ready (rs := [5, 10]) (by kernel_rfl) (by simp) ?_
        refine AllReadyH.cons rfl (fun K hK => ?_) (AllReadyH.cons rfl (fun K hK => ?_) AllReadyH.nil)
        ·
         go_simp
         go_at_call 11
         have hlo : U2.heap.size ≤ (Yw2).heap.size := c00.size
         have hbN9 := heap_lt N9.out
         refine (cS _ _ _ D1.out D2.out hn).mono ?_
         rintro e Yw3 ⟨v3, y3, rfl, D3', D4', bb⟩
         have c00 := bAll c00 bb
         have CW := bAll CW bb
         have N9 := hide (bKeeps bb N9.out)
         have D1 := hide (D1.out.keep bb)
         have D2 := hide (D2.out.keep bb)
         have zbb := bb.size
         have D3 := hide D3'.inside
         have D4 := hide (show WdO Yw3 (fun _ => False) y3 R.2.2.1 from D4'.flat HRf.1 HRf.2)
         refine hK.out _ _ ?_ (fun hHeld => ?_)
         · exact fA.out _ CW
         clear hK K
         refine wpAnyH_take (i := 6) (v := ?v62) rfl (by kernel_rfl) (by kernel_rfl) (by kernel_rfl) (fun _ _ _ h => h) (Or.inl ⟨by rfl, ?y62⟩) (by assumption) ?r62
         case y62 => (intro w hSw; go_simp; first | done | (with_reducible rfl))
         simp only [Act.put, List.getElem_toArray, List.getElem_cons_zero, List.getElem_cons_succ, List.setIfInBounds_toArray, List.set_cons_zero, List.set_cons_succ]
         refine wpAnyH_take (i := 7) (v := ?v63) rfl (by kernel_rfl) (by kernel_rfl) (by kernel_rfl) (fun _ _ _ h => h) (Or.inl ⟨by rfl, ?y63⟩) (by assumption) ?r63
         case y63 => (intro w hSw; go_simp; first | done | (with_reducible rfl))
         simp only [Act.put, List.getElem_toArray, List.getElem_cons_zero, List.getElem_cons_succ, List.setIfInBounds_toArray, List.set_cons_zero, List.set_cons_succ]
         refine wpAnyH_take (i := 8) (v := ?v64) rfl (by kernel_rfl) (by kernel_rfl) (by kernel_rfl) (fun _ _ _ h => h) (Or.inl ⟨by rfl, ?y64⟩) (by assumption) ?r64
         case y64 => (intro w hSw; go_simp; first | done | (with_reducible rfl))
         simp only [Act.put, List.getElem_toArray, List.getElem_cons_zero, List.getElem_cons_succ, List.setIfInBounds_toArray, List.set_cons_zero, List.set_cons_succ]
         refine wpAnyH_take (i := 9) (v := ?v65) rfl (by kernel_rfl) (by kernel_rfl) (by kernel_rfl) (fun _ _ _ h => h) (Or.inl ⟨by rfl, ?y65⟩) (by assumption) ?r65
         case y65 => (intro w hSw; go_simp; first | done | (with_reducible rfl))
         simp only [Act.put, List.getElem_toArray, List.getElem_cons_zero, List.getElem_cons_succ, List.setIfInBounds_toArray, List.set_cons_zero, List.set_cons_succ]
         refine wpAnyH_ready (rs := [10]) (by kernel_rfl) (by simp) ?_
         refine AllReadyH.cons rfl (fun K hK => ?_) AllReadyH.nil
         go_simp
         have zzN8 : U2.heap.size ≤ (Yw3).heap.size := by have := c00.size; (try simp only [World.size_alloc] at this); first | exact this | omega
         have zhN8 : Yw3.heap.size ≤ (Yw3).heap.size := by first | exact Nat.le_refl _ | omega
         have b4 := bal (Below.refl (Yw3).heap.size (Yw3)) Zvo
         have c00 := bAll c00 b4
         have CW := bAll CW b4
         have N9 := hide (bKeeps b4 N9.out)
         have D3 := hide (D3.out.keepB b4)
         have D4 := hide (D4.out.keepB b4)
         have N8 := hide (heap_alloc_new (Yw3) Zvo)
         refine hK.out _ _ ?_ (fun hHeld => ?_)
         · exact fA.out _ CW
         clear hK K
         have hc8 := heap_lt N8.out
         have hc9 := heap_lt N9.out
         have zX := c00.size
         have ne89 : ¬ (Yw3).heap.size = (U2.drew).heap.size := by intro e9; have h8 := N8.out; rw [e9] at h8; have := h8.symm.trans N9.out; simp at this
         exact LEAF _ _ _ v1 v2 v3 y3 _ _ (VLF.mk (base := U2) (X := ((Yw3).alloc Zvo)) (g8 := (Yw3).heap.size) (g9 := (U2.drew).heap.size) (v3 := v3) (y3 := y3) (lo := (Yw2).heap.size) (hi := Yw3.heap.size) (R := R) c00 N8.out N9.out D3.out D4.out (by omega) (by omega) (by omega) (by omega) (by omega) (by omega) ne89)
        ·
         go_simp
         have zzN8 : U2.heap.size ≤ (Yw2).heap.size := by have := c00.size; (try simp only [World.size_alloc] at this); first | exact this | omega
         have b3 := bal (Below.refl (Yw2).heap.size (Yw2)) Zvo
         have c00 := bAll c00 b3
         have CW := bAll CW b3
         have N9 := hide (bKeeps b3 N9.out)
         have D1 := hide (D1.out.keep b3)
         have D2 := hide (D2.out.keep b3)
         have N8 := hide (heap_alloc_new (Yw2) Zvo)
         refine hK.out _ _ ?_ (fun hHeld => ?_)
         · exact fA.out _ CW
         clear hK K
         refine wpAnyH_ready (rs := [5]) (by kernel_rfl) (by simp) ?_
         refine AllReadyH.cons rfl (fun K hK => ?_) AllReadyH.nil
         go_simp
         go_at_call 11
         have hlo : U2.heap.size ≤ (((Yw2).alloc Zvo)).heap.size := c00.size
         have hbN8 := heap_lt N8.out
         have hbN9 := heap_lt N9.out
         refine (cS _ _ _ D1.out D2.out hn).mono ?_
         rintro e Yw4 ⟨v3, y3, rfl, D3', D4', bb⟩
         have c00 := bAll c00 bb
         have CW := bAll CW bb
         have N9 := hide (bKeeps bb N9.out)
         have D1 := hide (D1.out.keep bb)
         have D2 := hide (D2.out.keep bb)
         have N8 := hide (bKeeps bb N8.out)
         have zbb := bb.size
         have D3 := hide D3'.inside
         have D4 := hide (show WdO Yw4 (fun _ => False) y3 R.2.2.1 from D4'.flat HRf.1 HRf.2)
         refine hK.out _ _ ?_ (fun hHeld => ?_)
         · exact fA.out _ CW
         clear hK K
         refine wpAnyH_take (i := 6) (v := ?v66) rfl (by kernel_rfl) (by kernel_rfl) (by kernel_rfl) (fun _ _ _ h => h) (Or.inl ⟨by rfl, ?y66⟩) (by assumption) ?r66
         case y66 => (intro w hSw; go_simp; first | done | (with_reducible rfl))
         simp only [Act.put, List.getElem_toArray, List.getElem_cons_zero, List.getElem_cons_succ, List.setIfInBounds_toArray, List.set_cons_zero, List.set_cons_succ]
         refine wpAnyH_take (i := 7) (v := ?v67) rfl (by kernel_rfl) (by kernel_rfl) (by kernel_rfl) (fun _ _ _ h => h) (Or.inl ⟨by rfl, ?y67⟩) (by assumption) ?r67
         case y67 => (intro w hSw; go_simp; first | done | (with_reducible rfl))
         simp only [Act.put, List.getElem_toArray, List.getElem_cons_zero, List.getElem_cons_succ, List.setIfInBounds_toArray, List.set_cons_zero, List.set_cons_succ]
         refine wpAnyH_take (i := 8) (v := ?v68) rfl (by kernel_rfl) (by kernel_rfl) (by kernel_rfl) (fun _ _ _ h => h) (Or.inl ⟨by rfl, ?y68⟩) (by assumption) ?r68
         case y68 => (intro w hSw; go_simp; first | done | (with_reducible rfl))
         simp only [Act.put, List.getElem_toArray, List.getElem_cons_zero, List.getElem_cons_succ, List.setIfInBounds_toArray, List.set_cons_zero, List.set_cons_succ]
         refine wpAnyH_take (i := 9) (v := ?v69) rfl (by kernel_rfl) (by kernel_rfl) (by kernel_rfl) (fun _ _ _ h => h) (Or.inl ⟨by rfl, ?y69⟩) (by assumption) ?r69
         case y69 => (intro w hSw; go_simp; first | done | (with_reducible rfl))
         simp only [Act.put, List.getElem_toArray, List.getElem_cons_zero, List.getElem_cons_succ, List.setIfInBounds_toArray, List.set_cons_zero, List.set_cons_succ]
         have hc8 := heap_lt N8.out
         have hc9 := heap_lt N9.out
         have zX := c00.size
         have ne89 : ¬ (Yw2).heap.size = (U2.drew).heap.size := by intro e9; have h8 := N8.out; rw [e9] at h8; have := h8.symm.trans N9.out; simp at this
         exact LEAF _ _ _ v1 v2 v3 y3 _ _ (VLF.mk (base := U2) (X := Yw4) (g8 := (Yw2).heap.size) (g9 := (U2.drew).heap.size) (v3 := v3) (y3 := y3) (lo := (((Yw2).alloc Zvo)).heap.size) (hi := Yw4.heap.size) (R := R) c00 N8.out N9.out D3.out D4.out (by omega) (by omega) (by omega) (by omega) (by omega) (by omega) ne89)
       ·
        go_simp
        have zzN8 : U2.heap.size ≤ (Yw1).heap.size := by have := c00.size; (try simp only [World.size_alloc] at this); first | exact this | omega
        have b2 := bal (Below.refl (Yw1).heap.size (Yw1)) Zvo
        have c00 := bAll c00 b2
        have CW := bAll CW b2
        have N9 := hide (bKeeps b2 N9.out)
        have D1 := hide (D1.out.keep b2)
        have N8 := hide (heap_alloc_new (Yw1) Zvo)
        refine hK.out _ _ ?_ (fun hHeld => ?_)
        · exact fA.out _ CW
        clear hK K
        refine wpAnyH_ready (rs := [4]) (by kernel_rfl) (by simp) ?_
        refine AllReadyH.cons rfl (fun K hK => ?_) AllReadyH.nil
        go_simp
        go_at_call 13
        refine (toWord_any _ x _ (HA.out _ CW).2 hp hl).mono ?_
        rintro e Yw3 ⟨v2, rfl, D2', bb⟩
        have c00 := bAll c00 bb
        have CW := bAll CW bb
        have N9 := hide (bKeeps bb N9.out)
        have D1 := hide (D1.out.keep bb)
        have N8 := hide (bKeeps bb N8.out)
        have D2 := hide D2'.reads
        refine hK.out _ _ ?_ (fun hHeld => ?_)
        · exact fA.out _ CW
        clear hK K
        refine wpAnyH_ready (rs := [5]) (by kernel_rfl) (by simp) ?_
        refine AllReadyH.cons rfl (fun K hK => ?_) AllReadyH.nil
        go_simp
        go_at_call 11
        have hlo : U2.heap.size ≤ (Yw3).heap.size := c00.size
        have hbN8 := heap_lt N8.out
        have hbN9 := heap_lt N9.out
        refine (cS _ _ _ D1.out D2.out hn).mono ?_
        rintro e Yw4 ⟨v3, y3, rfl, D3', D4', bb⟩
        have c00 := bAll c00 bb
        have CW := bAll CW bb
        have N9 := hide (bKeeps bb N9.out)
        have D1 := hide (D1.out.keep bb)
        have N8 := hide (bKeeps bb N8.out)
        have D2 := hide (D2.out.keep bb)
        have zbb := bb.size
        have D3 := hide D3'.inside
        have D4 := hide (show WdO Yw4 (fun _ => False) y3 R.2.2.1 from D4'.flat HRf.1 HRf.2)
        refine hK.out _ _ ?_ (fun hHeld => ?_)
        · exact fA.out _ CW
        clear hK K
        refine wpAnyH_take (i := 6) (v := ?v70) rfl (by kernel_rfl) (by kernel_rfl) (by kernel_rfl) (fun _ _ _ h => h) (Or.inl ⟨by rfl, ?y70⟩) (by assumption) ?r70
        case y70 => (intro w hSw; go_simp; first | done | (with_reducible rfl))
        simp only [Act.put, List.getElem_toArray, List.getElem_cons_zero, List.getElem_cons_succ, List.setIfInBounds_toArray, List.set_cons_zero, List.set_cons_succ]
        refine wpAnyH_take (i := 7) (v := ?v71) rfl (by kernel_rfl) (by kernel_rfl) (by kernel_rfl) (fun _ _ _ h => h) (Or.inl ⟨by rfl, ?y71⟩) (by assumption) ?r71
        case y71 => (intro w hSw; go_simp; first | done | (with_reducible rfl))
        simp only [Act.put, List.getElem_toArray, List.getElem_cons_zero, List.getElem_cons_succ, List.setIfInBounds_toArray, List.set_cons_zero, List.set_cons_succ]
        refine wpAnyH_take (i := 8) (v := ?v72) rfl (by kernel_rfl) (by kernel_rfl) (by kernel_rfl) (fun _ _ _ h => h) (Or.inl ⟨by rfl, ?y72⟩) (by assumption) ?r72
        case y72 => (intro w hSw; go_simp; first | done | (with_reducible rfl))
        simp only [Act.put, List.getElem_toArray, List.getElem_cons_zero, List.getElem_cons_succ, List.setIfInBounds_toArray, List.set_cons_zero, List.set_cons_succ]
        refine wpAnyH_take (i := 9) (v := ?v73) rfl (by kernel_rfl) (by kernel_rfl) (by kernel_rfl) (fun _ _ _ h => h) (Or.inl ⟨by rfl, ?y73⟩) (by assumption) ?r73
        case y73 => (intro w hSw; go_simp; first | done | (with_reducible rfl))
        simp only [Act.put, List.getElem_toArray, List.getElem_cons_zero, List.getElem_cons_succ, List.setIfInBounds_toArray, List.set_cons_zero, List.set_cons_succ]
        have hc8 := heap_lt N8.out
        have hc9 := heap_lt N9.out
        have zX := c00.size
        have ne89 : ¬ (Yw1).heap.size = (U2.drew).heap.size := by intro e9; have h8 := N8.out; rw [e9] at h8; have := h8.symm.trans N9.out; simp at this
        exact LEAF _ _ _ v1 v2 v3 y3 _ _ (VLF.mk (base := U2) (X := Yw4) (g8 := (Yw1).heap.size) (g9 := (U2.drew).heap.size) (v3 := v3) (y3 := y3) (lo := (Yw3).heap.size) (hi := Yw4.heap.size) (R := R) c00 N8.out N9.out D3.out D4.out (by omega) (by omega) (by omega) (by omega) (by omega) (by omega) ne89)
      ·
       go_simp
       have zzN8 : U2.heap.size ≤ (U2.drew).heap.size + 1 := by have := c00.size; (try simp only [World.size_alloc] at this); first | exact this | omega
       have b1 := bal (Below.refl (((U2.drew).alloc Zwo)).heap.size (((U2.drew).alloc Zwo))) Zvo
       have c00 := bAll c00 b1
       have CW := bAll CW b1
       have N9 := hide (bKeeps b1 N9.out)
       have N8 := hide (al2_1 (U2.drew) Zwo Zvo)
       refine hK.out _ _ ?_ (fun hHeld => ?_)
       · exact fA.out _ CW
       clear hK K
       refine wpAnyH_ready (rs := [1]) (by kernel_rfl) (by simp) ?_
       refine AllReadyH.cons rfl (fun K hK => ?_) AllReadyH.nil
       go_simp
       go_at_call 12
       refine (toSynVoter_any _ P xs _ (HA.out _ CW).1 hn).mono ?_
       rintro e Yw2 ⟨v1, rfl, D1', bb⟩
       have c00 := bAll c00 bb
       have CW := bAll CW bb
       have N9 := hide (bKeeps bb N9.out)
       have N8 := hide (bKeeps bb N8.out)
       have D1 := hide D1'.reads
       refine hK.out _ _ ?_ (fun hHeld => ?_)
       · exact fA.out _ CW
       clear hK K
       refine wpAnyH_ready (rs := [4]) (by kernel_rfl) (by simp) ?_
       refine AllReadyH.cons rfl (fun K hK => ?_) AllReadyH.nil
       go_simp
       go_at_call 13
       refine (toWord_any _ x _ (HA.out _ CW).2 hp hl).mono ?_
       rintro e Yw3 ⟨v2, rfl, D2', bb⟩
       have c00 := bAll c00 bb
       have CW := bAll CW bb
       have N9 := hide (bKeeps bb N9.out)
       have N8 := hide (bKeeps bb N8.out)
       have D1 := hide (D1.out.keep bb)
       have D2 := hide D2'.reads
       refine hK.out _ _ ?_ (fun hHeld => ?_)
       · exact fA.out _ CW
       clear hK K
       refine wpAnyH_ready (rs := [5]) (by kernel_rfl) (by simp) ?_
       refine AllReadyH.cons rfl (fun K hK => ?_) AllReadyH.nil
       go_simp
       go_at_call 11
       have hlo : U2.heap.size ≤ (Yw3).heap.size := c00.size
       have hbN8 := heap_lt N8.out
       have hbN9 := heap_lt N9.out
       refine (cS _ _ _ D1.out D2.out hn).mono ?_
       rintro e Yw4 ⟨v3, y3, rfl, D3', D4', bb⟩
       have c00 := bAll c00 bb
       have CW := bAll CW bb
       have N9 := hide (bKeeps bb N9.out)
       have N8 := hide (bKeeps bb N8.out)
       have D1 := hide (D1.out.keep bb)
       have D2 := hide (D2.out.keep bb)
       have zbb := bb.size
       have D3 := hide D3'.inside
       have D4 := hide (show WdO Yw4 (fun _ => False) y3 R.2.2.1 from D4'.flat HRf.1 HRf.2)
       refine hK.out _ _ ?_ (fun hHeld => ?_)
       · exact fA.out _ CW
       clear hK K
       refine wpAnyH_take (i := 6) (v := ?v74) rfl (by kernel_rfl) (by kernel_rfl) (by kernel_rfl) (fun _ _ _ h => h) (Or.inl ⟨by rfl, ?y74⟩) (by assumption) ?r74
       case y74 => (intro w hSw; go_simp; first | done | (with_reducible rfl))
       simp only [Act.put, List.getElem_toArray, List.getElem_cons_zero, List.getElem_cons_succ, List.setIfInBounds_toArray, List.set_cons_zero, List.set_cons_succ]
       refine wpAnyH_take (i := 7) (v := ?v75) rfl (by kernel_rfl) (by kernel_rfl) (by kernel_rfl) (fun _ _ _ h => h) (Or.inl ⟨by rfl, ?y75⟩) (by assumption) ?r75
       case y75 => (intro w hSw; go_simp; first | done | (with_reducible rfl))
       simp only [Act.put, List.getElem_toArray, List.getElem_cons_zero, List.getElem_cons_succ, List.setIfInBounds_toArray, List.set_cons_zero, List.set_cons_succ]
       refine wpAnyH_take (i := 8) (v := ?v76) rfl (by kernel_rfl) (by kernel_rfl) (by kernel_rfl) (fun _ _ _ h => h) (Or.inl ⟨by rfl, ?y76⟩) (by assumption) ?r76
       case y76 => (intro w hSw; go_simp; first | done | (with_reducible rfl))
       simp only [Act.put, List.getElem_toArray, List.getElem_cons_zero, List.getElem_cons_succ, List.setIfInBounds_toArray, List.set_cons_zero, List.set_cons_succ]
       refine wpAnyH_take (i := 9) (v := ?v77) rfl (by kernel_rfl) (by kernel_rfl) (by kernel_rfl) (fun _ _ _ h => h) (Or.inl ⟨by rfl, ?y77⟩) (by assumption) ?r77
       case y77 => (intro w hSw; go_simp; first | done | (with_reducible rfl))
       simp only [Act.put, List.getElem_toArray, List.getElem_cons_zero, List.getElem_cons_succ, List.setIfInBounds_toArray, List.set_cons_zero, List.set_cons_succ]
       have hc8 := heap_lt N8.out
       have hc9 := heap_lt N9.out
       have zX := c00.size
       have ne89 : ¬ (U2.drew).heap.size + 1 = (U2.drew).heap.size := by intro e9; have h8 := N8.out; rw [e9] at h8; have := h8.symm.trans N9.out; simp at this
       exact LEAF _ _ _ v1 v2 v3 y3 _ _ (VLF.mk (base := U2) (X := Yw4) (g8 := (U2.drew).heap.size + 1) (g9 := (U2.drew).heap.size) (v3 := v3) (y3 := y3) (lo := (Yw3).heap.size) (hi := Yw4.heap.size) (R := R) c00 N8.out N9.out D3.out D4.out (by omega) (by omega) (by omega) (by omega) (by omega) (by omega) ne89)
   · intro X g8 g9 v1 v2 v3 y3 lo hi ⟨c00, N8, N9, D3, D4, q1, q2, q3, q4, q5, q6, ne89⟩
     have CW := bAll CC.out c00
     have N8 := hide N8
     have N9 := hide N9
     have D4 := hide D4
     have hHeld : (fun w' : World => w'.heap[w.heap.size]? = some (.cells #[.int .i64 P, .slice ao xs.length ca] 24 (0, 0)) ∧ w'.heap[w.heap.size + 1]? = some (.cells cs 30 (0, 0))) X := fA.out _ CW
     obtain ⟨so3, sc3, rfl, hcp3, r3⟩ := D3
     obtain ⟨cs3, rfl, hs3, h13⟩ := D4.out.reads.agg
     have hc8 := heap_lt N8.out
     have hc9 := heap_lt N9.out
     have zX := c00.size
     have s8 := updRow X g8 #[.int .i64 R.1, .slice so3 R.2.1.length sc3]
     have N9b := s8.keeps N9.out (fun e => ne89 e.symm)
     have s9 := updRow (X.setRow g8 #[.int .i64 R.1, .slice so3 R.2.1.length sc3]) g9 cs3
     have c1X := c00.trans (s8.below c00.size (fun k h => by omega))
     have c2X := c1X.trans (s9.below c1X.size (fun k h => by omega))
     refine wpAnyH_ready (rs := [12]) (by kernel_rfl) (by simp) ?_
     refine AllReadyH.cons rfl (fun K hK => ?_) AllReadyH.nil
     (refine wp_store_row 35 (.tmp 8) (.tmp 39) rfl g8 #[.int .i64 R.1, .slice so3 R.2.1.length sc3] rfl rfl _ _ N8.out infoSv2 rfl (all_of_list rfl) ?_)
     refine hK.out _ _ ?_ (fun hHeld => ?_)
     · exact fA.out _ (bAll CC.out c1X)
     clear hK K
     refine wpAnyH_ready (rs := [13]) (by kernel_rfl) (by simp) ?_
     refine AllReadyH.cons rfl (fun K hK => ?_) AllReadyH.nil
     (refine wp_store_row 40 (.tmp 9) (.tmp 40) rfl g9 cs3 rfl rfl _ _ N9b (infoAt infoWd hs3) (zero26.trans hs3.symm) h13 ?_)
     refine hK.out _ _ ?_ (fun hHeld => ?_)
     · exact fA.out _ (bAll CC.out c2X)
     clear hK K
     refine wpAnyH_take (i := 14) (v := ?v78) rfl (by kernel_rfl) (by kernel_rfl) (by kernel_rfl) (fun _ _ _ h => h) (Or.inl ⟨by rfl, ?y78⟩) (by assumption) ?r78
     case y78 => (intro w hSw; go_simp; first | done | (with_reducible rfl))
     simp only [Act.put, List.getElem_toArray, List.getElem_cons_zero, List.getElem_cons_succ, List.setIfInBounds_toArray, List.set_cons_zero, List.set_cons_succ]
     refine wpAnyH_done (by kernel_rfl) ?_ _
     refine NoPanic.normal ?_
     clear hHeld
     go_wp2_with fail
     go_meet
     have z8 := s8.size
     have z9 := s9.size
     refine ⟨g8, g9, rfl, rfl, rfl, ⟨so3, sc3, cs3, lo, hi, s9.keeps (setRow_heap _ _ _ _ _ _ N8.out) ne89, setRow_heap _ _ _ _ _ _ N9b, ?_, D4.out.flat HRf.1 HRf.2, by omega, by omega, by omega, by omega, ne89, by omega, by omega, by omega, by omega⟩, c2X⟩
     exact (VtO.keep ⟨so3, sc3, rfl, hcp3, r3⟩ s8 (fun k h1 h2 => by omega)).keep s9 (fun k h1 h2 => by omega)
  case rest =>
  obtain ⟨g8, g9, rfl, rfl, rfl, VB8', b8⟩ := hcut
  have c8 := bAll CC.out b8
  clear cS b8 SZ CC
  obtain ⟨W8, hW8⟩ : ∃ W8, W8 = wc := ⟨_, rfl⟩
  have VB8 : Hid (∀ V : World, Below wc.heap.size wc V → VoB V U2.heap.size W8.heap.size g8 g9 R) := fun V hV => by rw [hW8]; exact VB8'.keepB hV
  have b88 : Below W8.heap.size W8 wc := by rw [hW8]; exact Below.refl _ _
  have z88 : W8.heap.size ≤ wc.heap.size := b88.size
  have ZW8 : Hid (W.heap.size ≤ W8.heap.size) := by show _ ≤ _; rw [hW8]; exact c8.size
  clear hW8 VB8'
  -- the copies that the program is given
  have C1 := hide (fA.out _ c8).1
  go_wp2_with (refine wpList_load_row rfl 24 (.tmp 3) rfl w.heap.size rfl _ _ (0, 0) _ C1.out Try.underlying24 rfl infoLv ?_)
  refine (toSynVoter_any _ P xs _ (HA.out _ c8).1 hn).mono ?_
  rintro e U9 ⟨v9, rfl, D9, b9⟩
  obtain ⟨so9, sc9, rfl, hcp9, r9⟩ := D9
  have R9 := hide (rowIn r9)
  clear C1 r9
  have z9 := b9.size
  have a9 := bal (Below.refl U9.heap.size U9) (.cells #[.int .i64 P, .slice so9 xs.length sc9] 35)
  have c9 := bAll c8 (bAll b9 a9)
  have C1 := hide (fA.out _ c9).2
  have N9 := hide (heap_alloc_new U9 (.cells #[.int .i64 P, .slice so9 xs.length sc9] 35))
  go_wp2_with (first
    | (refine wpList_store_row rfl 35 (.tmp 11) (.tmp 43) rfl U9.heap.size _ rfl rfl _ _ (heap_alloc_new U9 _) infoSv2 (show (2 : Nat) = 2 from rfl) (all_of_list rfl) ?_; rw [World.setRow_alloc_new])
    | (refine wpList_load_row rfl 30 (.tmp 5) rfl (w.heap.size + 1) rfl _ cs (0, 0) _ C1.out Try.underlying30 rfl HI.out ?_))
  refine (toWord_any _ x _ (HA.out _ c9).2 hp hl).mono ?_
  rintro e U10 ⟨v10, rfl, D10', b10⟩
  have D10 := hide (wdIn D10')
  obtain ⟨ds, rfl, hds, hd1⟩ := D10'.reads.agg
  have GI := hide (infoAt infoWd hds)
  have GZ := hide (zero26.trans hds.symm)
  have G1 := hide hd1
  have z10 := b10.size
  rw [World.size_alloc] at z10
  have a10 := bal (Below.refl U10.heap.size U10) (.cells ds 40)
  have M9 := hide (bKeeps a10 (bKeeps b10 N9.out))
  have M10 := hide (heap_alloc_new U10 (.cells ds 40))
  have Q9 := hide (((R9.out.keepB a9).keepB b10).keepB a10)
  have Q10 := hide (D10.out.keepB a10)
  have c10 := bAll c9 (bAll b10 a10)
  have e10 := bAll b88 (bAll (bAll b9 a9) (bAll b10 a10))
  have V10 := hide (fun V (hV : Below (U10.alloc (.cells ds 40)).heap.size (U10.alloc (.cells ds 40)) V) => VB8.out V (bAll (bAll (bAll b9 a9) (bAll b10 a10)) hV))
  clear C1 N9 R9 D10 D10' hds hd1 c9 b10 a10 b9 a9 VB8 b88 c8
  -- the program
  have VR : VtR (U10.alloc (.cells ds 40)) (.agg #[.int .i64 P, .slice so9 xs.length sc9]) P xs := ⟨so9, sc9, rfl, Q9.out.reads⟩
  have cP := cI _ (.agg ds) _ VR Q10.out.reads hn
  clear VR
  rw [World.size_alloc] at Q10
  generalize hX10 : U10.alloc (.cells ds 40) = X10 at M9 M10 Q9 Q10 c10 e10 V10 cP
  have zX10 : X10.heap.size = U10.heap.size + 1 := by rw [← hX10]; simp
  go_wp2_with (first
    | (refine wpList_store_row rfl 40 (.tmp 12) (.tmp 45) rfl U10.heap.size ds rfl rfl _ _ (heap_alloc_new U10 _) GI.out GZ.out G1.out ?_; rw [World.setRow_alloc_new]; rw [hX10])
    | (refine wpList_load_row rfl 35 (.tmp 11) rfl U9.heap.size rfl _ _ (0, 0) _ M9.out Try.underlying35 rfl infoSv2 ?_)
    | (refine wpList_load_row rfl 40 (.tmp 12) rfl U10.heap.size rfl _ ds (0, 0) _ M10.out Try.underlying40 rfl GI.out ?_))
  refine cP.mono ?_
  clear cP hX10
  rintro e U11 ⟨v11, y11, rfl, D11, E11', b11⟩
  obtain ⟨so11, sc11, rfl, hcp11, r11⟩ := D11
  have E11 := hide (show WdO U11 (fun _ => False) y11 R.2.2.1 from E11'.flat HRf.1 HRf.2)
  obtain ⟨es, rfl, hes, he1⟩ := E11'.reads.agg
  clear E11'
  have FI := hide (infoAt infoWd hes)
  have FZ := hide (zero26.trans hes.symm)
  have F1 := hide he1
  clear hes he1
  obtain ⟨k1, k2, k3, k4, k5⟩ := two_boxes U11 #[.int .i64 0, .slice none 0 0] #[.int .i64 0, .int .i64 0, .int .i64 0, .int .i64 0, .int .i64 0, .int .i64 0, .int .i64 0, .int .i64 0, .int .i64 0, .int .i64 0, .int .i64 0, .int .i64 0, .int .i64 0, .int .i64 0, .int .i64 0, .int .i64 0, .int .i64 0, .int .i64 0, .int .i64 0, .int .i64 0, .int .i64 0, .int .i64 0, .int .i64 0, .int .i64 0, .slice none 0 0, .slice none 0 0] #[.int .i64 R.1, .slice so11 R.2.1.length sc11] es 35 40
  have K4 := hide k4
  have r11b := (rowIn r11).keepB k1
  have z11 := b11.size
  go_upto_region 12 with (first
    | (refine wpList_store_row rfl 35 (.tmp 13) (.tmp 51) rfl U11.heap.size #[.int .i64 R.1, .slice so11 R.2.1.length sc11] rfl rfl _ _ (al2_0 U11 _ _) infoSv2 (show (2 : Nat) = 2 from rfl) (all_of_list rfl) ?_)
    | (refine wpList_store_row rfl 40 (.tmp 14) (.tmp 52) rfl (U11.heap.size + 1) es rfl rfl _ _ K4.out FI.out FZ.out F1.out ?_))
  generalize ((((U11.alloc (.cells #[.int .i64 0, .slice none 0 0] 35)).alloc (.cells #[.int .i64 0, .int .i64 0, .int .i64 0, .int .i64 0, .int .i64 0, .int .i64 0, .int .i64 0, .int .i64 0, .int .i64 0, .int .i64 0, .int .i64 0, .int .i64 0, .int .i64 0, .int .i64 0, .int .i64 0, .int .i64 0, .int .i64 0, .int .i64 0, .int .i64 0, .int .i64 0, .int .i64 0, .int .i64 0, .int .i64 0, .int .i64 0, .slice none 0 0, .slice none 0 0] 40)).setRow U11.heap.size #[.int .i64 R.1, .slice so11 R.2.1.length sc11]).setRow (U11.heap.size + 1) es) = W11 at k1 k2 k3 k5 r11b ⊢
  have E11b := hide (E11.out.keepB k1)
  have B11 : Hid (VoB W11 X10.heap.size W11.heap.size U11.heap.size (U11.heap.size + 1) R) := ⟨so11, sc11, es, X10.heap.size, U11.heap.size, k2, k3, ⟨so11, sc11, rfl, hcp11, r11b⟩, E11b.out, by omega, by omega, by omega, by omega, by omega, by omega, by omega, by omega, by omega⟩
  have K2 := hide k2
  have K3 := hide k3
  have KV : Hid (VtO W11 (fun k => X10.heap.size ≤ k ∧ k < U11.heap.size) (.agg #[.int .i64 R.1, .slice so11 R.2.1.length sc11]) R.1 R.2.1) := ⟨so11, sc11, rfl, hcp11, r11b⟩
  have KE := E11b
  have m11 := bAll b11 k1
  have L9 := hide (bKeeps m11 M9.out)
  have L10 := hide (bKeeps m11 M10.out)
  have T9 := hide (Q9.out.keepB m11)
  have T10 := hide (Q10.out.keepB m11)
  have c11 := bAll c10 m11
  have V11 := hide (fun V (hV : Below W11.heap.size W11 V) => V10.out V (bAll m11 hV))
  have z8 := e10.size
  clear k4 K4 r11 k1 k2 k3 r11b E11 E11b M9 M10 Q9 Q10 c10 V10 e10 b11
  have zW8 : W.heap.size ≤ W8.heap.size := ZW8.out
  have HFin : Hid (∀ V : World, Upd (fun k => W8.heap.size ≤ k) W11 V → Below w.heap.size w V) := fun V u => bAll al (c11.trans (u.below c11.size (fun k hk => Nat.le_trans zW8 hk)))
  have F8 : Hid (∃ (so8 : Option Addr) (sc8 : Nat) (cs8 : Array Value), cs8.size = 26 ∧ cs8.all (·.oneCell') = true ∧ ∀ V : World, Upd (fun k => W8.heap.size ≤ k) W11 V → V.heap[g8]? = some (.cells #[.int .i64 R.1, .slice so8 R.2.1.length sc8] 35 (0, 0)) ∧ V.heap[g9]? = some (.cells cs8 40 (0, 0)) ∧ VtR V (.agg #[.int .i64 R.1, .slice so8 R.2.1.length sc8]) R.1 R.2.1 ∧ WdR V (.agg cs8) R.2.2.1) := by
    obtain ⟨so8, sc8, cs8, lo8, hi8, h1, h2, h3, h4, h5, h6, h7, h8, h9, h10, h11, h12, h13⟩ := V11.out W11 (Below.refl _ _)
    obtain ⟨cs', e', hs', hd'⟩ := h4.reads.agg
    injection e' with e'
    subst e'
    refine ⟨so8, sc8, cs8, hs', hd', fun V u => ⟨u.keeps h1 (by omega), u.keeps h2 (by omega), (h3.keep u (fun k hk => by omega)).reads, (h4.keep u (fun _ h => h.elim)).reads⟩⟩
  obtain ⟨so8, sc8, cs8, hs8, hd8, F8'⟩ := F8.out
  have HS8 := hide (infoAt infoWd hs8)
  have G8 := hide F8'
  clear F8 F8' V11 hs8 hd8
  have F13 : Hid (∀ V : World, Upd (fun k => k < X10.heap.size) W11 V → V.heap[U11.heap.size]? = some (.cells #[.int .i64 R.1, .slice so11 R.2.1.length sc11] 35 (0, 0)) ∧ V.heap[U11.heap.size + 1]? = some (.cells es 40 (0, 0)) ∧ VtO V (fun k => X10.heap.size ≤ k ∧ k < U11.heap.size) (.agg #[.int .i64 R.1, .slice so11 R.2.1.length sc11]) R.1 R.2.1 ∧ WdO V (fun _ => False) (.agg es) R.2.2.1) := by
    intro V u
    obtain ⟨so', sc', cs', lo', hi', h1, h2, h3, h4, -⟩ := (show VoB W11 X10.heap.size W11.heap.size U11.heap.size (U11.heap.size + 1) R from B11.out)
    exact ⟨u.keeps K2.out (by omega), u.keeps K3.out (by omega), KV.out.keep u (fun k h1 h2 => by omega), KE.out.keep u (fun _ h => h.elim)⟩
  clear B11 K2 K3 KV KE
  have Hu : Hid (∀ V : World, Upd (fun k => W8.heap.size ≤ k) W11 V → Below W.heap.size W V) := fun V u => c11.trans (u.below c11.size (fun k hk => Nat.le_trans zW8 hk))
  have F9 : Hid (∀ V : World, Below W11.heap.size W11 V → V.heap[U9.heap.size]? = some (.cells #[.int .i64 P, .slice so9 xs.length sc9] 35 (0, 0)) ∧ V.heap[U10.heap.size]? = some (.cells ds 40 (0, 0))) := fun V b => ⟨bKeeps b L9.out, bKeeps b L10.out⟩
  -- the answers are the same
  have f13 := F13.out W11 (Upd.refl _ _)
  have f8 := G8.out W11 (Upd.refl _ _)
  go_wp2_with (first
    | (refine wpList_load_row rfl 35 (.tmp 13) rfl U11.heap.size rfl _ _ (0, 0) _ f13.1 Try.underlying35 rfl infoSv2 ?_)
    | (refine wpList_load_row rfl 35 (.tmp 8) rfl g8 rfl _ _ (0, 0) _ f8.1 Try.underlying35 rfl infoSv2 ?_))
  refine (eqSynVoter_true _ _ R.1 R.2.1 _ f13.2.2.1.reads f8.2.2.1).mono ?_
  rintro e V1 ⟨rfl, b1⟩
  have h13 := F13.out V1 (Upd.ofBelow b1)
  have h8 := G8.out V1 (Upd.ofBelow b1)
  clear f13 f8
  go_wp2_with (first
    | (refine wpList_load_rowG (by rfl) 40 (.tmp 14) rfl (U11.heap.size + 1) rfl _ es (0, 0) _ h13.2.1 Try.underlying40 rfl FI.out ?_)
    | (refine wpList_load_rowG (by rfl) 40 (.tmp 9) rfl g9 rfl _ cs8 (0, 0) _ h8.2.1 Try.underlying40 rfl HS8.out ?_))
  refine (eqWord_true _ _ R.2.2.1 _ h13.2.2.2.reads h8.2.2.2).mono ?_
  rintro e V2 ⟨rfl, b2⟩
  have v2 := bAll b1 b2
  clear h13 h8 b1 b2
  go_upto_region 14 with fail
  -- the arguments are as they were
  have dd := bDrewB (Below.refl V2.heap.size V2)
  have cA : Below W.heap.size W V2.drew := Hu.out _ (Upd.ofBelow (bAll v2 dd))
  have fS : Hid (∀ V : World, Below W11.heap.size W11 V → V.heap[U9.heap.size]? = some (.cells #[.int .i64 P, .slice so9 xs.length sc9] 35 (0, 0)) ∧ V.heap[w.heap.size]? = some (.cells #[.int .i64 P, .slice ao xs.length ca] 24 (0, 0))) := fun V b => ⟨(F9.out V b).1, (fA.out V (Hu.out V (Upd.ofBelow b))).1⟩
  have fS2 : Hid (∀ V : World, Below W11.heap.size W11 V → V.heap[U10.heap.size]? = some (.cells ds 40 (0, 0)) ∧ V.heap[w.heap.size + 1]? = some (.cells cs 30 (0, 0))) := fun V b => ⟨(F9.out V b).2, (fA.out V (Hu.out V (Upd.ofBelow b))).2⟩
  have v2d := bAll v2 dd
  refine wp_region_noPanic ?_
  refine wp_region_held_drew (S := (fun w' => w'.heap[U9.heap.size]? = some (.cells #[.int .i64 P, .slice so9 xs.length sc9] 35 (0, 0)) ∧ w'.heap[w.heap.size]? = some (.cells #[.int .i64 P, .slice ao xs.length ca] 24 (0, 0)))) (by kernel_rfl) ?_ (fun hHeld => ?_)
  · exact fS.out _ v2d
  refine wpAnyH_take (i := 0) (v := .agg #[.int .i64 P, .slice so9 xs.length sc9]) rfl (by kernel_rfl) (by kernel_rfl) (by kernel_rfl) (fun _ _ _ h => h) (yields_row rfl 35 (.tmp 11) rfl (U9.heap.size) rfl _ #[.int .i64 P, .slice so9 xs.length sc9] _ (fun _ h => h.1) Try.underlying35 rfl infoSv2) (by assumption) ?_
  simp only [Act.put, List.getElem_toArray, List.getElem_cons_zero, List.setIfInBounds_toArray, List.set_cons_zero, List.set_cons_succ]
  refine wpAnyH_take (i := 1) (v := .agg #[.int .i64 P, .slice ao xs.length ca]) rfl (by kernel_rfl) (by kernel_rfl) (by kernel_rfl) (fun _ _ _ h => h) (yields_row rfl 24 (.tmp 3) rfl (w.heap.size) rfl _ #[.int .i64 P, .slice ao xs.length ca] _ (fun _ h => h.2) Try.underlying24 rfl infoLv) (by assumption) ?_
  simp only [Act.put, List.getElem_toArray, List.getElem_cons_zero, List.getElem_cons_succ, List.setIfInBounds_toArray, List.set_cons_zero, List.set_cons_succ]
  refine wpAnyH_ready (rs := [2]) (by kernel_rfl) (by simp) ?_
  refine AllReadyH.cons rfl (fun K hK => ?_) AllReadyH.nil
  go_simp
  (go_at_call 12; refine (toSynVoter_any _ P xs _ (HA.out _ cA).1 hn).mono ?_; rintro e V3 ⟨v3, rfl, d3, b3⟩; have v3b := bAll v2d b3)
  refine hK.out _ _ ?_ (fun hHeld => ?_)
  · exact fS.out _ v3b
  clear hK K
  refine wpAnyH_ready (rs := [3]) (by kernel_rfl) (by simp) ?_
  refine AllReadyH.cons rfl (fun K hK => ?_) AllReadyH.nil
  go_simp
  (go_at_call 15; refine (eqSynVoter_true _ _ P xs _ ⟨so9, sc9, rfl, (T9.out.keepB v3b).reads⟩ d3.reads).mono ?_; rintro e V4 ⟨rfl, b4⟩; have v4 := bAll v3b b4)
  refine hK.out _ _ ?_ (fun hHeld => ?_)
  · exact fS.out _ v4
  clear hK K
  refine wpAnyH_take (i := 4) (v := ?v79) rfl (by kernel_rfl) (by kernel_rfl) (by kernel_rfl) (fun _ _ _ h => h) (Or.inl ⟨by rfl, ?hy79⟩) (by assumption) ?rest79
  case hy79 => ((intro w hSw; (try dsimp only at hSw); (try simp only [List.getElem_toArray, List.getElem_cons_zero, List.getElem_cons_succ]); go_simp; first | done | (with_reducible rfl)))
  simp only [Act.put, List.getElem_toArray, List.getElem_cons_zero, List.getElem_cons_succ, List.setIfInBounds_toArray, List.set_cons_zero, List.set_cons_succ]
  refine wpAnyH_done (by kernel_rfl) ?_ _
  refine NoPanic.normal ?_
  clear hHeld dd cA v2d v3b v2
  go_upto_region 16 with fail
  have dd := bDrewB (Below.refl V4.heap.size V4)
  have cA : Below W.heap.size W V4.drew := Hu.out _ (Upd.ofBelow (bAll v4 dd))
  have v4d := bAll v4 dd
  refine wp_region_noPanic ?_
  refine wp_region_held_drew (S := (fun w' => w'.heap[U10.heap.size]? = some (.cells ds 40 (0, 0)) ∧ w'.heap[w.heap.size + 1]? = some (.cells cs 30 (0, 0)))) (by kernel_rfl) ?_ (fun hHeld => ?_)
  · exact fS2.out _ v4d
  refine wpAnyH_take (i := 0) (v := .agg ds) rfl (by kernel_rfl) (by kernel_rfl) (by kernel_rfl) (fun _ _ _ h => h) (yields_row rfl 40 (.tmp 12) rfl (U10.heap.size) rfl _ ds _ (fun _ h => h.1) Try.underlying40 rfl GI.out) (by assumption) ?_
  simp only [Act.put, List.getElem_toArray, List.getElem_cons_zero, List.setIfInBounds_toArray, List.set_cons_zero, List.set_cons_succ]
  refine wpAnyH_take (i := 1) (v := .agg cs) rfl (by kernel_rfl) (by kernel_rfl) (by kernel_rfl) (fun _ _ _ h => h) (yields_row rfl 30 (.tmp 5) rfl (w.heap.size + 1) rfl _ cs _ (fun _ h => h.2) Try.underlying30 rfl HI.out) (by assumption) ?_
  simp only [Act.put, List.getElem_toArray, List.getElem_cons_zero, List.getElem_cons_succ, List.setIfInBounds_toArray, List.set_cons_zero, List.set_cons_succ]
  refine wpAnyH_ready (rs := [2]) (by kernel_rfl) (by simp) ?_
  refine AllReadyH.cons rfl (fun K hK => ?_) AllReadyH.nil
  go_simp
  (go_at_call 13; refine (toWord_any _ x _ (HA.out _ cA).2 hp hl).mono ?_; rintro e V5 ⟨v5, rfl, d5, b5⟩; have v5b := bAll v4d b5)
  refine hK.out _ _ ?_ (fun hHeld => ?_)
  · exact fS2.out _ v5b
  clear hK K
  refine wpAnyH_ready (rs := [3]) (by kernel_rfl) (by simp) ?_
  refine AllReadyH.cons rfl (fun K hK => ?_) AllReadyH.nil
  go_simp
  (go_at_call 16; refine (eqWord_true _ _ x _ (T10.out.keepB v5b).reads d5.reads).mono ?_; rintro e V6 ⟨rfl, b6⟩; have v6 := bAll v5b b6)
  refine hK.out _ _ ?_ (fun hHeld => ?_)
  · exact fS2.out _ v6
  clear hK K
  refine wpAnyH_take (i := 4) (v := ?v80) rfl (by kernel_rfl) (by kernel_rfl) (by kernel_rfl) (fun _ _ _ h => h) (Or.inl ⟨by rfl, ?hy80⟩) (by assumption) ?rest80
  case hy80 => ((intro w hSw; (try dsimp only at hSw); (try simp only [List.getElem_toArray, List.getElem_cons_zero, List.getElem_cons_succ]); go_simp; first | done | (with_reducible rfl)))
  simp only [Act.put, List.getElem_toArray, List.getElem_cons_zero, List.getElem_cons_succ, List.setIfInBounds_toArray, List.set_cons_zero, List.set_cons_succ]
  refine wpAnyH_done (by kernel_rfl) ?_ _
  refine NoPanic.normal ?_
  clear hHeld dd cA v4d v5b v4
  -- marks in the arguments
  have s9a := T9.out.keepB v6
  have f9 := F9.out V6 v6
  have CM := markSynVoter_any _ _ P xs 1 V6 ⟨so9, sc9, rfl, hcp9, s9a⟩ (by omega) (by omega)
  obtain ⟨M, hM⟩ : ∃ M : Nat, M = 1 + xs.length * 12 := ⟨_, rfl⟩
  rw [← hM] at CM
  have hMa : 1 ≤ M := by omega
  have hMb : M ≤ 13000000 := by omega
  clear hM
  go_wp2_with (refine wpList_load_row rfl 35 (.tmp 11) rfl U9.heap.size rfl _ _ (0, 0) _ f9.1 Try.underlying35 rfl infoSv2 ?_)
  refine CM.mono ?_
  rintro e V7 ⟨rfl, -, u7⟩
  clear CM s9a
  have n10 := u7.keeps f9.2 (fun h => by omega)
  have s10 := (T10.out.keepB v6).keep u7 (fun k h1 h2 => by omega)
  have CM := markWord_any _ _ x M V7 s10 (by omega) (by omega)
  obtain ⟨M2, hM2⟩ : ∃ M2 : Nat, M2 = M + x.ps.length * 4 + x.ls.length * 2 := ⟨_, rfl⟩
  rw [← hM2] at CM
  have hM20 : ¬ (M2 : Int) < 0 := by omega
  have hM21 : decide ((M2 : Int) < 0) = false := decide_eq_false hM20
  clear hM2
  go_wp2_with (refine wpList_load_row rfl 40 (.tmp 12) rfl U10.heap.size rfl _ ds (0, 0) _ n10 Try.underlying40 rfl GI.out ?_)
  refine CM.mono ?_
  rintro e V8 ⟨rfl, -, u8⟩
  clear CM n10 s10 f9 hMa hMb
  have u78 : Upd (fun k => W8.heap.size ≤ k ∧ k < X10.heap.size) W11 V8 := ((Upd.ofBelow v6).trans (u7.mono (fun k h => by omega))).trans (u8.mono (fun k h => by omega))
  clear u7 u8 v6 T9 T10 F9 fS fS2
  have h13 := F13.out V8 (u78.mono (fun k h => h.2))
  have h8 := G8.out V8 (u78.mono (fun k h => h.1))
  go_wp2_with (first
    | (refine wpList_load_rowG (by rfl) 35 (.tmp 13) rfl U11.heap.size rfl _ _ (0, 0) _ h13.1 Try.underlying35 rfl infoSv2 ?_)
    | (refine wpList_load_rowG (by rfl) 35 (.tmp 8) rfl g8 rfl _ _ (0, 0) _ h8.1 Try.underlying35 rfl infoSv2 ?_))
  refine (eqSynVoter_true _ _ R.1 R.2.1 _ h13.2.2.1.reads h8.2.2.1).mono ?_
  rintro e Z1 ⟨rfl, b1⟩
  have y1 := u78.trans (Upd.ofBelow b1)
  have h13 := F13.out Z1 (y1.mono (fun k h => h.2))
  have h8 := G8.out Z1 (y1.mono (fun k h => h.1))
  go_wp2_with (first
    | (refine wpList_load_rowG (by rfl) 40 (.tmp 14) rfl (U11.heap.size + 1) rfl _ es (0, 0) _ h13.2.1 Try.underlying40 rfl FI.out ?_)
    | (refine wpList_load_rowG (by rfl) 40 (.tmp 9) rfl g9 rfl _ cs8 (0, 0) _ h8.2.1 Try.underlying40 rfl HS8.out ?_))
  refine (eqWord_true _ _ R.2.2.1 _ h13.2.2.2.reads h8.2.2.2).mono ?_
  rintro e Z2 ⟨rfl, b2⟩
  have y2 := y1.trans (Upd.ofBelow b2)
  clear b1 b2 y1 u78
  -- marks in the answer
  have h13 := F13.out Z2 (y2.mono (fun k h => h.2))
  have CM := markSynVoter_any _ _ R.1 R.2.1 1 Z2 h13.2.2.1 (by omega) (by omega)
  obtain ⟨M, hM⟩ : ∃ M : Nat, M = 1 + R.2.1.length * 12 := ⟨_, rfl⟩
  have HM := hide hM
  rw [← hM] at CM
  have hMa : 1 ≤ M := by omega
  have hMb : M ≤ 13000000 := by omega
  clear hM
  go_wp2_with (refine wpList_load_row rfl 35 (.tmp 13) rfl U11.heap.size rfl _ _ (0, 0) _ h13.1 Try.underlying35 rfl infoSv2 ?_)
  refine CM.mono ?_
  rintro e Z3 ⟨rfl, k3, u3⟩
  clear CM
  have B13 := hide (u3.keeps h13.1 (fun h => by omega))
  have B14 := hide (u3.keeps h13.2.1 (fun h => by omega))
  have E3 := h13.2.2.2.keep u3 (fun _ h => h.elim)
  have CM := markWord_any _ _ R.2.2.1 M Z3 E3 (by omega) (by rw [HRf.1, HRf.2]; simp; omega)
  have hMf : M + R.2.2.1.ps.length * 4 + R.2.2.1.ls.length * 2 = M := by rw [HRf.1, HRf.2]; rfl
  rw [hMf] at CM
  have y3 : Upd (fun k => W8.heap.size ≤ k) W11 Z3 := (y2.mono (fun k h => h.1)).trans (u3.mono (fun k h => by omega))
  go_wp2_with (refine wpList_load_row rfl 40 (.tmp 14) rfl (U11.heap.size + 1) rfl _ es (0, 0) _ B14.out Try.underlying40 rfl FI.out ?_)
  refine CM.mono ?_
  rintro e Z4 ⟨rfl, k4, u4⟩
  clear CM E3
  have b4 : Below Z3.heap.size Z3 Z4 := u4.below (Nat.le_refl _) (fun _ h => h.elim)
  have K3 := hide (k3.keepB b4)
  have K4 := hide k4
  have y4 := y3.trans (Upd.ofBelow b4)
  have B13 := hide (bKeeps b4 B13.out)
  have B14 := hide (bKeeps b4 B14.out)
  clear u3 u4 k3 k4 y2 y3 h13 h8 F13 b4
  have hM1 : M ≤ 1099511627776 := by have := HM.out; omega
  have hM2 : ¬ (M : Int) < 0 := by omega
  have F14 : Hid (∀ V : World, Below Z4.heap.size Z4 V → V.heap[U11.heap.size]? = some (.cells #[.int .i64 R.1, .slice so11 R.2.1.length sc11] 35 (0, 0)) ∧ V.heap[U11.heap.size + 1]? = some (.cells es 40 (0, 0)) ∧ VtR V (.agg #[.int .i64 R.1, .slice so11 R.2.1.length sc11]) R.1 (mkV 1 R.2.1.length) ∧ WdR V (.agg es) (mkWd R.2.2.1 M)) := fun V b => ⟨bKeeps b B13.out, bKeeps b B14.out, K3.out.reads.keep b, K4.out.reads.keep b⟩
  have HH : Hid (∀ V : World, Below Z4.heap.size Z4 V → Calls Try.prog 19 #[.agg #[.int .i64 R.1, .slice so11 R.2.1.length sc11], .int .i64 1] V fun e w' => e = .returned (.int .i64 (M : Nat)) ∧ Below V.heap.size V w') := by
    intro V b
    have := heldSynVoter_ok _ R.1 R.2.1.length 1 V (F14.out V b).2.2.1 (by omega) (by have := HM.out; omega)
    rw [← HM.out] at this
    exact this
  have HH2 : Hid (∀ V : World, Below Z4.heap.size Z4 V → Calls Try.prog 20 #[.agg es, .int .i64 (M : Nat)] V fun e w' => e = .returned (.int .i64 (M : Nat)) ∧ Below V.heap.size V w') := by
    intro V b
    have := heldWord_ok _ R.2.2.1 M V (F14.out V b).2.2.2 (by have := HM.out; omega) (by rw [hMf]; exact hM1)
    rw [hMf] at this
    exact this
  have Hy : Hid (∀ V : World, Below Z4.heap.size Z4 V → Upd (fun k => W8.heap.size ≤ k) W11 V) := fun V b => y4.trans (Upd.ofBelow b)
  clear y4 K3 K4 B13 B14 hMf
  have f := F14.out Z4 (Below.refl _ _)
  go_wp2_with (refine wpList_load_row rfl 35 (.tmp 13) rfl U11.heap.size rfl _ _ (0, 0) _ f.1 Try.underlying35 rfl infoSv2 ?_)
  refine (HH.out Z4 (Below.refl _ _)).mono ?_
  rintro e Z5 ⟨rfl, b5⟩
  clear f
  have f := F14.out Z5 b5
  go_wp2_with (refine wpList_load_row rfl 40 (.tmp 14) rfl (U11.heap.size + 1) rfl _ es (0, 0) _ f.2.1 Try.underlying40 rfl FI.out ?_)
  refine (HH2.out Z5 b5).mono ?_
  rintro e Z6 ⟨rfl, b6⟩
  clear f
  have b6 := bAll b5 b6
  have hMM : ((M : Int) != (M : Int)) = false := by simp
  go_upto_region 35 with fail
  have CC := hide (Hu.out _ (Hy.out _ b6))
  clear b5 Hu
  go_cut [19, 20, 21] (fun s8 s9 s10 wx => ∃ g h, s8 = .pointer (some ⟨g, 0, none⟩) ∧ s9 = .pointer (some ⟨h, 0, none⟩) ∧ s10 = .bool R.2.2.2 ∧ VoB wx Z6.heap.size wx.heap.size g h R ∧ Below Z6.heap.size Z6 wx)
  case first =>
   as_aux_lemma =>
   clear F14 HH HH2 Hy G8
   have c00 : Below Z6.heap.size Z6 Z6.drew := bDrewB (Below.refl _ _)
   have CW : Below W.heap.size W Z6.drew := bAll CC.out c00
   refine wp_region_noPanic ?_
   refine wp_region_held_drew (S := (fun w' => w'.heap[w.heap.size]? = some (.cells #[.int .i64 P, .slice ao xs.length ca] 24 (0, 0)) ∧ w'.heap[w.heap.size + 1]? = some (.cells cs 30 (0, 0)))) (by kernel_rfl) ?_ (fun hHeld => ?_)
   · exact fA.out _ CW
   refine wpAnyH_take (i := 0) (v := .agg #[.int .i64 P, .slice ao xs.length ca]) rfl (by kernel_rfl) (by kernel_rfl) (by kernel_rfl) (fun _ _ _ h => h) (yields_row rfl 24 (.tmp 3) rfl (w.heap.size) rfl _ #[.int .i64 P, .slice ao xs.length ca] _ (fun _ h => h.1) Try.underlying24 rfl infoLv) (by assumption) ?_
   simp only [Act.put, List.getElem_toArray, List.getElem_cons_zero, List.setIfInBounds_toArray, List.set_cons_zero, List.set_cons_succ]
   refine wpAnyH_take (i := 2) (v := ?v81) rfl (by kernel_rfl) (by kernel_rfl) (by kernel_rfl) (fun _ _ _ h => h) (Or.inl ⟨by rfl, ?y81⟩) (by assumption) ?r81
   case y81 => (intro w hSw; go_simp; first | done | (with_reducible rfl))
   simp only [Act.put, List.getElem_toArray, List.getElem_cons_zero, List.getElem_cons_succ, List.setIfInBounds_toArray, List.set_cons_zero, List.set_cons_succ]
   refine wpAnyH_take (i := 3) (v := .agg cs) rfl (by kernel_rfl) (by kernel_rfl) (by kernel_rfl) (fun _ _ _ h => h) (yields_row rfl 30 (.tmp 5) rfl (w.heap.size + 1) rfl _ cs _ (fun _ h => h.2) Try.underlying30 rfl HI.out) (by assumption) ?_
   simp only [Act.put, List.getElem_toArray, List.getElem_cons_zero, List.getElem_cons_succ, List.setIfInBounds_toArray, List.set_cons_zero, List.set_cons_succ]
   apply shareV (F := fun X g8 g9 v1 v2 v3 y3 lo hi => VLF Z6 X g8 g9 v3 y3 lo hi R)
   · intro LEAF
     refine wpAnyH_ready (rs := [1, 10, 11]) (by kernel_rfl) (by simp) ?_
     refine AllReadyH.cons rfl (fun K hK => ?_) (AllReadyH.cons rfl (fun K hK => ?_) (AllReadyH.cons rfl (fun K hK => ?_) AllReadyH.nil))
     ·
      go_simp
      go_at_call 12
      refine (toSynVoter_any _ P xs _ (HA.out _ CW).1 hn).mono ?_
      rintro e Yw0 ⟨v1, rfl, D1', bb⟩
      have c00 := bAll c00 bb
      have CW := bAll CW bb
      have D1 := hide D1'.reads
      refine hK.out _ _ ?_ (fun hHeld => ?_)
      · exact fA.out _ CW
      clear hK K
      refine wpAnyH_ready (rs := [4, 10, 11]) (by kernel_rfl) (by simp) ?_
      refine AllReadyH.cons rfl (fun K hK => ?_) (AllReadyH.cons rfl (fun K hK => ?_) (AllReadyH.cons rfl (fun K hK => ?_) AllReadyH.nil))
      ·
       go_simp
       go_at_call 13
       refine (toWord_any _ x _ (HA.out _ CW).2 hp hl).mono ?_
       rintro e Yw1 ⟨v2, rfl, D2', bb⟩
       have c00 := bAll c00 bb
       have CW := bAll CW bb
       have D1 := hide (D1.out.keep bb)
       have D2 := hide D2'.reads
       refine hK.out _ _ ?_ (fun hHeld => ?_)
       · exact fA.out _ CW
       clear hK K
       refine wpAnyH_ready (rs := [5, 10, 11]) (by kernel_rfl) (by simp) ?_
       refine AllReadyH.cons rfl (fun K hK => ?_) (AllReadyH.cons rfl (fun K hK => ?_) (AllReadyH.cons rfl (fun K hK => ?_) AllReadyH.nil))
       ·
        go_simp
        go_at_call 14
        have hlo : Z6.heap.size ≤ (Yw1).heap.size := c00.size
        refine (cI _ _ _ D1.out D2.out hn).mono ?_
        rintro e Yw2 ⟨v3, y3, rfl, D3', D4', bb⟩
        have c00 := bAll c00 bb
        have CW := bAll CW bb
        have D1 := hide (D1.out.keep bb)
        have D2 := hide (D2.out.keep bb)
        have zbb := bb.size
        have D3 := hide D3'.inside
        have D4 := hide (show WdO Yw2 (fun _ => False) y3 R.2.2.1 from D4'.flat HRf.1 HRf.2)
        refine hK.out _ _ ?_ (fun hHeld => ?_)
        · exact fA.out _ CW
        clear hK K
        refine wpAnyH_take (i := 6) (v := ?v82) rfl (by kernel_rfl) (by kernel_rfl) (by kernel_rfl) (fun _ _ _ h => h) (Or.inl ⟨by rfl, ?y82⟩) (by assumption) ?r82
        case y82 => (intro w hSw; go_simp; first | done | (with_reducible rfl))
        simp only [Act.put, List.getElem_toArray, List.getElem_cons_zero, List.getElem_cons_succ, List.setIfInBounds_toArray, List.set_cons_zero, List.set_cons_succ]
        refine wpAnyH_take (i := 7) (v := ?v83) rfl (by kernel_rfl) (by kernel_rfl) (by kernel_rfl) (fun _ _ _ h => h) (Or.inl ⟨by rfl, ?y83⟩) (by assumption) ?r83
        case y83 => (intro w hSw; go_simp; first | done | (with_reducible rfl))
        simp only [Act.put, List.getElem_toArray, List.getElem_cons_zero, List.getElem_cons_succ, List.setIfInBounds_toArray, List.set_cons_zero, List.set_cons_succ]
        refine wpAnyH_take (i := 8) (v := ?v84) rfl (by kernel_rfl) (by kernel_rfl) (by kernel_rfl) (fun _ _ _ h => h) (Or.inl ⟨by rfl, ?y84⟩) (by assumption) ?r84
        case y84 => (intro w hSw; go_simp; first | done | (with_reducible rfl))
        simp only [Act.put, List.getElem_toArray, List.getElem_cons_zero, List.getElem_cons_succ, List.setIfInBounds_toArray, List.set_cons_zero, List.set_cons_succ]
        refine wpAnyH_take (i := 9) (v := ?v85) rfl (by kernel_rfl) (by kernel_rfl) (by kernel_rfl) (fun _ _ _ h => h) (Or.inl ⟨by rfl, ?y85⟩) (by assumption) ?r85
        case y85 => (intro w hSw; go_simp; first | done | (with_reducible rfl))
        simp only [Act.put, List.getElem_toArray, List.getElem_cons_zero, List.getElem_cons_succ, List.setIfInBounds_toArray, List.set_cons_zero, List.set_cons_succ]
        refine wpAnyH_ready (rs := [10, 11]) (by kernel_rfl) (by simp) ?_
        refine AllReadyH.cons rfl (fun K hK => ?_) (AllReadyH.cons rfl (fun K hK => ?_) AllReadyH.nil)
        ·
         go_simp
         have zzN8 : Z6.heap.size ≤ (Yw2).heap.size := by have := c00.size; (try simp only [World.size_alloc] at this); first | exact this | omega
         have zhN8 : Yw2.heap.size ≤ (Yw2).heap.size := by first | exact Nat.le_refl _ | omega
         have b3 := bal (Below.refl (Yw2).heap.size (Yw2)) Zvo
         have c00 := bAll c00 b3
         have CW := bAll CW b3
         have D3 := hide (D3.out.keepB b3)
         have D4 := hide (D4.out.keepB b3)
         have N8 := hide (heap_alloc_new (Yw2) Zvo)
         refine hK.out _ _ ?_ (fun hHeld => ?_)
         · exact fA.out _ CW
         clear hK K
         refine wpAnyH_ready (rs := [11]) (by kernel_rfl) (by simp) ?_
         refine AllReadyH.cons rfl (fun K hK => ?_) AllReadyH.nil
         go_simp
         have zzN9 : Z6.heap.size ≤ (Yw2).heap.size + 1 := by have := c00.size; (try simp only [World.size_alloc] at this); first | exact this | omega
         have zhN9 : Yw2.heap.size ≤ (Yw2).heap.size + 1 := by first | exact Nat.le_refl _ | omega
         have b4 := bal (Below.refl (((Yw2).alloc Zvo)).heap.size (((Yw2).alloc Zvo))) Zwo
         have c00 := bAll c00 b4
         have CW := bAll CW b4
         have D3 := hide (D3.out.keepB b4)
         have D4 := hide (D4.out.keepB b4)
         have N8 := hide (bKeeps b4 N8.out)
         have N9 := hide (al2_1 (Yw2) Zvo Zwo)
         refine hK.out _ _ ?_ (fun hHeld => ?_)
         · exact fA.out _ CW
         clear hK K
         have hc8 := heap_lt N8.out
         have hc9 := heap_lt N9.out
         have zX := c00.size
         have ne89 : ¬ (Yw2).heap.size = (Yw2).heap.size + 1 := by intro e9; have h8 := N8.out; rw [e9] at h8; have := h8.symm.trans N9.out; simp at this
         have HF := VLF.mk (base := Z6) (X := ((((Yw2).alloc Zvo)).alloc Zwo)) (g8 := (Yw2).heap.size) (g9 := (Yw2).heap.size + 1) (v3 := v3) (y3 := y3) (lo := (Yw1).heap.size) (hi := Yw2.heap.size) (R := R) c00 N8.out N9.out D3.out D4.out (by omega) (by omega) (by omega) (by omega) (by omega) (by omega) ne89
         clear c00 CW N8 N9 D3 D4 hHeld
         generalize (((((Yw2).alloc Zvo)).alloc Zwo)) = X at HF ⊢
         generalize hg9 : ((Yw2).heap.size + 1) = g9 at HF ⊢
         generalize hg8 : ((Yw2).heap.size) = g8 at HF ⊢
         exact LEAF X g8 g9 v1 v2 v3 y3 _ _ HF
        ·
         go_simp
         have zzN9 : Z6.heap.size ≤ (Yw2).heap.size := by have := c00.size; (try simp only [World.size_alloc] at this); first | exact this | omega
         have zhN9 : Yw2.heap.size ≤ (Yw2).heap.size := by first | exact Nat.le_refl _ | omega
         have b3 := bal (Below.refl (Yw2).heap.size (Yw2)) Zwo
         have c00 := bAll c00 b3
         have CW := bAll CW b3
         have D3 := hide (D3.out.keepB b3)
         have D4 := hide (D4.out.keepB b3)
         have N9 := hide (heap_alloc_new (Yw2) Zwo)
         refine hK.out _ _ ?_ (fun hHeld => ?_)
         · exact fA.out _ CW
         clear hK K
         refine wpAnyH_ready (rs := [10]) (by kernel_rfl) (by simp) ?_
         refine AllReadyH.cons rfl (fun K hK => ?_) AllReadyH.nil
         go_simp
         have zzN8 : Z6.heap.size ≤ (Yw2).heap.size + 1 := by have := c00.size; (try simp only [World.size_alloc] at this); first | exact this | omega
         have zhN8 : Yw2.heap.size ≤ (Yw2).heap.size + 1 := by first | exact Nat.le_refl _ | omega
         have b4 := bal (Below.refl (((Yw2).alloc Zwo)).heap.size (((Yw2).alloc Zwo))) Zvo
         have c00 := bAll c00 b4
         have CW := bAll CW b4
         have D3 := hide (D3.out.keepB b4)
         have D4 := hide (D4.out.keepB b4)
         have N9 := hide (bKeeps b4 N9.out)
         have N8 := hide (al2_1 (Yw2) Zwo Zvo)
         refine hK.out _ _ ?_ (fun hHeld => ?_)
         · exact fA.out _ CW
         clear hK K
         have hc8 := heap_lt N8.out
         have hc9 := heap_lt N9.out
         have zX := c00.size
         have ne89 : ¬ (Yw2).heap.size + 1 = (Yw2).heap.size := by intro e9; have h8 := N8.out; rw [e9] at h8; have := h8.symm.trans N9.out; simp at this
         exact LEAF _ _ _ v1 v2 v3 y3 _ _ (VLF.mk (base := Z6) (X := ((((Yw2).alloc Zwo)).alloc Zvo)) (g8 := (Yw2).heap.size + 1) (g9 := (Yw2).heap.size) (v3 := v3) (y3 := y3) (lo := (Yw1).heap.size) (hi := Yw2.heap.size) (R := R) c00 N8.out N9.out D3.out D4.out (by omega) (by omega) (by omega) (by omega) (by omega) (by omega) ne89)
       ·
        go_simp
        have zzN8 : Z6.heap.size ≤ (Yw1).heap.size := by have := c00.size; (try simp only [World.size_alloc] at this); first | exact this | omega
        have b2 := bal (Below.refl (Yw1).heap.size (Yw1)) Zvo
        have c00 := bAll c00 b2
        have CW := bAll CW b2
        have D1 := hide (D1.out.keep b2)
        have D2 := hide (D2.out.keep b2)
        have N8 := hide (heap_alloc_new (Yw1) Zvo)
        refine hK.out _ _ ?_ (fun hHeld => ?_)
        · exact fA.out _ CW
        clear hK K
        refine wpAnyH_ready (rs := [5, 11]) (by kernel_rfl) (by simp) ?_
        refine AllReadyH.cons rfl (fun K hK => ?_) (AllReadyH.cons rfl (fun K hK => ?_) AllReadyH.nil)
        ·
         go_simp
         go_at_call 14
         have hlo : Z6.heap.size ≤ (((Yw1).alloc Zvo)).heap.size := c00.size
         have hbN8 := heap_lt N8.out
         refine (cI _ _ _ D1.out D2.out hn).mono ?_
         rintro e Yw3 ⟨v3, y3, rfl, D3', D4', bb⟩
         have c00 := bAll c00 bb
         have CW := bAll CW bb
         have D1 := hide (D1.out.keep bb)
         have D2 := hide (D2.out.keep bb)
         have N8 := hide (bKeeps bb N8.out)
         have zbb := bb.size
         have D3 := hide D3'.inside
         have D4 := hide (show WdO Yw3 (fun _ => False) y3 R.2.2.1 from D4'.flat HRf.1 HRf.2)
         refine hK.out _ _ ?_ (fun hHeld => ?_)
         · exact fA.out _ CW
         clear hK K
         refine wpAnyH_take (i := 6) (v := ?v86) rfl (by kernel_rfl) (by kernel_rfl) (by kernel_rfl) (fun _ _ _ h => h) (Or.inl ⟨by rfl, ?y86⟩) (by assumption) ?r86
         case y86 => (intro w hSw; go_simp; first | done | (with_reducible rfl))
         simp only [Act.put, List.getElem_toArray, List.getElem_cons_zero, List.getElem_cons_succ, List.setIfInBounds_toArray, List.set_cons_zero, List.set_cons_succ]
         refine wpAnyH_take (i := 7) (v := ?v87) rfl (by kernel_rfl) (by kernel_rfl) (by kernel_rfl) (fun _ _ _ h => h) (Or.inl ⟨by rfl, ?y87⟩) (by assumption) ?r87
         case y87 => (intro w hSw; go_simp; first | done | (with_reducible rfl))
         simp only [Act.put, List.getElem_toArray, List.getElem_cons_zero, List.getElem_cons_succ, List.setIfInBounds_toArray, List.set_cons_zero, List.set_cons_succ]
         refine wpAnyH_take (i := 8) (v := ?v88) rfl (by kernel_rfl) (by kernel_rfl) (by kernel_rfl) (fun _ _ _ h => h) (Or.inl ⟨by rfl, ?y88⟩) (by assumption) ?r88
         case y88 => (intro w hSw; go_simp; first | done | (with_reducible rfl))
         simp only [Act.put, List.getElem_toArray, List.getElem_cons_zero, List.getElem_cons_succ, List.setIfInBounds_toArray, List.set_cons_zero, List.set_cons_succ]
         refine wpAnyH_take (i := 9) (v := ?v89) rfl (by kernel_rfl) (by kernel_rfl) (by kernel_rfl) (fun _ _ _ h => h) (Or.inl ⟨by rfl, ?y89⟩) (by assumption) ?r89
         case y89 => (intro w hSw; go_simp; first | done | (with_reducible rfl))
         simp only [Act.put, List.getElem_toArray, List.getElem_cons_zero, List.getElem_cons_succ, List.setIfInBounds_toArray, List.set_cons_zero, List.set_cons_succ]
         refine wpAnyH_ready (rs := [11]) (by kernel_rfl) (by simp) ?_
         refine AllReadyH.cons rfl (fun K hK => ?_) AllReadyH.nil
         go_simp
         have zzN9 : Z6.heap.size ≤ (Yw3).heap.size := by have := c00.size; (try simp only [World.size_alloc] at this); first | exact this | omega
         have zhN9 : Yw3.heap.size ≤ (Yw3).heap.size := by first | exact Nat.le_refl _ | omega
         have b4 := bal (Below.refl (Yw3).heap.size (Yw3)) Zwo
         have c00 := bAll c00 b4
         have CW := bAll CW b4
         have N8 := hide (bKeeps b4 N8.out)
         have D3 := hide (D3.out.keepB b4)
         have D4 := hide (D4.out.keepB b4)
         have N9 := hide (heap_alloc_new (Yw3) Zwo)
         refine hK.out _ _ ?_ (fun hHeld => ?_)
         · exact fA.out _ CW
         clear hK K
         have hc8 := heap_lt N8.out
         have hc9 := heap_lt N9.out
         have zX := c00.size
         have ne89 : ¬ (Yw1).heap.size = (Yw3).heap.size := by intro e9; have h8 := N8.out; rw [e9] at h8; have := h8.symm.trans N9.out; simp at this
         exact LEAF _ _ _ v1 v2 v3 y3 _ _ (VLF.mk (base := Z6) (X := ((Yw3).alloc Zwo)) (g8 := (Yw1).heap.size) (g9 := (Yw3).heap.size) (v3 := v3) (y3 := y3) (lo := (((Yw1).alloc Zvo)).heap.size) (hi := Yw3.heap.size) (R := R) c00 N8.out N9.out D3.out D4.out (by omega) (by omega) (by omega) (by omega) (by omega) (by omega) ne89)
        ·
         go_simp
         have zzN9 : Z6.heap.size ≤ (Yw1).heap.size + 1 := by have := c00.size; (try simp only [World.size_alloc] at this); first | exact this | omega
         have b3 := bal (Below.refl (((Yw1).alloc Zvo)).heap.size (((Yw1).alloc Zvo))) Zwo
         have c00 := bAll c00 b3
         have CW := bAll CW b3
         have D1 := hide (D1.out.keep b3)
         have D2 := hide (D2.out.keep b3)
         have N8 := hide (bKeeps b3 N8.out)
         have N9 := hide (al2_1 (Yw1) Zvo Zwo)
         refine hK.out _ _ ?_ (fun hHeld => ?_)
         · exact fA.out _ CW
         clear hK K
         refine wpAnyH_ready (rs := [5]) (by kernel_rfl) (by simp) ?_
         refine AllReadyH.cons rfl (fun K hK => ?_) AllReadyH.nil
         go_simp
         go_at_call 14
         have hlo : Z6.heap.size ≤ (((((Yw1).alloc Zvo)).alloc Zwo)).heap.size := c00.size
         have hbN8 := heap_lt N8.out
         have hbN9 := heap_lt N9.out
         refine (cI _ _ _ D1.out D2.out hn).mono ?_
         rintro e Yw4 ⟨v3, y3, rfl, D3', D4', bb⟩
         have c00 := bAll c00 bb
         have CW := bAll CW bb
         have D1 := hide (D1.out.keep bb)
         have D2 := hide (D2.out.keep bb)
         have N8 := hide (bKeeps bb N8.out)
         have N9 := hide (bKeeps bb N9.out)
         have zbb := bb.size
         have D3 := hide D3'.inside
         have D4 := hide (show WdO Yw4 (fun _ => False) y3 R.2.2.1 from D4'.flat HRf.1 HRf.2)
         refine hK.out _ _ ?_ (fun hHeld => ?_)
         · exact fA.out _ CW
         clear hK K
         refine wpAnyH_take (i := 6) (v := ?v90) rfl (by kernel_rfl) (by kernel_rfl) (by kernel_rfl) (fun _ _ _ h => h) (Or.inl ⟨by rfl, ?y90⟩) (by assumption) ?r90
         case y90 => (intro w hSw; go_simp; first | done | (with_reducible rfl))
         simp only [Act.put, List.getElem_toArray, List.getElem_cons_zero, List.getElem_cons_succ, List.setIfInBounds_toArray, List.set_cons_zero, List.set_cons_succ]
         refine wpAnyH_take (i := 7) (v := ?v91) rfl (by kernel_rfl) (by kernel_rfl) (by kernel_rfl) (fun _ _ _ h => h) (Or.inl ⟨by rfl, ?y91⟩) (by assumption) ?r91
         case y91 => (intro w hSw; go_simp; first | done | (with_reducible rfl))
         simp only [Act.put, List.getElem_toArray, List.getElem_cons_zero, List.getElem_cons_succ, List.setIfInBounds_toArray, List.set_cons_zero, List.set_cons_succ]
         refine wpAnyH_take (i := 8) (v := ?v92) rfl (by kernel_rfl) (by kernel_rfl) (by kernel_rfl) (fun _ _ _ h => h) (Or.inl ⟨by rfl, ?y92⟩) (by assumption) ?r92
         case y92 => (intro w hSw; go_simp; first | done | (with_reducible rfl))
         simp only [Act.put, List.getElem_toArray, List.getElem_cons_zero, List.getElem_cons_succ, List.setIfInBounds_toArray, List.set_cons_zero, List.set_cons_succ]
         refine wpAnyH_take (i := 9) (v := ?v93) rfl (by kernel_rfl) (by kernel_rfl) (by kernel_rfl) (fun _ _ _ h => h) (Or.inl ⟨by rfl, ?y93⟩) (by assumption) ?r93
         case y93 => (intro w hSw; go_simp; first | done | (with_reducible rfl))
         simp only [Act.put, List.getElem_toArray, List.getElem_cons_zero, List.getElem_cons_succ, List.setIfInBounds_toArray, List.set_cons_zero, List.set_cons_succ]
         have hc8 := heap_lt N8.out
         have hc9 := heap_lt N9.out
         have zX := c00.size
         have ne89 : ¬ (Yw1).heap.size = (Yw1).heap.size + 1 := by intro e9; have h8 := N8.out; rw [e9] at h8; have := h8.symm.trans N9.out; simp at this
         exact LEAF _ _ _ v1 v2 v3 y3 _ _ (VLF.mk (base := Z6) (X := Yw4) (g8 := (Yw1).heap.size) (g9 := (Yw1).heap.size + 1) (v3 := v3) (y3 := y3) (lo := (((((Yw1).alloc Zvo)).alloc Zwo)).heap.size) (hi := Yw4.heap.size) (R := R) c00 N8.out N9.out D3.out D4.out (by omega) (by omega) (by omega) (by omega) (by omega) (by omega) ne89)
       ·
        go_simp
        have zzN9 : Z6.heap.size ≤ (Yw1).heap.size := by have := c00.size; (try simp only [World.size_alloc] at this); first | exact this | omega
        have b2 := bal (Below.refl (Yw1).heap.size (Yw1)) Zwo
        have c00 := bAll c00 b2
        have CW := bAll CW b2
        have D1 := hide (D1.out.keep b2)
        have D2 := hide (D2.out.keep b2)
        have N9 := hide (heap_alloc_new (Yw1) Zwo)
        refine hK.out _ _ ?_ (fun hHeld => ?_)
        · exact fA.out _ CW
        clear hK K
        refine wpAnyH_ready (rs := [5, 10]) (by kernel_rfl) (by simp) ?_
        refine AllReadyH.cons rfl (fun K hK => ?_) (AllReadyH.cons rfl (fun K hK => ?_) AllReadyH.nil)
        ·
         go_simp
         go_at_call 14
         have hlo : Z6.heap.size ≤ (((Yw1).alloc Zwo)).heap.size := c00.size
         have hbN9 := heap_lt N9.out
         refine (cI _ _ _ D1.out D2.out hn).mono ?_
         rintro e Yw3 ⟨v3, y3, rfl, D3', D4', bb⟩
         have c00 := bAll c00 bb
         have CW := bAll CW bb
         have D1 := hide (D1.out.keep bb)
         have D2 := hide (D2.out.keep bb)
         have N9 := hide (bKeeps bb N9.out)
         have zbb := bb.size
         have D3 := hide D3'.inside
         have D4 := hide (show WdO Yw3 (fun _ => False) y3 R.2.2.1 from D4'.flat HRf.1 HRf.2)
         refine hK.out _ _ ?_ (fun hHeld => ?_)
         · exact fA.out _ CW
         clear hK K
         refine wpAnyH_take (i := 6) (v := ?v94) rfl (by kernel_rfl) (by kernel_rfl) (by kernel_rfl) (fun _ _ _ h => h) (Or.inl ⟨by rfl, ?y94⟩) (by assumption) ?r94
         case y94 => (intro w hSw; go_simp; first | done | (with_reducible rfl))
         simp only [Act.put, List.getElem_toArray, List.getElem_cons_zero, List.getElem_cons_succ, List.setIfInBounds_toArray, List.set_cons_zero, List.set_cons_succ]
         refine wpAnyH_take (i := 7) (v := ?v95) rfl (by kernel_rfl) (by kernel_rfl) (by kernel_rfl) (fun _ _ _ h => h) (Or.inl ⟨by rfl, ?y95⟩) (by assumption) ?r95
         case y95 => (intro w hSw; go_simp; first | done | (with_reducible rfl))
         simp only [Act.put, List.getElem_toArray, List.getElem_cons_zero, List.getElem_cons_succ, List.setIfInBounds_toArray, List.set_cons_zero, List.set_cons_succ]
         refine wpAnyH_take (i := 8) (v := ?v96) rfl (by kernel_rfl) (by kernel_rfl) (by kernel_rfl) (fun _ _ _ h => h) (Or.inl ⟨by rfl, ?y96⟩) (by assumption) ?r96
         case y96 => (intro w hSw; go_simp; first | done | (with_reducible rfl))
         simp only [Act.put, List.getElem_toArray, List.getElem_cons_zero, List.getElem_cons_succ, List.setIfInBounds_toArray, List.set_cons_zero, List.set_cons_succ]
         refine wpAnyH_take (i := 9) (v := ?v97) rfl (by kernel_rfl) (by kernel_rfl) (by kernel_rfl) (fun _ _ _ h => h) (Or.inl ⟨by rfl, ?y97⟩) (by assumption) ?r97
         case y97 => (intro w hSw; go_simp; first | done | (with_reducible rfl))
         simp only [Act.put, List.getElem_toArray, List.getElem_cons_zero, List.getElem_cons_succ, List.setIfInBounds_toArray, List.set_cons_zero, List.set_cons_succ]
         refine wpAnyH_ready (rs := [10]) (by kernel_rfl) (by simp) ?_
         refine AllReadyH.cons rfl (fun K hK => ?_) AllReadyH.nil
         go_simp
         have zzN8 : Z6.heap.size ≤ (Yw3).heap.size := by have := c00.size; (try simp only [World.size_alloc] at this); first | exact this | omega
         have zhN8 : Yw3.heap.size ≤ (Yw3).heap.size := by first | exact Nat.le_refl _ | omega
         have b4 := bal (Below.refl (Yw3).heap.size (Yw3)) Zvo
         have c00 := bAll c00 b4
         have CW := bAll CW b4
         have N9 := hide (bKeeps b4 N9.out)
         have D3 := hide (D3.out.keepB b4)
         have D4 := hide (D4.out.keepB b4)
         have N8 := hide (heap_alloc_new (Yw3) Zvo)
         refine hK.out _ _ ?_ (fun hHeld => ?_)
         · exact fA.out _ CW
         clear hK K
         have hc8 := heap_lt N8.out
         have hc9 := heap_lt N9.out
         have zX := c00.size
         have ne89 : ¬ (Yw3).heap.size = (Yw1).heap.size := by intro e9; have h8 := N8.out; rw [e9] at h8; have := h8.symm.trans N9.out; simp at this
         exact LEAF _ _ _ v1 v2 v3 y3 _ _ (VLF.mk (base := Z6) (X := ((Yw3).alloc Zvo)) (g8 := (Yw3).heap.size) (g9 := (Yw1).heap.size) (v3 := v3) (y3 := y3) (lo := (((Yw1).alloc Zwo)).heap.size) (hi := Yw3.heap.size) (R := R) c00 N8.out N9.out D3.out D4.out (by omega) (by omega) (by omega) (by omega) (by omega) (by omega) ne89)
        ·
         go_simp
         have zzN8 : Z6.heap.size ≤ (Yw1).heap.size + 1 := by have := c00.size; (try simp only [World.size_alloc] at this); first | exact this | omega
         have b3 := bal (Below.refl (((Yw1).alloc Zwo)).heap.size (((Yw1).alloc Zwo))) Zvo
         have c00 := bAll c00 b3
         have CW := bAll CW b3
         have D1 := hide (D1.out.keep b3)
         have D2 := hide (D2.out.keep b3)
         have N9 := hide (bKeeps b3 N9.out)
         have N8 := hide (al2_1 (Yw1) Zwo Zvo)
         refine hK.out _ _ ?_ (fun hHeld => ?_)
         · exact fA.out _ CW
         clear hK K
         refine wpAnyH_ready (rs := [5]) (by kernel_rfl) (by simp) ?_
         refine AllReadyH.cons rfl (fun K hK => ?_) AllReadyH.nil
         go_simp
         go_at_call 14
         have hlo : Z6.heap.size ≤ (((((Yw1).alloc Zwo)).alloc Zvo)).heap.size := c00.size
         have hbN8 := heap_lt N8.out
         have hbN9 := heap_lt N9.out
         refine (cI _ _ _ D1.out D2.out hn).mono ?_
         rintro e Yw4 ⟨v3, y3, rfl, D3', D4', bb⟩
         have c00 := bAll c00 bb
         have CW := bAll CW bb
         have D1 := hide (D1.out.keep bb)
         have D2 := hide (D2.out.keep bb)
         have N9 := hide (bKeeps bb N9.out)
         have N8 := hide (bKeeps bb N8.out)
         have zbb := bb.size
         have D3 := hide D3'.inside
         have D4 := hide (show WdO Yw4 (fun _ => False) y3 R.2.2.1 from D4'.flat HRf.1 HRf.2)
         refine hK.out _ _ ?_ (fun hHeld => ?_)
         · exact fA.out _ CW
         clear hK K
         refine wpAnyH_take (i := 6) (v := ?v98) rfl (by kernel_rfl) (by kernel_rfl) (by kernel_rfl) (fun _ _ _ h => h) (Or.inl ⟨by rfl, ?y98⟩) (by assumption) ?r98
         case y98 => (intro w hSw; go_simp; first | done | (with_reducible rfl))
         simp only [Act.put, List.getElem_toArray, List.getElem_cons_zero, List.getElem_cons_succ, List.setIfInBounds_toArray, List.set_cons_zero, List.set_cons_succ]
         refine wpAnyH_take (i := 7) (v := ?v99) rfl (by kernel_rfl) (by kernel_rfl) (by kernel_rfl) (fun _ _ _ h => h) (Or.inl ⟨by rfl, ?y99⟩) (by assumption) ?r99
         case y99 => (intro w hSw; go_simp; first | done | (with_reducible rfl))
         simp only [Act.put, List.getElem_toArray, List.getElem_cons_zero, List.getElem_cons_succ, List.setIfInBounds_toArray, List.set_cons_zero, List.set_cons_succ]
         refine wpAnyH_take (i := 8) (v := ?v100) rfl (by kernel_rfl) (by kernel_rfl) (by kernel_rfl) (fun _ _ _ h => h) (Or.inl ⟨by rfl, ?y100⟩) (by assumption) ?r100
         case y100 => (intro w hSw; go_simp; first | done | (with_reducible rfl))
         simp only [Act.put, List.getElem_toArray, List.getElem_cons_zero, List.getElem_cons_succ, List.setIfInBounds_toArray, List.set_cons_zero, List.set_cons_succ]
         refine wpAnyH_take (i := 9) (v := ?v101) rfl (by kernel_rfl) (by kernel_rfl) (by kernel_rfl) (fun _ _ _ h => h) (Or.inl ⟨by rfl, ?y101⟩) (by assumption) ?r101
         case y101 => (intro w hSw; go_simp; first | done | (with_reducible rfl))
         simp only [Act.put, List.getElem_toArray, List.getElem_cons_zero, List.getElem_cons_succ, List.setIfInBounds_toArray, List.set_cons_zero, List.set_cons_succ]
         have hc8 := heap_lt N8.out
         have hc9 := heap_lt N9.out
         have zX := c00.size
         have ne89 : ¬ (Yw1).heap.size + 1 = (Yw1).heap.size := by intro e9; have h8 := N8.out; rw [e9] at h8; have := h8.symm.trans N9.out; simp at this
         exact LEAF _ _ _ v1 v2 v3 y3 _ _ (VLF.mk (base := Z6) (X := Yw4) (g8 := (Yw1).heap.size + 1) (g9 := (Yw1).heap.size) (v3 := v3) (y3 := y3) (lo := (((((Yw1).alloc Zwo)).alloc Zvo)).heap.size) (hi := Yw4.heap.size) (R := R) c00 N8.out N9.out D3.out D4.out (by omega) (by omega) (by omega) (by omega) (by omega) (by omega) ne89)
      ·
       go_simp
       have zzN8 : Z6.heap.size ≤ (Yw0).heap.size := by have := c00.size; (try simp only [World.size_alloc] at this); first | exact this | omega
       have b1 := bal (Below.refl (Yw0).heap.size (Yw0)) Zvo
       have c00 := bAll c00 b1
       have CW := bAll CW b1
       have D1 := hide (D1.out.keep b1)
       have N8 := hide (heap_alloc_new (Yw0) Zvo)
       refine hK.out _ _ ?_ (fun hHeld => ?_)
       · exact fA.out _ CW
       clear hK K
       refine wpAnyH_ready (rs := [4, 11]) (by kernel_rfl) (by simp) ?_
       refine AllReadyH.cons rfl (fun K hK => ?_) (AllReadyH.cons rfl (fun K hK => ?_) AllReadyH.nil)
       ·
        go_simp
        go_at_call 13
        refine (toWord_any _ x _ (HA.out _ CW).2 hp hl).mono ?_
        rintro e Yw2 ⟨v2, rfl, D2', bb⟩
        have c00 := bAll c00 bb
        have CW := bAll CW bb
        have D1 := hide (D1.out.keep bb)
        have N8 := hide (bKeeps bb N8.out)
        have D2 := hide D2'.reads
        refine hK.out _ _ ?_ (fun hHeld => ?_)
        · exact fA.out _ CW
        clear hK K
        refine wpAnyH_ready (rs := [5, 11]) (by kernel_rfl) (by simp) ?_
        refine AllReadyH.cons rfl (fun K hK => ?_) (AllReadyH.cons rfl (fun K hK => ?_) AllReadyH.nil)
        ·
         go_simp
         go_at_call 14
         have hlo : Z6.heap.size ≤ (Yw2).heap.size := c00.size
         have hbN8 := heap_lt N8.out
         refine (cI _ _ _ D1.out D2.out hn).mono ?_
         rintro e Yw3 ⟨v3, y3, rfl, D3', D4', bb⟩
         have c00 := bAll c00 bb
         have CW := bAll CW bb
         have D1 := hide (D1.out.keep bb)
         have N8 := hide (bKeeps bb N8.out)
         have D2 := hide (D2.out.keep bb)
         have zbb := bb.size
         have D3 := hide D3'.inside
         have D4 := hide (show WdO Yw3 (fun _ => False) y3 R.2.2.1 from D4'.flat HRf.1 HRf.2)
         refine hK.out _ _ ?_ (fun hHeld => ?_)
         · exact fA.out _ CW
         clear hK K
         refine wpAnyH_take (i := 6) (v := ?v102) rfl (by kernel_rfl) (by kernel_rfl) (by kernel_rfl) (fun _ _ _ h => h) (Or.inl ⟨by rfl, ?y102⟩) (by assumption) ?r102
         case y102 => (intro w hSw; go_simp; first | done | (with_reducible rfl))
         simp only [Act.put, List.getElem_toArray, List.getElem_cons_zero, List.getElem_cons_succ, List.setIfInBounds_toArray, List.set_cons_zero, List.set_cons_succ]
         refine wpAnyH_take (i := 7) (v := ?v103) rfl (by kernel_rfl) (by kernel_rfl) (by kernel_rfl) (fun _ _ _ h => h) (Or.inl ⟨by rfl, ?y103⟩) (by assumption) ?r103
         case y103 => (intro w hSw; go_simp; first | done | (with_reducible rfl))
         simp only [Act.put, List.getElem_toArray, List.getElem_cons_zero, List.getElem_cons_succ, List.setIfInBounds_toArray, List.set_cons_zero, List.set_cons_succ]
         refine wpAnyH_take (i := 8) (v := ?v104) rfl (by kernel_rfl) (by kernel_rfl) (by kernel_rfl) (fun _ _ _ h => h) (Or.inl ⟨by rfl, ?y104⟩) (by assumption) ?r104
         case y104 => (intro w hSw; go_simp; first | done | (with_reducible rfl))
         simp only [Act.put, List.getElem_toArray, List.getElem_cons_zero, List.getElem_cons_succ, List.setIfInBounds_toArray, List.set_cons_zero, List.set_cons_succ]
         refine wpAnyH_take (i := 9) (v := ?v105) rfl (by kernel_rfl) (by kernel_rfl) (by kernel_rfl) (fun _ _ _ h => h) (Or.inl ⟨by rfl, ?y105⟩) (by assumption) ?r105
         case y105 => (intro w hSw; go_simp; first | done | (with_reducible rfl))
         simp only [Act.put, List.getElem_toArray, List.getElem_cons_zero, List.getElem_cons_succ, List.setIfInBounds_toArray, List.set_cons_zero, List.set_cons_succ]
         refine wpAnyH_ready (rs := [11]) (by kernel_rfl) (by simp) ?_
         refine AllReadyH.cons rfl (fun K hK => ?_) AllReadyH.nil
         go_simp
         have zzN9 : Z6.heap.size ≤ (Yw3).heap.size := by have := c00.size; (try simp only [World.size_alloc] at this); first | exact this | omega
         have zhN9 : Yw3.heap.size ≤ (Yw3).heap.size := by first | exact Nat.le_refl _ | omega
         have b4 := bal (Below.refl (Yw3).heap.size (Yw3)) Zwo
         have c00 := bAll c00 b4
         have CW := bAll CW b4
         have N8 := hide (bKeeps b4 N8.out)
         have D3 := hide (D3.out.keepB b4)
         have D4 := hide (D4.out.keepB b4)
         have N9 := hide (heap_alloc_new (Yw3) Zwo)
         refine hK.out _ _ ?_ (fun hHeld => ?_)
         · exact fA.out _ CW
         clear hK K
         have hc8 := heap_lt N8.out
         have hc9 := heap_lt N9.out
         have zX := c00.size
         have ne89 : ¬ (Yw0).heap.size = (Yw3).heap.size := by intro e9; have h8 := N8.out; rw [e9] at h8; have := h8.symm.trans N9.out; simp at this
         exact LEAF _ _ _ v1 v2 v3 y3 _ _ (VLF.mk (base := Z6) (X := ((Yw3).alloc Zwo)) (g8 := (Yw0).heap.size) (g9 := (Yw3).heap.size) (v3 := v3) (y3 := y3) (lo := (Yw2).heap.size) (hi := Yw3.heap.size) (R := R) c00 N8.out N9.out D3.out D4.out (by omega) (by omega) (by omega) (by omega) (by omega) (by omega) ne89)
        ·
         go_simp
         have zzN9 : Z6.heap.size ≤ (Yw2).heap.size := by have := c00.size; (try simp only [World.size_alloc] at this); first | exact this | omega
         have b3 := bal (Below.refl (Yw2).heap.size (Yw2)) Zwo
         have c00 := bAll c00 b3
         have CW := bAll CW b3
         have D1 := hide (D1.out.keep b3)
         have N8 := hide (bKeeps b3 N8.out)
         have D2 := hide (D2.out.keep b3)
         have N9 := hide (heap_alloc_new (Yw2) Zwo)
         refine hK.out _ _ ?_ (fun hHeld => ?_)
         · exact fA.out _ CW
         clear hK K
         refine wpAnyH_ready (rs := [5]) (by kernel_rfl) (by simp) ?_
         refine AllReadyH.cons rfl (fun K hK => ?_) AllReadyH.nil
         go_simp
         go_at_call 14
         have hlo : Z6.heap.size ≤ (((Yw2).alloc Zwo)).heap.size := c00.size
         have hbN8 := heap_lt N8.out
         have hbN9 := heap_lt N9.out
         refine (cI _ _ _ D1.out D2.out hn).mono ?_
         rintro e Yw4 ⟨v3, y3, rfl, D3', D4', bb⟩
         have c00 := bAll c00 bb
         have CW := bAll CW bb
         have D1 := hide (D1.out.keep bb)
         have N8 := hide (bKeeps bb N8.out)
         have D2 := hide (D2.out.keep bb)
         have N9 := hide (bKeeps bb N9.out)
         have zbb := bb.size
         have D3 := hide D3'.inside
         have D4 := hide (show WdO Yw4 (fun _ => False) y3 R.2.2.1 from D4'.flat HRf.1 HRf.2)
         refine hK.out _ _ ?_ (fun hHeld => ?_)
         · exact fA.out _ CW
         clear hK K
         refine wpAnyH_take (i := 6) (v := ?v106) rfl (by kernel_rfl) (by kernel_rfl) (by kernel_rfl) (fun _ _ _ h => h) (Or.inl ⟨by rfl, ?y106⟩) (by assumption) ?r106
         case y106 => (intro w hSw; go_simp; first | done | (with_reducible rfl))
         simp only [Act.put, List.getElem_toArray, List.getElem_cons_zero, List.getElem_cons_succ, List.setIfInBounds_toArray, List.set_cons_zero, List.set_cons_succ]
         refine wpAnyH_take (i := 7) (v := ?v107) rfl (by kernel_rfl) (by kernel_rfl) (by kernel_rfl) (fun _ _ _ h => h) (Or.inl ⟨by rfl, ?y107⟩) (by assumption) ?r107
         case y107 => (intro w hSw; go_simp; first | done | (with_reducible rfl))
         simp only [Act.put, List.getElem_toArray, List.getElem_cons_zero, List.getElem_cons_succ, List.setIfInBounds_toArray, List.set_cons_zero, List.set_cons_succ]
         refine wpAnyH_take (i := 8) (v := ?v108) rfl (by kernel_rfl) (by kernel_rfl) (by kernel_rfl) (fun _ _ _ h => h) (Or.inl ⟨by rfl, ?y108⟩) (by assumption) ?r108
         case y108 => (intro w hSw; go_simp; first | done | (with_reducible rfl))
         simp only [Act.put, List.getElem_toArray, List.getElem_cons_zero, List.getElem_cons_succ, List.setIfInBounds_toArray, List.set_cons_zero, List.set_cons_succ]
         refine wpAnyH_take (i := 9) (v := ?v109) rfl (by kernel_rfl) (by kernel_rfl) (by kernel_rfl) (fun _ _ _ h => h) (Or.inl ⟨by rfl, ?y109⟩) (by assumption) ?r109
         case y109 => (intro w hSw; go_simp; first | done | (with_reducible rfl))
         simp only [Act.put, List.getElem_toArray, List.getElem_cons_zero, List.getElem_cons_succ, List.setIfInBounds_toArray, List.set_cons_zero, List.set_cons_succ]
         have hc8 := heap_lt N8.out
         have hc9 := heap_lt N9.out
         have zX := c00.size
         have ne89 : ¬ (Yw0).heap.size = (Yw2).heap.size := by intro e9; have h8 := N8.out; rw [e9] at h8; have := h8.symm.trans N9.out; simp at this
         exact LEAF _ _ _ v1 v2 v3 y3 _ _ (VLF.mk (base := Z6) (X := Yw4) (g8 := (Yw0).heap.size) (g9 := (Yw2).heap.size) (v3 := v3) (y3 := y3) (lo := (((Yw2).alloc Zwo)).heap.size) (hi := Yw4.heap.size) (R := R) c00 N8.out N9.out D3.out D4.out (by omega) (by omega) (by omega) (by omega) (by omega) (by omega) ne89)
       ·
        go_simp
        have zzN9 : Z6.heap.size ≤ (Yw0).heap.size + 1 := by have := c00.size; (try simp only [World.size_alloc] at this); first | exact this | omega
        have b2 := bal (Below.refl (((Yw0).alloc Zvo)).heap.size (((Yw0).alloc Zvo))) Zwo
        have c00 := bAll c00 b2
        have CW := bAll CW b2
        have D1 := hide (D1.out.keep b2)
        have N8 := hide (bKeeps b2 N8.out)
        have N9 := hide (al2_1 (Yw0) Zvo Zwo)
        refine hK.out _ _ ?_ (fun hHeld => ?_)
        · exact fA.out _ CW
        clear hK K
        refine wpAnyH_ready (rs := [4]) (by kernel_rfl) (by simp) ?_
        refine AllReadyH.cons rfl (fun K hK => ?_) AllReadyH.nil
        go_simp
        go_at_call 13
        refine (toWord_any _ x _ (HA.out _ CW).2 hp hl).mono ?_
        rintro e Yw3 ⟨v2, rfl, D2', bb⟩
        have c00 := bAll c00 bb
        have CW := bAll CW bb
        have D1 := hide (D1.out.keep bb)
        have N8 := hide (bKeeps bb N8.out)
        have N9 := hide (bKeeps bb N9.out)
        have D2 := hide D2'.reads
        refine hK.out _ _ ?_ (fun hHeld => ?_)
        · exact fA.out _ CW
        clear hK K
        refine wpAnyH_ready (rs := [5]) (by kernel_rfl) (by simp) ?_
        refine AllReadyH.cons rfl (fun K hK => ?_) AllReadyH.nil
        go_simp
        go_at_call 14
        have hlo : Z6.heap.size ≤ (Yw3).heap.size := c00.size
        have hbN8 := heap_lt N8.out
        have hbN9 := heap_lt N9.out
        refine (cI _ _ _ D1.out D2.out hn).mono ?_
        rintro e Yw4 ⟨v3, y3, rfl, D3', D4', bb⟩
        have c00 := bAll c00 bb
        have CW := bAll CW bb
        have D1 := hide (D1.out.keep bb)
        have N8 := hide (bKeeps bb N8.out)
        have N9 := hide (bKeeps bb N9.out)
        have D2 := hide (D2.out.keep bb)
        have zbb := bb.size
        have D3 := hide D3'.inside
        have D4 := hide (show WdO Yw4 (fun _ => False) y3 R.2.2.1 from D4'.flat HRf.1 HRf.2)
        refine hK.out _ _ ?_ (fun hHeld => ?_)
        · exact fA.out _ CW
        clear hK K
        refine wpAnyH_take (i := 6) (v := ?v110) rfl (by kernel_rfl) (by kernel_rfl) (by kernel_rfl) (fun _ _ _ h => h) (Or.inl ⟨by rfl, ?y110⟩) (by assumption) ?r110
        case y110 => (intro w hSw; go_simp; first | done | (with_reducible rfl))
        simp only [Act.put, List.getElem_toArray, List.getElem_cons_zero, List.getElem_cons_succ, List.setIfInBounds_toArray, List.set_cons_zero, List.set_cons_succ]
        refine wpAnyH_take (i := 7) (v := ?v111) rfl (by kernel_rfl) (by kernel_rfl) (by kernel_rfl) (fun _ _ _ h => h) (Or.inl ⟨by rfl, ?y111⟩) (by assumption) ?r111
        case y111 => (intro w hSw; go_simp; first | done | (with_reducible rfl))
        simp only [Act.put, List.getElem_toArray, List.getElem_cons_zero, List.getElem_cons_succ, List.setIfInBounds_toArray, List.set_cons_zero, List.set_cons_succ]
        refine wpAnyH_take (i := 8) (v := ?v112) rfl (by kernel_rfl) (by kernel_rfl) (by kernel_rfl) (fun _ _ _ h => h) (Or.inl ⟨by rfl, ?y112⟩) (by assumption) ?r112
        case y112 => (intro w hSw; go_simp; first | done | (with_reducible rfl))
        simp only [Act.put, List.getElem_toArray, List.getElem_cons_zero, List.getElem_cons_succ, List.setIfInBounds_toArray, List.set_cons_zero, List.set_cons_succ]
        refine wpAnyH_take (i := 9) (v := ?v113) rfl (by kernel_rfl) (by kernel_rfl) (by kernel_rfl) (fun _ _ _ h => h) (Or.inl ⟨by rfl, ?y113⟩) (by assumption) ?r113
        case y113 => (intro w hSw; go_simp; first | done | (with_reducible rfl))
        simp only [Act.put, List.getElem_toArray, List.getElem_cons_zero, List.getElem_cons_succ, List.setIfInBounds_toArray, List.set_cons_zero, List.set_cons_succ]
        have hc8 := heap_lt N8.out
        have hc9 := heap_lt N9.out
        have zX := c00.size
        have ne89 : ¬ (Yw0).heap.size = (Yw0).heap.size + 1 := by intro e9; have h8 := N8.out; rw [e9] at h8; have := h8.symm.trans N9.out; simp at this
        exact LEAF _ _ _ v1 v2 v3 y3 _ _ (VLF.mk (base := Z6) (X := Yw4) (g8 := (Yw0).heap.size) (g9 := (Yw0).heap.size + 1) (v3 := v3) (y3 := y3) (lo := (Yw3).heap.size) (hi := Yw4.heap.size) (R := R) c00 N8.out N9.out D3.out D4.out (by omega) (by omega) (by omega) (by omega) (by omega) (by omega) ne89)
      ·
       go_simp
       have zzN9 : Z6.heap.size ≤ (Yw0).heap.size := by have := c00.size; (try simp only [World.size_alloc] at this); first | exact this | omega
       have b1 := bal (Below.refl (Yw0).heap.size (Yw0)) Zwo
       have c00 := bAll c00 b1
       have CW := bAll CW b1
       have D1 := hide (D1.out.keep b1)
       have N9 := hide (heap_alloc_new (Yw0) Zwo)
       refine hK.out _ _ ?_ (fun hHeld => ?_)
       · exact fA.out _ CW
       clear hK K
       refine wpAnyH_ready (rs := [4, 10]) (by kernel_rfl) (by simp) ?_
       refine AllReadyH.cons rfl (fun K hK => ?_) (AllReadyH.cons rfl (fun K hK => ?_) AllReadyH.nil)
       ·
        go_simp
        go_at_call 13
        refine (toWord_any _ x _ (HA.out _ CW).2 hp hl).mono ?_
        rintro e Yw2 ⟨v2, rfl, D2', bb⟩
        have c00 := bAll c00 bb
        have CW := bAll CW bb
        have D1 := hide (D1.out.keep bb)
        have N9 := hide (bKeeps bb N9.out)
        have D2 := hide D2'.reads
        refine hK.out _ _ ?_ (fun hHeld => ?_)
        · exact fA.out _ CW
        clear hK K
        refine wpAnyH_ready (rs := [5, 10]) (by kernel_rfl) (by simp) ?_
        refine AllReadyH.cons rfl (fun K hK => ?_) (AllReadyH.cons rfl (fun K hK => ?_) AllReadyH.nil)
        ·
         go_simp
         go_at_call 14
         have hlo : Z6.heap.size ≤ (Yw2).heap.size := c00.size
         have hbN9 := heap_lt N9.out
         refine (cI _ _ _ D1.out D2.out hn).mono ?_
         rintro e Yw3 ⟨v3, y3, rfl, D3', D4', bb⟩
         have c00 := bAll c00 bb
         have CW := bAll CW bb
         have D1 := hide (D1.out.keep bb)
         have N9 := hide (bKeeps bb N9.out)
         have D2 := hide (D2.out.keep bb)
         have zbb := bb.size
         have D3 := hide D3'.inside
         have D4 := hide (show WdO Yw3 (fun _ => False) y3 R.2.2.1 from D4'.flat HRf.1 HRf.2)
         refine hK.out _ _ ?_ (fun hHeld => ?_)
         · exact fA.out _ CW
         clear hK K
         refine wpAnyH_take (i := 6) (v := ?v114) rfl (by kernel_rfl) (by kernel_rfl) (by kernel_rfl) (fun _ _ _ h => h) (Or.inl ⟨by rfl, ?y114⟩) (by assumption) ?r114
         case y114 => (intro w hSw; go_simp; first | done | (with_reducible rfl))
         simp only [Act.put, List.getElem_toArray, List.getElem_cons_zero, List.getElem_cons_succ, List.setIfInBounds_toArray, List.set_cons_zero, List.set_cons_succ]
         refine wpAnyH_take (i := 7) (v := ?v115) rfl (by kernel_rfl) (by kernel_rfl) (by kernel_rfl) (fun _ _ _ h => h) (Or.inl ⟨by rfl, ?y115⟩) (by assumption) ?r115
         case y115 => (intro w hSw; go_simp; first | done | (with_reducible rfl))
         simp only [Act.put, List.getElem_toArray, List.getElem_cons_zero, List.getElem_cons_succ, List.setIfInBounds_toArray, List.set_cons_zero, List.set_cons_succ]
         refine wpAnyH_take (i := 8) (v := ?v116) rfl (by kernel_rfl) (by kernel_rfl) (by kernel_rfl) (fun _ _ _ h => h) (Or.inl ⟨by rfl, ?y116⟩) (by assumption) ?r116
         case y116 => (intro w hSw; go_simp; first | done | (with_reducible rfl))
         simp only [Act.put, List.getElem_toArray, List.getElem_cons_zero, List.getElem_cons_succ, List.setIfInBounds_toArray, List.set_cons_zero, List.set_cons_succ]
         refine wpAnyH_take (i := 9) (v := ?v117) rfl (by kernel_rfl) (by kernel_rfl) (by kernel_rfl) (fun _ _ _ h => h) (Or.inl ⟨by rfl, ?y117⟩) (by assumption) ?r117
         case y117 => (intro w hSw; go_simp; first | done | (with_reducible rfl))
         simp only [Act.put, List.getElem_toArray, List.getElem_cons_zero, List.getElem_cons_succ, List.setIfInBounds_toArray, List.set_cons_zero, List.set_cons_succ]
         refine wpAnyH_ready (rs := [10]) (by kernel_rfl) (by simp) ?_
         refine AllReadyH.cons rfl (fun K hK => ?_) AllReadyH.nil
         go_simp
         have zzN8 : Z6.heap.size ≤ (Yw3).heap.size := by have := c00.size; (try simp only [World.size_alloc] at this); first | exact this | omega
         have zhN8 : Yw3.heap.size ≤ (Yw3).heap.size := by first | exact Nat.le_refl _ | omega
         have b4 := bal (Below.refl (Yw3).heap.size (Yw3)) Zvo
         have c00 := bAll c00 b4
         have CW := bAll CW b4
         have N9 := hide (bKeeps b4 N9.out)
         have D3 := hide (D3.out.keepB b4)
         have D4 := hide (D4.out.keepB b4)
         have N8 := hide (heap_alloc_new (Yw3) Zvo)
         refine hK.out _ _ ?_ (fun hHeld => ?_)
         · exact fA.out _ CW
         clear hK K
         have hc8 := heap_lt N8.out
         have hc9 := heap_lt N9.out
         have zX := c00.size
         have ne89 : ¬ (Yw3).heap.size = (Yw0).heap.size := by intro e9; have h8 := N8.out; rw [e9] at h8; have := h8.symm.trans N9.out; simp at this
         exact LEAF _ _ _ v1 v2 v3 y3 _ _ (VLF.mk (base := Z6) (X := ((Yw3).alloc Zvo)) (g8 := (Yw3).heap.size) (g9 := (Yw0).heap.size) (v3 := v3) (y3 := y3) (lo := (Yw2).heap.size) (hi := Yw3.heap.size) (R := R) c00 N8.out N9.out D3.out D4.out (by omega) (by omega) (by omega) (by omega) (by omega) (by omega) ne89)
        ·
         go_simp
         have zzN8 : Z6.heap.size ≤ (Yw2).heap.size := by have := c00.size; (try simp only [World.size_alloc] at this); first | exact this | omega
         have b3 := bal (Below.refl (Yw2).heap.size (Yw2)) Zvo
         have c00 := bAll c00 b3
         have CW := bAll CW b3
         have D1 := hide (D1.out.keep b3)
         have N9 := hide (bKeeps b3 N9.out)
         have D2 := hide (D2.out.keep b3)
         have N8 := hide (heap_alloc_new (Yw2) Zvo)
         refine hK.out _ _ ?_ (fun hHeld => ?_)
         · exact fA.out _ CW
         clear hK K
         refine wpAnyH_ready (rs := [5]) (by kernel_rfl) (by simp) ?_
         refine AllReadyH.cons rfl (fun K hK => ?_) AllReadyH.nil
         go_simp
         go_at_call 14
         have hlo : Z6.heap.size ≤ (((Yw2).alloc Zvo)).heap.size := c00.size
         have hbN8 := heap_lt N8.out
         have hbN9 := heap_lt N9.out
         refine (cI _ _ _ D1.out D2.out hn).mono ?_
         rintro e Yw4 ⟨v3, y3, rfl, D3', D4', bb⟩
         have c00 := bAll c00 bb
         have CW := bAll CW bb
         have D1 := hide (D1.out.keep bb)
         have N9 := hide (bKeeps bb N9.out)
         have D2 := hide (D2.out.keep bb)
         have N8 := hide (bKeeps bb N8.out)
         have zbb := bb.size
         have D3 := hide D3'.inside
         have D4 := hide (show WdO Yw4 (fun _ => False) y3 R.2.2.1 from D4'.flat HRf.1 HRf.2)
         refine hK.out _ _ ?_ (fun hHeld => ?_)
         · exact fA.out _ CW
         clear hK K
         refine wpAnyH_take (i := 6) (v := ?v118) rfl (by kernel_rfl) (by kernel_rfl) (by kernel_rfl) (fun _ _ _ h => h) (Or.inl ⟨by rfl, ?y118⟩) (by assumption) ?r118
         case y118 => (intro w hSw; go_simp; first | done | (with_reducible rfl))
         simp only [Act.put, List.getElem_toArray, List.getElem_cons_zero, List.getElem_cons_succ, List.setIfInBounds_toArray, List.set_cons_zero, List.set_cons_succ]
         refine wpAnyH_take (i := 7) (v := ?v119) rfl (by kernel_rfl) (by kernel_rfl) (by kernel_rfl) (fun _ _ _ h => h) (Or.inl ⟨by rfl, ?y119⟩) (by assumption) ?r119
         case y119 => (intro w hSw; go_simp; first | done | (with_reducible rfl))
         simp only [Act.put, List.getElem_toArray, List.getElem_cons_zero, List.getElem_cons_succ, List.setIfInBounds_toArray, List.set_cons_zero, List.set_cons_succ]
         refine wpAnyH_take (i := 8) (v := ?v120) rfl (by kernel_rfl) (by kernel_rfl) (by kernel_rfl) (fun _ _ _ h => h) (Or.inl ⟨by rfl, ?y120⟩) (by assumption) ?r120
         case y120 => (intro w hSw; go_simp; first | done | (with_reducible rfl))
         simp only [Act.put, List.getElem_toArray, List.getElem_cons_zero, List.getElem_cons_succ, List.setIfInBounds_toArray, List.set_cons_zero, List.set_cons_succ]
         refine wpAnyH_take (i := 9) (v := ?v121) rfl (by kernel_rfl) (by kernel_rfl) (by kernel_rfl) (fun _ _ _ h => h) (Or.inl ⟨by rfl, ?y121⟩) (by assumption) ?r121
         case y121 => (intro w hSw; go_simp; first | done | (with_reducible rfl))
         simp only [Act.put, List.getElem_toArray, List.getElem_cons_zero, List.getElem_cons_succ, List.setIfInBounds_toArray, List.set_cons_zero, List.set_cons_succ]
         have hc8 := heap_lt N8.out
         have hc9 := heap_lt N9.out
         have zX := c00.size
         have ne89 : ¬ (Yw2).heap.size = (Yw0).heap.size := by intro e9; have h8 := N8.out; rw [e9] at h8; have := h8.symm.trans N9.out; simp at this
         exact LEAF _ _ _ v1 v2 v3 y3 _ _ (VLF.mk (base := Z6) (X := Yw4) (g8 := (Yw2).heap.size) (g9 := (Yw0).heap.size) (v3 := v3) (y3 := y3) (lo := (((Yw2).alloc Zvo)).heap.size) (hi := Yw4.heap.size) (R := R) c00 N8.out N9.out D3.out D4.out (by omega) (by omega) (by omega) (by omega) (by omega) (by omega) ne89)
       ·
        go_simp
        have zzN8 : Z6.heap.size ≤ (Yw0).heap.size + 1 := by have := c00.size; (try simp only [World.size_alloc] at this); first | exact this | omega
        have b2 := bal (Below.refl (((Yw0).alloc Zwo)).heap.size (((Yw0).alloc Zwo))) Zvo
        have c00 := bAll c00 b2
        have CW := bAll CW b2
        have D1 := hide (D1.out.keep b2)
        have N9 := hide (bKeeps b2 N9.out)
        have N8 := hide (al2_1 (Yw0) Zwo Zvo)
        refine hK.out _ _ ?_ (fun hHeld => ?_)
        · exact fA.out _ CW
        clear hK K
        refine wpAnyH_ready (rs := [4]) (by kernel_rfl) (by simp) ?_
        refine AllReadyH.cons rfl (fun K hK => ?_) AllReadyH.nil
        go_simp
        go_at_call 13
        refine (toWord_any _ x _ (HA.out _ CW).2 hp hl).mono ?_
        rintro e Yw3 ⟨v2, rfl, D2', bb⟩
        have c00 := bAll c00 bb
        have CW := bAll CW bb
        have D1 := hide (D1.out.keep bb)
        have N9 := hide (bKeeps bb N9.out)
        have N8 := hide (bKeeps bb N8.out)
        have D2 := hide D2'.reads
        refine hK.out _ _ ?_ (fun hHeld => ?_)
        · exact fA.out _ CW
        clear hK K
        refine wpAnyH_ready (rs := [5]) (by kernel_rfl) (by simp) ?_
        refine AllReadyH.cons rfl (fun K hK => ?_) AllReadyH.nil
        go_simp
        go_at_call 14
        have hlo : Z6.heap.size ≤ (Yw3).heap.size := c00.size
        have hbN8 := heap_lt N8.out
        have hbN9 := heap_lt N9.out
        refine (cI _ _ _ D1.out D2.out hn).mono ?_
        rintro e Yw4 ⟨v3, y3, rfl, D3', D4', bb⟩
        have c00 := bAll c00 bb
        have CW := bAll CW bb
        have D1 := hide (D1.out.keep bb)
        have N9 := hide (bKeeps bb N9.out)
        have N8 := hide (bKeeps bb N8.out)
        have D2 := hide (D2.out.keep bb)
        have zbb := bb.size
        have D3 := hide D3'.inside
        have D4 := hide (show WdO Yw4 (fun _ => False) y3 R.2.2.1 from D4'.flat HRf.1 HRf.2)
        refine hK.out _ _ ?_ (fun hHeld => ?_)
        · exact fA.out _ CW
        clear hK K
        refine wpAnyH_take (i := 6) (v := ?v122) rfl (by kernel_rfl) (by kernel_rfl) (by kernel_rfl) (fun _ _ _ h => h) (Or.inl ⟨by rfl, ?y122⟩) (by assumption) ?r122
        case y122 => (intro w hSw; go_simp; first | done | (with_reducible rfl))
        simp only [Act.put, List.getElem_toArray, List.getElem_cons_zero, List.getElem_cons_succ, List.setIfInBounds_toArray, List.set_cons_zero, List.set_cons_succ]
        refine wpAnyH_take (i := 7) (v := ?v123) rfl (by kernel_rfl) (by kernel_rfl) (by kernel_rfl) (fun _ _ _ h => h) (Or.inl ⟨by rfl, ?y123⟩) (by assumption) ?r123
        case y123 => (intro w hSw; go_simp; first | done | (with_reducible rfl))
        simp only [Act.put, List.getElem_toArray, List.getElem_cons_zero, List.getElem_cons_succ, List.setIfInBounds_toArray, List.set_cons_zero, List.set_cons_succ]
        refine wpAnyH_take (i := 8) (v := ?v124) rfl (by kernel_rfl) (by kernel_rfl) (by kernel_rfl) (fun _ _ _ h => h) (Or.inl ⟨by rfl, ?y124⟩) (by assumption) ?r124
        case y124 => (intro w hSw; go_simp; first | done | (with_reducible rfl))
        simp only [Act.put, List.getElem_toArray, List.getElem_cons_zero, List.getElem_cons_succ, List.setIfInBounds_toArray, List.set_cons_zero, List.set_cons_succ]
        refine wpAnyH_take (i := 9) (v := ?v125) rfl (by kernel_rfl) (by kernel_rfl) (by kernel_rfl) (fun _ _ _ h => h) (Or.inl ⟨by rfl, ?y125⟩) (by assumption) ?r125
        case y125 => (intro w hSw; go_simp; first | done | (with_reducible rfl))
        simp only [Act.put, List.getElem_toArray, List.getElem_cons_zero, List.getElem_cons_succ, List.setIfInBounds_toArray, List.set_cons_zero, List.set_cons_succ]
        have hc8 := heap_lt N8.out
        have hc9 := heap_lt N9.out
        have zX := c00.size
        have ne89 : ¬ (Yw0).heap.size + 1 = (Yw0).heap.size := by intro e9; have h8 := N8.out; rw [e9] at h8; have := h8.symm.trans N9.out; simp at this
        exact LEAF _ _ _ v1 v2 v3 y3 _ _ (VLF.mk (base := Z6) (X := Yw4) (g8 := (Yw0).heap.size + 1) (g9 := (Yw0).heap.size) (v3 := v3) (y3 := y3) (lo := (Yw3).heap.size) (hi := Yw4.heap.size) (R := R) c00 N8.out N9.out D3.out D4.out (by omega) (by omega) (by omega) (by omega) (by omega) (by omega) ne89)
     ·
      go_simp
      have zzN8 : Z6.heap.size ≤ (Z6.drew).heap.size := by have := c00.size; (try simp only [World.size_alloc] at this); first | exact this | omega
      have b0 := bal (Below.refl (Z6.drew).heap.size (Z6.drew)) Zvo
      have c00 := bAll c00 b0
      have CW := bAll CW b0
      have N8 := hide (heap_alloc_new (Z6.drew) Zvo)
      refine hK.out _ _ ?_ (fun hHeld => ?_)
      · exact fA.out _ CW
      clear hK K
      refine wpAnyH_ready (rs := [1, 11]) (by kernel_rfl) (by simp) ?_
      refine AllReadyH.cons rfl (fun K hK => ?_) (AllReadyH.cons rfl (fun K hK => ?_) AllReadyH.nil)
      ·
       go_simp
       go_at_call 12
       refine (toSynVoter_any _ P xs _ (HA.out _ CW).1 hn).mono ?_
       rintro e Yw1 ⟨v1, rfl, D1', bb⟩
       have c00 := bAll c00 bb
       have CW := bAll CW bb
       have N8 := hide (bKeeps bb N8.out)
       have D1 := hide D1'.reads
       refine hK.out _ _ ?_ (fun hHeld => ?_)
       · exact fA.out _ CW
       clear hK K
       refine wpAnyH_ready (rs := [4, 11]) (by kernel_rfl) (by simp) ?_
       refine AllReadyH.cons rfl (fun K hK => ?_) (AllReadyH.cons rfl (fun K hK => ?_) AllReadyH.nil)
       ·
        go_simp
        go_at_call 13
        refine (toWord_any _ x _ (HA.out _ CW).2 hp hl).mono ?_
        rintro e Yw2 ⟨v2, rfl, D2', bb⟩
        have c00 := bAll c00 bb
        have CW := bAll CW bb
        have N8 := hide (bKeeps bb N8.out)
        have D1 := hide (D1.out.keep bb)
        have D2 := hide D2'.reads
        refine hK.out _ _ ?_ (fun hHeld => ?_)
        · exact fA.out _ CW
        clear hK K
        refine wpAnyH_ready (rs := [5, 11]) (by kernel_rfl) (by simp) ?_
        refine AllReadyH.cons rfl (fun K hK => ?_) (AllReadyH.cons rfl (fun K hK => ?_) AllReadyH.nil)
        ·
         go_simp
         go_at_call 14
         have hlo : Z6.heap.size ≤ (Yw2).heap.size := c00.size
         have hbN8 := heap_lt N8.out
         refine (cI _ _ _ D1.out D2.out hn).mono ?_
         rintro e Yw3 ⟨v3, y3, rfl, D3', D4', bb⟩
         have c00 := bAll c00 bb
         have CW := bAll CW bb
         have N8 := hide (bKeeps bb N8.out)
         have D1 := hide (D1.out.keep bb)
         have D2 := hide (D2.out.keep bb)
         have zbb := bb.size
         have D3 := hide D3'.inside
         have D4 := hide (show WdO Yw3 (fun _ => False) y3 R.2.2.1 from D4'.flat HRf.1 HRf.2)
         refine hK.out _ _ ?_ (fun hHeld => ?_)
         · exact fA.out _ CW
         clear hK K
         refine wpAnyH_take (i := 6) (v := ?v126) rfl (by kernel_rfl) (by kernel_rfl) (by kernel_rfl) (fun _ _ _ h => h) (Or.inl ⟨by rfl, ?y126⟩) (by assumption) ?r126
         case y126 => (intro w hSw; go_simp; first | done | (with_reducible rfl))
         simp only [Act.put, List.getElem_toArray, List.getElem_cons_zero, List.getElem_cons_succ, List.setIfInBounds_toArray, List.set_cons_zero, List.set_cons_succ]
         refine wpAnyH_take (i := 7) (v := ?v127) rfl (by kernel_rfl) (by kernel_rfl) (by kernel_rfl) (fun _ _ _ h => h) (Or.inl ⟨by rfl, ?y127⟩) (by assumption) ?r127
         case y127 => (intro w hSw; go_simp; first | done | (with_reducible rfl))
         simp only [Act.put, List.getElem_toArray, List.getElem_cons_zero, List.getElem_cons_succ, List.setIfInBounds_toArray, List.set_cons_zero, List.set_cons_succ]
         refine wpAnyH_take (i := 8) (v := ?v128) rfl (by kernel_rfl) (by kernel_rfl) (by kernel_rfl) (fun _ _ _ h => h) (Or.inl ⟨by rfl, ?y128⟩) (by assumption) ?r128
         case y128 => (intro w hSw; go_simp; first | done | (with_reducible rfl))
         simp only [Act.put, List.getElem_toArray, List.getElem_cons_zero, List.getElem_cons_succ, List.setIfInBounds_toArray, List.set_cons_zero, List.set_cons_succ]
         refine wpAnyH_take (i := 9) (v := ?v129) rfl (by kernel_rfl) (by kernel_rfl) (by kernel_rfl) (fun _ _ _ h => h) (Or.inl ⟨by rfl, ?y129⟩) (by assumption) ?r129
         case y129 => (intro w hSw; go_simp; first | done | (with_reducible rfl))
         simp only [Act.put, List.getElem_toArray, List.getElem_cons_zero, List.getElem_cons_succ, List.setIfInBounds_toArray, List.set_cons_zero, List.set_cons_succ]
         refine wpAnyH_ready (rs := [11]) (by kernel_rfl) (by simp) ?_
         refine AllReadyH.cons rfl (fun K hK => ?_) AllReadyH.nil
         go_simp
         have zzN9 : Z6.heap.size ≤ (Yw3).heap.size := by have := c00.size; (try simp only [World.size_alloc] at this); first | exact this | omega
         have zhN9 : Yw3.heap.size ≤ (Yw3).heap.size := by first | exact Nat.le_refl _ | omega
         have b4 := bal (Below.refl (Yw3).heap.size (Yw3)) Zwo
         have c00 := bAll c00 b4
         have CW := bAll CW b4
         have N8 := hide (bKeeps b4 N8.out)
         have D3 := hide (D3.out.keepB b4)
         have D4 := hide (D4.out.keepB b4)
         have N9 := hide (heap_alloc_new (Yw3) Zwo)
         refine hK.out _ _ ?_ (fun hHeld => ?_)
         · exact fA.out _ CW
         clear hK K
         have hc8 := heap_lt N8.out
         have hc9 := heap_lt N9.out
         have zX := c00.size
         have ne89 : ¬ (Z6.drew).heap.size = (Yw3).heap.size := by intro e9; have h8 := N8.out; rw [e9] at h8; have := h8.symm.trans N9.out; simp at this
         exact LEAF _ _ _ v1 v2 v3 y3 _ _ (VLF.mk (base := Z6) (X := ((Yw3).alloc Zwo)) (g8 := (Z6.drew).heap.size) (g9 := (Yw3).heap.size) (v3 := v3) (y3 := y3) (lo := (Yw2).heap.size) (hi := Yw3.heap.size) (R := R) c00 N8.out N9.out D3.out D4.out (by omega) (by omega) (by omega) (by omega) (by omega) (by omega) ne89)
        ·
         go_simp
         have zzN9 : Z6.heap.size ≤ (Yw2).heap.size := by have := c00.size; (try simp only [World.size_alloc] at this); first | exact this | omega
         have b3 := bal (Below.refl (Yw2).heap.size (Yw2)) Zwo
         have c00 := bAll c00 b3
         have CW := bAll CW b3
         have N8 := hide (bKeeps b3 N8.out)
         have D1 := hide (D1.out.keep b3)
         have D2 := hide (D2.out.keep b3)
         have N9 := hide (heap_alloc_new (Yw2) Zwo)
         refine hK.out _ _ ?_ (fun hHeld => ?_)
         · exact fA.out _ CW
         clear hK K
         refine wpAnyH_ready (rs := [5]) (by kernel_rfl) (by simp) ?_
         refine AllReadyH.cons rfl (fun K hK => ?_) AllReadyH.nil
         go_simp
         go_at_call 14
         have hlo : Z6.heap.size ≤ (((Yw2).alloc Zwo)).heap.size := c00.size
         have hbN8 := heap_lt N8.out
         have hbN9 := heap_lt N9.out
         refine (cI _ _ _ D1.out D2.out hn).mono ?_
         rintro e Yw4 ⟨v3, y3, rfl, D3', D4', bb⟩
         have c00 := bAll c00 bb
         have CW := bAll CW bb
         have N8 := hide (bKeeps bb N8.out)
         have D1 := hide (D1.out.keep bb)
         have D2 := hide (D2.out.keep bb)
         have N9 := hide (bKeeps bb N9.out)
         have zbb := bb.size
         have D3 := hide D3'.inside
         have D4 := hide (show WdO Yw4 (fun _ => False) y3 R.2.2.1 from D4'.flat HRf.1 HRf.2)
         refine hK.out _ _ ?_ (fun hHeld => ?_)
         · exact fA.out _ CW
         clear hK K
         refine wpAnyH_take (i := 6) (v := ?v130) rfl (by kernel_rfl) (by kernel_rfl) (by kernel_rfl) (fun _ _ _ h => h) (Or.inl ⟨by rfl, ?y130⟩) (by assumption) ?r130
         case y130 => (intro w hSw; go_simp; first | done | (with_reducible rfl))
         simp only [Act.put, List.getElem_toArray, List.getElem_cons_zero, List.getElem_cons_succ, List.setIfInBounds_toArray, List.set_cons_zero, List.set_cons_succ]
         refine wpAnyH_take (i := 7) (v := ?v131) rfl (by kernel_rfl) (by kernel_rfl) (by kernel_rfl) (fun _ _ _ h => h) (Or.inl ⟨by rfl, ?y131⟩) (by assumption) ?r131
         case y131 => (intro w hSw; go_simp; first | done | (with_reducible rfl))
         simp only [Act.put, List.getElem_toArray, List.getElem_cons_zero, List.getElem_cons_succ, List.setIfInBounds_toArray, List.set_cons_zero, List.set_cons_succ]
         refine wpAnyH_take (i := 8) (v := ?v132) rfl (by kernel_rfl) (by kernel_rfl) (by kernel_rfl) (fun _ _ _ h => h) (Or.inl ⟨by rfl, ?y132⟩) (by assumption) ?r132
         case y132 => (intro w hSw; go_simp; first | done | (with_reducible rfl))
         simp only [Act.put, List.getElem_toArray, List.getElem_cons_zero, List.getElem_cons_succ, List.setIfInBounds_toArray, List.set_cons_zero, List.set_cons_succ]
         refine wpAnyH_take (i := 9) (v := ?v133) rfl (by kernel_rfl) (by kernel_rfl) (by kernel_rfl) (fun _ _ _ h => h) (Or.inl ⟨by rfl, ?y133⟩) (by assumption) ?r133
         case y133 => (intro w hSw; go_simp; first | done | (with_reducible rfl))
         simp only [Act.put, List.getElem_toArray, List.getElem_cons_zero, List.getElem_cons_succ, List.setIfInBounds_toArray, List.set_cons_zero, List.set_cons_succ]
         have hc8 := heap_lt N8.out
         have hc9 := heap_lt N9.out
         have zX := c00.size
         have ne89 : ¬ (Z6.drew).heap.size = (Yw2).heap.size := by intro e9; have h8 := N8.out; rw [e9] at h8; have := h8.symm.trans N9.out; simp at this
         exact LEAF _ _ _ v1 v2 v3 y3 _ _ (VLF.mk (base := Z6) (X := Yw4) (g8 := (Z6.drew).heap.size) (g9 := (Yw2).heap.size) (v3 := v3) (y3 := y3) (lo := (((Yw2).alloc Zwo)).heap.size) (hi := Yw4.heap.size) (R := R) c00 N8.out N9.out D3.out D4.out (by omega) (by omega) (by omega) (by omega) (by omega) (by omega) ne89)
       ·
        go_simp
        have zzN9 : Z6.heap.size ≤ (Yw1).heap.size := by have := c00.size; (try simp only [World.size_alloc] at this); first | exact this | omega
        have b2 := bal (Below.refl (Yw1).heap.size (Yw1)) Zwo
        have c00 := bAll c00 b2
        have CW := bAll CW b2
        have N8 := hide (bKeeps b2 N8.out)
        have D1 := hide (D1.out.keep b2)
        have N9 := hide (heap_alloc_new (Yw1) Zwo)
        refine hK.out _ _ ?_ (fun hHeld => ?_)
        · exact fA.out _ CW
        clear hK K
        refine wpAnyH_ready (rs := [4]) (by kernel_rfl) (by simp) ?_
        refine AllReadyH.cons rfl (fun K hK => ?_) AllReadyH.nil
        go_simp
        go_at_call 13
        refine (toWord_any _ x _ (HA.out _ CW).2 hp hl).mono ?_
        rintro e Yw3 ⟨v2, rfl, D2', bb⟩
        have c00 := bAll c00 bb
        have CW := bAll CW bb
        have N8 := hide (bKeeps bb N8.out)
        have D1 := hide (D1.out.keep bb)
        have N9 := hide (bKeeps bb N9.out)
        have D2 := hide D2'.reads
        refine hK.out _ _ ?_ (fun hHeld => ?_)
        · exact fA.out _ CW
        clear hK K
        refine wpAnyH_ready (rs := [5]) (by kernel_rfl) (by simp) ?_
        refine AllReadyH.cons rfl (fun K hK => ?_) AllReadyH.nil
        go_simp
        go_at_call 14
        have hlo : Z6.heap.size ≤ (Yw3).heap.size := c00.size
        have hbN8 := heap_lt N8.out
        have hbN9 := heap_lt N9.out
        refine (cI _ _ _ D1.out D2.out hn).mono ?_
        rintro e Yw4 ⟨v3, y3, rfl, D3', D4', bb⟩
        have c00 := bAll c00 bb
        have CW := bAll CW bb
        have N8 := hide (bKeeps bb N8.out)
        have D1 := hide (D1.out.keep bb)
        have N9 := hide (bKeeps bb N9.out)
        have D2 := hide (D2.out.keep bb)
        have zbb := bb.size
        have D3 := hide D3'.inside
        have D4 := hide (show WdO Yw4 (fun _ => False) y3 R.2.2.1 from D4'.flat HRf.1 HRf.2)
        refine hK.out _ _ ?_ (fun hHeld => ?_)
        · exact fA.out _ CW
        clear hK K
        refine wpAnyH_take (i := 6) (v := ?v134) rfl (by kernel_rfl) (by kernel_rfl) (by kernel_rfl) (fun _ _ _ h => h) (Or.inl ⟨by rfl, ?y134⟩) (by assumption) ?r134
        case y134 => (intro w hSw; go_simp; first | done | (with_reducible rfl))
        simp only [Act.put, List.getElem_toArray, List.getElem_cons_zero, List.getElem_cons_succ, List.setIfInBounds_toArray, List.set_cons_zero, List.set_cons_succ]
        refine wpAnyH_take (i := 7) (v := ?v135) rfl (by kernel_rfl) (by kernel_rfl) (by kernel_rfl) (fun _ _ _ h => h) (Or.inl ⟨by rfl, ?y135⟩) (by assumption) ?r135
        case y135 => (intro w hSw; go_simp; first | done | (with_reducible rfl))
        simp only [Act.put, List.getElem_toArray, List.getElem_cons_zero, List.getElem_cons_succ, List.setIfInBounds_toArray, List.set_cons_zero, List.set_cons_succ]
        refine wpAnyH_take (i := 8) (v := ?v136) rfl (by kernel_rfl) (by kernel_rfl) (by kernel_rfl) (fun _ _ _ h => h) (Or.inl ⟨by rfl, ?y136⟩) (by assumption) ?r136
        case y136 => (intro w hSw; go_simp; first | done | (with_reducible rfl))
        simp only [Act.put, List.getElem_toArray, List.getElem_cons_zero, List.getElem_cons_succ, List.setIfInBounds_toArray, List.set_cons_zero, List.set_cons_succ]
        refine wpAnyH_take (i := 9) (v := ?v137) rfl (by kernel_rfl) (by kernel_rfl) (by kernel_rfl) (fun _ _ _ h => h) (Or.inl ⟨by rfl, ?y137⟩) (by assumption) ?r137
        case y137 => (intro w hSw; go_simp; first | done | (with_reducible rfl))
        simp only [Act.put, List.getElem_toArray, List.getElem_cons_zero, List.getElem_cons_succ, List.setIfInBounds_toArray, List.set_cons_zero, List.set_cons_succ]
        have hc8 := heap_lt N8.out
        have hc9 := heap_lt N9.out
        have zX := c00.size
        have ne89 : ¬ (Z6.drew).heap.size = (Yw1).heap.size := by intro e9; have h8 := N8.out; rw [e9] at h8; have := h8.symm.trans N9.out; simp at this
        exact LEAF _ _ _ v1 v2 v3 y3 _ _ (VLF.mk (base := Z6) (X := Yw4) (g8 := (Z6.drew).heap.size) (g9 := (Yw1).heap.size) (v3 := v3) (y3 := y3) (lo := (Yw3).heap.size) (hi := Yw4.heap.size) (R := R) c00 N8.out N9.out D3.out D4.out (by omega) (by omega) (by omega) (by omega) (by omega) (by omega) ne89)
      ·
       go_simp
       have zzN9 : Z6.heap.size ≤ (Z6.drew).heap.size + 1 := by have := c00.size; (try simp only [World.size_alloc] at this); first | exact this | omega
       have b1 := bal (Below.refl (((Z6.drew).alloc Zvo)).heap.size (((Z6.drew).alloc Zvo))) Zwo
       have c00 := bAll c00 b1
       have CW := bAll CW b1
       have N8 := hide (bKeeps b1 N8.out)
       have N9 := hide (al2_1 (Z6.drew) Zvo Zwo)
       refine hK.out _ _ ?_ (fun hHeld => ?_)
       · exact fA.out _ CW
       clear hK K
       refine wpAnyH_ready (rs := [1]) (by kernel_rfl) (by simp) ?_
       refine AllReadyH.cons rfl (fun K hK => ?_) AllReadyH.nil
       go_simp
       go_at_call 12
       refine (toSynVoter_any _ P xs _ (HA.out _ CW).1 hn).mono ?_
       rintro e Yw2 ⟨v1, rfl, D1', bb⟩
       have c00 := bAll c00 bb
       have CW := bAll CW bb
       have N8 := hide (bKeeps bb N8.out)
       have N9 := hide (bKeeps bb N9.out)
       have D1 := hide D1'.reads
       refine hK.out _ _ ?_ (fun hHeld => ?_)
       · exact fA.out _ CW
       clear hK K
       refine wpAnyH_ready (rs := [4]) (by kernel_rfl) (by simp) ?_
       refine AllReadyH.cons rfl (fun K hK => ?_) AllReadyH.nil
       go_simp
       go_at_call 13
       refine (toWord_any _ x _ (HA.out _ CW).2 hp hl).mono ?_
       rintro e Yw3 ⟨v2, rfl, D2', bb⟩
       have c00 := bAll c00 bb
       have CW := bAll CW bb
       have N8 := hide (bKeeps bb N8.out)
       have N9 := hide (bKeeps bb N9.out)
       have D1 := hide (D1.out.keep bb)
       have D2 := hide D2'.reads
       refine hK.out _ _ ?_ (fun hHeld => ?_)
       · exact fA.out _ CW
       clear hK K
       refine wpAnyH_ready (rs := [5]) (by kernel_rfl) (by simp) ?_
       refine AllReadyH.cons rfl (fun K hK => ?_) AllReadyH.nil
       go_simp
       go_at_call 14
       have hlo : Z6.heap.size ≤ (Yw3).heap.size := c00.size
       have hbN8 := heap_lt N8.out
       have hbN9 := heap_lt N9.out
       refine (cI _ _ _ D1.out D2.out hn).mono ?_
       rintro e Yw4 ⟨v3, y3, rfl, D3', D4', bb⟩
       have c00 := bAll c00 bb
       have CW := bAll CW bb
       have N8 := hide (bKeeps bb N8.out)
       have N9 := hide (bKeeps bb N9.out)
       have D1 := hide (D1.out.keep bb)
       have D2 := hide (D2.out.keep bb)
       have zbb := bb.size
       have D3 := hide D3'.inside
       have D4 := hide (show WdO Yw4 (fun _ => False) y3 R.2.2.1 from D4'.flat HRf.1 HRf.2)
       refine hK.out _ _ ?_ (fun hHeld => ?_)
       · exact fA.out _ CW
       clear hK K
       refine wpAnyH_take (i := 6) (v := ?v138) rfl (by kernel_rfl) (by kernel_rfl) (by kernel_rfl) (fun _ _ _ h => h) (Or.inl ⟨by rfl, ?y138⟩) (by assumption) ?r138
       case y138 => (intro w hSw; go_simp; first | done | (with_reducible rfl))
       simp only [Act.put, List.getElem_toArray, List.getElem_cons_zero, List.getElem_cons_succ, List.setIfInBounds_toArray, List.set_cons_zero, List.set_cons_succ]
       refine wpAnyH_take (i := 7) (v := ?v139) rfl (by kernel_rfl) (by kernel_rfl) (by kernel_rfl) (fun _ _ _ h => h) (Or.inl ⟨by rfl, ?y139⟩) (by assumption) ?r139
       case y139 => (intro w hSw; go_simp; first | done | (with_reducible rfl))
       simp only [Act.put, List.getElem_toArray, List.getElem_cons_zero, List.getElem_cons_succ, List.setIfInBounds_toArray, List.set_cons_zero, List.set_cons_succ]
       refine wpAnyH_take (i := 8) (v := ?v140) rfl (by kernel_rfl) (by kernel_rfl) (by kernel_rfl) (fun _ _ _ h => h) (Or.inl ⟨by rfl, ?y140⟩) (by assumption) ?r140
       case y140 => (intro w hSw; go_simp; first | done | (with_reducible rfl))
       simp only [Act.put, List.getElem_toArray, List.getElem_cons_zero, List.getElem_cons_succ, List.setIfInBounds_toArray, List.set_cons_zero, List.set_cons_succ]
       refine wpAnyH_take (i := 9) (v := ?v141) rfl (by kernel_rfl) (by kernel_rfl) (by kernel_rfl) (fun _ _ _ h => h) (Or.inl ⟨by rfl, ?y141⟩) (by assumption) ?r141
       case y141 => (intro w hSw; go_simp; first | done | (with_reducible rfl))
       simp only [Act.put, List.getElem_toArray, List.getElem_cons_zero, List.getElem_cons_succ, List.setIfInBounds_toArray, List.set_cons_zero, List.set_cons_succ]
       have hc8 := heap_lt N8.out
       have hc9 := heap_lt N9.out
       have zX := c00.size
       have ne89 : ¬ (Z6.drew).heap.size = (Z6.drew).heap.size + 1 := by intro e9; have h8 := N8.out; rw [e9] at h8; have := h8.symm.trans N9.out; simp at this
       exact LEAF _ _ _ v1 v2 v3 y3 _ _ (VLF.mk (base := Z6) (X := Yw4) (g8 := (Z6.drew).heap.size) (g9 := (Z6.drew).heap.size + 1) (v3 := v3) (y3 := y3) (lo := (Yw3).heap.size) (hi := Yw4.heap.size) (R := R) c00 N8.out N9.out D3.out D4.out (by omega) (by omega) (by omega) (by omega) (by omega) (by omega) ne89)
     ·
      go_simp
      have zzN9 : Z6.heap.size ≤ (Z6.drew).heap.size := by have := c00.size; (try simp only [World.size_alloc] at this); first | exact this | omega
      have b0 := bal (Below.refl (Z6.drew).heap.size (Z6.drew)) Zwo
      have c00 := bAll c00 b0
      have CW := bAll CW b0
      have N9 := hide (heap_alloc_new (Z6.drew) Zwo)
      refine hK.out _ _ ?_ (fun hHeld => ?_)
      · exact fA.out _ CW
      clear hK K
      refine wpAnyH_ready (rs := [1, 10]) (by kernel_rfl) (by simp) ?_
      refine AllReadyH.cons rfl (fun K hK => ?_) (AllReadyH.cons rfl (fun K hK => ?_) AllReadyH.nil)
      ·
       go_simp
       go_at_call 12
       refine (toSynVoter_any _ P xs _ (HA.out _ CW).1 hn).mono ?_
       rintro e Yw1 ⟨v1, rfl, D1', bb⟩
       have c00 := bAll c00 bb
       have CW := bAll CW bb
       have N9 := hide (bKeeps bb N9.out)
       have D1 := hide D1'.reads
       refine hK.out _ _ ?_ (fun hHeld => ?_)
       · exact fA.out _ CW
       clear hK K
       refine wpAnyH_ready (rs := [4, 10]) (by kernel_rfl) (by simp) ?_
       refine AllReadyH.cons rfl (fun K hK => ?_) (AllReadyH.cons rfl (fun K hK => ?_) AllReadyH.nil)
       ·
        go_simp
        go_at_call 13
        refine (toWord_any _ x _ (HA.out _ CW).2 hp hl).mono ?_
        rintro e Yw2 ⟨v2, rfl, D2', bb⟩
        have c00 := bAll c00 bb
        have CW := bAll CW bb
        have N9 := hide (bKeeps bb N9.out)
        have D1 := hide (D1.out.keep bb)
        have D2 := hide D2'.reads
        refine hK.out _ _ ?_ (fun hHeld => ?_)
        · exact fA.out _ CW
        clear hK K
        refine wpAnyH_ready (rs := [5, 10]) (by kernel_rfl) (by simp) ?_
        refine AllReadyH.cons rfl (fun K hK => ?_) (AllReadyH.cons rfl (fun K hK => ?_) AllReadyH.nil)
        ·
         go_simp
         go_at_call 14
         have hlo : Z6.heap.size ≤ (Yw2).heap.size := c00.size
         have hbN9 := heap_lt N9.out
         refine (cI _ _ _ D1.out D2.out hn).mono ?_
         rintro e Yw3 ⟨v3, y3, rfl, D3', D4', bb⟩
         have c00 := bAll c00 bb
         have CW := bAll CW bb
         have N9 := hide (bKeeps bb N9.out)
         have D1 := hide (D1.out.keep bb)
         have D2 := hide (D2.out.keep bb)
         have zbb := bb.size
         have D3 := hide D3'.inside
         have D4 := hide (show WdO Yw3 (fun _ => False) y3 R.2.2.1 from D4'.flat HRf.1 HRf.2)
         refine hK.out _ _ ?_ (fun hHeld => ?_)
         · exact fA.out _ CW
         clear hK K
         refine wpAnyH_take (i := 6) (v := ?v142) rfl (by kernel_rfl) (by kernel_rfl) (by kernel_rfl) (fun _ _ _ h => h) (Or.inl ⟨by rfl, ?y142⟩) (by assumption) ?r142
         case y142 => (intro w hSw; go_simp; first | done | (with_reducible rfl))
         simp only [Act.put, List.getElem_toArray, List.getElem_cons_zero, List.getElem_cons_succ, List.setIfInBounds_toArray, List.set_cons_zero, List.set_cons_succ]
         refine wpAnyH_take (i := 7) (v := ?v143) rfl (by kernel_rfl) (by kernel_rfl) (by kernel_rfl) (fun _ _ _ h => h) (Or.inl ⟨by rfl, ?y143⟩) (by assumption) ?r143
         case y143 => (intro w hSw; go_simp; first | done | (with_reducible rfl))
         simp only [Act.put, List.getElem_toArray, List.getElem_cons_zero, List.getElem_cons_succ, List.setIfInBounds_toArray, List.set_cons_zero, List.set_cons_succ]
         refine wpAnyH_take (i := 8) (v := ?v144) rfl (by kernel_rfl) (by kernel_rfl) (by kernel_rfl) (fun _ _ _ h => h) (Or.inl ⟨by rfl, ?y144⟩) (by assumption) ?r144
         case y144 => (intro w hSw; go_simp; first | done | (with_reducible rfl))
         simp only [Act.put, List.getElem_toArray, List.getElem_cons_zero, List.getElem_cons_succ, List.setIfInBounds_toArray, List.set_cons_zero, List.set_cons_succ]
         refine wpAnyH_take (i := 9) (v := ?v145) rfl (by kernel_rfl) (by kernel_rfl) (by kernel_rfl) (fun _ _ _ h => h) (Or.inl ⟨by rfl, ?y145⟩) (by assumption) ?r145
         case y145 => (intro w hSw; go_simp; first | done | (with_reducible rfl))
         simp only [Act.put, List.getElem_toArray, List.getElem_cons_zero, List.getElem_cons_succ, List.setIfInBounds_toArray, List.set_cons_zero, List.set_cons_succ]
         refine wpAnyH_ready (rs := [10]) (by kernel_rfl) (by simp) ?_
         refine AllReadyH.cons rfl (fun K hK => ?_) AllReadyH.nil
         go_simp
         have zzN8 : Z6.heap.size ≤ (Yw3).heap.size := by have := c00.size; (try simp only [World.size_alloc] at this); first | exact this | omega
         have zhN8 : Yw3.heap.size ≤ (Yw3).heap.size := by first | exact Nat.le_refl _ | omega
         have b4 := bal (Below.refl (Yw3).heap.size (Yw3)) Zvo
         have c00 := bAll c00 b4
         have CW := bAll CW b4
         have N9 := hide (bKeeps b4 N9.out)
         have D3 := hide (D3.out.keepB b4)
         have D4 := hide (D4.out.keepB b4)
         have N8 := hide (heap_alloc_new (Yw3) Zvo)
         refine hK.out _ _ ?_ (fun hHeld => ?_)
         · exact fA.out _ CW
         clear hK K
         have hc8 := heap_lt N8.out
         have hc9 := heap_lt N9.out
         have zX := c00.size
         have ne89 : ¬ (Yw3).heap.size = (Z6.drew).heap.size := by intro e9; have h8 := N8.out; rw [e9] at h8; have := h8.symm.trans N9.out; simp at this
         exact LEAF _ _ _ v1 v2 v3 y3 _ _ (VLF.mk (base := Z6) (X := ((Yw3).alloc Zvo)) (g8 := (Yw3).heap.size) (g9 := (Z6.drew).heap.size) (v3 := v3) (y3 := y3) (lo := (Yw2).heap.size) (hi := Yw3.heap.size) (R := R) c00 N8.out N9.out D3.out D4.out (by omega) (by omega) (by omega) (by omega) (by omega) (by omega) ne89)
        ·
         go_simp
         have zzN8 : Z6.heap.size ≤ (Yw2).heap.size := by have := c00.size; (try simp only [World.size_alloc] at this); first | exact this | omega
         have b3 := bal (Below.refl (Yw2).heap.size (Yw2)) Zvo
         have c00 := bAll c00 b3
         have CW := bAll CW b3
         have N9 := hide (bKeeps b3 N9.out)
         have D1 := hide (D1.out.keep b3)
         have D2 := hide (D2.out.keep b3)
         have N8 := hide (heap_alloc_new (Yw2) Zvo)
         refine hK.out _ _ ?_ (fun hHeld => ?_)
         · exact fA.out _ CW
         clear hK K
         refine wpAnyH_ready (rs := [5]) (by kernel_rfl) (by simp) ?_
         refine AllReadyH.cons rfl (fun K hK => ?_) AllReadyH.nil
         go_simp
         go_at_call 14
         have hlo : Z6.heap.size ≤ (((Yw2).alloc Zvo)).heap.size := c00.size
         have hbN8 := heap_lt N8.out
         have hbN9 := heap_lt N9.out
         refine (cI _ _ _ D1.out D2.out hn).mono ?_
         rintro e Yw4 ⟨v3, y3, rfl, D3', D4', bb⟩
         have c00 := bAll c00 bb
         have CW := bAll CW bb
         have N9 := hide (bKeeps bb N9.out)
         have D1 := hide (D1.out.keep bb)
         have D2 := hide (D2.out.keep bb)
         have N8 := hide (bKeeps bb N8.out)
         have zbb := bb.size
         have D3 := hide D3'.inside
         have D4 := hide (show WdO Yw4 (fun _ => False) y3 R.2.2.1 from D4'.flat HRf.1 HRf.2)
         refine hK.out _ _ ?_ (fun hHeld => ?_)
         · exact fA.out _ CW
         clear hK K
         refine wpAnyH_take (i := 6) (v := ?v146) rfl (by kernel_rfl) (by kernel_rfl) (by kernel_rfl) (fun _ _ _ h => h) (Or.inl ⟨by rfl, ?y146⟩) (by assumption) ?r146
         case y146 => (intro w hSw; go_simp; first | done | (with_reducible rfl))
         simp only [Act.put, List.getElem_toArray, List.getElem_cons_zero, List.getElem_cons_succ, List.setIfInBounds_toArray, List.set_cons_zero, List.set_cons_succ]
         refine wpAnyH_take (i := 7) (v := ?v147) rfl (by kernel_rfl) (by kernel_rfl) (by kernel_rfl) (fun _ _ _ h => h) (Or.inl ⟨by rfl, ?y147⟩) (by assumption) ?r147
         case y147 => (intro w hSw; go_simp; first | done | (with_reducible rfl))
         simp only [Act.put, List.getElem_toArray, List.getElem_cons_zero, List.getElem_cons_succ, List.setIfInBounds_toArray, List.set_cons_zero, List.set_cons_succ]
         refine wpAnyH_take (i := 8) (v := ?v148) rfl (by kernel_rfl) (by kernel_rfl) (by kernel_rfl) (fun _ _ _ h => h) (Or.inl ⟨by rfl, ?y148⟩) (by assumption) ?r148
         case y148 => (intro w hSw; go_simp; first | done | (with_reducible rfl))
         simp only [Act.put, List.getElem_toArray, List.getElem_cons_zero, List.getElem_cons_succ, List.setIfInBounds_toArray, List.set_cons_zero, List.set_cons_succ]
         refine wpAnyH_take (i := 9) (v := ?v149) rfl (by kernel_rfl) (by kernel_rfl) (by kernel_rfl) (fun _ _ _ h => h) (Or.inl ⟨by rfl, ?y149⟩) (by assumption) ?r149
         case y149 => (intro w hSw; go_simp; first | done | (with_reducible rfl))
         simp only [Act.put, List.getElem_toArray, List.getElem_cons_zero, List.getElem_cons_succ, List.setIfInBounds_toArray, List.set_cons_zero, List.set_cons_succ]
         have hc8 := heap_lt N8.out
         have hc9 := heap_lt N9.out
         have zX := c00.size
         have ne89 : ¬ (Yw2).heap.size = (Z6.drew).heap.size := by intro e9; have h8 := N8.out; rw [e9] at h8; have := h8.symm.trans N9.out; simp at this
         exact LEAF _ _ _ v1 v2 v3 y3 _ _ (VLF.mk (base := Z6) (X := Yw4) (g8 := (Yw2).heap.size) (g9 := (Z6.drew).heap.size) (v3 := v3) (y3 := y3) (lo := (((Yw2).alloc Zvo)).heap.size) (hi := Yw4.heap.size) (R := R) c00 N8.out N9.out D3.out D4.out (by omega) (by omega) (by omega) (by omega) (by omega) (by omega) ne89)
       ·
        go_simp
        have zzN8 : Z6.heap.size ≤ (Yw1).heap.size := by have := c00.size; (try simp only [World.size_alloc] at this); first | exact this | omega
        have b2 := bal (Below.refl (Yw1).heap.size (Yw1)) Zvo
        have c00 := bAll c00 b2
        have CW := bAll CW b2
        have N9 := hide (bKeeps b2 N9.out)
        have D1 := hide (D1.out.keep b2)
        have N8 := hide (heap_alloc_new (Yw1) Zvo)
        refine hK.out _ _ ?_ (fun hHeld => ?_)
        · exact fA.out _ CW
        clear hK K
        refine wpAnyH_ready (rs := [4]) (by kernel_rfl) (by simp) ?_
        refine AllReadyH.cons rfl (fun K hK => ?_) AllReadyH.nil
        go_simp
        go_at_call 13
        refine (toWord_any _ x _ (HA.out _ CW).2 hp hl).mono ?_
        rintro e Yw3 ⟨v2, rfl, D2', bb⟩
        have c00 := bAll c00 bb
        have CW := bAll CW bb
        have N9 := hide (bKeeps bb N9.out)
        have D1 := hide (D1.out.keep bb)
        have N8 := hide (bKeeps bb N8.out)
        have D2 := hide D2'.reads
        refine hK.out _ _ ?_ (fun hHeld => ?_)
        · exact fA.out _ CW
        clear hK K
        refine wpAnyH_ready (rs := [5]) (by kernel_rfl) (by simp) ?_
        refine AllReadyH.cons rfl (fun K hK => ?_) AllReadyH.nil
        go_simp
        go_at_call 14
        have hlo : Z6.heap.size ≤ (Yw3).heap.size := c00.size
        have hbN8 := heap_lt N8.out
        have hbN9 := heap_lt N9.out
        refine (cI _ _ _ D1.out D2.out hn).mono ?_
        rintro e Yw4 ⟨v3, y3, rfl, D3', D4', bb⟩
        have c00 := bAll c00 bb
        have CW := bAll CW bb
        have N9 := hide (bKeeps bb N9.out)
        have D1 := hide (D1.out.keep bb)
        have N8 := hide (bKeeps bb N8.out)
        have D2 := hide (D2.out.keep bb)
        have zbb := bb.size
        have D3 := hide D3'.inside
        have D4 := hide (show WdO Yw4 (fun _ => False) y3 R.2.2.1 from D4'.flat HRf.1 HRf.2)
        refine hK.out _ _ ?_ (fun hHeld => ?_)
        · exact fA.out _ CW
        clear hK K
        refine wpAnyH_take (i := 6) (v := ?v150) rfl (by kernel_rfl) (by kernel_rfl) (by kernel_rfl) (fun _ _ _ h => h) (Or.inl ⟨by rfl, ?y150⟩) (by assumption) ?r150
        case y150 => (intro w hSw; go_simp; first | done | (with_reducible rfl))
        simp only [Act.put, List.getElem_toArray, List.getElem_cons_zero, List.getElem_cons_succ, List.setIfInBounds_toArray, List.set_cons_zero, List.set_cons_succ]
        refine wpAnyH_take (i := 7) (v := ?v151) rfl (by kernel_rfl) (by kernel_rfl) (by kernel_rfl) (fun _ _ _ h => h) (Or.inl ⟨by rfl, ?y151⟩) (by assumption) ?r151
        case y151 => (intro w hSw; go_simp; first | done | (with_reducible rfl))
        simp only [Act.put, List.getElem_toArray, List.getElem_cons_zero, List.getElem_cons_succ, List.setIfInBounds_toArray, List.set_cons_zero, List.set_cons_succ]
        refine wpAnyH_take (i := 8) (v := ?v152) rfl (by kernel_rfl) (by kernel_rfl) (by kernel_rfl) (fun _ _ _ h => h) (Or.inl ⟨by rfl, ?y152⟩) (by assumption) ?r152
        case y152 => (intro w hSw; go_simp; first | done | (with_reducible rfl))
        simp only [Act.put, List.getElem_toArray, List.getElem_cons_zero, List.getElem_cons_succ, List.setIfInBounds_toArray, List.set_cons_zero, List.set_cons_succ]
        refine wpAnyH_take (i := 9) (v := ?v153) rfl (by kernel_rfl) (by kernel_rfl) (by kernel_rfl) (fun _ _ _ h => h) (Or.inl ⟨by rfl, ?y153⟩) (by assumption) ?r153
        case y153 => (intro w hSw; go_simp; first | done | (with_reducible rfl))
        simp only [Act.put, List.getElem_toArray, List.getElem_cons_zero, List.getElem_cons_succ, List.setIfInBounds_toArray, List.set_cons_zero, List.set_cons_succ]
        have hc8 := heap_lt N8.out
        have hc9 := heap_lt N9.out
        have zX := c00.size
        have ne89 : ¬ (Yw1).heap.size = (Z6.drew).heap.size := by intro e9; have h8 := N8.out; rw [e9] at h8; have := h8.symm.trans N9.out; simp at this
        exact LEAF _ _ _ v1 v2 v3 y3 _ _ (VLF.mk (base := Z6) (X := Yw4) (g8 := (Yw1).heap.size) (g9 := (Z6.drew).heap.size) (v3 := v3) (y3 := y3) (lo := (Yw3).heap.size) (hi := Yw4.heap.size) (R := R) c00 N8.out N9.out D3.out D4.out (by omega) (by omega) (by omega) (by omega) (by omega) (by omega) ne89)
      ·
       go_simp
       have zzN8 : Z6.heap.size ≤ (Z6.drew).heap.size + 1 := by have := c00.size; (try simp only [World.size_alloc] at this); first | exact this | omega
       have b1 := bal (Below.refl (((Z6.drew).alloc Zwo)).heap.size (((Z6.drew).alloc Zwo))) Zvo
       have c00 := bAll c00 b1
       have CW := bAll CW b1
       have N9 := hide (bKeeps b1 N9.out)
       have N8 := hide (al2_1 (Z6.drew) Zwo Zvo)
       refine hK.out _ _ ?_ (fun hHeld => ?_)
       · exact fA.out _ CW
       clear hK K
       refine wpAnyH_ready (rs := [1]) (by kernel_rfl) (by simp) ?_
       refine AllReadyH.cons rfl (fun K hK => ?_) AllReadyH.nil
       go_simp
       go_at_call 12
       refine (toSynVoter_any _ P xs _ (HA.out _ CW).1 hn).mono ?_
       rintro e Yw2 ⟨v1, rfl, D1', bb⟩
       have c00 := bAll c00 bb
       have CW := bAll CW bb
       have N9 := hide (bKeeps bb N9.out)
       have N8 := hide (bKeeps bb N8.out)
       have D1 := hide D1'.reads
       refine hK.out _ _ ?_ (fun hHeld => ?_)
       · exact fA.out _ CW
       clear hK K
       refine wpAnyH_ready (rs := [4]) (by kernel_rfl) (by simp) ?_
       refine AllReadyH.cons rfl (fun K hK => ?_) AllReadyH.nil
       go_simp
       go_at_call 13
       refine (toWord_any _ x _ (HA.out _ CW).2 hp hl).mono ?_
       rintro e Yw3 ⟨v2, rfl, D2', bb⟩
       have c00 := bAll c00 bb
       have CW := bAll CW bb
       have N9 := hide (bKeeps bb N9.out)
       have N8 := hide (bKeeps bb N8.out)
       have D1 := hide (D1.out.keep bb)
       have D2 := hide D2'.reads
       refine hK.out _ _ ?_ (fun hHeld => ?_)
       · exact fA.out _ CW
       clear hK K
       refine wpAnyH_ready (rs := [5]) (by kernel_rfl) (by simp) ?_
       refine AllReadyH.cons rfl (fun K hK => ?_) AllReadyH.nil
       go_simp
       go_at_call 14
       have hlo : Z6.heap.size ≤ (Yw3).heap.size := c00.size
       have hbN8 := heap_lt N8.out
       have hbN9 := heap_lt N9.out
       refine (cI _ _ _ D1.out D2.out hn).mono ?_
       rintro e Yw4 ⟨v3, y3, rfl, D3', D4', bb⟩
       have c00 := bAll c00 bb
       have CW := bAll CW bb
       have N9 := hide (bKeeps bb N9.out)
       have N8 := hide (bKeeps bb N8.out)
       have D1 := hide (D1.out.keep bb)
       have D2 := hide (D2.out.keep bb)
       have zbb := bb.size
       have D3 := hide D3'.inside
       have D4 := hide (show WdO Yw4 (fun _ => False) y3 R.2.2.1 from D4'.flat HRf.1 HRf.2)
       refine hK.out _ _ ?_ (fun hHeld => ?_)
       · exact fA.out _ CW
       clear hK K
       refine wpAnyH_take (i := 6) (v := ?v154) rfl (by kernel_rfl) (by kernel_rfl) (by kernel_rfl) (fun _ _ _ h => h) (Or.inl ⟨by rfl, ?y154⟩) (by assumption) ?r154
       case y154 => (intro w hSw; go_simp; first | done | (with_reducible rfl))
       simp only [Act.put, List.getElem_toArray, List.getElem_cons_zero, List.getElem_cons_succ, List.setIfInBounds_toArray, List.set_cons_zero, List.set_cons_succ]
       refine wpAnyH_take (i := 7) (v := ?v155) rfl (by kernel_rfl) (by kernel_rfl) (by kernel_rfl) (fun _ _ _ h => h) (Or.inl ⟨by rfl, ?y155⟩) (by assumption) ?r155
       case y155 => (intro w hSw; go_simp; first | done | (with_reducible rfl))
       simp only [Act.put, List.getElem_toArray, List.getElem_cons_zero, List.getElem_cons_succ, List.setIfInBounds_toArray, List.set_cons_zero, List.set_cons_succ]
       refine wpAnyH_take (i := 8) (v := ?v156) rfl (by kernel_rfl) (by kernel_rfl) (by kernel_rfl) (fun _ _ _ h => h) (Or.inl ⟨by rfl, ?y156⟩) (by assumption) ?r156
       case y156 => (intro w hSw; go_simp; first | done | (with_reducible rfl))
       simp only [Act.put, List.getElem_toArray, List.getElem_cons_zero, List.getElem_cons_succ, List.setIfInBounds_toArray, List.set_cons_zero, List.set_cons_succ]
       refine wpAnyH_take (i := 9) (v := ?v157) rfl (by kernel_rfl) (by kernel_rfl) (by kernel_rfl) (fun _ _ _ h => h) (Or.inl ⟨by rfl, ?y157⟩) (by assumption) ?r157
       case y157 => (intro w hSw; go_simp; first | done | (with_reducible rfl))
       simp only [Act.put, List.getElem_toArray, List.getElem_cons_zero, List.getElem_cons_succ, List.setIfInBounds_toArray, List.set_cons_zero, List.set_cons_succ]
       have hc8 := heap_lt N8.out
       have hc9 := heap_lt N9.out
       have zX := c00.size
       have ne89 : ¬ (Z6.drew).heap.size + 1 = (Z6.drew).heap.size := by intro e9; have h8 := N8.out; rw [e9] at h8; have := h8.symm.trans N9.out; simp at this
       exact LEAF _ _ _ v1 v2 v3 y3 _ _ (VLF.mk (base := Z6) (X := Yw4) (g8 := (Z6.drew).heap.size + 1) (g9 := (Z6.drew).heap.size) (v3 := v3) (y3 := y3) (lo := (Yw3).heap.size) (hi := Yw4.heap.size) (R := R) c00 N8.out N9.out D3.out D4.out (by omega) (by omega) (by omega) (by omega) (by omega) (by omega) ne89)
   · intro X g8 g9 v1 v2 v3 y3 lo hi ⟨c00, N8, N9, D3, D4, q1, q2, q3, q4, q5, q6, ne89⟩
     have CW := bAll CC.out c00
     have N8 := hide N8
     have N9 := hide N9
     have D4 := hide D4
     have hHeld : (fun w' : World => w'.heap[w.heap.size]? = some (.cells #[.int .i64 P, .slice ao xs.length ca] 24 (0, 0)) ∧ w'.heap[w.heap.size + 1]? = some (.cells cs 30 (0, 0))) X := fA.out _ CW
     obtain ⟨so3, sc3, rfl, hcp3, r3⟩ := D3
     obtain ⟨cs3, rfl, hs3, h13⟩ := D4.out.reads.agg
     have hc8 := heap_lt N8.out
     have hc9 := heap_lt N9.out
     have zX := c00.size
     have s8 := updRow X g8 #[.int .i64 R.1, .slice so3 R.2.1.length sc3]
     have N9b := s8.keeps N9.out (fun e => ne89 e.symm)
     have s9 := updRow (X.setRow g8 #[.int .i64 R.1, .slice so3 R.2.1.length sc3]) g9 cs3
     have c1X := c00.trans (s8.below c00.size (fun k h => by omega))
     have c2X := c1X.trans (s9.below c1X.size (fun k h => by omega))
     refine wpAnyH_ready (rs := [12]) (by kernel_rfl) (by simp) ?_
     refine AllReadyH.cons rfl (fun K hK => ?_) AllReadyH.nil
     (refine wp_store_row 35 (.tmp 19) (.tmp 130) rfl g8 #[.int .i64 R.1, .slice so3 R.2.1.length sc3] rfl rfl _ _ N8.out infoSv2 rfl (all_of_list rfl) ?_)
     refine hK.out _ _ ?_ (fun hHeld => ?_)
     · exact fA.out _ (bAll CC.out c1X)
     clear hK K
     refine wpAnyH_ready (rs := [13]) (by kernel_rfl) (by simp) ?_
     refine AllReadyH.cons rfl (fun K hK => ?_) AllReadyH.nil
     (refine wp_store_row 40 (.tmp 20) (.tmp 131) rfl g9 cs3 rfl rfl _ _ N9b (infoAt infoWd hs3) (zero26.trans hs3.symm) h13 ?_)
     refine hK.out _ _ ?_ (fun hHeld => ?_)
     · exact fA.out _ (bAll CC.out c2X)
     clear hK K
     refine wpAnyH_take (i := 14) (v := ?v158) rfl (by kernel_rfl) (by kernel_rfl) (by kernel_rfl) (fun _ _ _ h => h) (Or.inl ⟨by rfl, ?y158⟩) (by assumption) ?r158
     case y158 => (intro w hSw; go_simp; first | done | (with_reducible rfl))
     simp only [Act.put, List.getElem_toArray, List.getElem_cons_zero, List.getElem_cons_succ, List.setIfInBounds_toArray, List.set_cons_zero, List.set_cons_succ]
     refine wpAnyH_done (by kernel_rfl) ?_ _
     refine NoPanic.normal ?_
     clear hHeld
     go_wp2_with fail
     go_meet
     have z8 := s8.size
     have z9 := s9.size
     refine ⟨g8, g9, rfl, rfl, rfl, ⟨so3, sc3, cs3, lo, hi, s9.keeps (setRow_heap _ _ _ _ _ _ N8.out) ne89, setRow_heap _ _ _ _ _ _ N9b, ?_, D4.out.flat HRf.1 HRf.2, by omega, by omega, by omega, by omega, ne89, by omega, by omega, by omega, by omega⟩, c2X⟩
     exact (VtO.keep ⟨so3, sc3, rfl, hcp3, r3⟩ s8 (fun k h1 h2 => by omega)).keep s9 (fun k h1 h2 => by omega)
  case rest =>
  obtain ⟨g8', g9', rfl, rfl, rfl, VB, b7⟩ := hcut
  obtain ⟨sob, scb, fs, lob, hib, h1, h2, h3, h4, -⟩ := VB
  obtain ⟨fs', e', hs', hd'⟩ := h4.reads.agg
  injection e' with e'
  subst e'
  have b7 := bAll b6 b7
  have f8 := G8.out _ (Hy.out _ b7)
  go_wp2_with (first
    | (refine wpList_load_row rfl 35 (.tmp 19) rfl g8' rfl _ _ (0, 0) _ h1 Try.underlying35 rfl infoSv2 ?_)
    | (refine wpList_load_row rfl 35 (.tmp 8) rfl g8 rfl _ _ (0, 0) _ f8.1 Try.underlying35 rfl infoSv2 ?_))
  refine (eqSynVoter_true _ _ R.1 R.2.1 _ h3.reads f8.2.2.1).mono ?_
  rintro e Z8 ⟨rfl, b8⟩
  have h2' := bKeeps b8 h2
  have h4' := h4.keepB b8
  have b8' := bAll b7 b8
  clear f8 h1 h2 h3 h4 b8
  have f8 := G8.out _ (Hy.out _ b8')
  go_wp2_with (first
    | (refine wpList_load_rowG (by rfl) 40 (.tmp 20) rfl g9' rfl _ fs (0, 0) _ h2' Try.underlying40 rfl (infoAt infoWd hs') ?_)
    | (refine wpList_load_rowG (by rfl) 40 (.tmp 9) rfl g9 rfl _ cs8 (0, 0) _ f8.2.1 Try.underlying40 rfl HS8.out ?_))
  refine (eqWord_true _ _ R.2.2.1 _ h4'.reads f8.2.2.2).mono ?_
  rintro e Z9 ⟨rfl, b9⟩
  have b9' := bAll b8' b9
  clear f8 h2' h4' b9 b8'
  have f := F14.out _ b9'
  go_wp2_with (refine wpList_load_row rfl 35 (.tmp 13) rfl U11.heap.size rfl _ _ (0, 0) _ f.1 Try.underlying35 rfl infoSv2 ?_)
  refine (HH.out _ b9').mono ?_
  rintro e Z10 ⟨rfl, b10⟩
  have b10' := bAll b9' b10
  clear f b10
  have f := F14.out _ b10'
  go_wp2_with (refine wpList_load_row rfl 40 (.tmp 14) rfl (U11.heap.size + 1) rfl _ es (0, 0) _ f.2.1 Try.underlying40 rfl FI.out ?_)
  refine (HH2.out _ b10').mono ?_
  rintro e Z11 ⟨rfl, b11⟩
  have b11' := bAll b10' b11
  clear f b11
  go_wp2
  go_ret
  exact ⟨rfl, HFin.out _ (Hy.out _ b11')⟩

end Go.Proofs.Ytiigcokbmggdkaa
