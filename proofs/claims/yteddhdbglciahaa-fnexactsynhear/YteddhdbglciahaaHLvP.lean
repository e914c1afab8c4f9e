/- What the law FnExactSynHear does: its walk; the statement itself is proved elsewhere. (Written by wip/tools/mkhv.py.) -/
import Derived.Test.YteddhdbglciahaaHk14
import Derived.Test.YteddhdbglciahaaHk15
import Derived.Test.YteddhdbglciahaaHk9
import Derived.Test.YteddhdbglciahaaHk12
namespace Go.Proofs.Yteddhdbglciahaa
open Go.RowKit

/-- A new box of a seeker. -/
abbrev Zko : Obj := .cells #[.int .i64 0, .int .i64 0, .int .i64 0, .int .i64 0, .int .i64 0, .int .i64 0, .int .i64 0, .int .i64 0, .int .i64 0, .int .i64 0, .int .i64 0, .int .i64 0, .int .i64 0, .int .i64 0, .int .i64 0, .int .i64 0, .int .i64 0, .int .i64 0, .int .i64 0, .int .i64 0, .int .i64 0, .int .i64 0, .int .i64 0, .int .i64 0, .int .i64 0, .slice none 0 0] 39

theorem skIn {w : World} {S : Nat → Prop} {v : Value} {k : Sk} (h : SkO w S v k) : SkO w (fun j => S j ∧ j < w.heap.size) v k := by
  obtain ⟨yo, yc, e, h⟩ := h
  exact ⟨yo, yc, e, rowIn h⟩

theorem hearR_shape (k : Sk) (me : Int) (x : Wd) : (∀ z ∈ (hearR k me x).2.1, Flat z) ∧ (hearR k me x).2.1.length ≤ 3 ∧ (hearR k me x).1.ys.length ≤ k.ys.length + 1 := by
  unfold hearR
  split
  · split
    · split
      · refine ⟨by simp, by simp, ?_⟩
        simp
      · refine ⟨allTo_flat ⟨rfl, rfl⟩ 3, by rw [allTo_len]; omega, by simp⟩
    · split
      · refine ⟨by simp, by simp, by simp⟩
      · exact ⟨by simp, by simp, Nat.le_succ _⟩
  · exact ⟨by simp, by simp, Nat.le_succ _⟩

/-- What a seeker gives, in a box and a row; all of it lies between base and top. -/
def HeB (V : World) (base top g : Nat) (u : Value) (R : Sk × List Wd × Bool) : Prop :=
  ∃ so sc lo hi, V.heap[g]? = some (.cells (skarr R.1 (.slice so R.1.ys.length sc)) 39 (0, 0)) ∧
    SkO V (fun j => lo ≤ j ∧ j < hi) (.agg (skarr R.1 (.slice so R.1.ys.length sc))) R.1 ∧ Row V 47 26 (fun j => lo ≤ j ∧ j < hi) u R.2.1.length (fwcells R.2.1) ∧
    base ≤ g ∧ g < top ∧ base ≤ lo ∧ hi ≤ top ∧ ¬ (lo ≤ g ∧ g < hi)
theorem HeB.keep {V V' : World} {base top g : Nat} {u : Value} {R : Sk × List Wd × Bool} {T : Nat → Prop} (H : HeB V base top g u R) (U : Upd T V V') (hT : ∀ k, base ≤ k → k < top → ¬ T k) : HeB V' base top g u R := by
  obtain ⟨so, sc, lo, hi, h1, h2, h3, h4, h5, h6, h7, h8⟩ := H
  exact ⟨so, sc, lo, hi, U.keeps h1 (hT g h4 h5), h2.keep U (fun k hk => hT k (by omega) (by omega)), h3.keep U (fun k hk => hT k (by omega) (by omega)), h4, h5, h6, h7, h8⟩
theorem HeB.keepB {V V' : World} {base top g : Nat} {u : Value} {R : Sk × List Wd × Bool} (H : HeB V base top g u R) (b : Below V.heap.size V V') : HeB V' base top g u R :=
  H.keep (T := fun _ => False) (Upd.ofBelow b) (fun _ _ _ h => h)

/-- What is left of a region in which calls and a new box float is proved once, however they came. -/
theorem shareH {R : Prop} {F : World → Nat → Value → Value → Value → Value → Nat → Nat → Prop} (G : World → Nat → Value → Value → Value → Value → Prop)
    (h1 : (∀ X g v1 v2 v3 y3 lo hi, F X g v1 v2 v3 y3 lo hi → G X g v1 v2 v3 y3) → R) (h2 : ∀ X g v1 v2 v3 y3 lo hi, F X g v1 v2 v3 y3 lo hi → G X g v1 v2 v3 y3) : R := h1 h2
/-- What the calls and the new box leave. -/
structure HVF (base X : World) (g8 : Nat) (v3 y3 : Value) (lo hi : Nat) (R : Sk × List Wd × Bool) : Prop where
  c : Below base.heap.size base X
  n8 : X.heap[g8]? = some Zko
  d3 : SkO X (fun k => lo ≤ k ∧ k < hi) v3 R.1
  d4 : Row X 47 26 (fun k => lo ≤ k ∧ k < hi) y3 R.2.1.length (fwcells R.2.1)
  q1 : base.heap.size ≤ g8
  q3 : base.heap.size ≤ lo
  q4 : hi ≤ X.heap.size
  q5 : ¬ (lo ≤ g8 ∧ g8 < hi)

set_option maxRecDepth 100000 in
set_option maxHeartbeats 64000000 in
theorem synHear_walk (v : Value) (k : Sk) (me : Int) (y : Value) (x : Wd) (w : World) (h : SkR w v k) (hx : WdR w y x) :
    Calls Try.prog 3 #[v, .int .i64 me, y] w fun e w' => e = .returned (.bool true) ∧ Below w.heap.size w w' := by
  obtain ⟨R, hR⟩ : ∃ R, hearR k me x = R := ⟨_, rfl⟩
  have hsh := hearR_shape k me x
  rw [hR] at hsh
  have HRf := hide hsh.1
  have HRl := hide hsh.2.1
  have HRy := hide hsh.2.2
  clear hsh
  have cS := fun v y w h1 h2 h3 => specSynHear_any v k me y x w h1 h2 h3
  have cI := fun v y w h1 h2 h3 => implSynHear_any me v y k x w h3 h1 h2
  simp only [hear_same] at cI
  rw [hR] at cS cI
  clear hR
  obtain ⟨cs, rfl, hs, h1⟩ := hx.agg
  have HX := hide hx
  have HI := hide (infoAt infoLw hs)
  clear hx hs h1
  have HV := hide h
  obtain ⟨ao, ca, rfl, hr⟩ := h
  clear hr
  go_enter Try.func3, Try.ntmps3
  go_upto_region 1 with fail
  generalize hW : World.alloc _ _ = W
  have al : Below w.heap.size w W := by rw [← hW]; exact bal (bal (Below.refl _ _) _) _
  have B0 : Hid (W.heap[w.heap.size]? = some (.cells (skarr k (.slice ao k.ys.length ca)) 28 (0, 0))) := by show _ = _; rw [← hW]; exact al2_0 w _ _
  have B1 : Hid (W.heap[w.heap.size + 1]? = some (.cells cs 32 (0, 0))) := by show _ = _; rw [← hW]; exact al2_1 w _ _
  clear hW
  have fA : Hid (∀ V : World, Below W.heap.size W V → V.heap[w.heap.size]? = some (.cells (skarr k (.slice ao k.ys.length ca)) 28 (0, 0)) ∧ V.heap[w.heap.size + 1]? = some (.cells cs 32 (0, 0))) := fun V hV => ⟨bKeeps hV B0.out, bKeeps hV B1.out⟩
  have HA : Hid (∀ V : World, Below W.heap.size W V → SkR V (.agg (skarr k (.slice ao k.ys.length ca))) k ∧ WdR V (.agg cs) x) := fun V hV => ⟨HV.out.keep (bAll al hV), HX.out.keep (bAll al hV)⟩
  clear HV HX
  go_wp2_with (refine wpList_load_row rfl 28 (.tmp 3) rfl w.heap.size rfl _ _ (0, 0) _ B0.out Try.underlying28 rfl infoLk ?_)
  refine (szSynSeeker_any _ k 1048576 _ (HA.out _ (Below.refl _ _)).1 (by omega) (by omega)).mono ?_
  rintro e U1 ⟨r, rfl, hz, b1⟩
  rcases hz with hneg | ⟨hr2, hr3⟩
  · go_wp2
    go_ret
    exact ⟨rfl, bAll al b1⟩
  have hn : k.ys.length ≤ 1048576 := by omega
  have hr4 : r ≤ 1048576 := by omega
  have hge : ¬ r < 0 := by omega
  have hr0 : 0 ≤ r := by omega
  clear hr2 hr3
  have C1 := hide (fA.out _ b1).2
  go_wp2_with (refine wpList_load_row rfl 32 (.tmp 5) rfl (w.heap.size + 1) rfl _ cs (0, 0) _ C1.out Try.underlying32 rfl HI.out ?_)
  refine (szWord_left x cs r _ _ (HA.out _ b1).2 hr0 hr4).mono ?_
  rintro e U2 ⟨r2, rfl, hz, b2⟩
  rcases hz with hneg | ⟨hr5, hp, hl⟩
  · go_wp2
    go_ret
    exact ⟨rfl, bAll al (bAll b1 b2)⟩
  have hge2 : ¬ r2 < 0 := by omega
  have CC := hide (bAll b1 b2)
  clear b1 b2 C1
  go_upto_region 8 with fail
  have hU2 := CC.out.size
  have SZ := hide hU2
  clear hge hr0 hr4 hU2
  go_cut [8, 9, 10] (fun s8 s9 s10 wx => ∃ g u, s8 = .pointer (some ⟨g, 0, none⟩) ∧ s9 = u ∧ s10 = .bool R.2.2 ∧ HeB wx U2.heap.size wx.heap.size g u R ∧ Below U2.heap.size U2 wx)
  case first =>
   as_aux_lemma =>
   clear cI
   have c00 : Below U2.heap.size U2 U2.drew := bDrewB (Below.refl _ _)
   have CW : Below W.heap.size W U2.drew := bAll CC.out c00
   refine wp_region_noPanic ?_
   refine wp_region_held_drew (S := (fun w' => w'.heap[w.heap.size]? = some (.cells (skarr k (.slice ao k.ys.length ca)) 28 (0, 0)) ∧ w'.heap[w.heap.size + 1]? = some (.cells cs 32 (0, 0)))) (by kernel_rfl) ?_ (fun hHeld => ?_)
   · exact fA.out _ CW
   refine wpAnyH_take (i := 0) (v := .agg (skarr k (.slice ao k.ys.length ca))) rfl (by kernel_rfl) (by kernel_rfl) (by kernel_rfl) (fun _ _ _ h => h) (yields_row rfl 28 (.tmp 3) rfl (w.heap.size) rfl _ (skarr k (.slice ao k.ys.length ca)) _ (fun _ h => h.1) Try.underlying28 rfl infoLk) (by assumption) ?_
   simp only [Act.put, List.getElem_toArray, List.getElem_cons_zero, List.setIfInBounds_toArray, List.set_cons_zero, List.set_cons_succ]
   refine wpAnyH_take (i := 2) (v := ?v1) rfl (by kernel_rfl) (by kernel_rfl) (by kernel_rfl) (fun _ _ _ h => h) (Or.inl ⟨by rfl, ?y1⟩) (by assumption) ?r1
   case y1 => (intro w hSw; go_simp; first | done | (with_reducible rfl))
   simp only [Act.put, List.getElem_toArray, List.getElem_cons_zero, List.getElem_cons_succ, List.setIfInBounds_toArray, List.set_cons_zero, List.set_cons_succ]
   refine wpAnyH_take (i := 3) (v := .agg cs) rfl (by kernel_rfl) (by kernel_rfl) (by kernel_rfl) (fun _ _ _ h => h) (yields_row rfl 32 (.tmp 5) rfl (w.heap.size + 1) rfl _ cs _ (fun _ h => h.2) Try.underlying32 rfl HI.out) (by assumption) ?_
   simp only [Act.put, List.getElem_toArray, List.getElem_cons_zero, List.getElem_cons_succ, List.setIfInBounds_toArray, List.set_cons_zero, List.set_cons_succ]
   apply shareH (F := fun X g8 v1 v2 v3 y3 lo hi => HVF U2 X g8 v3 y3 lo hi R)
   · intro LEAF
     refine wpAnyH_ready (rs := [1, 10]) (by kernel_rfl) (by simp) ?_
     refine AllReadyH.cons rfl (fun K hK => ?_) (AllReadyH.cons rfl (fun K hK => ?_) AllReadyH.nil)
     ·
      go_simp
      go_at_call 10
      refine (toSynSeeker_any _ k _ (HA.out _ CW).1 hn).mono ?_
      rintro e Yw0 ⟨v1, rfl, D1', bb⟩
      have c00 := bAll c00 bb
      have CW := bAll CW bb
      have D1 := hide D1'.reads
      refine hK.out _ _ ?_ (fun hHeld => ?_)
      · exact fA.out _ CW
      clear hK K
      refine wpAnyH_ready (rs := [4, 10]) (by kernel_rfl) (by simp) ?_
      refine AllReadyH.cons rfl (fun K hK => ?_) (AllReadyH.cons rfl (fun K hK => ?_) AllReadyH.nil)
      ·
       go_simp
       go_at_call 11
       refine (toWord_any _ x _ (HA.out _ CW).2 hp hl).mono ?_
       rintro e Yw1 ⟨v2, rfl, D2', bb⟩
       have c00 := bAll c00 bb
       have CW := bAll CW bb
       have D1 := hide (D1.out.keep bb)
       have D2 := hide D2'.reads
       refine hK.out _ _ ?_ (fun hHeld => ?_)
       · exact fA.out _ CW
       clear hK K
       refine wpAnyH_ready (rs := [5, 10]) (by kernel_rfl) (by simp) ?_
       refine AllReadyH.cons rfl (fun K hK => ?_) (AllReadyH.cons rfl (fun K hK => ?_) AllReadyH.nil)
       ·
        go_simp
        go_at_call 9
        have hlo : U2.heap.size ≤ (Yw1).heap.size := c00.size
        refine (cS _ _ _ D1.out D2.out hn).mono ?_
        rintro e Yw2 ⟨v3, y3, rfl, D3', D4', bb⟩
        have c00 := bAll c00 bb
        have CW := bAll CW bb
        have D1 := hide (D1.out.keep bb)
        have D2 := hide (D2.out.keep bb)
        have zbb := bb.size
        have D3 := hide (skIn D3')
        have D4 := hide (rowIn D4')
        refine hK.out _ _ ?_ (fun hHeld => ?_)
        · exact fA.out _ CW
        clear hK K
        refine wpAnyH_take (i := 6) (v := ?v2) rfl (by kernel_rfl) (by kernel_rfl) (by kernel_rfl) (fun _ _ _ h => h) (Or.inl ⟨by rfl, ?y2⟩) (by assumption) ?r2
        case y2 => (intro w hSw; go_simp; first | done | (with_reducible rfl))
        simp only [Act.put, List.getElem_toArray, List.getElem_cons_zero, List.getElem_cons_succ, List.setIfInBounds_toArray, List.set_cons_zero, List.set_cons_succ]
        refine wpAnyH_take (i := 7) (v := ?v3) rfl (by kernel_rfl) (by kernel_rfl) (by kernel_rfl) (fun _ _ _ h => h) (Or.inl ⟨by rfl, ?y3⟩) (by assumption) ?r3
        case y3 => (intro w hSw; go_simp; first | done | (with_reducible rfl))
        simp only [Act.put, List.getElem_toArray, List.getElem_cons_zero, List.getElem_cons_succ, List.setIfInBounds_toArray, List.set_cons_zero, List.set_cons_succ]
        refine wpAnyH_take (i := 8) (v := ?v4) rfl (by kernel_rfl) (by kernel_rfl) (by kernel_rfl) (fun _ _ _ h => h) (Or.inl ⟨by rfl, ?y4⟩) (by assumption) ?r4
        case y4 => (intro w hSw; go_simp; first | done | (with_reducible rfl))
        simp only [Act.put, List.getElem_toArray, List.getElem_cons_zero, List.getElem_cons_succ, List.setIfInBounds_toArray, List.set_cons_zero, List.set_cons_succ]
        refine wpAnyH_take (i := 9) (v := ?v5) rfl (by kernel_rfl) (by kernel_rfl) (by kernel_rfl) (fun _ _ _ h => h) (Or.inl ⟨by rfl, ?y5⟩) (by assumption) ?r5
        case y5 => (intro w hSw; go_simp; first | done | (with_reducible rfl))
        simp only [Act.put, List.getElem_toArray, List.getElem_cons_zero, List.getElem_cons_succ, List.setIfInBounds_toArray, List.set_cons_zero, List.set_cons_succ]
        refine wpAnyH_ready (rs := [10]) (by kernel_rfl) (by simp) ?_
        refine AllReadyH.cons rfl (fun K hK => ?_) AllReadyH.nil
        go_simp
        have zzN8 : U2.heap.size ≤ (Yw2).heap.size := by have := c00.size; (try simp only [World.size_alloc] at this); first | exact this | omega
        have zhN8 : Yw2.heap.size ≤ (Yw2).heap.size := by first | exact Nat.le_refl _ | omega
        have b3 := bal (Below.refl (Yw2).heap.size (Yw2)) Zko
        have c00 := bAll c00 b3
        have CW := bAll CW b3
        have D3 := hide (D3.out.keepB b3)
        have D4 := hide (D4.out.keepB b3)
        have N8 := hide (heap_alloc_new (Yw2) Zko)
        refine hK.out _ _ ?_ (fun hHeld => ?_)
        · exact fA.out _ CW
        clear hK K
        have hc8 := heap_lt N8.out
        have zX := c00.size
        have HF := HVF.mk (base := U2) (X := ((Yw2).alloc Zko)) (g8 := (Yw2).heap.size) (v3 := v3) (y3 := y3) (lo := (Yw1).heap.size) (hi := Yw2.heap.size) (R := R) c00 N8.out D3.out D4.out (by omega) (by omega) (by omega) (by omega)
        clear c00 CW N8 D3 D4 hHeld
        generalize (((Yw2).alloc Zko)) = X at HF ⊢
        generalize hg8 : ((Yw2).heap.size) = g8 at HF ⊢
        exact LEAF X g8 v1 v2 v3 y3 _ _ HF
       ·
        go_simp
        have zzN8 : U2.heap.size ≤ (Yw1).heap.size := by have := c00.size; (try simp only [World.size_alloc] at this); first | exact this | omega
        have b2 := bal (Below.refl (Yw1).heap.size (Yw1)) Zko
        have c00 := bAll c00 b2
        have CW := bAll CW b2
        have D1 := hide (D1.out.keep b2)
        have D2 := hide (D2.out.keep b2)
        have N8 := hide (heap_alloc_new (Yw1) Zko)
        refine hK.out _ _ ?_ (fun hHeld => ?_)
        · exact fA.out _ CW
        clear hK K
        refine wpAnyH_ready (rs := [5]) (by kernel_rfl) (by simp) ?_
        refine AllReadyH.cons rfl (fun K hK => ?_) AllReadyH.nil
        go_simp
        go_at_call 9
        have hlo : U2.heap.size ≤ (((Yw1).alloc Zko)).heap.size := c00.size
        have hbN8 := heap_lt N8.out
        refine (cS _ _ _ D1.out D2.out hn).mono ?_
        rintro e Yw3 ⟨v3, y3, rfl, D3', D4', bb⟩
        have c00 := bAll c00 bb
        have CW := bAll CW bb
        have D1 := hide (D1.out.keep bb)
        have D2 := hide (D2.out.keep bb)
        have N8 := hide (bKeeps bb N8.out)
        have zbb := bb.size
        have D3 := hide (skIn D3')
        have D4 := hide (rowIn D4')
        refine hK.out _ _ ?_ (fun hHeld => ?_)
        · exact fA.out _ CW
        clear hK K
        refine wpAnyH_take (i := 6) (v := ?v6) rfl (by kernel_rfl) (by kernel_rfl) (by kernel_rfl) (fun _ _ _ h => h) (Or.inl ⟨by rfl, ?y6⟩) (by assumption) ?r6
        case y6 => (intro w hSw; go_simp; first | done | (with_reducible rfl))
        simp only [Act.put, List.getElem_toArray, List.getElem_cons_zero, List.getElem_cons_succ, List.setIfInBounds_toArray, List.set_cons_zero, List.set_cons_succ]
        refine wpAnyH_take (i := 7) (v := ?v7) rfl (by kernel_rfl) (by kernel_rfl) (by kernel_rfl) (fun _ _ _ h => h) (Or.inl ⟨by rfl, ?y7⟩) (by assumption) ?r7
        case y7 => (intro w hSw; go_simp; first | done | (with_reducible rfl))
        simp only [Act.put, List.getElem_toArray, List.getElem_cons_zero, List.getElem_cons_succ, List.setIfInBounds_toArray, List.set_cons_zero, List.set_cons_succ]
        refine wpAnyH_take (i := 8) (v := ?v8) rfl (by kernel_rfl) (by kernel_rfl) (by kernel_rfl) (fun _ _ _ h => h) (Or.inl ⟨by rfl, ?y8⟩) (by assumption) ?r8
        case y8 => (intro w hSw; go_simp; first | done | (with_reducible rfl))
        simp only [Act.put, List.getElem_toArray, List.getElem_cons_zero, List.getElem_cons_succ, List.setIfInBounds_toArray, List.set_cons_zero, List.set_cons_succ]
        refine wpAnyH_take (i := 9) (v := ?v9) rfl (by kernel_rfl) (by kernel_rfl) (by kernel_rfl) (fun _ _ _ h => h) (Or.inl ⟨by rfl, ?y9⟩) (by assumption) ?r9
        case y9 => (intro w hSw; go_simp; first | done | (with_reducible rfl))
        simp only [Act.put, List.getElem_toArray, List.getElem_cons_zero, List.getElem_cons_succ, List.setIfInBounds_toArray, List.set_cons_zero, List.set_cons_succ]
        have hc8 := heap_lt N8.out
        have zX := c00.size
        exact LEAF _ _ v1 v2 v3 y3 _ _ (HVF.mk (base := U2) (X := Yw3) (g8 := (Yw1).heap.size) (v3 := v3) (y3 := y3) (lo := (((Yw1).alloc Zko)).heap.size) (hi := Yw3.heap.size) (R := R) c00 N8.out D3.out D4.out (by omega) (by omega) (by omega) (by omega))
      ·
       go_simp
       have zzN8 : U2.heap.size ≤ (Yw0).heap.size := by have := c00.size; (try simp only [World.size_alloc] at this); first | exact this | omega
       have b1 := bal (Below.refl (Yw0).heap.size (Yw0)) Zko
       have c00 := bAll c00 b1
       have CW := bAll CW b1
       have D1 := hide (D1.out.keep b1)
       have N8 := hide (heap_alloc_new (Yw0) Zko)
       refine hK.out _ _ ?_ (fun hHeld => ?_)
       · exact fA.out _ CW
       clear hK K
       refine wpAnyH_ready (rs := [4]) (by kernel_rfl) (by simp) ?_
       refine AllReadyH.cons rfl (fun K hK => ?_) AllReadyH.nil
       go_simp
       go_at_call 11
       refine (toWord_any _ x _ (HA.out _ CW).2 hp hl).mono ?_
       rintro e Yw2 ⟨v2, rfl, D2', bb⟩
       have c00 := bAll c00 bb
       have CW := bAll CW bb
       have D1 := hide (D1.out.keep bb)
       have N8 := hide (bKeeps bb N8.out)
       have D2 := hide D2'.reads
       refine hK.out _ _ ?_ (fun hHeld => ?_)
       · exact fA.out _ CW
       clear hK K
       refine wpAnyH_ready (rs := [5]) (by kernel_rfl) (by simp) ?_
       refine AllReadyH.cons rfl (fun K hK => ?_) AllReadyH.nil
       go_simp
       go_at_call 9
       have hlo : U2.heap.size ≤ (Yw2).heap.size := c00.size
       have hbN8 := heap_lt N8.out
       refine (cS _ _ _ D1.out D2.out hn).mono ?_
       rintro e Yw3 ⟨v3, y3, rfl, D3', D4', bb⟩
       have c00 := bAll c00 bb
       have CW := bAll CW bb
       have D1 := hide (D1.out.keep bb)
       have N8 := hide (bKeeps bb N8.out)
       have D2 := hide (D2.out.keep bb)
       have zbb := bb.size
       have D3 := hide (skIn D3')
       have D4 := hide (rowIn D4')
       refine hK.out _ _ ?_ (fun hHeld => ?_)
       · exact fA.out _ CW
       clear hK K
       refine wpAnyH_take (i := 6) (v := ?v10) rfl (by kernel_rfl) (by kernel_rfl) (by kernel_rfl) (fun _ _ _ h => h) (Or.inl ⟨by rfl, ?y10⟩) (by assumption) ?r10
       case y10 => (intro w hSw; go_simp; first | done | (with_reducible rfl))
       simp only [Act.put, List.getElem_toArray, List.getElem_cons_zero, List.getElem_cons_succ, List.setIfInBounds_toArray, List.set_cons_zero, List.set_cons_succ]
       refine wpAnyH_take (i := 7) (v := ?v11) rfl (by kernel_rfl) (by kernel_rfl) (by kernel_rfl) (fun _ _ _ h => h) (Or.inl ⟨by rfl, ?y11⟩) (by assumption) ?r11
       case y11 => (intro w hSw; go_simp; first | done | (with_reducible rfl))
       simp only [Act.put, List.getElem_toArray, List.getElem_cons_zero, List.getElem_cons_succ, List.setIfInBounds_toArray, List.set_cons_zero, List.set_cons_succ]
       refine wpAnyH_take (i := 8) (v := ?v12) rfl (by kernel_rfl) (by kernel_rfl) (by kernel_rfl) (fun _ _ _ h => h) (Or.inl ⟨by rfl, ?y12⟩) (by assumption) ?r12
       case y12 => (intro w hSw; go_simp; first | done | (with_reducible rfl))
       simp only [Act.put, List.getElem_toArray, List.getElem_cons_zero, List.getElem_cons_succ, List.setIfInBounds_toArray, List.set_cons_zero, List.set_cons_succ]
       refine wpAnyH_take (i := 9) (v := ?v13) rfl (by kernel_rfl) (by kernel_rfl) (by kernel_rfl) (fun _ _ _ h => h) (Or.inl ⟨by rfl, ?y13⟩) (by assumption) ?r13
       case y13 => (intro w hSw; go_simp; first | done | (with_reducible rfl))
       simp only [Act.put, List.getElem_toArray, List.getElem_cons_zero, List.getElem_cons_succ, List.setIfInBounds_toArray, List.set_cons_zero, List.set_cons_succ]
       have hc8 := heap_lt N8.out
       have zX := c00.size
       exact LEAF _ _ v1 v2 v3 y3 _ _ (HVF.mk (base := U2) (X := Yw3) (g8 := (Yw0).heap.size) (v3 := v3) (y3 := y3) (lo := (Yw2).heap.size) (hi := Yw3.heap.size) (R := R) c00 N8.out D3.out D4.out (by omega) (by omega) (by omega) (by omega))
     ·
      go_simp
      have zzN8 : U2.heap.size ≤ (U2.drew).heap.size := by have := c00.size; (try simp only [World.size_alloc] at this); first | exact this | omega
      have b0 := bal (Below.refl (U2.drew).heap.size (U2.drew)) Zko
      have c00 := bAll c00 b0
      have CW := bAll CW b0
      have N8 := hide (heap_alloc_new (U2.drew) Zko)
      refine hK.out _ _ ?_ (fun hHeld => ?_)
      · exact fA.out _ CW
      clear hK K
      refine wpAnyH_ready (rs := [1]) (by kernel_rfl) (by simp) ?_
      refine AllReadyH.cons rfl (fun K hK => ?_) AllReadyH.nil
      go_simp
      go_at_call 10
      refine (toSynSeeker_any _ k _ (HA.out _ CW).1 hn).mono ?_
      rintro e Yw1 ⟨v1, rfl, D1', bb⟩
      have c00 := bAll c00 bb
      have CW := bAll CW bb
      have N8 := hide (bKeeps bb N8.out)
      have D1 := hide D1'.reads
      refine hK.out _ _ ?_ (fun hHeld => ?_)
      · exact fA.out _ CW
      clear hK K
      refine wpAnyH_ready (rs := [4]) (by kernel_rfl) (by simp) ?_
      refine AllReadyH.cons rfl (fun K hK => ?_) AllReadyH.nil
      go_simp
      go_at_call 11
      refine (toWord_any _ x _ (HA.out _ CW).2 hp hl).mono ?_
      rintro e Yw2 ⟨v2, rfl, D2', bb⟩
      have c00 := bAll c00 bb
      have CW := bAll CW bb
      have N8 := hide (bKeeps bb N8.out)
      have D1 := hide (D1.out.keep bb)
      have D2 := hide D2'.reads
      refine hK.out _ _ ?_ (fun hHeld => ?_)
      · exact fA.out _ CW
      clear hK K
      refine wpAnyH_ready (rs := [5]) (by kernel_rfl) (by simp) ?_
      refine AllReadyH.cons rfl (fun K hK => ?_) AllReadyH.nil
      go_simp
      go_at_call 9
      have hlo : U2.heap.size ≤ (Yw2).heap.size := c00.size
      have hbN8 := heap_lt N8.out
      refine (cS _ _ _ D1.out D2.out hn).mono ?_
      rintro e Yw3 ⟨v3, y3, rfl, D3', D4', bb⟩
      have c00 := bAll c00 bb
      have CW := bAll CW bb
      have N8 := hide (bKeeps bb N8.out)
      have D1 := hide (D1.out.keep bb)
      have D2 := hide (D2.out.keep bb)
      have zbb := bb.size
      have D3 := hide (skIn D3')
      have D4 := hide (rowIn D4')
      refine hK.out _ _ ?_ (fun hHeld => ?_)
      · exact fA.out _ CW
      clear hK K
      refine wpAnyH_take (i := 6) (v := ?v14) rfl (by kernel_rfl) (by kernel_rfl) (by kernel_rfl) (fun _ _ _ h => h) (Or.inl ⟨by rfl, ?y14⟩) (by assumption) ?r14
      case y14 => (intro w hSw; go_simp; first | done | (with_reducible rfl))
      simp only [Act.put, List.getElem_toArray, List.getElem_cons_zero, List.getElem_cons_succ, List.setIfInBounds_toArray, List.set_cons_zero, List.set_cons_succ]
      refine wpAnyH_take (i := 7) (v := ?v15) rfl (by kernel_rfl) (by kernel_rfl) (by kernel_rfl) (fun _ _ _ h => h) (Or.inl ⟨by rfl, ?y15⟩) (by assumption) ?r15
      case y15 => (intro w hSw; go_simp; first | done | (with_reducible rfl))
      simp only [Act.put, List.getElem_toArray, List.getElem_cons_zero, List.getElem_cons_succ, List.setIfInBounds_toArray, List.set_cons_zero, List.set_cons_succ]
      refine wpAnyH_take (i := 8) (v := ?v16) rfl (by kernel_rfl) (by kernel_rfl) (by kernel_rfl) (fun _ _ _ h => h) (Or.inl ⟨by rfl, ?y16⟩) (by assumption) ?r16
      case y16 => (intro w hSw; go_simp; first | done | (with_reducible rfl))
      simp only [Act.put, List.getElem_toArray, List.getElem_cons_zero, List.getElem_cons_succ, List.setIfInBounds_toArray, List.set_cons_zero, List.set_cons_succ]
      refine wpAnyH_take (i := 9) (v := ?v17) rfl (by kernel_rfl) (by kernel_rfl) (by kernel_rfl) (fun _ _ _ h => h) (Or.inl ⟨by rfl, ?y17⟩) (by assumption) ?r17
      case y17 => (intro w hSw; go_simp; first | done | (with_reducible rfl))
      simp only [Act.put, List.getElem_toArray, List.getElem_cons_zero, List.getElem_cons_succ, List.setIfInBounds_toArray, List.set_cons_zero, List.set_cons_succ]
      have hc8 := heap_lt N8.out
      have zX := c00.size
      exact LEAF _ _ v1 v2 v3 y3 _ _ (HVF.mk (base := U2) (X := Yw3) (g8 := (U2.drew).heap.size) (v3 := v3) (y3 := y3) (lo := (Yw2).heap.size) (hi := Yw3.heap.size) (R := R) c00 N8.out D3.out D4.out (by omega) (by omega) (by omega) (by omega))
   · intro X g8 v1 v2 v3 y3 lo hi ⟨c00, N8, D3, D4, q1, q3, q4, q5⟩
     have CW := bAll CC.out c00
     have N8 := hide N8
     have D4 := hide D4
     have hHeld : (fun w' => w'.heap[w.heap.size]? = some (.cells (skarr k (.slice ao k.ys.length ca)) 28 (0, 0)) ∧ w'.heap[w.heap.size + 1]? = some (.cells cs 32 (0, 0))) X := fA.out _ CW
     obtain ⟨so3, sc3, rfl, r3⟩ := D3
     obtain ⟨uo3, uc3, rfl, -⟩ := id D4.out
     have hc8 := heap_lt N8.out
     have zX := c00.size
     have s8 := updRow X g8 (skarr R.1 (.slice so3 R.1.ys.length sc3))
     have c1X := c00.trans (s8.below c00.size (fun k h => by omega))
     refine wpAnyH_ready (rs := [11]) (by kernel_rfl) (by simp) ?_
     refine AllReadyH.cons rfl (fun K hK => ?_) AllReadyH.nil
     (refine wp_store_row 39 (.tmp 8) (.tmp 39) rfl g8 (skarr R.1 (.slice so3 R.1.ys.length sc3)) rfl rfl _ _ N8.out infoSk rfl (skarr_one _ _ _ _) ?_)
     refine hK.out _ _ ?_ (fun hHeld => ?_)
     · exact fA.out _ (bAll CC.out c1X)
     clear hK K
     refine wpAnyH_take (i := 12) (v := ?v18) rfl (by kernel_rfl) (by kernel_rfl) (by kernel_rfl) (fun _ _ _ h => h) (Or.inl ⟨by rfl, ?y18⟩) (by assumption) ?r18
     case y18 => (intro w hSw; go_simp; first | done | (with_reducible rfl))
     simp only [Act.put, List.getElem_toArray, List.getElem_cons_zero, List.getElem_cons_succ, List.setIfInBounds_toArray, List.set_cons_zero, List.set_cons_succ]
     refine wpAnyH_take (i := 13) (v := ?v19) rfl (by kernel_rfl) (by kernel_rfl) (by kernel_rfl) (fun _ _ _ h => h) (Or.inl ⟨by rfl, ?y19⟩) (by assumption) ?r19
     case y19 => (intro w hSw; go_simp; first | done | (with_reducible rfl))
     simp only [Act.put, List.getElem_toArray, List.getElem_cons_zero, List.getElem_cons_succ, List.setIfInBounds_toArray, List.set_cons_zero, List.set_cons_succ]
     refine wpAnyH_done (by kernel_rfl) ?_ _
     refine NoPanic.normal ?_
     clear hHeld
     go_wp2_with fail
     go_meet
     have z8 := s8.size
     refine ⟨g8, .slice uo3 R.2.1.length uc3, rfl, rfl, rfl, ⟨so3, sc3, lo, hi, setRow_heap _ _ _ _ _ _ N8.out, ?_, D4.out.keep s8 (fun k h1 h2 => by omega), by omega, by omega, by omega, by omega, by omega⟩, c1X⟩
     exact SkO.keep ⟨so3, sc3, rfl, r3⟩ s8 (fun k h1 h2 => by omega)
  case rest =>
  obtain ⟨g8, u9, rfl, rfl, rfl, VB8', b8⟩ := hcut
  have c8 := bAll CC.out b8
  clear cS b8 SZ CC
  obtain ⟨W8, hW8⟩ : ∃ W8, W8 = wc := ⟨_, rfl⟩
  have VB8 : Hid (∀ V : World, Below wc.heap.size wc V → HeB V U2.heap.size W8.heap.size g8 u9 R) := fun V hV => by rw [hW8]; exact VB8'.keepB hV
  obtain ⟨uo9, uc9, rfl⟩ : ∃ uo uc, u9 = .slice uo R.2.1.length uc := by obtain ⟨_, _, _, _, _, _, ⟨uo, uc, e, -⟩, -⟩ := VB8'; exact ⟨uo, uc, e⟩
  have b88 : Below W8.heap.size W8 wc := by rw [hW8]; exact Below.refl _ _
  have z88 : W8.heap.size ≤ wc.heap.size := b88.size
  have ZW8 : Hid (W.heap.size ≤ W8.heap.size) := by show _ ≤ _; rw [hW8]; exact c8.size
  clear hW8 VB8'
  -- the copies that the program is given
  have C1 := hide (fA.out _ c8).1
  go_wp2_with (refine wpList_load_row rfl 28 (.tmp 3) rfl w.heap.size rfl _ _ (0, 0) _ C1.out Try.underlying28 rfl infoLk ?_)
  refine (toSynSeeker_any _ k _ (HA.out _ c8).1 hn).mono ?_
  rintro e U9 ⟨v9, rfl, D9, b9⟩
  obtain ⟨so9, sc9, rfl, r9⟩ := D9
  have R9 := hide (rowIn r9)
  clear C1 r9
  have z9 := b9.size
  have a9 := bal (Below.refl U9.heap.size U9) (.cells (skarr k (.slice so9 k.ys.length sc9)) 39)
  have c9 := bAll c8 (bAll b9 a9)
  have C1 := hide (fA.out _ c9).2
  have N9 := hide (heap_alloc_new U9 (.cells (skarr k (.slice so9 k.ys.length sc9)) 39))
  go_wp2_with (first
    | (refine wpList_store_row rfl 39 (.tmp 11) (.tmp 43) rfl U9.heap.size (skarr k (.slice so9 k.ys.length sc9)) rfl rfl _ _ (heap_alloc_new U9 _) infoSk (show (26 : Nat) = 26 from rfl) (skarr_one _ _ _ _) ?_; rw [World.setRow_alloc_new])
    | (refine wpList_load_row rfl 32 (.tmp 5) rfl (w.heap.size + 1) rfl _ cs (0, 0) _ C1.out Try.underlying32 rfl HI.out ?_))
  refine (toWord_any _ x _ (HA.out _ c9).2 hp hl).mono ?_
  rintro e U10 ⟨v10, rfl, D10', b10⟩
  have D10 := hide (wdIn D10')
  obtain ⟨ds, rfl, hds, hd1⟩ := D10'.reads.agg
  have GI := hide (infoAt infoWd hds)
  have GZ := hide (zero26.trans hds.symm)
  have G1 := hide hd1
  have z10 := b10.size
  rw [World.size_alloc] at z10
  have a10 := bal (Below.refl U10.heap.size U10) (.cells ds 47)
  have M9 := hide (bKeeps a10 (bKeeps b10 N9.out))
  have M10 := hide (heap_alloc_new U10 (.cells ds 47))
  have Q9 := hide (((R9.out.keepB a9).keepB b10).keepB a10)
  have Q10 := hide (D10.out.keepB a10)
  have c10 := bAll c9 (bAll b10 a10)
  have e10 := bAll b88 (bAll (bAll b9 a9) (bAll b10 a10))
  have V10 := hide (fun V (hV : Below (U10.alloc (.cells ds 47)).heap.size (U10.alloc (.cells ds 47)) V) => VB8.out V (bAll (bAll (bAll b9 a9) (bAll b10 a10)) hV))
  clear C1 N9 R9 D10 D10' hds hd1 c9 b10 a10 b9 a9 VB8 b88 c8
  -- the program
  have VR : SkR (U10.alloc (.cells ds 47)) (.agg (skarr k (.slice so9 k.ys.length sc9))) k := ⟨so9, sc9, rfl, Q9.out.reads⟩
  have cP := cI _ (.agg ds) _ VR Q10.out.reads hn
  clear VR
  rw [World.size_alloc] at Q10
  generalize hX10 : U10.alloc (.cells ds 47) = X10 at M9 M10 Q9 Q10 c10 e10 V10 cP
  have zX10 : X10.heap.size = U10.heap.size + 1 := by rw [← hX10]; simp
  go_wp2_with (first
    | (refine wpList_store_row rfl 47 (.tmp 12) (.tmp 45) rfl U10.heap.size ds rfl rfl _ _ (heap_alloc_new U10 _) GI.out GZ.out G1.out ?_; rw [World.setRow_alloc_new]; rw [hX10])
    | (refine wpList_load_row rfl 39 (.tmp 11) rfl U9.heap.size rfl _ _ (0, 0) _ M9.out Try.underlying39 rfl infoSk ?_)
    | (refine wpList_load_row rfl 47 (.tmp 12) rfl U10.heap.size rfl _ ds (0, 0) _ M10.out Try.underlying47 rfl GI.out ?_))
  refine cP.mono ?_
  clear cP hX10
  rintro e U11 ⟨v11, y11, rfl, D11, E11', b11⟩
  obtain ⟨so11, sc11, rfl, r11⟩ := D11
  obtain ⟨yo11, yc11, rfl, -⟩ := id E11'
  have r11 := rowIn r11
  have E11' := rowIn E11'
  have k1 := bal (Below.refl U11.heap.size U11) (.cells (skarr R.1 (.slice so11 R.1.ys.length sc11)) 39)
  have k2 := heap_alloc_new U11 (.cells (skarr R.1 (.slice so11 R.1.ys.length sc11)) 39)
  have r11b := r11.keepB k1
  have E11b := E11'.keepB k1
  clear r11 E11'
  have z11 := b11.size
  go_upto_region 12 with (refine wpList_store_row rfl 39 (.tmp 13) (.tmp 51) rfl U11.heap.size (skarr R.1 (.slice so11 R.1.ys.length sc11)) rfl rfl _ _ (heap_alloc_new U11 _) infoSk (show (26 : Nat) = 26 from rfl) (skarr_one _ _ _ _) ?_; rw [World.setRow_alloc_new])
  generalize hW11 : U11.alloc (.cells (skarr R.1 (.slice so11 R.1.ys.length sc11)) 39) = W11 at k1 k2 r11b E11b ⊢
  clear hW11
  obtain ⟨Si, hSi⟩ : ∃ Si, Si = typed W11 (fun j => X10.heap.size ≤ j ∧ j < U11.heap.size) 3 := ⟨_, rfl⟩
  obtain ⟨Sw, hSw⟩ : ∃ Sw, Sw = typed W11 (fun j => X10.heap.size ≤ j ∧ j < U11.heap.size) 47 := ⟨_, rfl⟩
  have r11c : Row W11 3 1 Si (.slice so11 R.1.ys.length sc11) R.1.ys.length (ints R.1.ys) := by rw [hSi]; exact r11b.typed
  have E11c : Row W11 47 26 Sw (.slice yo11 R.2.1.length yc11) R.2.1.length (fwcells R.2.1) := by rw [hSw]; exact E11b.typed
  have AP : Hid ((∀ j, Si j → ¬ Sw j) ∧ (∀ j, Sw j → ¬ Si j)) := by
    show _ ∧ _
    rw [hSi, hSw]
    exact ⟨fun j => typed_apart (by decide) j, fun j => typed_apart (by decide) j⟩
  have inI' : ∀ j, Si j → X10.heap.size ≤ j ∧ j < U11.heap.size := by rw [hSi]; exact fun j h => h.1
  have inW' : ∀ j, Sw j → X10.heap.size ≤ j ∧ j < U11.heap.size := by rw [hSw]; exact fun j h => h.1
  clear hSi hSw r11b E11b
  have K2 := hide k2
  have KV : Hid (SkO W11 Si (.agg (skarr R.1 (.slice so11 R.1.ys.length sc11))) R.1) := ⟨so11, sc11, rfl, r11c⟩
  have KE := hide E11c
  clear r11c E11c k2
  have m11 := bAll b11 k1
  have L9 := hide (bKeeps m11 M9.out)
  have L10 := hide (bKeeps m11 M10.out)
  have T9 := hide (Q9.out.keepB m11)
  have T10 := hide (Q10.out.keepB m11)
  have c11 := bAll c10 m11
  have V11 := hide (fun V hV => V10.out V (bAll m11 hV))
  have zz11 := k1.size
  have zm11 := m11.size
  clear k1 M9 M10 Q9 Q10 c10 V10 e10 b11 m11
  have zW8 : W.heap.size ≤ W8.heap.size := ZW8.out
  have HFin : Hid (∀ V : World, Upd (fun k => W8.heap.size ≤ k) W11 V → Below w.heap.size w V) := fun V u => bAll al (c11.trans (u.below c11.size (fun k hk => Nat.le_trans zW8 hk)))
  have F8 : Hid (∃ (so8 : Option Addr) (sc8 : Nat), ∀ V : World, Upd (fun k => W8.heap.size ≤ k) W11 V → V.heap[g8]? = some (.cells (skarr R.1 (.slice so8 R.1.ys.length sc8)) 39 (0, 0)) ∧ SkR V (.agg (skarr R.1 (.slice so8 R.1.ys.length sc8))) R.1 ∧ RowR V 26 (.slice uo9 R.2.1.length uc9) R.2.1.length (fwcells R.2.1)) := by
    obtain ⟨so8, sc8, lo8, hi8, h1, h3, h4, h5, h6, h7, h8, h9⟩ := V11.out W11 (Below.refl _ _)
    refine ⟨so8, sc8, fun V u => ⟨u.keeps h1 (by omega), (h3.keep u (fun k hk => by omega)).reads, (h4.keep u (fun k hk => by omega)).reads⟩⟩
  obtain ⟨so8, sc8, F8'⟩ := F8.out
  have G8 := hide F8'
  clear F8 F8' V11
  have F13 : Hid (∀ V : World, Upd (fun k => k < X10.heap.size) W11 V → V.heap[U11.heap.size]? = some (.cells (skarr R.1 (.slice so11 R.1.ys.length sc11)) 39 (0, 0)) ∧ SkO V Si (.agg (skarr R.1 (.slice so11 R.1.ys.length sc11))) R.1 ∧ Row V 47 26 Sw (.slice yo11 R.2.1.length yc11) R.2.1.length (fwcells R.2.1)) := by
    intro V u
    exact ⟨u.keeps K2.out (by omega), KV.out.keep u (fun k h1 h2 => by have := inI' k h1; omega), KE.out.keep u (fun k h1 h2 => by have := inW' k h1; omega)⟩
  clear K2 KV KE
  have Hu : Hid (∀ V : World, Upd (fun k => W8.heap.size ≤ k) W11 V → Below W.heap.size W V) := fun V u => c11.trans (u.below c11.size (fun k hk => Nat.le_trans zW8 hk))
  have F9 : Hid (∀ V : World, Below W11.heap.size W11 V → V.heap[U9.heap.size]? = some (.cells (skarr k (.slice so9 k.ys.length sc9)) 39 (0, 0)) ∧ V.heap[U10.heap.size]? = some (.cells ds 47 (0, 0))) := fun V b => ⟨bKeeps b L9.out, bKeeps b L10.out⟩
  clear L9 L10
  -- the answers are the same
  have f13 := F13.out W11 (Upd.refl _ _)
  have f8 := G8.out W11 (Upd.refl _ _)
  go_wp2_with (first
    | (refine wpList_load_row rfl 39 (.tmp 13) rfl U11.heap.size rfl _ _ (0, 0) _ f13.1 Try.underlying39 rfl infoSk ?_)
    | (refine wpList_load_row rfl 39 (.tmp 8) rfl g8 rfl _ _ (0, 0) _ f8.1 Try.underlying39 rfl infoSk ?_))
  refine (eqSynSeeker_true _ _ R.1 _ f13.2.1.reads f8.2.1).mono ?_
  rintro e V1 ⟨rfl, b1⟩
  have h13 := F13.out V1 (Upd.ofBelow b1)
  have h8 := G8.out V1 (Upd.ofBelow b1)
  clear f13 f8
  go_wp2_with fail
  refine (eqWordS_true (.slice yo11 R.2.1.length yc11) (.slice uo9 R.2.1.length uc9) _ R.2.1 _ HRf.out h13.2.2.reads h8.2.2).mono ?_
  rintro e V2 ⟨rfl, b2⟩
  have v2 := bAll b1 b2
  clear h13 h8 b1 b2
  go_upto_region 14 with fail
  -- the arguments are as they were
  have dd := bDrewB (Below.refl V2.heap.size V2)
  have cA : Below W.heap.size W V2.drew := Hu.out _ (Upd.ofBelow (bAll v2 dd))
  have fS : Hid (∀ V : World, Below W11.heap.size W11 V → V.heap[U9.heap.size]? = some (.cells (skarr k (.slice so9 k.ys.length sc9)) 39 (0, 0)) ∧ V.heap[w.heap.size]? = some (.cells (skarr k (.slice ao k.ys.length ca)) 28 (0, 0))) := fun V b => ⟨(F9.out V b).1, (fA.out V (Hu.out V (Upd.ofBelow b))).1⟩
  have fS2 : Hid (∀ V : World, Below W11.heap.size W11 V → V.heap[U10.heap.size]? = some (.cells ds 47 (0, 0)) ∧ V.heap[w.heap.size + 1]? = some (.cells cs 32 (0, 0))) := fun V b => ⟨(F9.out V b).2, (fA.out V (Hu.out V (Upd.ofBelow b))).2⟩
  have v2d := bAll v2 dd
  refine wp_region_noPanic ?_
  refine wp_region_held_drew (S := (fun w' => w'.heap[U9.heap.size]? = some (.cells (skarr k (.slice so9 k.ys.length sc9)) 39 (0, 0)) ∧ w'.heap[w.heap.size]? = some (.cells (skarr k (.slice ao k.ys.length ca)) 28 (0, 0)))) (by kernel_rfl) ?_ (fun hHeld => ?_)
  · exact fS.out _ v2d
  refine wpAnyH_take (i := 0) (v := .agg (skarr k (.slice so9 k.ys.length sc9))) rfl (by kernel_rfl) (by kernel_rfl) (by kernel_rfl) (fun _ _ _ h => h) (yields_row rfl 39 (.tmp 11) rfl (U9.heap.size) rfl _ (skarr k (.slice so9 k.ys.length sc9)) _ (fun _ h => h.1) Try.underlying39 rfl infoSk) (by assumption) ?_
  simp only [Act.put, List.getElem_toArray, List.getElem_cons_zero, List.setIfInBounds_toArray, List.set_cons_zero, List.set_cons_succ]
  refine wpAnyH_take (i := 1) (v := .agg (skarr k (.slice ao k.ys.length ca))) rfl (by kernel_rfl) (by kernel_rfl) (by kernel_rfl) (fun _ _ _ h => h) (yields_row rfl 28 (.tmp 3) rfl (w.heap.size) rfl _ (skarr k (.slice ao k.ys.length ca)) _ (fun _ h => h.2) Try.underlying28 rfl infoLk) (by assumption) ?_
  simp only [Act.put, List.getElem_toArray, List.getElem_cons_zero, List.getElem_cons_succ, List.setIfInBounds_toArray, List.set_cons_zero, List.set_cons_succ]
  refine wpAnyH_ready (rs := [2]) (by kernel_rfl) (by simp) ?_
  refine AllReadyH.cons rfl (fun K hK => ?_) AllReadyH.nil
  go_simp
  (go_at_call 10; refine (toSynSeeker_any _ k _ (HA.out _ cA).1 hn).mono ?_; rintro e V3 ⟨v3, rfl, d3, b3⟩; have v3b := bAll v2d b3)
  refine hK.out _ _ ?_ (fun hHeld => ?_)
  · exact fS.out _ v3b
  clear hK K
  refine wpAnyH_ready (rs := [3]) (by kernel_rfl) (by simp) ?_
  refine AllReadyH.cons rfl (fun K hK => ?_) AllReadyH.nil
  go_simp
  (go_at_call 13; refine (eqSynSeeker_true _ _ k _ ⟨so9, sc9, rfl, (T9.out.keepB v3b).reads⟩ d3.reads).mono ?_; rintro e V4 ⟨rfl, b4⟩; have v4 := bAll v3b b4)
  refine hK.out _ _ ?_ (fun hHeld => ?_)
  · exact fS.out _ v4
  clear hK K
  refine wpAnyH_take (i := 4) (v := ?v20) rfl (by kernel_rfl) (by kernel_rfl) (by kernel_rfl) (fun _ _ _ h => h) (Or.inl ⟨by rfl, ?hy20⟩) (by assumption) ?rest20
  case hy20 => ((intro w hSw; (try dsimp only at hSw); (try simp only [List.getElem_toArray, List.getElem_cons_zero, List.getElem_cons_succ]); go_simp; first | done | (with_reducible rfl)))
  simp only [Act.put, List.getElem_toArray, List.getElem_cons_zero, List.getElem_cons_succ, List.setIfInBounds_toArray, List.set_cons_zero, List.set_cons_succ]
  refine wpAnyH_done (by kernel_rfl) ?_ _
  refine NoPanic.normal ?_
  clear hHeld dd cA v2d v3b v2
  go_upto_region 16 with fail
  have dd := bDrewB (Below.refl V4.heap.size V4)
  have cA : Below W.heap.size W V4.drew := Hu.out _ (Upd.ofBelow (bAll v4 dd))
  have v4d := bAll v4 dd
  refine wp_region_noPanic ?_
  refine wp_region_held_drew (S := (fun w' => w'.heap[U10.heap.size]? = some (.cells ds 47 (0, 0)) ∧ w'.heap[w.heap.size + 1]? = some (.cells cs 32 (0, 0)))) (by kernel_rfl) ?_ (fun hHeld => ?_)
  · exact fS2.out _ v4d
  refine wpAnyH_take (i := 0) (v := .agg ds) rfl (by kernel_rfl) (by kernel_rfl) (by kernel_rfl) (fun _ _ _ h => h) (yields_row rfl 47 (.tmp 12) rfl (U10.heap.size) rfl _ ds _ (fun _ h => h.1) Try.underlying47 rfl GI.out) (by assumption) ?_
  simp only [Act.put, List.getElem_toArray, List.getElem_cons_zero, List.setIfInBounds_toArray, List.set_cons_zero, List.set_cons_succ]
  refine wpAnyH_take (i := 1) (v := .agg cs) rfl (by kernel_rfl) (by kernel_rfl) (by kernel_rfl) (fun _ _ _ h => h) (yields_row rfl 32 (.tmp 5) rfl (w.heap.size + 1) rfl _ cs _ (fun _ h => h.2) Try.underlying32 rfl HI.out) (by assumption) ?_
  simp only [Act.put, List.getElem_toArray, List.getElem_cons_zero, List.getElem_cons_succ, List.setIfInBounds_toArray, List.set_cons_zero, List.set_cons_succ]
  refine wpAnyH_ready (rs := [2]) (by kernel_rfl) (by simp) ?_
  refine AllReadyH.cons rfl (fun K hK => ?_) AllReadyH.nil
  go_simp
  (go_at_call 11; refine (toWord_any _ x _ (HA.out _ cA).2 hp hl).mono ?_; rintro e V5 ⟨v5, rfl, d5, b5⟩; have v5b := bAll v4d b5)
  refine hK.out _ _ ?_ (fun hHeld => ?_)
  · exact fS2.out _ v5b
  clear hK K
  refine wpAnyH_ready (rs := [3]) (by kernel_rfl) (by simp) ?_
  refine AllReadyH.cons rfl (fun K hK => ?_) AllReadyH.nil
  go_simp
  (go_at_call 15; refine (eqWord_true _ _ x _ (T10.out.keepB v5b).reads d5.reads).mono ?_; rintro e V6 ⟨rfl, b6⟩; have v6 := bAll v5b b6)
  refine hK.out _ _ ?_ (fun hHeld => ?_)
  · exact fS2.out _ v6
  clear hK K
  refine wpAnyH_take (i := 4) (v := ?v21) rfl (by kernel_rfl) (by kernel_rfl) (by kernel_rfl) (fun _ _ _ h => h) (Or.inl ⟨by rfl, ?hy21⟩) (by assumption) ?rest21
  case hy21 => ((intro w hSw; (try dsimp only at hSw); (try simp only [List.getElem_toArray, List.getElem_cons_zero, List.getElem_cons_succ]); go_simp; first | done | (with_reducible rfl)))
  simp only [Act.put, List.getElem_toArray, List.getElem_cons_zero, List.getElem_cons_succ, List.setIfInBounds_toArray, List.set_cons_zero, List.set_cons_succ]
  refine wpAnyH_done (by kernel_rfl) ?_ _
  refine NoPanic.normal ?_
  clear hHeld dd cA v4d v5b v4
  -- marks in the arguments
  have s9a := T9.out.keepB v6
  have f9 := F9.out V6 v6
  have CM := markSynSeeker_any _ _ k 1 V6 ⟨so9, sc9, rfl, s9a⟩ (by omega)
  obtain ⟨M, hM⟩ : ∃ M : Nat, M = 1 + k.ys.length := ⟨_, rfl⟩
  rw [← hM] at CM
  have hMa : 1 ≤ M := by omega
  have hMb : M ≤ 13000000 := by omega
  clear hM
  go_wp2_with (refine wpList_load_row rfl 39 (.tmp 11) rfl U9.heap.size rfl _ _ (0, 0) _ f9.1 Try.underlying39 rfl infoSk ?_)
  refine CM.mono ?_
  rintro e V7 ⟨rfl, -, u7⟩
  clear CM s9a
  have n10 := u7.keeps f9.2 (fun h => by omega)
  have s10 := (T10.out.keepB v6).keep u7 (fun k h1 h2 => by omega)
  have CM := markWord_any _ _ x M V7 s10 (by omega) (by omega)
  obtain ⟨M2, hM2⟩ : ∃ M2 : Nat, M2 = M + x.ps.length * 4 + x.ls.length * 2 := ⟨_, rfl⟩
  rw [← hM2] at CM
  have hM20 : ¬ (M2 : Int) < 0 := by omega
  have hM21 : decide ((M2 : Int) < 0) = false := decide_eq_false hM20
  clear hM2
  go_wp2_with (refine wpList_load_row rfl 47 (.tmp 12) rfl U10.heap.size rfl _ ds (0, 0) _ n10 Try.underlying47 rfl GI.out ?_)
  refine CM.mono ?_
  rintro e V8 ⟨rfl, -, u8⟩
  clear CM n10 s10 f9 hMa hMb
  have u78 : Upd (fun k => W8.heap.size ≤ k ∧ k < X10.heap.size) W11 V8 := ((Upd.ofBelow v6).trans (u7.mono (fun k h => by omega))).trans (u8.mono (fun k h => by omega))
  clear u7 u8 v6 T9 T10 F9 fS fS2
  have h13 := F13.out V8 (u78.mono (fun k h => h.2))
  have h8 := G8.out V8 (u78.mono (fun k h => h.1))
  go_wp2_with (first
    | (refine wpList_load_rowG (by rfl) 39 (.tmp 13) rfl U11.heap.size rfl _ _ (0, 0) _ h13.1 Try.underlying39 rfl infoSk ?_)
    | (refine wpList_load_rowG (by rfl) 39 (.tmp 8) rfl g8 rfl _ _ (0, 0) _ h8.1 Try.underlying39 rfl infoSk ?_))
  refine (eqSynSeeker_true _ _ R.1 _ h13.2.1.reads h8.2.1).mono ?_
  rintro e Z1 ⟨rfl, b1⟩
  have y1 := u78.trans (Upd.ofBelow b1)
  have h13 := F13.out Z1 (y1.mono (fun k h => h.2))
  have h8 := G8.out Z1 (y1.mono (fun k h => h.1))
  go_wp2_with fail
  refine (eqWordS_true (.slice yo11 R.2.1.length yc11) (.slice uo9 R.2.1.length uc9) _ R.2.1 _ HRf.out h13.2.2.reads h8.2.2).mono ?_
  rintro e Z2 ⟨rfl, b2⟩
  have y2 := y1.trans (Upd.ofBelow b2)
  clear b1 b2 y1 u78
  -- marks in the answer
  have h13 := F13.out Z2 (y2.mono (fun k h => h.2))
  have hRl := HRl.out
  have hRy := HRy.out
  have CM := markSynSeeker_any _ _ R.1 1 Z2 h13.2.1 (by omega)
  obtain ⟨M, hM⟩ : ∃ M : Nat, M = 1 + R.1.ys.length := ⟨_, rfl⟩
  have HM := hide hM
  rw [← hM] at CM
  have hMa : 1 ≤ M := by omega
  have hMb : M ≤ 13000000 := by omega
  clear hM
  go_wp2_with (refine wpList_load_row rfl 39 (.tmp 13) rfl U11.heap.size rfl _ _ (0, 0) _ h13.1 Try.underlying39 rfl infoSk ?_)
  refine CM.mono ?_
  rintro e Z3 ⟨rfl, k3, u3⟩
  clear CM
  have B13 := hide (u3.keeps h13.1 (fun h => by have := inI' _ h; omega))
  have E3 := h13.2.2.keep u3 AP.out.2
  have CM := markWordS_any Sw _ _ R.2.1 M Z3 E3 rfl (by omega) (by omega)
  obtain ⟨N, hN⟩ : ∃ N : Nat, N = M + R.2.1.length * 24 := ⟨_, rfl⟩
  have HN := hide hN
  rw [← hN] at CM
  have hNb : N ≤ 13000100 := by omega
  clear hN
  have y3 : Upd (fun k => W8.heap.size ≤ k) W11 Z3 := (y2.mono (fun k h => h.1)).trans (u3.mono (fun k h => by have := inI' _ h; omega))
  go_wp2_with fail
  refine CM.mono ?_
  rintro e Z4 ⟨rfl, k4, u4⟩
  clear CM E3
  have K3 := hide (k3.keep u4 AP.out.1)
  have K4 := hide k4
  have y4 : Upd (fun k => W8.heap.size ≤ k) W11 Z4 := y3.trans (u4.mono (fun k h => by have := inW' _ h; omega))
  have B13 := hide (u4.keeps B13.out (fun h => by have := inW' _ h; omega))
  clear u3 u4 k3 k4 y2 y3 h13 h8 F13 AP
  have hM2 : ¬ (M : Int) < 0 := by omega
  have hN2 : ¬ (N : Int) < 0 := by omega
  have F14 : Hid (∀ V : World, Below Z4.heap.size Z4 V → V.heap[U11.heap.size]? = some (.cells (skarr R.1 (.slice so11 R.1.ys.length sc11)) 39 (0, 0)) ∧ SkR V (.agg (skarr R.1 (.slice so11 R.1.ys.length sc11))) { R.1 with ys := mkN 1 R.1.ys.length } ∧ RowR V 26 (.slice yo11 R.2.1.length yc11) R.2.1.length (fwcells (mkF M R.2.1.length))) := fun V b => ⟨bKeeps b B13.out, K3.out.reads.keep b, K4.out.reads.keep b⟩
  have HH : Hid (∀ V : World, Below Z4.heap.size Z4 V → Calls Try.prog 19 #[.agg (skarr R.1 (.slice so11 R.1.ys.length sc11)), .int .i64 1] V fun e w' => e = .returned (.int .i64 (M : Nat)) ∧ Below V.heap.size V w') := by
    intro V b
    have := heldSynSeeker_ok _ R.1 R.1.ys.length 1 V (F14.out V b).2.1 (by have := HM.out; omega)
    rw [← HM.out] at this
    exact this
  have HH2 : Hid (∀ V : World, Below Z4.heap.size Z4 V → Calls Try.prog 20 #[.slice yo11 R.2.1.length yc11, .int .i64 (M : Nat)] V fun e w' => e = .returned (.int .i64 (N : Nat)) ∧ Below V.heap.size V w') := by
    intro V b
    have := heldWordS_ok _ R.2.1.length M V (F14.out V b).2.2 hMa (by omega)
    rw [← HN.out] at this
    exact this
  have Hy : Hid (∀ V : World, Below Z4.heap.size Z4 V → Upd (fun k => W8.heap.size ≤ k) W11 V) := fun V b => y4.trans (Upd.ofBelow b)
  clear y4 K3 K4 B13 inI' inW' hRl hRy
  have f := F14.out Z4 (Below.refl _ _)
  go_wp2_with (refine wpList_load_row rfl 39 (.tmp 13) rfl U11.heap.size rfl _ _ (0, 0) _ f.1 Try.underlying39 rfl infoSk ?_)
  refine (HH.out Z4 (Below.refl _ _)).mono ?_
  rintro e Z5 ⟨rfl, b5⟩
  clear f
  go_wp2_with fail
  refine (HH2.out Z5 b5).mono ?_
  rintro e Z6 ⟨rfl, b6⟩
  have b6 := bAll b5 b6
  have hMM : ((N : Int) != (N : Int)) = false := by simp
  go_upto_region 35 with fail
  have CC := hide (Hu.out _ (Hy.out _ b6))
  clear b5 Hu
  go_cut [19, 20, 21] (fun s8 s9 s10 wx => ∃ g u, s8 = .pointer (some ⟨g, 0, none⟩) ∧ s9 = u ∧ s10 = .bool R.2.2 ∧ HeB wx Z6.heap.size wx.heap.size g u R ∧ Below Z6.heap.size Z6 wx)
  case first =>
   as_aux_lemma =>
   clear F14 HH HH2 Hy G8 HM HN
   have c00 : Below Z6.heap.size Z6 Z6.drew := bDrewB (Below.refl _ _)
   have CW : Below W.heap.size W Z6.drew := bAll CC.out c00
   refine wp_region_noPanic ?_
   refine wp_region_held_drew (S := (fun w' => w'.heap[w.heap.size]? = some (.cells (skarr k (.slice ao k.ys.length ca)) 28 (0, 0)) ∧ w'.heap[w.heap.size + 1]? = some (.cells cs 32 (0, 0)))) (by kernel_rfl) ?_ (fun hHeld => ?_)
   · exact fA.out _ CW
   refine wpAnyH_take (i := 0) (v := .agg (skarr k (.slice ao k.ys.length ca))) rfl (by kernel_rfl) (by kernel_rfl) (by kernel_rfl) (fun _ _ _ h => h) (yields_row rfl 28 (.tmp 3) rfl (w.heap.size) rfl _ (skarr k (.slice ao k.ys.length ca)) _ (fun _ h => h.1) Try.underlying28 rfl infoLk) (by assumption) ?_
   simp only [Act.put, List.getElem_toArray, List.getElem_cons_zero, List.setIfInBounds_toArray, List.set_cons_zero, List.set_cons_succ]
   refine wpAnyH_take (i := 2) (v := ?v22) rfl (by kernel_rfl) (by kernel_rfl) (by kernel_rfl) (fun _ _ _ h => h) (Or.inl ⟨by rfl, ?y22⟩) (by assumption) ?r22
   case y22 => (intro w hSw; go_simp; first | done | (with_reducible rfl))
   simp only [Act.put, List.getElem_toArray, List.getElem_cons_zero, List.getElem_cons_succ, List.setIfInBounds_toArray, List.set_cons_zero, List.set_cons_succ]
   refine wpAnyH_take (i := 3) (v := .agg cs) rfl (by kernel_rfl) (by kernel_rfl) (by kernel_rfl) (fun _ _ _ h => h) (yields_row rfl 32 (.tmp 5) rfl (w.heap.size + 1) rfl _ cs _ (fun _ h => h.2) Try.underlying32 rfl HI.out) (by assumption) ?_
   simp only [Act.put, List.getElem_toArray, List.getElem_cons_zero, List.getElem_cons_succ, List.setIfInBounds_toArray, List.set_cons_zero, List.set_cons_succ]
   apply shareH (F := fun X g8 v1 v2 v3 y3 lo hi => HVF Z6 X g8 v3 y3 lo hi R)
   · intro LEAF
     refine wpAnyH_ready (rs := [1, 10]) (by kernel_rfl) (by simp) ?_
     refine AllReadyH.cons rfl (fun K hK => ?_) (AllReadyH.cons rfl (fun K hK => ?_) AllReadyH.nil)
     ·
      go_simp
      go_at_call 10
      refine (toSynSeeker_any _ k _ (HA.out _ CW).1 hn).mono ?_
      rintro e Yw0 ⟨v1, rfl, D1', bb⟩
      have c00 := bAll c00 bb
      have CW := bAll CW bb
      have D1 := hide D1'.reads
      refine hK.out _ _ ?_ (fun hHeld => ?_)
      · exact fA.out _ CW
      clear hK K
      refine wpAnyH_ready (rs := [4, 10]) (by kernel_rfl) (by simp) ?_
      refine AllReadyH.cons rfl (fun K hK => ?_) (AllReadyH.cons rfl (fun K hK => ?_) AllReadyH.nil)
      ·
       go_simp
       go_at_call 11
       refine (toWord_any _ x _ (HA.out _ CW).2 hp hl).mono ?_
       rintro e Yw1 ⟨v2, rfl, D2', bb⟩
       have c00 := bAll c00 bb
       have CW := bAll CW bb
       have D1 := hide (D1.out.keep bb)
       have D2 := hide D2'.reads
       refine hK.out _ _ ?_ (fun hHeld => ?_)
       · exact fA.out _ CW
       clear hK K
       refine wpAnyH_ready (rs := [5, 10]) (by kernel_rfl) (by simp) ?_
       refine AllReadyH.cons rfl (fun K hK => ?_) (AllReadyH.cons rfl (fun K hK => ?_) AllReadyH.nil)
       ·
        go_simp
        go_at_call 12
        have hlo : Z6.heap.size ≤ (Yw1).heap.size := c00.size
        refine (cI _ _ _ D1.out D2.out hn).mono ?_
        rintro e Yw2 ⟨v3, y3, rfl, D3', D4', bb⟩
        have c00 := bAll c00 bb
        have CW := bAll CW bb
        have D1 := hide (D1.out.keep bb)
        have D2 := hide (D2.out.keep bb)
        have zbb := bb.size
        have D3 := hide (skIn D3')
        have D4 := hide (rowIn D4')
        refine hK.out _ _ ?_ (fun hHeld => ?_)
        · exact fA.out _ CW
        clear hK K
        refine wpAnyH_take (i := 6) (v := ?v23) rfl (by kernel_rfl) (by kernel_rfl) (by kernel_rfl) (fun _ _ _ h => h) (Or.inl ⟨by rfl, ?y23⟩) (by assumption) ?r23
        case y23 => (intro w hSw; go_simp; first | done | (with_reducible rfl))
        simp only [Act.put, List.getElem_toArray, List.getElem_cons_zero, List.getElem_cons_succ, List.setIfInBounds_toArray, List.set_cons_zero, List.set_cons_succ]
        refine wpAnyH_take (i := 7) (v := ?v24) rfl (by kernel_rfl) (by kernel_rfl) (by kernel_rfl) (fun _ _ _ h => h) (Or.inl ⟨by rfl, ?y24⟩) (by assumption) ?r24
        case y24 => (intro w hSw; go_simp; first | done | (with_reducible rfl))
        simp only [Act.put, List.getElem_toArray, List.getElem_cons_zero, List.getElem_cons_succ, List.setIfInBounds_toArray, List.set_cons_zero, List.set_cons_succ]
        refine wpAnyH_take (i := 8) (v := ?v25) rfl (by kernel_rfl) (by kernel_rfl) (by kernel_rfl) (fun _ _ _ h => h) (Or.inl ⟨by rfl, ?y25⟩) (by assumption) ?r25
        case y25 => (intro w hSw; go_simp; first | done | (with_reducible rfl))
        simp only [Act.put, List.getElem_toArray, List.getElem_cons_zero, List.getElem_cons_succ, List.setIfInBounds_toArray, List.set_cons_zero, List.set_cons_succ]
        refine wpAnyH_take (i := 9) (v := ?v26) rfl (by kernel_rfl) (by kernel_rfl) (by kernel_rfl) (fun _ _ _ h => h) (Or.inl ⟨by rfl, ?y26⟩) (by assumption) ?r26
        case y26 => (intro w hSw; go_simp; first | done | (with_reducible rfl))
        simp only [Act.put, List.getElem_toArray, List.getElem_cons_zero, List.getElem_cons_succ, List.setIfInBounds_toArray, List.set_cons_zero, List.set_cons_succ]
        refine wpAnyH_ready (rs := [10]) (by kernel_rfl) (by simp) ?_
        refine AllReadyH.cons rfl (fun K hK => ?_) AllReadyH.nil
        go_simp
        have zzN8 : Z6.heap.size ≤ (Yw2).heap.size := by have := c00.size; (try simp only [World.size_alloc] at this); first | exact this | omega
        have zhN8 : Yw2.heap.size ≤ (Yw2).heap.size := by first | exact Nat.le_refl _ | omega
        have b3 := bal (Below.refl (Yw2).heap.size (Yw2)) Zko
        have c00 := bAll c00 b3
        have CW := bAll CW b3
        have D3 := hide (D3.out.keepB b3)
        have D4 := hide (D4.out.keepB b3)
        have N8 := hide (heap_alloc_new (Yw2) Zko)
        refine hK.out _ _ ?_ (fun hHeld => ?_)
        · exact fA.out _ CW
        clear hK K
        have hc8 := heap_lt N8.out
        have zX := c00.size
        have HF := HVF.mk (base := Z6) (X := ((Yw2).alloc Zko)) (g8 := (Yw2).heap.size) (v3 := v3) (y3 := y3) (lo := (Yw1).heap.size) (hi := Yw2.heap.size) (R := R) c00 N8.out D3.out D4.out (by omega) (by omega) (by omega) (by omega)
        clear c00 CW N8 D3 D4 hHeld
        generalize (((Yw2).alloc Zko)) = X at HF ⊢
        generalize hg8 : ((Yw2).heap.size) = g8 at HF ⊢
        exact LEAF X g8 v1 v2 v3 y3 _ _ HF
       ·
        go_simp
        have zzN8 : Z6.heap.size ≤ (Yw1).heap.size := by have := c00.size; (try simp only [World.size_alloc] at this); first | exact this | omega
        have b2 := bal (Below.refl (Yw1).heap.size (Yw1)) Zko
        have c00 := bAll c00 b2
        have CW := bAll CW b2
        have D1 := hide (D1.out.keep b2)
        have D2 := hide (D2.out.keep b2)
        have N8 := hide (heap_alloc_new (Yw1) Zko)
        refine hK.out _ _ ?_ (fun hHeld => ?_)
        · exact fA.out _ CW
        clear hK K
        refine wpAnyH_ready (rs := [5]) (by kernel_rfl) (by simp) ?_
        refine AllReadyH.cons rfl (fun K hK => ?_) AllReadyH.nil
        go_simp
        go_at_call 12
        have hlo : Z6.heap.size ≤ (((Yw1).alloc Zko)).heap.size := c00.size
        have hbN8 := heap_lt N8.out
        refine (cI _ _ _ D1.out D2.out hn).mono ?_
        rintro e Yw3 ⟨v3, y3, rfl, D3', D4', bb⟩
        have c00 := bAll c00 bb
        have CW := bAll CW bb
        have D1 := hide (D1.out.keep bb)
        have D2 := hide (D2.out.keep bb)
        have N8 := hide (bKeeps bb N8.out)
        have zbb := bb.size
        have D3 := hide (skIn D3')
        have D4 := hide (rowIn D4')
        refine hK.out _ _ ?_ (fun hHeld => ?_)
        · exact fA.out _ CW
        clear hK K
        refine wpAnyH_take (i := 6) (v := ?v27) rfl (by kernel_rfl) (by kernel_rfl) (by kernel_rfl) (fun _ _ _ h => h) (Or.inl ⟨by rfl, ?y27⟩) (by assumption) ?r27
        case y27 => (intro w hSw; go_simp; first | done | (with_reducible rfl))
        simp only [Act.put, List.getElem_toArray, List.getElem_cons_zero, List.getElem_cons_succ, List.setIfInBounds_toArray, List.set_cons_zero, List.set_cons_succ]
        refine wpAnyH_take (i := 7) (v := ?v28) rfl (by kernel_rfl) (by kernel_rfl) (by kernel_rfl) (fun _ _ _ h => h) (Or.inl ⟨by rfl, ?y28⟩) (by assumption) ?r28
        case y28 => (intro w hSw; go_simp; first | done | (with_reducible rfl))
        simp only [Act.put, List.getElem_toArray, List.getElem_cons_zero, List.getElem_cons_succ, List.setIfInBounds_toArray, List.set_cons_zero, List.set_cons_succ]
        refine wpAnyH_take (i := 8) (v := ?v29) rfl (by kernel_rfl) (by kernel_rfl) (by kernel_rfl) (fun _ _ _ h => h) (Or.inl ⟨by rfl, ?y29⟩) (by assumption) ?r29
        case y29 => (intro w hSw; go_simp; first | done | (with_reducible rfl))
        simp only [Act.put, List.getElem_toArray, List.getElem_cons_zero, List.getElem_cons_succ, List.setIfInBounds_toArray, List.set_cons_zero, List.set_cons_succ]
        refine wpAnyH_take (i := 9) (v := ?v30) rfl (by kernel_rfl) (by kernel_rfl) (by kernel_rfl) (fun _ _ _ h => h) (Or.inl ⟨by rfl, ?y30⟩) (by assumption) ?r30
        case y30 => (intro w hSw; go_simp; first | done | (with_reducible rfl))
        simp only [Act.put, List.getElem_toArray, List.getElem_cons_zero, List.getElem_cons_succ, List.setIfInBounds_toArray, List.set_cons_zero, List.set_cons_succ]
        have hc8 := heap_lt N8.out
        have zX := c00.size
        exact LEAF _ _ v1 v2 v3 y3 _ _ (HVF.mk (base := Z6) (X := Yw3) (g8 := (Yw1).heap.size) (v3 := v3) (y3 := y3) (lo := (((Yw1).alloc Zko)).heap.size) (hi := Yw3.heap.size) (R := R) c00 N8.out D3.out D4.out (by omega) (by omega) (by omega) (by omega))
      ·
       go_simp
       have zzN8 : Z6.heap.size ≤ (Yw0).heap.size := by have := c00.size; (try simp only [World.size_alloc] at this); first | exact this | omega
       have b1 := bal (Below.refl (Yw0).heap.size (Yw0)) Zko
       have c00 := bAll c00 b1
       have CW := bAll CW b1
       have D1 := hide (D1.out.keep b1)
       have N8 := hide (heap_alloc_new (Yw0) Zko)
       refine hK.out _ _ ?_ (fun hHeld => ?_)
       · exact fA.out _ CW
       clear hK K
       refine wpAnyH_ready (rs := [4]) (by kernel_rfl) (by simp) ?_
       refine AllReadyH.cons rfl (fun K hK => ?_) AllReadyH.nil
       go_simp
       go_at_call 11
       refine (toWord_any _ x _ (HA.out _ CW).2 hp hl).mono ?_
       rintro e Yw2 ⟨v2, rfl, D2', bb⟩
       have c00 := bAll c00 bb
       have CW := bAll CW bb
       have D1 := hide (D1.out.keep bb)
       have N8 := hide (bKeeps bb N8.out)
       have D2 := hide D2'.reads
       refine hK.out _ _ ?_ (fun hHeld => ?_)
       · exact fA.out _ CW
       clear hK K
       refine wpAnyH_ready (rs := [5]) (by kernel_rfl) (by simp) ?_
       refine AllReadyH.cons rfl (fun K hK => ?_) AllReadyH.nil
       go_simp
       go_at_call 12
       have hlo : Z6.heap.size ≤ (Yw2).heap.size := c00.size
       have hbN8 := heap_lt N8.out
       refine (cI _ _ _ D1.out D2.out hn).mono ?_
       rintro e Yw3 ⟨v3, y3, rfl, D3', D4', bb⟩
       have c00 := bAll c00 bb
       have CW := bAll CW bb
       have D1 := hide (D1.out.keep bb)
       have N8 := hide (bKeeps bb N8.out)
       have D2 := hide (D2.out.keep bb)
       have zbb := bb.size
       have D3 := hide (skIn D3')
       have D4 := hide (rowIn D4')
       refine hK.out _ _ ?_ (fun hHeld => ?_)
       · exact fA.out _ CW
       clear hK K
       refine wpAnyH_take (i := 6) (v := ?v31) rfl (by kernel_rfl) (by kernel_rfl) (by kernel_rfl) (fun _ _ _ h => h) (Or.inl ⟨by rfl, ?y31⟩) (by assumption) ?r31
       case y31 => (intro w hSw; go_simp; first | done | (with_reducible rfl))
       simp only [Act.put, List.getElem_toArray, List.getElem_cons_zero, List.getElem_cons_succ, List.setIfInBounds_toArray, List.set_cons_zero, List.set_cons_succ]
       refine wpAnyH_take (i := 7) (v := ?v32) rfl (by kernel_rfl) (by kernel_rfl) (by kernel_rfl) (fun _ _ _ h => h) (Or.inl ⟨by rfl, ?y32⟩) (by assumption) ?r32
       case y32 => (intro w hSw; go_simp; first | done | (with_reducible rfl))
       simp only [Act.put, List.getElem_toArray, List.getElem_cons_zero, List.getElem_cons_succ, List.setIfInBounds_toArray, List.set_cons_zero, List.set_cons_succ]
       refine wpAnyH_take (i := 8) (v := ?v33) rfl (by kernel_rfl) (by kernel_rfl) (by kernel_rfl) (fun _ _ _ h => h) (Or.inl ⟨by rfl, ?y33⟩) (by assumption) ?r33
       case y33 => (intro w hSw; go_simp; first | done | (with_reducible rfl))
       simp only [Act.put, List.getElem_toArray, List.getElem_cons_zero, List.getElem_cons_succ, List.setIfInBounds_toArray, List.set_cons_zero, List.set_cons_succ]
       refine wpAnyH_take (i := 9) (v := ?v34) rfl (by kernel_rfl) (by kernel_rfl) (by kernel_rfl) (fun _ _ _ h => h) (Or.inl ⟨by rfl, ?y34⟩) (by assumption) ?r34
       case y34 => (intro w hSw; go_simp; first | done | (with_reducible rfl))
       simp only [Act.put, List.getElem_toArray, List.getElem_cons_zero, List.getElem_cons_succ, List.setIfInBounds_toArray, List.set_cons_zero, List.set_cons_succ]
       have hc8 := heap_lt N8.out
       have zX := c00.size
       exact LEAF _ _ v1 v2 v3 y3 _ _ (HVF.mk (base := Z6) (X := Yw3) (g8 := (Yw0).heap.size) (v3 := v3) (y3 := y3) (lo := (Yw2).heap.size) (hi := Yw3.heap.size) (R := R) c00 N8.out D3.out D4.out (by omega) (by omega) (by omega) (by omega))
     ·
      go_simp
      have zzN8 : Z6.heap.size ≤ (Z6.drew).heap.size := by have := c00.size; (try simp only [World.size_alloc] at this); first | exact this | omega
      have b0 := bal (Below.refl (Z6.drew).heap.size (Z6.drew)) Zko
      have c00 := bAll c00 b0
      have CW := bAll CW b0
      have N8 := hide (heap_alloc_new (Z6.drew) Zko)
      refine hK.out _ _ ?_ (fun hHeld => ?_)
      · exact fA.out _ CW
      clear hK K
      refine wpAnyH_ready (rs := [1]) (by kernel_rfl) (by simp) ?_
      refine AllReadyH.cons rfl (fun K hK => ?_) AllReadyH.nil
      go_simp
      go_at_call 10
      refine (toSynSeeker_any _ k _ (HA.out _ CW).1 hn).mono ?_
      rintro e Yw1 ⟨v1, rfl, D1', bb⟩
      have c00 := bAll c00 bb
      have CW := bAll CW bb
      have N8 := hide (bKeeps bb N8.out)
      have D1 := hide D1'.reads
      refine hK.out _ _ ?_ (fun hHeld => ?_)
      · exact fA.out _ CW
      clear hK K
      refine wpAnyH_ready (rs := [4]) (by kernel_rfl) (by simp) ?_
      refine AllReadyH.cons rfl (fun K hK => ?_) AllReadyH.nil
      go_simp
      go_at_call 11
      refine (toWord_any _ x _ (HA.out _ CW).2 hp hl).mono ?_
      rintro e Yw2 ⟨v2, rfl, D2', bb⟩
      have c00 := bAll c00 bb
      have CW := bAll CW bb
      have N8 := hide (bKeeps bb N8.out)
      have D1 := hide (D1.out.keep bb)
      have D2 := hide D2'.reads
      refine hK.out _ _ ?_ (fun hHeld => ?_)
      · exact fA.out _ CW
      clear hK K
      refine wpAnyH_ready (rs := [5]) (by kernel_rfl) (by simp) ?_
      refine AllReadyH.cons rfl (fun K hK => ?_) AllReadyH.nil
      go_simp
      go_at_call 12
      have hlo : Z6.heap.size ≤ (Yw2).heap.size := c00.size
      have hbN8 := heap_lt N8.out
      refine (cI _ _ _ D1.out D2.out hn).mono ?_
      rintro e Yw3 ⟨v3, y3, rfl, D3', D4', bb⟩
      have c00 := bAll c00 bb
      have CW := bAll CW bb
      have N8 := hide (bKeeps bb N8.out)
      have D1 := hide (D1.out.keep bb)
      have D2 := hide (D2.out.keep bb)
      have zbb := bb.size
      have D3 := hide (skIn D3')
      have D4 := hide (rowIn D4')
      refine hK.out _ _ ?_ (fun hHeld => ?_)
      · exact fA.out _ CW
      clear hK K
      refine wpAnyH_take (i := 6) (v := ?v35) rfl (by kernel_rfl) (by kernel_rfl) (by kernel_rfl) (fun _ _ _ h => h) (Or.inl ⟨by rfl, ?y35⟩) (by assumption) ?r35
      case y35 => (intro w hSw; go_simp; first | done | (with_reducible rfl))
      simp only [Act.put, List.getElem_toArray, List.getElem_cons_zero, List.getElem_cons_succ, List.setIfInBounds_toArray, List.set_cons_zero, List.set_cons_succ]
      refine wpAnyH_take (i := 7) (v := ?v36) rfl (by kernel_rfl) (by kernel_rfl) (by kernel_rfl) (fun _ _ _ h => h) (Or.inl ⟨by rfl, ?y36⟩) (by assumption) ?r36
      case y36 => (intro w hSw; go_simp; first | done | (with_reducible rfl))
      simp only [Act.put, List.getElem_toArray, List.getElem_cons_zero, List.getElem_cons_succ, List.setIfInBounds_toArray, List.set_cons_zero, List.set_cons_succ]
      refine wpAnyH_take (i := 8) (v := ?v37) rfl (by kernel_rfl) (by kernel_rfl) (by kernel_rfl) (fun _ _ _ h => h) (Or.inl ⟨by rfl, ?y37⟩) (by assumption) ?r37
      case y37 => (intro w hSw; go_simp; first | done | (with_reducible rfl))
      simp only [Act.put, List.getElem_toArray, List.getElem_cons_zero, List.getElem_cons_succ, List.setIfInBounds_toArray, List.set_cons_zero, List.set_cons_succ]
      refine wpAnyH_take (i := 9) (v := ?v38) rfl (by kernel_rfl) (by kernel_rfl) (by kernel_rfl) (fun _ _ _ h => h) (Or.inl ⟨by rfl, ?y38⟩) (by assumption) ?r38
      case y38 => (intro w hSw; go_simp; first | done | (with_reducible rfl))
      simp only [Act.put, List.getElem_toArray, List.getElem_cons_zero, List.getElem_cons_succ, List.setIfInBounds_toArray, List.set_cons_zero, List.set_cons_succ]
      have hc8 := heap_lt N8.out
      have zX := c00.size
      exact LEAF _ _ v1 v2 v3 y3 _ _ (HVF.mk (base := Z6) (X := Yw3) (g8 := (Z6.drew).heap.size) (v3 := v3) (y3 := y3) (lo := (Yw2).heap.size) (hi := Yw3.heap.size) (R := R) c00 N8.out D3.out D4.out (by omega) (by omega) (by omega) (by omega))
   · intro X g8 v1 v2 v3 y3 lo hi ⟨c00, N8, D3, D4, q1, q3, q4, q5⟩
     have CW := bAll CC.out c00
     have N8 := hide N8
     have D4 := hide D4
     have hHeld : (fun w' => w'.heap[w.heap.size]? = some (.cells (skarr k (.slice ao k.ys.length ca)) 28 (0, 0)) ∧ w'.heap[w.heap.size + 1]? = some (.cells cs 32 (0, 0))) X := fA.out _ CW
     obtain ⟨so3, sc3, rfl, r3⟩ := D3
     obtain ⟨uo3, uc3, rfl, -⟩ := id D4.out
     have hc8 := heap_lt N8.out
     have zX := c00.size
     have s8 := updRow X g8 (skarr R.1 (.slice so3 R.1.ys.length sc3))
     have c1X := c00.trans (s8.below c00.size (fun k h => by omega))
     refine wpAnyH_ready (rs := [11]) (by kernel_rfl) (by simp) ?_
     refine AllReadyH.cons rfl (fun K hK => ?_) AllReadyH.nil
     (refine wp_store_row 39 (.tmp 19) (.tmp 130) rfl g8 (skarr R.1 (.slice so3 R.1.ys.length sc3)) rfl rfl _ _ N8.out infoSk rfl (skarr_one _ _ _ _) ?_)
     refine hK.out _ _ ?_ (fun hHeld => ?_)
     · exact fA.out _ (bAll CC.out c1X)
     clear hK K
     refine wpAnyH_take (i := 12) (v := ?v39) rfl (by kernel_rfl) (by kernel_rfl) (by kernel_rfl) (fun _ _ _ h => h) (Or.inl ⟨by rfl, ?y39⟩) (by assumption) ?r39
     case y39 => (intro w hSw; go_simp; first | done | (with_reducible rfl))
     simp only [Act.put, List.getElem_toArray, List.getElem_cons_zero, List.getElem_cons_succ, List.setIfInBounds_toArray, List.set_cons_zero, List.set_cons_succ]
     refine wpAnyH_take (i := 13) (v := ?v40) rfl (by kernel_rfl) (by kernel_rfl) (by kernel_rfl) (fun _ _ _ h => h) (Or.inl ⟨by rfl, ?y40⟩) (by assumption) ?r40
     case y40 => (intro w hSw; go_simp; first | done | (with_reducible rfl))
     simp only [Act.put, List.getElem_toArray, List.getElem_cons_zero, List.getElem_cons_succ, List.setIfInBounds_toArray, List.set_cons_zero, List.set_cons_succ]
     refine wpAnyH_done (by kernel_rfl) ?_ _
     refine NoPanic.normal ?_
     clear hHeld
     go_wp2_with fail
     go_meet
     have z8 := s8.size
     refine ⟨g8, .slice uo3 R.2.1.length uc3, rfl, rfl, rfl, ⟨so3, sc3, lo, hi, setRow_heap _ _ _ _ _ _ N8.out, ?_, D4.out.keep s8 (fun k h1 h2 => by omega), by omega, by omega, by omega, by omega, by omega⟩, c1X⟩
     exact SkO.keep ⟨so3, sc3, rfl, r3⟩ s8 (fun k h1 h2 => by omega)
  case rest =>
  obtain ⟨g8', u9', rfl, rfl, rfl, VB, b7⟩ := hcut
  obtain ⟨sob, scb, lob, hib, h1, h3, h4, -⟩ := VB
  obtain ⟨uob, ucb, rfl, -⟩ := id h4
  have b7 := bAll b6 b7
  have f8 := G8.out _ (Hy.out _ b7)
  go_wp2_with (first
    | (refine wpList_load_row rfl 39 (.tmp 19) rfl g8' rfl _ _ (0, 0) _ h1 Try.underlying39 rfl infoSk ?_)
    | (refine wpList_load_row rfl 39 (.tmp 8) rfl g8 rfl _ _ (0, 0) _ f8.1 Try.underlying39 rfl infoSk ?_))
  refine (eqSynSeeker_true _ _ R.1 _ h3.reads f8.2.1).mono ?_
  rintro e Z8 ⟨rfl, b8⟩
  have h4' := (h4.keepB b8).reads
  have b8' := bAll b7 b8
  clear f8 h1 h3 h4 b8
  have f8 := G8.out _ (Hy.out _ b8')
  go_wp2_with fail
  refine (eqWordS_true (.slice uob R.2.1.length ucb) (.slice uo9 R.2.1.length uc9) _ R.2.1 _ HRf.out h4' f8.2.2).mono ?_
  rintro e Z9 ⟨rfl, b9⟩
  have b9' := bAll b8' b9
  clear f8 h4' b9 b8'
  have f := F14.out _ b9'
  go_wp2_with (refine wpList_load_row rfl 39 (.tmp 13) rfl U11.heap.size rfl _ _ (0, 0) _ f.1 Try.underlying39 rfl infoSk ?_)
  refine (HH.out _ b9').mono ?_
  rintro e Z10 ⟨rfl, b10⟩
  have b10' := bAll b9' b10
  clear f b10
  go_wp2_with fail
  refine (HH2.out _ b10').mono ?_
  rintro e Z11 ⟨rfl, b11⟩
  have b11' := bAll b10' b11
  clear b11
  go_wp2
  go_ret
  exact ⟨rfl, HFin.out _ (Hy.out _ b11')⟩

end Go.Proofs.Yteddhdbglciahaa
