/- Contracts and plain facts that this claim leans on (texts VQ, VQ3, VM2, XA, VU, VR, VPa, VI, VL0, RE, REV, SE, Ints, SK1, SK2, REK); no statement of the seat is proved here. -/
import Derived.Test.YteddhdbglciahaaGreatZk9
import Derived.Test.YteddhdbglciahaaGreatZk4
import Derived.Test.YteddhdbglciahaaGreatZk6
import Derived.Test.YteddhdbglciahaaGreatZk8
import Derived.Test.YteddhdbglciahaaGreatZk1
import Derived.Laws.ResultCell
import Derived.Test.YteddhdbglciahaaGreatZk10
import Derived.Deep.DeepCutAuto
import Derived.Laws.StructEq

/- Papers are copied and sought: contracts; no statement of the seat is proved here. -/
namespace Go.Proofs.YteddhdbglciahaaGreat
open Go.RowKit

theorem ordOkV : OrdOk ordV where
  trans a b c h1 h2 := by simp only [ordV, cmpI_neg] at *; omega
  eqL a b c h1 h2 := by simp only [ordV, cmpI_neg, cmpI_zero] at *; omega
  flip a b := by simp only [ordV, cmpI_neg, cmpI_pos]
  refl a := by simp only [ordV, cmpI_zero]

set_option maxRecDepth 100000 in
set_option maxHeartbeats 4000000 in
theorem findV_any (v : Value) (xs : List Pp) (s b : Int) (x : Wd) (w : World) (hr : RowR w 12 v xs.length (ppcells xs)) (hn : xs.length ≤ 60) (hs : Asc ordV xs) :
    Calls Tryz.prog 76 #[v, .agg (#[.int .i64 s, .int .i64 b, .int .i64 x.c0, .int .i64 x.c1, .int .i64 x.c2, .int .i64 x.c3, .int .i64 x.c4, .int .i64 x.c5, .int .i64 x.c6, .int .i64 x.c7, .int .i64 x.c8, .int .i64 x.c9] : Array Value), .func (.func 77) #[] #[] ] w fun e w' => ∃ (p : Nat) (there : Bool), e = .returned (.tuple #[.int .i64 p, .bool there]) ∧ IsAt ordV xs (s, b, x) p there ∧ Below w.heap.size w w' := by
  obtain ⟨ao, ca, rfl, -, -, hr⟩ := hr
  obtain ⟨n, hnn⟩ : ∃ n, xs.length = n := ⟨_, rfl⟩
  have Hl := hide hnn
  rw [hnn] at hn hr ⊢
  clear hnn
  have hal := bal (Below.refl w.heap.size w) (.cells (pparr (s, b, x)) 64)
  obtain ⟨W, hW⟩ : ∃ W, W = w.alloc (.cells (pparr (s, b, x)) 64) := ⟨_, rfl⟩
  have B0 : Hid (W.heap[w.heap.size]? = some (.cells (pparr (s, b, x)) 64 (0, 0))) := by show _ = _; rw [hW]; exact al1_0 w _
  rw [← hW] at hal
  have HS := hide hs
  clear hs
  have hPA : (#[.int .i64 s, .int .i64 b, .int .i64 x.c0, .int .i64 x.c1, .int .i64 x.c2, .int .i64 x.c3, .int .i64 x.c4, .int .i64 x.c5, .int .i64 x.c6, .int .i64 x.c7, .int .i64 x.c8, .int .i64 x.c9] : Array Value) = (pparr (s, b, x)) := rfl
  rw [hPA]
  clear hPA
  go_enter Tryz.func76, Tryz.ntmps76
  go_wp2
  rw [← hW]
  clear hW
  go_loopw [8, 9] (fun lv hv wr => ∃ l h : Nat, l ≤ h ∧ h ≤ n ∧ lv = .int .i64 l ∧ hv = .int .i64 h ∧ (∀ i y, i < l → xs[i]? = some y → ordV y (s, b, x) < 0) ∧ (∀ i y, h ≤ i → xs[i]? = some y → 0 ≤ ordV y (s, b, x)) ∧ Below W.heap.size W wr) (fun lv hv _ => (intOf hv).toNat - (intOf lv).toNat)
  case atStart => exact ⟨0, n, Nat.zero_le _, Nat.le_refl _, rfl, rfl, fun i y hi => by omega, fun i y hi hy => by have := (List.getElem?_eq_some_iff.1 hy).1; have := Hl.out; omega, Below.refl _ _⟩
  case round =>
    obtain ⟨l, h, hlh, hhn, rfl, rfl, hlo, hhi, hbel⟩ := hrel
    have HLo := hide hlo
    have HHi := hide hhi
    clear hlo hhi
    by_cases hlt : l < h
    · obtain ⟨m, hm⟩ : ∃ m, (l + h) / 2 = m := ⟨_, rfl⟩
      have hm1 : l ≤ m := by omega
      have hm2 : m < h := by omega
      have hmi : ((l : Int) + (h : Int)) / 2 = (m : Int) := by omega
      have hmn : (m : Int) < (n : Int) := by omega
      obtain ⟨b1, o1, rfl, hc1⟩ := hr (by omega)
      obtain ⟨⟨s', b', x'⟩, hx⟩ := getAt xs m (by have := Hl.out; omega)
      have G := hide (fun V (hV : Below w.heap.size w V) => pp_at hc1 hx hV)
      have Hx := hide hx
      obtain ⟨o, ho⟩ : ∃ o, cmpI s' s = o := ⟨_, rfl⟩
      have cO := fun w => synBySlot_any s' b' x' s b x w
      rw [ho] at cO
      have Ho : Hid (ordV (s', b', x') (s, b, x) = o) := ho
      have Hr := hide hr
      clear hr hc1 hx ho hm
      by_cases hneg : o < 0
      · have hd1 : decide (o < 0) = true := by simpa using hneg
        go_wp2
        refine wp_region_noPanic ?_
        refine wp_region_held_drew (S := (fun w' => w'.heap[w.heap.size]? = some (.cells (pparr (s, b, x)) 64 (0, 0)) ∧ (∀ j u, (pparr (s', b', x'))[j]? = some u → w'.cell? ⟨b1, o1 + m * 12 + j, none⟩ = some u))) (by kernel_rfl) ?_ (fun hHeld => ?_)
        · exact ⟨bKeeps (bAll hbel (bDrew1 _)) B0.out, G.out _ (bAll hal (bAll hbel (bDrew1 _)))⟩
        refine wpAnyH_take (i := 0) (v := ?v1) rfl (by kernel_rfl) (by kernel_rfl) (by kernel_rfl) (fun _ _ _ h => h) (Or.inl ⟨by rfl, ?hy1⟩) (by assumption) ?rest1
        case hy1 => ((intro w hSw; (try dsimp only at hSw); (try simp only [List.getElem_toArray, List.getElem_cons_zero]); go_simp; first | done | (with_reducible rfl)))
        simp only [Act.put, List.getElem_toArray, List.getElem_cons_zero, List.setIfInBounds_toArray, List.set_cons_zero, List.set_cons_succ]
        refine wpAnyH_take (i := 1) (v := ?v2) rfl (by kernel_rfl) (by kernel_rfl) (by kernel_rfl) (fun _ _ _ h => h) (Or.inl ⟨by rfl, ?hy2⟩) (by assumption) ?rest2
        case hy2 => ((intro w hSw; (try dsimp only at hSw); (try simp only [List.getElem_toArray, List.getElem_cons_zero, List.getElem_cons_succ]); go_simp; first | done | (with_reducible rfl)))
        simp only [Act.put, List.getElem_toArray, List.getElem_cons_zero, List.getElem_cons_succ, List.setIfInBounds_toArray, List.set_cons_zero, List.set_cons_succ]
        refine wpAnyH_take (i := 2) (v := ?v3) rfl (by kernel_rfl) (by kernel_rfl) (by kernel_rfl) (fun _ _ _ h => h) (Or.inl ⟨by rfl, ?hy3⟩) (by assumption) ?rest3
        case hy3 => ((intro w hSw; (try dsimp only at hSw); (try simp only [List.getElem_toArray, List.getElem_cons_zero, List.getElem_cons_succ]); go_simp; first | done | (with_reducible rfl)))
        simp only [Act.put, List.getElem_toArray, List.getElem_cons_zero, List.getElem_cons_succ, List.setIfInBounds_toArray, List.set_cons_zero, List.set_cons_succ]
        refine wpAnyH_take (i := 3) (v := ?v4) rfl (by kernel_rfl) (by kernel_rfl) (by kernel_rfl) (fun _ _ _ h => h) (Or.inl ⟨by rfl, ?hy4⟩) (by assumption) ?rest4
        case hy4 => ((intro w hSw; (try dsimp only at hSw); (try simp only [List.getElem_toArray, List.getElem_cons_zero, List.getElem_cons_succ]); go_simp; first | done | (with_reducible rfl)))
        simp only [Act.put, List.getElem_toArray, List.getElem_cons_zero, List.getElem_cons_succ, List.setIfInBounds_toArray, List.set_cons_zero, List.set_cons_succ]
        refine wpAnyH_take (i := 4) (v := .agg (pparr (s', b', x'))) rfl (by kernel_rfl) (by kernel_rfl) (by kernel_rfl) (fun _ _ _ h => h) (yields_at rfl 64 (.tmp 23) rfl (b1) (o1 + m * 12) rfl (pparr (s', b', x')) _ (fun _ h => h.2) Tryz.underlying64 rfl infoPpS) (by assumption) ?_
        simp only [Act.put, List.getElem_toArray, List.getElem_cons_zero, List.getElem_cons_succ, List.setIfInBounds_toArray, List.set_cons_zero, List.set_cons_succ]
        refine wpAnyH_take (i := 5) (v := .agg (pparr (s, b, x))) rfl (by kernel_rfl) (by kernel_rfl) (by kernel_rfl) (fun _ _ _ h => h) (yields_row rfl 64 (.tmp 4) rfl (w.heap.size) rfl _ (pparr (s, b, x)) _ (fun _ h => h.1) Tryz.underlying64 rfl infoPpS) (by assumption) ?_
        simp only [Act.put, List.getElem_toArray, List.getElem_cons_zero, List.getElem_cons_succ, List.setIfInBounds_toArray, List.set_cons_zero, List.set_cons_succ]
        refine wpAnyH_ready (rs := [6]) (by kernel_rfl) (by simp) ?_
        refine AllReadyH.cons rfl (fun K hK => ?_) AllReadyH.nil
        go_simp
        (go_at_call 77; refine (cO _).mono ?_; rintro e w2 ⟨rfl, hb2⟩; have hb2' : Below W.heap.size W w2 := bAll hbel (bAll (bDrew1 _) hb2))
        refine hK.out _ _ ?_ (fun hHeld => ?_)
        · exact ⟨bKeeps hb2' B0.out, G.out _ (bAll hal hb2')⟩
        clear hK K
        refine wpAnyH_take (i := 7) (v := ?v5) rfl (by kernel_rfl) (by kernel_rfl) (by kernel_rfl) (fun _ _ _ h => h) (Or.inl ⟨by rfl, ?hy5⟩) (by assumption) ?rest5
        case hy5 => ((intro w hSw; (try dsimp only at hSw); (try simp only [List.getElem_toArray, List.getElem_cons_zero, List.getElem_cons_succ]); go_simp; first | done | (with_reducible rfl)))
        simp only [Act.put, List.getElem_toArray, List.getElem_cons_zero, List.getElem_cons_succ, List.setIfInBounds_toArray, List.set_cons_zero, List.set_cons_succ]
        refine wpAnyH_done (by kernel_rfl) ?_ _
        refine NoPanic.normal ?_
        go_wp2
        go_roundw
        case rel =>
          refine ⟨m + 1, h, by omega, hhn, by go_num, rfl, fun i y hi hy => ?_, HHi.out, hb2'⟩
          rcases (by omega : i < m ∨ i = m) with h1 | rfl
          · exact asc_below ordOkV HS.out h1 hy Hx.out (by rw [Ho.out]; exact hneg)
          · rw [Hx.out] at hy
            obtain rfl := Option.some.inj hy
            rw [Ho.out]
            exact hneg
        case measure => simp [intOf]; omega
      · have hd1 : decide (o < 0) = false := by simpa using hneg
        go_wp2
        refine wp_region_noPanic ?_
        refine wp_region_held_drew (S := (fun w' => w'.heap[w.heap.size]? = some (.cells (pparr (s, b, x)) 64 (0, 0)) ∧ (∀ j u, (pparr (s', b', x'))[j]? = some u → w'.cell? ⟨b1, o1 + m * 12 + j, none⟩ = some u))) (by kernel_rfl) ?_ (fun hHeld => ?_)
        · exact ⟨bKeeps (bAll hbel (bDrew1 _)) B0.out, G.out _ (bAll hal (bAll hbel (bDrew1 _)))⟩
        refine wpAnyH_take (i := 0) (v := ?v6) rfl (by kernel_rfl) (by kernel_rfl) (by kernel_rfl) (fun _ _ _ h => h) (Or.inl ⟨by rfl, ?hy6⟩) (by assumption) ?rest6
        case hy6 => ((intro w hSw; (try dsimp only at hSw); (try simp only [List.getElem_toArray, List.getElem_cons_zero]); go_simp; first | done | (with_reducible rfl)))
        simp only [Act.put, List.getElem_toArray, List.getElem_cons_zero, List.setIfInBounds_toArray, List.set_cons_zero, List.set_cons_succ]
        refine wpAnyH_take (i := 1) (v := ?v7) rfl (by kernel_rfl) (by kernel_rfl) (by kernel_rfl) (fun _ _ _ h => h) (Or.inl ⟨by rfl, ?hy7⟩) (by assumption) ?rest7
        case hy7 => ((intro w hSw; (try dsimp only at hSw); (try simp only [List.getElem_toArray, List.getElem_cons_zero, List.getElem_cons_succ]); go_simp; first | done | (with_reducible rfl)))
        simp only [Act.put, List.getElem_toArray, List.getElem_cons_zero, List.getElem_cons_succ, List.setIfInBounds_toArray, List.set_cons_zero, List.set_cons_succ]
        refine wpAnyH_take (i := 2) (v := ?v8) rfl (by kernel_rfl) (by kernel_rfl) (by kernel_rfl) (fun _ _ _ h => h) (Or.inl ⟨by rfl, ?hy8⟩) (by assumption) ?rest8
        case hy8 => ((intro w hSw; (try dsimp only at hSw); (try simp only [List.getElem_toArray, List.getElem_cons_zero, List.getElem_cons_succ]); go_simp; first | done | (with_reducible rfl)))
        simp only [Act.put, List.getElem_toArray, List.getElem_cons_zero, List.getElem_cons_succ, List.setIfInBounds_toArray, List.set_cons_zero, List.set_cons_succ]
        refine wpAnyH_take (i := 3) (v := ?v9) rfl (by kernel_rfl) (by kernel_rfl) (by kernel_rfl) (fun _ _ _ h => h) (Or.inl ⟨by rfl, ?hy9⟩) (by assumption) ?rest9
        case hy9 => ((intro w hSw; (try dsimp only at hSw); (try simp only [List.getElem_toArray, List.getElem_cons_zero, List.getElem_cons_succ]); go_simp; first | done | (with_reducible rfl)))
        simp only [Act.put, List.getElem_toArray, List.getElem_cons_zero, List.getElem_cons_succ, List.setIfInBounds_toArray, List.set_cons_zero, List.set_cons_succ]
        refine wpAnyH_take (i := 4) (v := .agg (pparr (s', b', x'))) rfl (by kernel_rfl) (by kernel_rfl) (by kernel_rfl) (fun _ _ _ h => h) (yields_at rfl 64 (.tmp 23) rfl (b1) (o1 + m * 12) rfl (pparr (s', b', x')) _ (fun _ h => h.2) Tryz.underlying64 rfl infoPpS) (by assumption) ?_
        simp only [Act.put, List.getElem_toArray, List.getElem_cons_zero, List.getElem_cons_succ, List.setIfInBounds_toArray, List.set_cons_zero, List.set_cons_succ]
        refine wpAnyH_take (i := 5) (v := .agg (pparr (s, b, x))) rfl (by kernel_rfl) (by kernel_rfl) (by kernel_rfl) (fun _ _ _ h => h) (yields_row rfl 64 (.tmp 4) rfl (w.heap.size) rfl _ (pparr (s, b, x)) _ (fun _ h => h.1) Tryz.underlying64 rfl infoPpS) (by assumption) ?_
        simp only [Act.put, List.getElem_toArray, List.getElem_cons_zero, List.getElem_cons_succ, List.setIfInBounds_toArray, List.set_cons_zero, List.set_cons_succ]
        refine wpAnyH_ready (rs := [6]) (by kernel_rfl) (by simp) ?_
        refine AllReadyH.cons rfl (fun K hK => ?_) AllReadyH.nil
        go_simp
        (go_at_call 77; refine (cO _).mono ?_; rintro e w2 ⟨rfl, hb2⟩; have hb2' : Below W.heap.size W w2 := bAll hbel (bAll (bDrew1 _) hb2))
        refine hK.out _ _ ?_ (fun hHeld => ?_)
        · exact ⟨bKeeps hb2' B0.out, G.out _ (bAll hal hb2')⟩
        clear hK K
        refine wpAnyH_take (i := 7) (v := ?v10) rfl (by kernel_rfl) (by kernel_rfl) (by kernel_rfl) (fun _ _ _ h => h) (Or.inl ⟨by rfl, ?hy10⟩) (by assumption) ?rest10
        case hy10 => ((intro w hSw; (try dsimp only at hSw); (try simp only [List.getElem_toArray, List.getElem_cons_zero, List.getElem_cons_succ]); go_simp; first | done | (with_reducible rfl)))
        simp only [Act.put, List.getElem_toArray, List.getElem_cons_zero, List.getElem_cons_succ, List.setIfInBounds_toArray, List.set_cons_zero, List.set_cons_succ]
        refine wpAnyH_done (by kernel_rfl) ?_ _
        refine NoPanic.normal ?_
        go_wp2
        go_roundw
        case rel =>
          refine ⟨l, m, hm1, by omega, rfl, rfl, HLo.out, fun i y hi hy => ?_, hb2'⟩
          rcases (by omega : m < i ∨ i = m) with h1 | rfl
          · exact Int.le_of_lt (asc_above ordOkV HS.out h1 hy Hx.out (by rw [Ho.out]; omega))
          · rw [Hx.out] at hy
            obtain rfl := Option.some.inj hy
            rw [Ho.out]
            omega
        case measure => simp [intOf]; omega
    · obtain rfl : l = h := by omega
      by_cases hln : l < n
      · obtain ⟨b1, o1, rfl, hc1⟩ := hr (by omega)
        obtain ⟨⟨s', b', x'⟩, hx⟩ := getAt xs l (by have := Hl.out; omega)
        have G := hide (fun V (hV : Below w.heap.size w V) => pp_at hc1 hx hV)
        have Hx := hide hx
        obtain ⟨o, ho⟩ : ∃ o, cmpI s' s = o := ⟨_, rfl⟩
        have cO := fun w => synBySlot_any s' b' x' s b x w
        rw [ho] at cO
        have Ho : Hid (ordV (s', b', x') (s, b, x) = o) := ho
        have hli : (l : Int) < (n : Int) := by omega
        have hd1 : decide ((l : Int) < (n : Int)) = true := by simpa using hli
        clear hr hc1 hx ho
        go_wp2
        refine wp_region_noPanic ?_
        refine wp_region_held_drew (S := (fun w' => w'.heap[w.heap.size]? = some (.cells (pparr (s, b, x)) 64 (0, 0)) ∧ (∀ j u, (pparr (s', b', x'))[j]? = some u → w'.cell? ⟨b1, o1 + l * 12 + j, none⟩ = some u))) (by kernel_rfl) ?_ (fun hHeld => ?_)
        · exact ⟨bKeeps (bAll hbel (bDrew1 _)) B0.out, G.out _ (bAll hal (bAll hbel (bDrew1 _)))⟩
        refine wpAnyH_take (i := 0) (v := ?v11) rfl (by kernel_rfl) (by kernel_rfl) (by kernel_rfl) (fun _ _ _ h => h) (Or.inl ⟨by rfl, ?hy11⟩) (by assumption) ?rest11
        case hy11 => ((intro w hSw; (try dsimp only at hSw); (try simp only [List.getElem_toArray, List.getElem_cons_zero]); go_simp; first | done | (with_reducible rfl)))
        simp only [Act.put, List.getElem_toArray, List.getElem_cons_zero, List.setIfInBounds_toArray, List.set_cons_zero, List.set_cons_succ]
        refine wpAnyH_take (i := 1) (v := ?v12) rfl (by kernel_rfl) (by kernel_rfl) (by kernel_rfl) (fun _ _ _ h => h) (Or.inl ⟨by rfl, ?hy12⟩) (by assumption) ?rest12
        case hy12 => ((intro w hSw; (try dsimp only at hSw); (try simp only [List.getElem_toArray, List.getElem_cons_zero, List.getElem_cons_succ]); go_simp; first | done | (with_reducible rfl)))
        simp only [Act.put, List.getElem_toArray, List.getElem_cons_zero, List.getElem_cons_succ, List.setIfInBounds_toArray, List.set_cons_zero, List.set_cons_succ]
        refine wpAnyH_take (i := 2) (v := ?v13) rfl (by kernel_rfl) (by kernel_rfl) (by kernel_rfl) (fun _ _ _ h => h) (Or.inl ⟨by rfl, ?hy13⟩) (by assumption) ?rest13
        case hy13 => ((intro w hSw; (try dsimp only at hSw); (try simp only [List.getElem_toArray, List.getElem_cons_zero, List.getElem_cons_succ]); go_simp; first | done | (with_reducible rfl)))
        simp only [Act.put, List.getElem_toArray, List.getElem_cons_zero, List.getElem_cons_succ, List.setIfInBounds_toArray, List.set_cons_zero, List.set_cons_succ]
        refine wpAnyH_take (i := 3) (v := ?v14) rfl (by kernel_rfl) (by kernel_rfl) (by kernel_rfl) (fun _ _ _ h => h) (Or.inl ⟨by rfl, ?hy14⟩) (by assumption) ?rest14
        case hy14 => ((intro w hSw; (try dsimp only at hSw); (try simp only [List.getElem_toArray, List.getElem_cons_zero, List.getElem_cons_succ]); go_simp; first | done | (with_reducible rfl)))
        simp only [Act.put, List.getElem_toArray, List.getElem_cons_zero, List.getElem_cons_succ, List.setIfInBounds_toArray, List.set_cons_zero, List.set_cons_succ]
        refine wpAnyH_take (i := 4) (v := ?v15) rfl (by kernel_rfl) (by kernel_rfl) (by kernel_rfl) (fun _ _ _ h => h) (Or.inl ⟨by rfl, ?hy15⟩) (by assumption) ?rest15
        case hy15 => ((intro w hSw; (try dsimp only at hSw); (try simp only [List.getElem_toArray, List.getElem_cons_zero, List.getElem_cons_succ]); go_simp; first | done | (with_reducible rfl)))
        simp only [Act.put, List.getElem_toArray, List.getElem_cons_zero, List.getElem_cons_succ, List.setIfInBounds_toArray, List.set_cons_zero, List.set_cons_succ]
        refine wpAnyH_take (i := 5) (v := ?v16) rfl (by kernel_rfl) (by kernel_rfl) (by kernel_rfl) (fun _ _ _ h => h) (Or.inl ⟨by rfl, ?hy16⟩) (by assumption) ?rest16
        case hy16 => ((intro w hSw; (try dsimp only at hSw); (try simp only [List.getElem_toArray, List.getElem_cons_zero, List.getElem_cons_succ]); go_simp; first | done | (with_reducible rfl)))
        simp only [Act.put, List.getElem_toArray, List.getElem_cons_zero, List.getElem_cons_succ, List.setIfInBounds_toArray, List.set_cons_zero, List.set_cons_succ]
        refine wpAnyH_take (i := 6) (v := ?v17) rfl (by kernel_rfl) (by kernel_rfl) (by kernel_rfl) (fun _ _ _ h => h) (Or.inl ⟨by rfl, ?hy17⟩) (by assumption) ?rest17
        case hy17 => ((intro w hSw; (try dsimp only at hSw); (try simp only [List.getElem_toArray, List.getElem_cons_zero, List.getElem_cons_succ]); go_simp; first | done | (with_reducible rfl)))
        simp only [Act.put, List.getElem_toArray, List.getElem_cons_zero, List.getElem_cons_succ, List.setIfInBounds_toArray, List.set_cons_zero, List.set_cons_succ]
        refine wpAnyH_take (i := 7) (v := ?v18) rfl (by kernel_rfl) (by kernel_rfl) (by kernel_rfl) (fun _ _ _ h => h) (Or.inl ⟨by rfl, ?hy18⟩) (by assumption) ?rest18
        case hy18 => ((intro w hSw; (try dsimp only at hSw); (try simp only [List.getElem_toArray, List.getElem_cons_zero, List.getElem_cons_succ]); go_simp; first | done | (with_reducible rfl)))
        simp only [Act.put, List.getElem_toArray, List.getElem_cons_zero, List.getElem_cons_succ, List.setIfInBounds_toArray, List.set_cons_zero, List.set_cons_succ]
        refine wpAnyH_take (i := 8) (v := ?v19) rfl (by kernel_rfl) (by kernel_rfl) (by kernel_rfl) (fun _ _ _ h => h) (Or.inl ⟨by rfl, ?hy19⟩) (by assumption) ?rest19
        case hy19 => ((intro w hSw; (try dsimp only at hSw); (try simp only [List.getElem_toArray, List.getElem_cons_zero, List.getElem_cons_succ]); go_simp; first | done | (with_reducible rfl)))
        simp only [Act.put, List.getElem_toArray, List.getElem_cons_zero, List.getElem_cons_succ, List.setIfInBounds_toArray, List.set_cons_zero, List.set_cons_succ]
        refine wpAnyH_take (i := 9) (v := ?v20) rfl (by kernel_rfl) (by kernel_rfl) (by kernel_rfl) (fun _ _ _ h => h) (Or.inl ⟨by rfl, ?hy20⟩) (by assumption) ?rest20
        case hy20 => ((intro w hSw; (try dsimp only at hSw); (try simp only [List.getElem_toArray, List.getElem_cons_zero, List.getElem_cons_succ]); go_simp; first | done | (with_reducible rfl)))
        simp only [Act.put, List.getElem_toArray, List.getElem_cons_zero, List.getElem_cons_succ, List.setIfInBounds_toArray, List.set_cons_zero, List.set_cons_succ]
        refine wpAnyH_take (i := 10) (v := .agg (pparr (s', b', x'))) rfl (by kernel_rfl) (by kernel_rfl) (by kernel_rfl) (fun _ _ _ h => h) (yields_at rfl 64 (.tmp 40) rfl (b1) (o1 + l * 12) rfl (pparr (s', b', x')) _ (fun _ h => h.2) Tryz.underlying64 rfl infoPpS) (by assumption) ?_
        simp only [Act.put, List.getElem_toArray, List.getElem_cons_zero, List.getElem_cons_succ, List.setIfInBounds_toArray, List.set_cons_zero, List.set_cons_succ]
        refine wpAnyH_take (i := 11) (v := .agg (pparr (s, b, x))) rfl (by kernel_rfl) (by kernel_rfl) (by kernel_rfl) (fun _ _ _ h => h) (yields_row rfl 64 (.tmp 4) rfl (w.heap.size) rfl _ (pparr (s, b, x)) _ (fun _ h => h.1) Tryz.underlying64 rfl infoPpS) (by assumption) ?_
        simp only [Act.put, List.getElem_toArray, List.getElem_cons_zero, List.getElem_cons_succ, List.setIfInBounds_toArray, List.set_cons_zero, List.set_cons_succ]
        refine wpAnyH_ready (rs := [12]) (by kernel_rfl) (by simp) ?_
        refine AllReadyH.cons rfl (fun K hK => ?_) AllReadyH.nil
        go_simp
        (go_at_call 77; refine (cO _).mono ?_; rintro e w2 ⟨rfl, hb2⟩; have hb2' : Below W.heap.size W w2 := bAll hbel (bAll (bDrew1 _) hb2))
        refine hK.out _ _ ?_ (fun hHeld => ?_)
        · exact ⟨bKeeps hb2' B0.out, G.out _ (bAll hal hb2')⟩
        clear hK K
        refine wpAnyH_take (i := 13) (v := ?v21) rfl (by kernel_rfl) (by kernel_rfl) (by kernel_rfl) (fun _ _ _ h => h) (Or.inl ⟨by rfl, ?hy21⟩) (by assumption) ?rest21
        case hy21 => ((intro w hSw; (try dsimp only at hSw); (try simp only [List.getElem_toArray, List.getElem_cons_zero, List.getElem_cons_succ]); go_simp; first | done | (with_reducible rfl)))
        simp only [Act.put, List.getElem_toArray, List.getElem_cons_zero, List.getElem_cons_succ, List.setIfInBounds_toArray, List.set_cons_zero, List.set_cons_succ]
        refine wpAnyH_take (i := 14) (v := ?v22) rfl (by kernel_rfl) (by kernel_rfl) (by kernel_rfl) (fun _ _ _ h => h) (Or.inl ⟨by rfl, ?hy22⟩) (by assumption) ?rest22
        case hy22 => ((intro w hSw; (try dsimp only at hSw); (try simp only [List.getElem_toArray, List.getElem_cons_zero, List.getElem_cons_succ]); go_simp; first | done | (with_reducible rfl)))
        simp only [Act.put, List.getElem_toArray, List.getElem_cons_zero, List.getElem_cons_succ, List.setIfInBounds_toArray, List.set_cons_zero, List.set_cons_succ]
        refine wpAnyH_take (i := 15) (v := ?v23) rfl (by kernel_rfl) (by kernel_rfl) (by kernel_rfl) (fun _ _ _ h => h) (Or.inl ⟨by rfl, ?hy23⟩) (by assumption) ?rest23
        case hy23 => ((intro w hSw; (try dsimp only at hSw); (try simp only [List.getElem_toArray, List.getElem_cons_zero, List.getElem_cons_succ]); go_simp; first | done | (with_reducible rfl)))
        simp only [Act.put, List.getElem_toArray, List.getElem_cons_zero, List.getElem_cons_succ, List.setIfInBounds_toArray, List.set_cons_zero, List.set_cons_succ]
        refine wpAnyH_take (i := 16) (v := ?v24) rfl (by kernel_rfl) (by kernel_rfl) (by kernel_rfl) (fun _ _ _ h => h) (Or.inl ⟨by rfl, ?hy24⟩) (by assumption) ?rest24
        case hy24 => ((intro w hSw; (try dsimp only at hSw); (try simp only [List.getElem_toArray, List.getElem_cons_zero, List.getElem_cons_succ]); go_simp; first | done | (with_reducible rfl)))
        simp only [Act.put, List.getElem_toArray, List.getElem_cons_zero, List.getElem_cons_succ, List.setIfInBounds_toArray, List.set_cons_zero, List.set_cons_succ]
        refine wpAnyH_done (by kernel_rfl) ?_ _
        refine NoPanic.normal ?_
        go_wp2
        refine bodyPost_ret (v := .tuple #[.int .i64 l, .bool (o == 0)]) (by simp [results, Tryz.results76, go_sem]) rfl ⟨l, _, rfl, isAt_of (by rw [Hl.out]; omega) HLo.out HHi.out ?_, bAll hal hb2'⟩
        rw [beq_iff_eq]
        constructor
        · intro h0
          exact ⟨_, Hx.out, by rw [Ho.out]; exact h0⟩
        · rintro ⟨y, hy, h0⟩
          rw [Hx.out] at hy
          obtain rfl := Option.some.inj hy
          rw [Ho.out] at h0
          exact h0
      · have hd1 : decide ((l : Int) < (n : Int)) = false := by simp; omega
        go_wp2
        refine wp_region_noPanic ?_
        refine wp_region_held_drew (S := (fun _ => True)) (by kernel_rfl) ?_ (fun hHeld => ?_)
        · trivial
        refine wpAnyH_take (i := 0) (v := ?v25) rfl (by kernel_rfl) (by kernel_rfl) (by kernel_rfl) (fun _ _ _ h => h) (Or.inl ⟨by rfl, ?hy25⟩) (by assumption) ?rest25
        case hy25 => ((intro w hSw; (try dsimp only at hSw); (try simp only [List.getElem_toArray, List.getElem_cons_zero]); go_simp; first | done | (with_reducible rfl)))
        simp only [Act.put, List.getElem_toArray, List.getElem_cons_zero, List.setIfInBounds_toArray, List.set_cons_zero, List.set_cons_succ]
        refine wpAnyH_take (i := 1) (v := ?v26) rfl (by kernel_rfl) (by kernel_rfl) (by kernel_rfl) (fun _ _ _ h => h) (Or.inl ⟨by rfl, ?hy26⟩) (by assumption) ?rest26
        case hy26 => ((intro w hSw; (try dsimp only at hSw); (try simp only [List.getElem_toArray, List.getElem_cons_zero, List.getElem_cons_succ]); go_simp; first | done | (with_reducible rfl)))
        simp only [Act.put, List.getElem_toArray, List.getElem_cons_zero, List.getElem_cons_succ, List.setIfInBounds_toArray, List.set_cons_zero, List.set_cons_succ]
        refine wpAnyH_take (i := 2) (v := ?v27) rfl (by kernel_rfl) (by kernel_rfl) (by kernel_rfl) (fun _ _ _ h => h) (Or.inl ⟨by rfl, ?hy27⟩) (by assumption) ?rest27
        case hy27 => ((intro w hSw; (try dsimp only at hSw); (try simp only [List.getElem_toArray, List.getElem_cons_zero, List.getElem_cons_succ]); go_simp; first | done | (with_reducible rfl)))
        simp only [Act.put, List.getElem_toArray, List.getElem_cons_zero, List.getElem_cons_succ, List.setIfInBounds_toArray, List.set_cons_zero, List.set_cons_succ]
        refine wpAnyH_take (i := 3) (v := ?v28) rfl (by kernel_rfl) (by kernel_rfl) (by kernel_rfl) (fun _ _ _ h => h) (Or.inl ⟨by rfl, ?hy28⟩) (by assumption) ?rest28
        case hy28 => ((intro w hSw; (try dsimp only at hSw); (try simp only [List.getElem_toArray, List.getElem_cons_zero, List.getElem_cons_succ]); go_simp; first | done | (with_reducible rfl)))
        simp only [Act.put, List.getElem_toArray, List.getElem_cons_zero, List.getElem_cons_succ, List.setIfInBounds_toArray, List.set_cons_zero, List.set_cons_succ]
        refine wpAnyH_take (i := 4) (v := ?v29) rfl (by kernel_rfl) (by kernel_rfl) (by kernel_rfl) (fun _ _ _ h => h) (Or.inl ⟨by rfl, ?hy29⟩) (by assumption) ?rest29
        case hy29 => ((intro w hSw; (try dsimp only at hSw); (try simp only [List.getElem_toArray, List.getElem_cons_zero, List.getElem_cons_succ]); go_simp; first | done | (with_reducible rfl)))
        simp only [Act.put, List.getElem_toArray, List.getElem_cons_zero, List.getElem_cons_succ, List.setIfInBounds_toArray, List.set_cons_zero, List.set_cons_succ]
        refine wpAnyH_take (i := 5) (v := ?v30) rfl (by kernel_rfl) (by kernel_rfl) (by kernel_rfl) (fun _ _ _ h => h) (Or.inl ⟨by rfl, ?hy30⟩) (by assumption) ?rest30
        case hy30 => ((intro w hSw; (try dsimp only at hSw); (try simp only [List.getElem_toArray, List.getElem_cons_zero, List.getElem_cons_succ]); go_simp; first | done | (with_reducible rfl)))
        simp only [Act.put, List.getElem_toArray, List.getElem_cons_zero, List.getElem_cons_succ, List.setIfInBounds_toArray, List.set_cons_zero, List.set_cons_succ]
        refine wpAnyH_take (i := 6) (v := undef) rfl (by kernel_rfl) (by kernel_rfl) (by kernel_rfl) (fun _ _ _ h => h) (Or.inr ⟨by rfl, rfl⟩) (by assumption) ?_
        simp only [Act.put, List.getElem_toArray, List.getElem_cons_zero, List.getElem_cons_succ, List.setIfInBounds_toArray, List.set_cons_zero, List.set_cons_succ]
        refine wpAnyH_take (i := 7) (v := undef) rfl (by kernel_rfl) (by kernel_rfl) (by kernel_rfl) (fun _ _ _ h => h) (Or.inr ⟨by rfl, rfl⟩) (by assumption) ?_
        simp only [Act.put, List.getElem_toArray, List.getElem_cons_zero, List.getElem_cons_succ, List.setIfInBounds_toArray, List.set_cons_zero, List.set_cons_succ]
        refine wpAnyH_take (i := 8) (v := undef) rfl (by kernel_rfl) (by kernel_rfl) (by kernel_rfl) (fun _ _ _ h => h) (Or.inr ⟨by rfl, rfl⟩) (by assumption) ?_
        simp only [Act.put, List.getElem_toArray, List.getElem_cons_zero, List.getElem_cons_succ, List.setIfInBounds_toArray, List.set_cons_zero, List.set_cons_succ]
        refine wpAnyH_take (i := 9) (v := undef) rfl (by kernel_rfl) (by kernel_rfl) (by kernel_rfl) (fun _ _ _ h => h) (Or.inr ⟨by rfl, rfl⟩) (by assumption) ?_
        simp only [Act.put, List.getElem_toArray, List.getElem_cons_zero, List.getElem_cons_succ, List.setIfInBounds_toArray, List.set_cons_zero, List.set_cons_succ]
        refine wpAnyH_take (i := 10) (v := undef) rfl (by kernel_rfl) (by kernel_rfl) (by kernel_rfl) (fun _ _ _ h => h) (Or.inr ⟨by rfl, rfl⟩) (by assumption) ?_
        simp only [Act.put, List.getElem_toArray, List.getElem_cons_zero, List.getElem_cons_succ, List.setIfInBounds_toArray, List.set_cons_zero, List.set_cons_succ]
        refine wpAnyH_take (i := 11) (v := undef) rfl (by kernel_rfl) (by kernel_rfl) (by kernel_rfl) (fun _ _ _ h => h) (Or.inr ⟨by rfl, rfl⟩) (by assumption) ?_
        simp only [Act.put, List.getElem_toArray, List.getElem_cons_zero, List.getElem_cons_succ, List.setIfInBounds_toArray, List.set_cons_zero, List.set_cons_succ]
        refine wpAnyH_take (i := 12) (v := undef) rfl (by kernel_rfl) (by kernel_rfl) (by kernel_rfl) (fun _ _ _ h => h) (Or.inr ⟨by rfl, rfl⟩) (by assumption) ?_
        simp only [Act.put, List.getElem_toArray, List.getElem_cons_zero, List.getElem_cons_succ, List.setIfInBounds_toArray, List.set_cons_zero, List.set_cons_succ]
        refine wpAnyH_take (i := 13) (v := undef) rfl (by kernel_rfl) (by kernel_rfl) (by kernel_rfl) (fun _ _ _ h => h) (Or.inr ⟨by rfl, rfl⟩) (by assumption) ?_
        simp only [Act.put, List.getElem_toArray, List.getElem_cons_zero, List.getElem_cons_succ, List.setIfInBounds_toArray, List.set_cons_zero, List.set_cons_succ]
        refine wpAnyH_take (i := 14) (v := ?v31) rfl (by kernel_rfl) (by kernel_rfl) (by kernel_rfl) (fun _ _ _ h => h) (Or.inl ⟨by rfl, ?hy31⟩) (by assumption) ?rest31
        case hy31 => ((intro w hSw; (try dsimp only at hSw); (try simp only [List.getElem_toArray, List.getElem_cons_zero, List.getElem_cons_succ]); go_simp; first | done | (with_reducible rfl)))
        simp only [Act.put, List.getElem_toArray, List.getElem_cons_zero, List.getElem_cons_succ, List.setIfInBounds_toArray, List.set_cons_zero, List.set_cons_succ]
        refine wpAnyH_take (i := 15) (v := ?v32) rfl (by kernel_rfl) (by kernel_rfl) (by kernel_rfl) (fun _ _ _ h => h) (Or.inl ⟨by rfl, ?hy32⟩) (by assumption) ?rest32
        case hy32 => ((intro w hSw; (try dsimp only at hSw); (try simp only [List.getElem_toArray, List.getElem_cons_zero, List.getElem_cons_succ]); go_simp; first | done | (with_reducible rfl)))
        simp only [Act.put, List.getElem_toArray, List.getElem_cons_zero, List.getElem_cons_succ, List.setIfInBounds_toArray, List.set_cons_zero, List.set_cons_succ]
        refine wpAnyH_take (i := 16) (v := ?v33) rfl (by kernel_rfl) (by kernel_rfl) (by kernel_rfl) (fun _ _ _ h => h) (Or.inl ⟨by rfl, ?hy33⟩) (by assumption) ?rest33
        case hy33 => ((intro w hSw; (try dsimp only at hSw); (try simp only [List.getElem_toArray, List.getElem_cons_zero, List.getElem_cons_succ]); go_simp; first | done | (with_reducible rfl)))
        simp only [Act.put, List.getElem_toArray, List.getElem_cons_zero, List.getElem_cons_succ, List.setIfInBounds_toArray, List.set_cons_zero, List.set_cons_succ]
        refine wpAnyH_done (by kernel_rfl) ?_ _
        refine NoPanic.normal ?_
        go_wp2
        refine bodyPost_ret (v := .tuple #[.int .i64 l, .bool false]) (by simp [results, Tryz.results76, go_sem]) rfl ⟨l, _, rfl, isAt_of (by rw [Hl.out]; omega) HLo.out HHi.out ?_, bAll hal (bAll hbel (bDrew1 _))⟩
        constructor
        · intro h0
          cases h0
        · rintro ⟨y, hy, h0⟩
          have := (List.getElem?_eq_some_iff.1 hy).1
          have := Hl.out
          omega

end Go.Proofs.YteddhdbglciahaaGreat

/- A word's slot and ballot, a denial, the paper of a slot: contracts; no statement of the seat is proved here. -/
namespace Go.Proofs.YteddhdbglciahaaGreat
open Go.RowKit

/-- The place of the first paper of a slot, or -1. -/
def firstV (s : Int) (xs : List Pp) : Int := match xs.findIdx? (fun p => decide (p.1 = s)) with
  | some i => (i : Int)
  | none => -1

theorem firstV_none {s : Int} {xs : List Pp} (h : ∀ (j : Nat) (p : Pp), xs[j]? = some p → p.1 ≠ s) : firstV s xs = -1 := by
  have : xs.findIdx? (fun p => decide (p.1 = s)) = none := by
    rw [List.findIdx?_eq_none_iff]
    intro p hp
    obtain ⟨j, hj⟩ := List.mem_iff_getElem?.1 hp
    simpa using h j p hj
  simp [firstV, this]
theorem firstV_some {s : Int} {xs : List Pp} {k : Nat} {p : Pp} (hk : xs[k]? = some p) (hp : p.1 = s) (h : ∀ (j : Nat) (p : Pp), j < k → xs[j]? = some p → p.1 ≠ s) : firstV s xs = (k : Int) := by
  have hkl := (List.getElem?_eq_some_iff.1 hk).1
  have : xs.findIdx? (fun p => decide (p.1 = s)) = some k := by
    rw [List.findIdx?_eq_some_iff_getElem]
    refine ⟨hkl, ?_, fun j hj => ?_⟩
    · have e := (List.getElem?_eq_some_iff.1 hk).2
      rw [e]
      simpa using hp
    · have := h j (xs[j]'(by omega)) hj (List.getElem?_eq_getElem _)
      simpa using this
  simp [firstV, this]

set_option maxRecDepth 100000 in
set_option maxHeartbeats 4000000 in
theorem l21Paper_any (v : Value) (xs : List Pp) (s : Int) (w : World) (hr : RowR w 12 v xs.length (ppcells xs)) :
    Calls Tryz.prog 22 #[v, .int .i64 s] w fun e w' => e = .returned (.int .i64 (firstV s xs)) ∧ Below w.heap.size w w' := by
  obtain ⟨ao, ca, rfl, hn, -, hr⟩ := hr
  obtain ⟨R, HR⟩ : ∃ R, Hid (firstV s xs = R) := ⟨_, rfl⟩
  rw [HR.out]
  obtain ⟨n, hnn⟩ : ∃ n, xs.length = n := ⟨_, rfl⟩
  have Hl := hide hnn
  rw [hnn] at hn hr ⊢
  clear hnn
  go_enter Tryz.func22, Tryz.ntmps22
  go_wp2
  go_loopw [5] (fun i wr => ∃ k : Nat, k ≤ n ∧ i = .int .i64 k ∧ (∀ j p, j < k → xs[j]? = some p → p.1 ≠ s) ∧ Below w.heap.size w wr) (fun i _ => n - (intOf i).toNat)
  case atStart => exact ⟨0, Nat.zero_le _, rfl, fun j p hj => by omega, Below.refl _ _⟩
  case round =>
    obtain ⟨k, hk, rfl, hno, hbel⟩ := hrel
    have HN := hide hno
    clear hno
    by_cases hlt : k < n
    · obtain ⟨b1, o1, rfl, hc1⟩ := hr (by omega)
      obtain ⟨⟨s', b', x'⟩, hx⟩ := getAt xs k (by have := Hl.out; omega)
      have f0 : wr.cell? ⟨b1, o1 + k * 12, none⟩ = some (.int .i64 s') := pp_at hc1 hx hbel 0 _ rfl
      have hi : (k : Int) < (n : Int) := by omega
      have Hx := hide hx
      clear hr hc1 hx
      by_cases he : s' = s
      · have hR : Hid (R = (k : Int)) := by show _ = _; rw [← HR.out]; exact firstV_some Hx.out he HN.out
        have he' : (s' == s) = true := by simpa using he
        go_wp2
        go_ret
        exact ⟨by rw [hR.out]; rfl, hbel⟩
      · have he' : (s' == s) = false := by simpa using he
        go_wp2
        go_roundw
        case rel =>
          refine ⟨k + 1, by omega, by go_num, fun j p hj hp => ?_, hbel⟩
          rcases (by omega : j < k ∨ j = k) with h1 | rfl
          · exact HN.out j p h1 hp
          · rw [Hx.out] at hp
            obtain rfl := Option.some.inj hp
            exact he
        case measure => simp [intOf]; omega
    · have hR : Hid (R = -1) := by
        show _ = _
        rw [← HR.out]
        exact firstV_none (fun j p hp => HN.out j p (by have := (List.getElem?_eq_some_iff.1 hp).1; have := Hl.out; omega) hp)
      go_wp2
      go_ret
      exact ⟨by rw [hR.out]; rfl, hbel⟩

end Go.Proofs.YteddhdbglciahaaGreat

/- What a voter does with a word, as plain values: plain facts; no statement of the seat is proved here. -/
namespace Go.Proofs.YteddhdbglciahaaGreat

/-- Where the search stands, that is the place of the slot. -/
theorem isAt_first {xs : List Pp} {s b : Int} {x : Wd} {p : Nat} {there : Bool} (hs : Asc ordV xs) (h : IsAt ordV xs (s, b, x) p there) : firstV s xs = if there = true then (p : Int) else -1 := by
  have lo : ∀ (j : Nat) (q : Pp), j < p → xs[j]? = some q → q.1 ≠ s := fun j q hj hq => by
    have h2 : q.1 < s := cmpI_neg.1 (h.lo q (List.mem_of_getElem? (by rw [List.getElem?_take_of_lt hj]; exact hq)))
    omega
  cases there
  · refine firstV_none (fun j q hq => ?_)
    by_cases hj : j < p
    · exact lo j q hj hq
    · intro e
      by_cases hjp : j = p
      · subst hjp
        have := h.th.2 ⟨q, hq, cmpI_zero.2 e⟩
        cases this
      · have hpl : p < xs.length := by have := (List.getElem?_eq_some_iff.1 hq).1; omega
        have g1 := h.hi (xs[p]'hpl) (List.mem_of_getElem? (i := 0) (by rw [List.getElem?_drop]; exact List.getElem?_eq_getElem hpl))
        have g2 : 0 < ordV q (s, b, x) := asc_above ordOkV hs (show p < j by omega) hq (List.getElem?_eq_getElem hpl) g1
        have g3 : s < q.1 := cmpI_pos.1 g2
        omega
  · obtain ⟨q, hq, h0⟩ := h.th.1 rfl
    simp only [if_true]
    exact firstV_some hq (cmpI_zero.1 h0) lo

theorem find_first {xs : List Pp} {s : Int} {k : Nat} {p : Pp} (hk : xs[k]? = some p) (h : firstV s xs = (k : Int)) : xs.find? (fun p => decide (p.1 = s)) = some p := by
  unfold firstV at h
  cases hf : xs.findIdx? (fun p => decide (p.1 = s)) with
  | none => rw [hf] at h; simp at h
  | some i =>
    rw [hf] at h
    simp only at h
    have hik : i = k := by omega
    subst hik
    rw [List.findIdx?_eq_some_iff_getElem] at hf
    obtain ⟨hl, h1, h2⟩ := hf
    rw [List.find?_eq_some_iff_getElem]
    have e := (List.getElem?_eq_some_iff.1 hk).2
    exact ⟨by rw [← e]; exact h1, i, hl, e, fun j hj => by simpa using h2 j hj⟩
theorem find_none {xs : List Pp} {s : Int} (h : firstV s xs = -1) : xs.find? (fun p => decide (p.1 = s)) = none := by
  unfold firstV at h
  cases hf : xs.findIdx? (fun p => decide (p.1 = s)) with
  | some i => rw [hf] at h; simp only at h; omega
  | none =>
    rw [List.findIdx?_eq_none_iff] at hf
    rw [List.find?_eq_none]
    intro q hq
    simpa using hf q hq

end Go.Proofs.YteddhdbglciahaaGreat

/- All numbers of a word, as the specification lists them: a contract; no statement of the seat is proved here. -/
namespace Go.Proofs.YteddhdbglciahaaGreat
open Go.RowKit

theorem RowA.base {w : World} {b b' : Nat} {e : TypeId} {size : Nat} {v : Value} {n : Nat} {cs : List Value} (h : RowA w b e size v n cs) (hb : b' ≤ b) : RowA w b' e size v n cs := by
  rcases h with h | h
  · exact .inl ⟨h.1, h.2.imp id (fun ⟨g, cap, cur, e, hg, rest⟩ => ⟨g, cap, cur, e, Nat.le_trans hb hg, rest⟩)⟩
  · exact .inr h
end Go.Proofs.YteddhdbglciahaaGreat

/- Words that are nothing, copies, results: laws; no statement of the seat is proved here. -/
namespace Go.Proofs.YteddhdbglciahaaGreat
open Go.RowKit

theorem results_row_tmp {P : Program} {fn : Func} {p u : Tmp} {ty : TypeId} (h : fn.results = #[.cell p ty, .tmp u]) (tmps : Array Value) (w : World) (g : Nat) (t : TypeId) (cs : Array Value) (fr : Nat × Nat) (d : TypeDesc) (b : Value)
    (hp : tmps.getD p undef = .pointer (some ⟨g, 0, none⟩)) (hb : tmps.getD u undef = b) (hg : w.heap[g]? = some (.cells cs t fr))
    (hu : P.underlying ty = some d) (hd : (match d with | .struct _ | .array _ _ => true | _ => false) = true) (hi : (P.info? ty).map (·.size) = some cs.size) :
    (results fn tmps).run P w = .ok (.tuple #[.agg cs, b]) w := by
  rw [results_cell_tmp h, hp, hb]
  simp [asAddr, Result.andThen, run_loadVar_row w g t ty cs fr d hg hu hd hi]
end Go.Proofs.YteddhdbglciahaaGreat

/- Laws for functions that give two structs and a truth; what a voter's answer is; no statement of the seat is proved here. -/
namespace Go.Proofs.YteddhdbglciahaaGreat
open Go.RowKit

theorem yields_build {P : Program} {ops : Array Oper} {S : World → Prop} {op : Oper} {a : Act} (hw : Region.wanted op (yielded ops a.tmps) = true) (ty : TypeId) (parts : Array (Nat × Operand)) (ho : op.op = .build ty parts)
    (ps : List (Nat × Value)) (cells : Array Value) (hp : (parts.map fun (i, x) => (i, a.eval x)).toList = ps) (hb : P.built ty ps = some cells) : YieldsIf P ops S op (.agg cells) a :=
  .inl ⟨hw, fun w _ => by
    unfold execOp
    simp only [ho, Sem.run_bind, run_build w ty _ cells (by rw [hp]; exact hb), Result.andThen_ok]
    rfl⟩

theorem updRow (w : World) (g : Nat) (cs : Array Value) : Upd (fun j => j = g) w (w.setRow g cs) := ⟨rfl, rfl, rfl, by simp, fun _ _ h => setRow_other _ _ _ _ h⟩

theorem infoSv2 : (Tryz.prog.info? 62).map (·.size) = some 2 := by kernel_rfl

/-- What is read of a word, of its numbers and its command. -/
theorem WdR.cells {w : World} {cs : Array Value} {x : Wd} (h : WdR w (.agg cs) x) : cs[0]? = some (.int .i64 x.a0) ∧ cs[1]? = some (.int .i64 x.a1) ∧ cs[3]? = some (.int .i64 x.a3) ∧ cs[4]? = some (.int .i64 x.a4) ∧ cs[5]? = some (.int .i64 x.a5) ∧ ∀ j z, (#[.int .i64 x.c0, .int .i64 x.c1, .int .i64 x.c2, .int .i64 x.c3, .int .i64 x.c4, .int .i64 x.c5, .int .i64 x.c6, .int .i64 x.c7, .int .i64 x.c8, .int .i64 x.c9] : Array Value)[j]? = some z → cs[6 + j]? = some z := by
  obtain ⟨po, pc, lo, lc, e, -, -⟩ := h
  injection e with e
  subst e
  refine ⟨rfl, rfl, rfl, rfl, rfl, fun j z hj => ?_⟩
  have hj' : j < 10 := (Array.getElem?_eq_some_iff.1 hj).1
  rcases (by omega : j = 0 ∨ j = 1 ∨ j = 2 ∨ j = 3 ∨ j = 4 ∨ j = 5 ∨ j = 6 ∨ j = 7 ∨ j = 8 ∨ j = 9) with rfl | rfl | rfl | rfl | rfl | rfl | rfl | rfl | rfl | rfl <;> exact hj

theorem firstV_cases (s : Int) (xs : List Pp) : (firstV s xs = -1 ∧ xs.find? (fun p => decide (p.1 = s)) = none) ∨ ∃ (k : Nat) (p : Pp), xs[k]? = some p ∧ firstV s xs = (k : Int) ∧ xs.find? (fun p => decide (p.1 = s)) = some p := by
  cases hf : xs.findIdx? (fun p => decide (p.1 = s)) with
  | none => exact .inl ⟨by simp [firstV, hf], find_none (by simp [firstV, hf])⟩
  | some i =>
    have h1 : firstV s xs = (i : Int) := by simp [firstV, hf]
    rw [List.findIdx?_eq_some_iff_getElem] at hf
    obtain ⟨hl, -, -⟩ := hf
    exact .inr ⟨i, xs[i], List.getElem?_eq_getElem hl, h1, find_first (List.getElem?_eq_getElem hl) h1⟩
theorem builtPaper (s b : Int) (x : Wd) : Tryz.prog.built 64 [(0, .int .i64 s), (1, .int .i64 b), (2, .agg #[.int .i64 x.c0, .int .i64 x.c1, .int .i64 x.c2, .int .i64 x.c3, .int .i64 x.c4, .int .i64 x.c5, .int .i64 x.c6, .int .i64 x.c7, .int .i64 x.c8, .int .i64 x.c9])] = some (#[.int .i64 s, .int .i64 b, .int .i64 x.c0, .int .i64 x.c1, .int .i64 x.c2, .int .i64 x.c3, .int .i64 x.c4, .int .i64 x.c5, .int .i64 x.c6, .int .i64 x.c7, .int .i64 x.c8, .int .i64 x.c9] : Array Value) := by kernel_rfl
end Go.Proofs.YteddhdbglciahaaGreat

/- The paper of a slot, by the program: a contract; no statement of the seat is proved here. -/
namespace Go.Proofs.YteddhdbglciahaaGreat
open Go.RowKit

theorem builtSlot (s : Int) : Tryz.prog.built 64 [(0, .int .i64 s)] = some (#[.int .i64 s, .int .i64 0, .int .i64 zeroW.c0, .int .i64 zeroW.c1, .int .i64 zeroW.c2, .int .i64 zeroW.c3, .int .i64 zeroW.c4, .int .i64 zeroW.c5, .int .i64 zeroW.c6, .int .i64 zeroW.c7, .int .i64 zeroW.c8, .int .i64 zeroW.c9] : Array Value) := by kernel_rfl

theorem wpList_builtSlot {ops : Array Oper} {rest : List Oper} {o : Oper} {a : Act} {w : World} {Q : Exit → Act → World → Prop} (s : Int) (hg : o.guard = none) (parts : Array (Nat × Operand)) (ho : o.op = .build 64 parts)
    (hp : (parts.map fun (i, x) => (i, a.eval x)).toList = [(0, .int .i64 s)])
    (h : wpList Tryz.prog ops Q rest (a.put o.dst (.agg (#[.int .i64 s, .int .i64 0, .int .i64 zeroW.c0, .int .i64 zeroW.c1, .int .i64 zeroW.c2, .int .i64 zeroW.c3, .int .i64 zeroW.c4, .int .i64 zeroW.c5, .int .i64 zeroW.c6, .int .i64 zeroW.c7, .int .i64 zeroW.c8, .int .i64 zeroW.c9] : Array Value))) w) : wpList Tryz.prog ops Q (o :: rest) a w :=
  wpList_build hg 64 parts ho (by rw [hp, builtSlot]; rfl) (by rw [hp, builtSlot]; exact h)
theorem builtNoPaper : Tryz.prog.built 64 [] = some (#[.int .i64 0, .int .i64 0, .int .i64 zeroW.c0, .int .i64 zeroW.c1, .int .i64 zeroW.c2, .int .i64 zeroW.c3, .int .i64 zeroW.c4, .int .i64 zeroW.c5, .int .i64 zeroW.c6, .int .i64 zeroW.c7, .int .i64 zeroW.c8, .int .i64 zeroW.c9] : Array Value) := by kernel_rfl
theorem wpList_builtNoPaper {ops : Array Oper} {rest : List Oper} {o : Oper} {a : Act} {w : World} {Q : Exit → Act → World → Prop} (hg : o.guard = none) (parts : Array (Nat × Operand)) (ho : o.op = .build 64 parts)
    (hp : (parts.map fun (i, x) => (i, a.eval x)).toList = [])
    (h : wpList Tryz.prog ops Q rest (a.put o.dst (.agg (#[.int .i64 0, .int .i64 0, .int .i64 zeroW.c0, .int .i64 zeroW.c1, .int .i64 zeroW.c2, .int .i64 zeroW.c3, .int .i64 zeroW.c4, .int .i64 zeroW.c5, .int .i64 zeroW.c6, .int .i64 zeroW.c7, .int .i64 zeroW.c8, .int .i64 zeroW.c9] : Array Value))) w) : wpList Tryz.prog ops Q (o :: rest) a w :=
  wpList_build hg 64 parts ho (by rw [hp, builtNoPaper]; rfl) (by rw [hp, builtNoPaper]; exact h)
/-- The paper of a slot; nothing, if there is none. -/
def paperOf (s : Int) (xs : List Pp) : Pp := match xs.find? (fun p => decide (p.1 = s)) with | some p => p | none => (0, 0, zeroW)

set_option maxRecDepth 100000 in
set_option maxHeartbeats 8000000 in
theorem paper_any (g off : Nat) (v : Value) (xs : List Pp) (s : Int) (w : World) (hg : w.cell? ⟨g, off + 1, none⟩ = some v) (hr : RowR w 12 v xs.length (ppcells xs)) (hn : xs.length ≤ 60) (hs : Asc ordV xs) :
    Calls Tryz.prog 29 #[.pointer (some ⟨g, off, none⟩), .int .i64 s] w fun e w' => e = .returned (.agg (pparr (paperOf s xs))) ∧ Below w.heap.size w w' := by
  obtain ⟨q, hq⟩ : ∃ q, paperOf s xs = q := ⟨_, rfl⟩
  rw [hq]
  have HQ := hide hq
  have HR := hide hr
  have HS := hide hs
  obtain ⟨n, hnn⟩ : ∃ n, xs.length = n := ⟨_, rfl⟩
  have Hl := hide hnn
  obtain ⟨ao, ca, rfl, -, -, hr⟩ := hr
  rw [hnn] at hn hr hg
  have hgl := World.block_lt_of_cell? w _ hg
  have HG : Hid (∀ V : World, Below w.heap.size w V → V.cell? ⟨g, off + 1, none⟩ = some (.slice ao n ca)) := fun V h => (h.cell (p := ⟨g, off + 1, none⟩) hgl).trans hg
  have CC : Hid (∀ (V : World) (p : Nat) (q : Pp), Below w.heap.size w V → xs[p]? = some q → ∃ b o, ao = some ⟨b, o, none⟩ ∧ ∀ j z, (pparr q)[j]? = some z → V.cell? ⟨b, o + p * 12 + j, none⟩ = some z) := by
    intro V p q h hp
    have hp' := (List.getElem?_eq_some_iff.1 hp).1
    obtain ⟨b, o, e, hc⟩ := hr (by omega)
    exact ⟨b, o, e, pp_at hc hp h⟩
  clear hq hs hr hg hnn
  go_enter Tryz.func29, Tryz.ntmps29
  go_upto_region 1 with fail
  generalize hW : World.alloc _ _ = W
  have al : Below w.heap.size w W := by rw [← hW]; exact bal (Below.refl _ _) _
  have B0 : Hid (W.heap[w.heap.size]? = some (.cells #[.int .i64 0, .int .i64 0, .int .i64 0, .int .i64 0, .int .i64 0, .int .i64 0, .int .i64 0, .int .i64 0, .int .i64 0, .int .i64 0, .int .i64 0, .int .i64 0] 64 (0, 0))) := by show _ = _; rw [← hW]; exact al1_0 w _
  clear hW
  have k1 := HG.out _ al
  go_wp2_with (refine wpList_builtSlot s rfl _ rfl ?hp ?_; (case hp => ((conv => lhs; simp only [List.map_toArray, List.map_cons, List.map_nil]); rfl)))
  refine (findV_any (.slice ao n ca) xs s 0 zeroW W (by have := HR.out.keep al; rwa [Hl.out] at this ⊢) (by rw [Hl.out]; exact hn) HS.out).mono ?_
  rintro e V ⟨p, there, rfl, hat, b1⟩
  have hF := isAt_first HS.out hat
  have c1 := bAll al b1
  have B1 := hide (bKeeps b1 B0.out)
  have zV := c1.size
  cases there
  · have hfind := find_none (by simpa using hF)
    have HQ2 : Hid (q = (0, 0, zeroW)) := by show _ = _; rw [← HQ.out, paperOf, hfind]
    clear hF hfind hat k1
    go_wp2_with (first
      | (refine wpList_builtNoPaper rfl _ rfl ?hp ?_; (case hp => rfl))
      | (refine wpList_store_row rfl 64 (.tmp 4) (.tmp 19) rfl w.heap.size (#[.int .i64 0, .int .i64 0, .int .i64 zeroW.c0, .int .i64 zeroW.c1, .int .i64 zeroW.c2, .int .i64 zeroW.c3, .int .i64 zeroW.c4, .int .i64 zeroW.c5, .int .i64 zeroW.c6, .int .i64 zeroW.c7, .int .i64 zeroW.c8, .int .i64 zeroW.c9] : Array Value) rfl rfl _ _ B1.out infoPpS (show (12 : Nat) = 12 from rfl) (all_of_list rfl) ?_))
    rw [HQ2.out]
    have s8 := updRow V w.heap.size (#[.int .i64 0, .int .i64 0, .int .i64 zeroW.c0, .int .i64 zeroW.c1, .int .i64 zeroW.c2, .int .i64 zeroW.c3, .int .i64 zeroW.c4, .int .i64 zeroW.c5, .int .i64 zeroW.c6, .int .i64 zeroW.c7, .int .i64 zeroW.c8, .int .i64 zeroW.c9] : Array Value)
    refine bodyPost_ret (v := .agg (pparr (0, 0, zeroW))) (results_cell_row Tryz.results29 _ _ w.heap.size _ _ (0, 0) _ rfl (setRow_heap _ _ _ _ _ _ B1.out) Tryz.underlying64 rfl infoPpS) rfl ?_
    exact ⟨rfl, c1.trans (s8.below c1.size (fun k h => by omega))⟩
  · obtain ⟨⟨s', b', x'⟩, hp, -⟩ := hat.th.1 rfl
    have hfind := find_first hp (by simpa using hF)
    have HQ2 : Hid (q = (s', b', x')) := by show _ = _; rw [← HQ.out, paperOf, hfind]
    have hpn : p < n := by have := (List.getElem?_eq_some_iff.1 hp).1; have := Hl.out; omega
    have hpi : (p : Int) < (n : Int) := by omega
    obtain ⟨b, o, rfl, hc⟩ := CC.out V p _ c1 hp
    have HC := hide hc
    have k1 := HG.out _ c1
    clear hF hfind hat hp hc CC
    go_wp2_with (first
      | (refine wpList_load_at (by rfl) 64 (.tmp 25) rfl b (o + p * 12) rfl (pparr (s', b', x')) _ HC.out Tryz.underlying64 rfl infoPpS ?_)
      | (refine wpList_store_row rfl 64 (.tmp 4) (.tmp 26) rfl w.heap.size (pparr (s', b', x')) rfl rfl _ _ B1.out infoPpS (show (12 : Nat) = 12 from rfl) (all_of_list rfl) ?_))
    rw [HQ2.out]
    have s8 := updRow V w.heap.size (pparr (s', b', x'))
    refine bodyPost_ret (v := .agg (pparr (s', b', x'))) (results_cell_row Tryz.results29 _ _ w.heap.size _ _ (0, 0) _ rfl (setRow_heap _ _ _ _ _ _ B1.out) Tryz.underlying64 rfl infoPpS) rfl ?_
    exact ⟨rfl, c1.trans (s8.below c1.size (fun k h => by omega))⟩

end Go.Proofs.YteddhdbglciahaaGreat

/- What a voter does with a word, by the program: contracts; no statement of the seat is proved here. -/
namespace Go.Proofs.YteddhdbglciahaaGreat
open Go.RowKit

set_option maxHeartbeats 400000 in
theorem synIsVoter_any (n : Int) (w : World) :
    Calls Tryz.prog 125 #[.int .i64 n] w fun e w' => e = .returned (.bool (inI n 0 2)) ∧ w' = w := by
  go_enter Tryz.func125, Tryz.ntmps125
  go_wp2_with fail
  refine (blkWithin_any n 0 2 _).mono ?_
  rintro e w1 ⟨rfl, rfl⟩
  go_wp2
  go_ret
  exact ⟨rfl, rfl⟩

end Go.Proofs.YteddhdbglciahaaGreat

/- What the laws of votes have in common: contracts and plain facts; no statement of the seat is proved here. -/
namespace Go.Proofs.YteddhdbglciahaaGreat
open Go.RowKit

theorem VtO.keep {w w' : World} {S T : Nat → Prop} {v : Value} {P : Int} {xs : List Pp} (h : VtO w S v P xs) (u : Upd T w w') (hT : ∀ k, S k → ¬ T k) : VtO w' S v P xs := by
  obtain ⟨ao, cap, e, hc, h⟩ := h
  exact ⟨ao, cap, e, hc, h.keep u hT⟩
theorem VtO.keepB {w w' : World} {S : Nat → Prop} {v : Value} {P : Int} {xs : List Pp} (h : VtO w S v P xs) (b : Below w.heap.size w w') : VtO w' S v P xs := by
  obtain ⟨ao, cap, e, hc, h⟩ := h
  exact ⟨ao, cap, e, hc, h.keepB b⟩
theorem VtO.mono {w : World} {S T : Nat → Prop} {v : Value} {P : Int} {xs : List Pp} (h : VtO w S v P xs) (hST : ∀ k, k < w.heap.size → S k → T k) : VtO w T v P xs := by
  obtain ⟨ao, cap, e, hc, h⟩ := h
  exact ⟨ao, cap, e, hc, h.mono hST⟩
theorem rowIn {w : World} {e : TypeId} {size : Nat} {S : Nat → Prop} {v : Value} {n : Nat} {cs : List Value} (h : Row w e size S v n cs) : Row w e size (fun k => S k ∧ k < w.heap.size) v n cs := by
  obtain ⟨ao, cap, rfl, hn, hl, h⟩ := h
  refine ⟨ao, cap, rfl, hn, hl, fun hp => ?_⟩
  obtain ⟨g, cur, e, hS, hg, ht⟩ := h hp
  exact ⟨g, cur, e, ⟨hS, heap_lt hg⟩, hg, ht⟩
theorem wdIn {w : World} {S : Nat → Prop} {v : Value} {x : Wd} (h : WdO w S v x) : WdO w (fun k => S k ∧ k < w.heap.size) v x := by
  obtain ⟨po, pc, lo, lc, e, h1, h2⟩ := h
  exact ⟨po, pc, lo, lc, e, rowIn h1, rowIn h2⟩
theorem VtO.inside {w : World} {S : Nat → Prop} {v : Value} {P : Int} {xs : List Pp} (h : VtO w S v P xs) : VtO w (fun k => S k ∧ k < w.heap.size) v P xs := by
  obtain ⟨ao, cap, e, hc, h⟩ := h
  exact ⟨ao, cap, e, hc, rowIn h⟩
/-- What a voter gives, in two boxes; all of it lies between base and top. -/
def VoB (V : World) (base top g h : Nat) (R : Int × List Pp × Wd × Bool) : Prop :=
  ∃ so sc cs lo hi, V.heap[g]? = some (.cells #[.int .i64 R.1, .slice so R.2.1.length sc] 62 (0, 0)) ∧ V.heap[h]? = some (.cells cs 87 (0, 0)) ∧
    VtO V (fun k => lo ≤ k ∧ k < hi) (.agg #[.int .i64 R.1, .slice so R.2.1.length sc]) R.1 R.2.1 ∧ WdO V (fun _ => False) (.agg cs) R.2.2.1 ∧
    base ≤ g ∧ g < top ∧ base ≤ h ∧ h < top ∧ g ≠ h ∧ base ≤ lo ∧ hi ≤ top ∧ ¬ (lo ≤ g ∧ g < hi) ∧ ¬ (lo ≤ h ∧ h < hi)

theorem VoB.keep {V V' : World} {base top g h : Nat} {R : Int × List Pp × Wd × Bool} {T : Nat → Prop} (H : VoB V base top g h R) (u : Upd T V V') (hT : ∀ k, base ≤ k → k < top → ¬ T k) : VoB V' base top g h R := by
  obtain ⟨so, sc, cs, lo, hi, h1, h2, h3, h4, h5, h6, h7, h8, h9, h10, h11, h12, h13⟩ := H
  exact ⟨so, sc, cs, lo, hi, u.keeps h1 (hT g h5 h6), u.keeps h2 (hT h h7 h8), h3.keep u (fun k hk => hT k (by omega) (by omega)), h4.keep u (fun _ h => h.elim), h5, h6, h7, h8, h9, h10, h11, h12, h13⟩
theorem VoB.keepB {V V' : World} {base top g h : Nat} {R : Int × List Pp × Wd × Bool} (H : VoB V base top g h R) (b : Below V.heap.size V V') : VoB V' base top g h R :=
  H.keep (T := fun _ => False) (Upd.ofBelow b) (fun _ _ _ h => h)
theorem VoB.mono {V : World} {base base' top top' g h : Nat} {R : Int × List Pp × Wd × Bool} (H : VoB V base top g h R) (hb : base' ≤ base) (ht : top ≤ top') : VoB V base' top' g h R := by
  obtain ⟨so, sc, cs, lo, hi, h1, h2, h3, h4, h5, h6, h7, h8, h9, h10, h11, h12, h13⟩ := H
  exact ⟨so, sc, cs, lo, hi, h1, h2, h3, h4, by omega, by omega, by omega, by omega, h9, by omega, by omega, h12, h13⟩

end Go.Proofs.YteddhdbglciahaaGreat

/- Rows of elements that hold rows of their own: plain facts; no statement of the seat is proved here. -/
namespace Go.Proofs.YteddhdbglciahaaGreat
open Go.RowKit

/-- What a slice reads whose elements are read by E: each of 'size' cells. -/
def RowE {α : Type} (w : World) (size : Nat) (E : World → Value → α → Prop) (v : Value) (xs : List α) : Prop :=
  ∃ ao cap, v = .slice ao xs.length cap ∧ xs.length ≤ 9223372036854775807 ∧
    (0 < xs.length → ∃ b off, ao = some ⟨b, off, none⟩ ∧ ∀ j x, xs[j]? = some x → ∃ cs : Array Value, cs.size = size ∧ cs.all (·.oneCell') = true ∧ (∀ i u, cs[i]? = some u → w.cell? ⟨b, off + j * size + i, none⟩ = some u) ∧ E w (.agg cs) x)

theorem RowE.keep {α : Type} {w w' : World} {size : Nat} {E : World → Value → α → Prop} (hE : ∀ v x, E w v x → E w' v x) {v : Value} {xs : List α} (h : RowE w size E v xs) (hb : Below w.heap.size w w') : RowE w' size E v xs := by
  obtain ⟨ao, cap, e, hn, h⟩ := h
  refine ⟨ao, cap, e, hn, fun h0 => ?_⟩
  obtain ⟨b, off, e', h⟩ := h h0
  refine ⟨b, off, e', fun j x hj => ?_⟩
  obtain ⟨cs, h1, h2, h3, h4⟩ := h j x hj
  exact ⟨cs, h1, h2, fun i u hi => (hb.cell (p := ⟨b, off + j * size + i, none⟩) (World.block_lt_of_cell? w _ (h3 i u hi))).trans (h3 i u hi), hE _ _ h4⟩
theorem RowE.shape {α : Type} {w : World} {size : Nat} {E : World → Value → α → Prop} {v : Value} {xs : List α} (h : RowE w size E v xs) : ∃ ao cap, v = .slice ao xs.length cap := by
  obtain ⟨ao, cap, e, -⟩ := h
  exact ⟨ao, cap, e⟩
theorem RowE.small {α : Type} {w : World} {size : Nat} {E : World → Value → α → Prop} {v : Value} {xs : List α} (h : RowE w size E v xs) : xs.length ≤ 9223372036854775807 := by
  obtain ⟨ao, cap, e, hn, -⟩ := h
  exact hn
/-- One of the elements. -/
theorem RowE.elem {α : Type} {w : World} {size : Nat} {E : World → Value → α → Prop} {ao : Option Addr} {n cap : Nat} {xs : List α} (h : RowE w size E (.slice ao n cap) xs) {j : Nat} {x : α} (hj : xs[j]? = some x) :
    n = xs.length ∧ ∃ b off, ao = some ⟨b, off, none⟩ ∧ ∃ cs : Array Value, cs.size = size ∧ cs.all (·.oneCell') = true ∧ (∀ i u, cs[i]? = some u → w.cell? ⟨b, off + j * size + i, none⟩ = some u) ∧ E w (.agg cs) x := by
  obtain ⟨ao', cap', e, hn, h⟩ := h
  injection e with e1 e2 e3
  subst e1 e2
  have hlt := (List.getElem?_eq_some_iff.1 hj).1
  obtain ⟨b, off, e', h⟩ := h (by omega)
  exact ⟨rfl, b, off, e', h j x hj⟩
theorem cellsKeep {w w' : World} {b o : Nat} {cs : Array Value} (h : ∀ i u, cs[i]? = some u → w.cell? ⟨b, o + i, none⟩ = some u) (hb : Below w.heap.size w w') : ∀ i u, cs[i]? = some u → w'.cell? ⟨b, o + i, none⟩ = some u :=
  fun i u hi => (hb.cell (p := ⟨b, o + i, none⟩) (World.block_lt_of_cell? w _ (h i u hi))).trans (h i u hi)

/-- A slice in a row of its own, whose elements hold rows of their own, no two the same: all blocks are in S. -/
def RowO {α : Type} (w : World) (e : TypeId) (size : Nat) (S : Nat → Prop) (EO : World → (Nat → Prop) → Value → α → Prop) (v : Value) (xs : List α) : Prop :=
  ∃ ao cap, v = .slice ao xs.length cap ∧ xs.length ≤ 9223372036854775807 ∧
    (0 < xs.length → ∃ g cur, ao = some ⟨g, 0, none⟩ ∧ S g ∧ w.heap[g]? = some (.cells cur e (0, 0)) ∧
      ∃ T : Nat → Nat → Prop, (∀ j b, T j b → S b ∧ b ≠ g) ∧ (∀ i j b, T i b → T j b → i = j) ∧
        ∀ j x, xs[j]? = some x → ∃ cs : Array Value, cs.size = size ∧ cs.all (·.oneCell') = true ∧ (∀ r u, cs[r]? = some u → cur[j * size + r]? = some u) ∧ EO w (T j) (.agg cs) x)
theorem RowO.reads {α : Type} {w : World} {e : TypeId} {size : Nat} {S : Nat → Prop} {EO : World → (Nat → Prop) → Value → α → Prop} {E : World → Value → α → Prop} (hE : ∀ T v x, EO w T v x → E w v x) {v : Value} {xs : List α} (h : RowO w e size S EO v xs) : RowE w size E v xs := by
  obtain ⟨ao, cap, rfl, hn, h⟩ := h
  refine ⟨ao, cap, rfl, hn, fun h0 => ?_⟩
  obtain ⟨g, cur, rfl, -, hg, T, -, -, h⟩ := h h0
  refine ⟨g, 0, rfl, fun j x hj => ?_⟩
  obtain ⟨cs, h1, h2, h3, h4⟩ := h j x hj
  exact ⟨cs, h1, h2, fun i u hi => by rw [Nat.zero_add, boxAt hg]; exact h3 i u hi, hE _ _ _ h4⟩
theorem RowO.keep {α : Type} {w w' : World} {e : TypeId} {size : Nat} {S R : Nat → Prop} {EO : World → (Nat → Prop) → Value → α → Prop} (hE : ∀ T v x, (∀ b, T b → ¬ R b) → EO w T v x → EO w' T v x) {v : Value} {xs : List α} (h : RowO w e size S EO v xs) (u : Upd R w w') (hR : ∀ b, S b → ¬ R b) : RowO w' e size S EO v xs := by
  obtain ⟨ao, cap, rfl, hn, h⟩ := h
  refine ⟨ao, cap, rfl, hn, fun h0 => ?_⟩
  obtain ⟨g, cur, rfl, hS, hg, T, hT, hT2, h⟩ := h h0
  refine ⟨g, cur, rfl, hS, u.keeps hg (hR g hS), T, hT, hT2, fun j x hj => ?_⟩
  obtain ⟨cs, h1, h2, h3, h4⟩ := h j x hj
  exact ⟨cs, h1, h2, h3, hE _ _ _ (fun b hb => hR b (hT j b hb).1) h4⟩
theorem RowO.mono {α : Type} {w : World} {e : TypeId} {size : Nat} {S S' : Nat → Prop} {EO : World → (Nat → Prop) → Value → α → Prop} {v : Value} {xs : List α} (h : RowO w e size S EO v xs) (hS : ∀ b, S b → S' b) : RowO w e size S' EO v xs := by
  obtain ⟨ao, cap, rfl, hn, h⟩ := h
  refine ⟨ao, cap, rfl, hn, fun h0 => ?_⟩
  obtain ⟨g, cur, rfl, hg0, hg, T, hT, hT2, h⟩ := h h0
  exact ⟨g, cur, rfl, hS g hg0, hg, T, fun j b hb => ⟨hS b (hT j b hb).1, (hT j b hb).2⟩, hT2, h⟩
theorem RowO.shape {α : Type} {w : World} {e : TypeId} {size : Nat} {S : Nat → Prop} {EO : World → (Nat → Prop) → Value → α → Prop} {v : Value} {xs : List α} (h : RowO w e size S EO v xs) : ∃ ao cap, v = .slice ao xs.length cap := by
  obtain ⟨ao, cap, e, -⟩ := h
  exact ⟨ao, cap, e⟩
theorem RowO.inside {α : Type} {w : World} {e : TypeId} {size : Nat} {S : Nat → Prop} {EO : World → (Nat → Prop) → Value → α → Prop} (hE : ∀ T v x, EO w T v x → EO w (fun b => T b ∧ b < w.heap.size) v x) {v : Value} {xs : List α} (h : RowO w e size S EO v xs) : RowO w e size (fun b => S b ∧ b < w.heap.size) EO v xs := by
  obtain ⟨ao, cap, rfl, hn, h⟩ := h
  refine ⟨ao, cap, rfl, hn, fun h0 => ?_⟩
  obtain ⟨g, cur, rfl, hg0, hg, T, hT, hT2, h⟩ := h h0
  refine ⟨g, cur, rfl, ⟨hg0, heap_lt hg⟩, hg, fun j b => T j b ∧ b < w.heap.size, fun j b hb => ⟨⟨(hT j b hb.1).1, hb.2⟩, (hT j b hb.1).2⟩, fun i j b h1 h2 => hT2 i j b h1.1 h2.1, fun j x hj => ?_⟩
  obtain ⟨cs, h1, h2, h3, h4⟩ := h j x hj
  exact ⟨cs, h1, h2, h3, hE _ _ _ h4⟩
/-- A row of marks of places that grows by one. -/
def stepB (B : Nat → Nat) (k top : Nat) : Nat → Nat := fun j => if j ≤ k then B j else top
theorem stepB_le {B : Nat → Nat} {k top j : Nat} (h : j ≤ k) : stepB B k top j = B j := by simp [stepB, h]
theorem stepB_gt {B : Nat → Nat} {k top j : Nat} (h : k < j) : stepB B k top j = top := by simp [stepB, show ¬ j ≤ k by omega]
theorem asc_places {B : Nat → Nat} {k : Nat} (h : ∀ j, j < k → B j ≤ B (j + 1)) : ∀ i j, i ≤ j → j ≤ k → B i ≤ B j := by
  intro i j hij
  induction j with
  | zero => intro _; have : i = 0 := by omega
            subst this; exact Nat.le_refl _
  | succ j ih =>
    intro hj
    rcases Nat.lt_or_ge i (j + 1) with h1 | h1
    · exact Nat.le_trans (ih (by omega) (by omega)) (h j (by omega))
    · have : i = j + 1 := by omega
      subst this; exact Nat.le_refl _

end Go.Proofs.YteddhdbglciahaaGreat

/- What the laws' helpers do with rows of SynVoter: contracts; no statement of the seat is proved here. (Written by wip/tools/mkrow.py.) -/
namespace Go.Proofs.YteddhdbglciahaaGreat
open Go.RowKit

def VxR (w : World) (v : Value) (x : Int × List Pp) : Prop := VtR w v x.1 x.2
def VxO (w : World) (S : Nat → Prop) (v : Value) (x : Int × List Pp) : Prop := VtO w S v x.1 x.2
def VxS (x : Int × List Pp) : Prop := x.2.length ≤ 1048576
theorem VxR.keep {w w' : World} {v : Value} {x : Int × List Pp} (h : VxR w v x) (hb : Below w.heap.size w w') : VxR w' v x := VtR.keep h hb
theorem VxO.reads {w : World} {S : Nat → Prop} {v : Value} {x : Int × List Pp} (h : VxO w S v x) : VxR w v x := VtO.reads h
theorem VxO.keep {w w' : World} {S T : Nat → Prop} {v : Value} {x : Int × List Pp} (h : VxO w S v x) (u : Upd T w w') (hT : ∀ k, S k → ¬ T k) : VxO w' S v x := VtO.keep h u hT
theorem VxO.keepB {w w' : World} {S : Nat → Prop} {v : Value} {x : Int × List Pp} (h : VxO w S v x) (b : Below w.heap.size w w') : VxO w' S v x := VtO.keepB h b
theorem VxO.mono {w : World} {S T : Nat → Prop} {v : Value} {x : Int × List Pp} (h : VxO w S v x) (hST : ∀ k, k < w.heap.size → S k → T k) : VxO w T v x := VtO.mono h hST
theorem VxR.agg {w : World} {v : Value} {x : Int × List Pp} (h : VxR w v x) : ∃ cs : Array Value, v = .agg cs ∧ cs.size = 2 ∧ cs.all (·.oneCell') = true := by
  obtain ⟨ao, cap, rfl, -⟩ := h
  exact ⟨_, rfl, rfl, all_of_list rfl⟩
theorem szVx (v : Value) (x : Int × List Pp) (left : Int) (w : World) (h : VxR w v x) (h1 : 0 ≤ left) (h2 : left ≤ 1048576) :
    Calls Tryz.prog 55 #[v, .int .i64 left] w fun e w' => ∃ r, e = .returned (.int .i64 r) ∧ (r < 0 ∨ (0 ≤ r ∧ r ≤ left ∧ VxS x)) ∧ Below w.heap.size w w' := by
  refine (szSynVoter_any v x.1 x.2 left w h h1 h2).mono ?_
  rintro e w' ⟨r, rfl, hr, b⟩
  exact ⟨r, rfl, by rcases hr with hr | ⟨hr, h0⟩; exact .inl hr; exact .inr ⟨h0, by omega, by unfold VxS; omega⟩, b⟩
theorem toVx (v : Value) (x : Int × List Pp) (w : World) (h : VxR w v x) (hs : VxS x) :
    Calls Tryz.prog 62 #[v] w fun e w' => ∃ v', e = .returned v' ∧ VxO w' (fun k => w.heap.size ≤ k) v' x ∧ Below w.heap.size w w' := toSynVoter_any v x.1 x.2 w h hs
theorem eqVx (va vb : Value) (x : Int × List Pp) (w : World) (ha : VxR w va x) (hb : VxR w vb x) :
    Calls Tryz.prog 78 #[va, vb] w fun e w' => e = .returned (.bool true) ∧ Below w.heap.size w w' := eqSynVoter_true va vb x.1 x.2 w ha hb

theorem infoZV : (Tryz.prog.info? 62).map (fun i => (i.zero, i.size, i.bytes)) = some (some (.agg #[.int .i64 0, .slice none 0 0]), 2, 32) := by kernel_rfl

set_option maxRecDepth 100000 in
set_option maxHeartbeats 4000000 in
theorem szSynVoterS_row (v : Value) (xs : List (Int × List Pp)) (left : Int) (w : World) (hr : RowE w 2 VxR v xs) (h1 : 0 ≤ left) (h2 : left ≤ 1048576) :
    Calls Tryz.prog 16 #[v, .int .i64 left] w fun e w' => ∃ r, e = .returned (.int .i64 r) ∧ (r < 0 ∨ (0 ≤ r ∧ r ≤ left ∧ xs.length ≤ 1048576 ∧ ∀ x ∈ xs, VxS x)) ∧ Below w.heap.size w w' := by
  obtain ⟨ao, cap, rfl⟩ := hr.shape
  have hn := hr.small
  have HR := hide hr
  clear hr
  obtain ⟨n, hnn⟩ : ∃ n, xs.length = n := ⟨_, rfl⟩
  have HN := hide hnn
  rw [hnn] at hn ⊢
  clear hnn
  by_cases hneg : left - n < 0
  · go_enter Tryz.func16, Tryz.ntmps16
    go_wp2
    go_ret
    exact ⟨_, rfl, .inl (by omega), Below.refl _ _⟩
  · have hge : ¬ left - n < 0 := hneg
    go_enter Tryz.func16, Tryz.ntmps16
    go_wp2
    go_loopw [1, 5] (fun l i wr => ∃ (k : Nat) (z : Int), k ≤ n ∧ i = .int .i64 k ∧ l = .int .i64 z ∧ 0 ≤ z ∧ z ≤ left - n ∧ (∀ j x, j < k → xs[j]? = some x → VxS x) ∧ Below w.heap.size w wr) (fun _ i _ => n - (intOf i).toNat)
    case atStart => exact ⟨0, left - n, Nat.zero_le _, rfl, rfl, by omega, by omega, fun j x h => by omega, Below.refl _ _⟩
    case round =>
      obtain ⟨k, z, hk, rfl, rfl, hz0, hz1, hsm, hbel⟩ := hrel
      have HS := hide hsm
      clear hsm
      by_cases hlt : k < n
      · obtain ⟨x, hx⟩ := getAt xs k (by rw [HN.out]; exact hlt)
        obtain ⟨-, b1, o1, rfl, cs, hcs, hone, hc, he⟩ := (HR.out.keep (fun v x h => VxR.keep h hbel) hbel).elem hx
        have HX := hide hx
        have F := hide hc
        have GI := hide (infoAt infoLv hcs)
        have hi : (k : Int) < (n : Int) := by omega
        clear hx hc hcs hone
        go_wp2_with (refine wpList_load_at rfl 105 (.tmp 20) rfl b1 (o1 + k * 2) rfl cs _ F.out Tryz.underlying105 rfl GI.out ?_)
        refine (szVx _ x z wr he hz0 (by omega)).mono ?_
        rintro e w1 ⟨r, rfl, hr, b1'⟩
        have c1 := bAll hbel b1'
        rcases hr with hr | ⟨hr0, hr1, hsx⟩
        · go_wp2
          go_ret
          exact ⟨_, rfl, .inl (by omega), c1⟩
        · have hr2 : ¬ r < 0 := by omega
          have HSX := hide hsx
          clear hsx b1' F GI he
          go_wp2
          go_roundw
          case rel =>
            refine ⟨k + 1, r, by omega, by go_num, rfl, hr0, by omega, fun j y hj hy => ?_, c1⟩
            by_cases hjk : j = k
            · subst hjk
              rw [HX.out] at hy
              obtain rfl := Option.some.inj hy
              exact HSX.out
            · exact HS.out j y (by omega) hy
          case measure => simp [intOf]; omega
      · go_wp2
        go_ret
        refine ⟨_, rfl, .inr ⟨hz0, by omega, by omega, fun x hx => ?_⟩, hbel⟩
        obtain ⟨j, hj⟩ := List.getElem?_of_mem hx
        have hj' := (List.getElem?_eq_some_iff.1 hj).1
        exact HS.out j x (by have := HN.out; omega) hj

set_option maxRecDepth 100000 in
set_option maxHeartbeats 4000000 in
theorem eqSynVoterS_row (va vb : Value) (xs : List (Int × List Pp)) (w : World) (ha : RowE w 2 VxR va xs) (hb : RowE w 2 VxR vb xs) :
    Calls Tryz.prog 30 #[va, vb] w fun e w' => e = .returned (.bool true) ∧ Below w.heap.size w w' := by
  obtain ⟨ao, ca, rfl⟩ := ha.shape
  obtain ⟨bo, cb, rfl⟩ := hb.shape
  have hn := ha.small
  have HA := hide ha
  have HB := hide hb
  clear ha hb
  obtain ⟨n, hnn⟩ : ∃ n, xs.length = n := ⟨_, rfl⟩
  have HN := hide hnn
  rw [hnn] at hn HA HB ⊢
  clear hnn
  go_enter Tryz.func30, Tryz.ntmps30
  go_wp2
  go_loopw [5] (fun i wr => ∃ k : Nat, k ≤ n ∧ i = .int .i64 k ∧ Below w.heap.size w wr) (fun i _ => n - (intOf i).toNat)
  case atStart => exact ⟨0, Nat.zero_le _, rfl, Below.refl _ _⟩
  case round =>
    obtain ⟨k, hk, rfl, hbel⟩ := hrel
    by_cases hlt : k < n
    · obtain ⟨x, hx⟩ := getAt xs k (by rw [HN.out]; exact hlt)
      have d1 := bDrewB hbel
      obtain ⟨-, b1, o1, rfl, cs1, hcs1, -, hc1, he1⟩ := (HA.out.keep (fun v x h => VxR.keep h d1) d1).elem hx
      obtain ⟨-, b2, o2, rfl, cs2, hcs2, -, hc2, he2⟩ := (HB.out.keep (fun v x h => VxR.keep h d1) d1).elem hx
      have GI1 := hide (infoAt infoSv2 hcs1)
      have GI2 := hide (infoAt infoSv2 hcs2)
      have K1 := hide hc1
      have K2 := hide hc2
      have hi : (k : Int) < (n : Int) := by omega
      clear hx hc1 hc2 hcs1 hcs2
      go_wp2
      refine wp_region_noPanic ?_
      refine wp_region_held_drew (S := (fun w' => (∀ j u, cs1[j]? = some u → w'.cell? ⟨b1, o1 + k * 2 + j, none⟩ = some u) ∧ (∀ j u, cs2[j]? = some u → w'.cell? ⟨b2, o2 + k * 2 + j, none⟩ = some u))) (by kernel_rfl) ?_ (fun hHeld => ?_)
      · exact ⟨K1.out, K2.out⟩
      refine wpAnyH_take (i := 0) (v := ?v1) rfl (by kernel_rfl) (by kernel_rfl) (by kernel_rfl) (fun _ _ _ h => h) (Or.inl ⟨by rfl, ?hy1⟩) (by assumption) ?rest1
      case hy1 => ((intro w hSw; (try dsimp only at hSw); (try simp only [List.getElem_toArray, List.getElem_cons_zero]); go_simp; first | done | (with_reducible rfl)))
      simp only [Act.put, List.getElem_toArray, List.getElem_cons_zero, List.setIfInBounds_toArray, List.set_cons_zero, List.set_cons_succ]
      refine wpAnyH_take (i := 1) (v := ?v2) rfl (by kernel_rfl) (by kernel_rfl) (by kernel_rfl) (fun _ _ _ h => h) (Or.inl ⟨by rfl, ?hy2⟩) (by assumption) ?rest2
      case hy2 => ((intro w hSw; (try dsimp only at hSw); (try simp only [List.getElem_toArray, List.getElem_cons_zero, List.getElem_cons_succ]); go_simp; first | done | (with_reducible rfl)))
      simp only [Act.put, List.getElem_toArray, List.getElem_cons_zero, List.getElem_cons_succ, List.setIfInBounds_toArray, List.set_cons_zero, List.set_cons_succ]
      refine wpAnyH_take (i := 2) (v := ?v3) rfl (by kernel_rfl) (by kernel_rfl) (by kernel_rfl) (fun _ _ _ h => h) (Or.inl ⟨by rfl, ?hy3⟩) (by assumption) ?rest3
      case hy3 => ((intro w hSw; (try dsimp only at hSw); (try simp only [List.getElem_toArray, List.getElem_cons_zero, List.getElem_cons_succ]); go_simp; first | done | (with_reducible rfl)))
      simp only [Act.put, List.getElem_toArray, List.getElem_cons_zero, List.getElem_cons_succ, List.setIfInBounds_toArray, List.set_cons_zero, List.set_cons_succ]
      refine wpAnyH_take (i := 3) (v := .agg cs1) rfl (by kernel_rfl) (by kernel_rfl) (by kernel_rfl) (fun _ _ _ h => h) (yields_at rfl 62 (.tmp 19) rfl (b1) (o1 + k * 2) rfl cs1 _ (fun _ h => h.1) Tryz.underlying62 rfl GI1.out) (by assumption) ?_
      simp only [Act.put, List.getElem_toArray, List.getElem_cons_zero, List.getElem_cons_succ, List.setIfInBounds_toArray, List.set_cons_zero, List.set_cons_succ]
      refine wpAnyH_take (i := 4) (v := ?v4) rfl (by kernel_rfl) (by kernel_rfl) (by kernel_rfl) (fun _ _ _ h => h) (Or.inl ⟨by rfl, ?hy4⟩) (by assumption) ?rest4
      case hy4 => ((intro w hSw; (try dsimp only at hSw); (try simp only [List.getElem_toArray, List.getElem_cons_zero, List.getElem_cons_succ]); go_simp; first | done | (with_reducible rfl)))
      simp only [Act.put, List.getElem_toArray, List.getElem_cons_zero, List.getElem_cons_succ, List.setIfInBounds_toArray, List.set_cons_zero, List.set_cons_succ]
      refine wpAnyH_take (i := 5) (v := ?v5) rfl (by kernel_rfl) (by kernel_rfl) (by kernel_rfl) (fun _ _ _ h => h) (Or.inl ⟨by rfl, ?hy5⟩) (by assumption) ?rest5
      case hy5 => ((intro w hSw; (try dsimp only at hSw); (try simp only [List.getElem_toArray, List.getElem_cons_zero, List.getElem_cons_succ]); go_simp; first | done | (with_reducible rfl)))
      simp only [Act.put, List.getElem_toArray, List.getElem_cons_zero, List.getElem_cons_succ, List.setIfInBounds_toArray, List.set_cons_zero, List.set_cons_succ]
      refine wpAnyH_take (i := 6) (v := ?v6) rfl (by kernel_rfl) (by kernel_rfl) (by kernel_rfl) (fun _ _ _ h => h) (Or.inl ⟨by rfl, ?hy6⟩) (by assumption) ?rest6
      case hy6 => ((intro w hSw; (try dsimp only at hSw); (try simp only [List.getElem_toArray, List.getElem_cons_zero, List.getElem_cons_succ]); go_simp; first | done | (with_reducible rfl)))
      simp only [Act.put, List.getElem_toArray, List.getElem_cons_zero, List.getElem_cons_succ, List.setIfInBounds_toArray, List.set_cons_zero, List.set_cons_succ]
      refine wpAnyH_take (i := 7) (v := .agg cs2) rfl (by kernel_rfl) (by kernel_rfl) (by kernel_rfl) (fun _ _ _ h => h) (yields_at rfl 62 (.tmp 23) rfl (b2) (o2 + k * 2) rfl cs2 _ (fun _ h => h.2) Tryz.underlying62 rfl GI2.out) (by assumption) ?_
      simp only [Act.put, List.getElem_toArray, List.getElem_cons_zero, List.getElem_cons_succ, List.setIfInBounds_toArray, List.set_cons_zero, List.set_cons_succ]
      refine wpAnyH_ready (rs := [8]) (by kernel_rfl) (by simp) ?_
      refine AllReadyH.cons rfl (fun K hK => ?_) AllReadyH.nil
      go_simp
      (go_at_call 78; refine (eqVx _ _ x _ he1 he2).mono ?_; rintro e w1 ⟨rfl, b1'⟩; have c1 := bAll d1 b1')
      refine hK.out _ _ ?_ (fun hHeld => ?_)
      · exact ⟨cellsKeep K1.out b1', cellsKeep K2.out b1'⟩
      clear hK K
      refine wpAnyH_take (i := 9) (v := ?v7) rfl (by kernel_rfl) (by kernel_rfl) (by kernel_rfl) (fun _ _ _ h => h) (Or.inl ⟨by rfl, ?hy7⟩) (by assumption) ?rest7
      case hy7 => ((intro w hSw; (try dsimp only at hSw); (try simp only [List.getElem_toArray, List.getElem_cons_zero, List.getElem_cons_succ]); go_simp; first | done | (with_reducible rfl)))
      simp only [Act.put, List.getElem_toArray, List.getElem_cons_zero, List.getElem_cons_succ, List.setIfInBounds_toArray, List.set_cons_zero, List.set_cons_succ]
      refine wpAnyH_done (by kernel_rfl) ?_ _
      refine NoPanic.normal ?_
      clear hHeld
      go_wp2
      go_roundw
      case rel => exact ⟨k + 1, by omega, by go_num, c1⟩
      case measure => simp [intOf]; omega
    · go_wp2
      go_ret
      exact ⟨rfl, hbel⟩
theorem updRow0V (w : World) (g : Nat) (cs : Array Value) : Upd (fun j => j = g) w (w.setRow g cs) := ⟨rfl, rfl, rfl, by simp, fun _ _ h => setRow_other _ _ _ _ h⟩

set_option maxRecDepth 100000 in
set_option maxHeartbeats 4000000 in
theorem toSynVoterS_row (v : Value) (xs : List (Int × List Pp)) (w : World) (hr : RowE w 2 VxR v xs) (hn : xs.length ≤ 1048576) (hs : ∀ x ∈ xs, VxS x) :
    Calls Tryz.prog 23 #[v] w fun e w' => ∃ v', e = .returned v' ∧ RowO w' 62 2 (fun b => w.heap.size ≤ b) VxO v' xs ∧ Below w.heap.size w w' := by
  obtain ⟨ao, cap, rfl⟩ := hr.shape
  have HR := hide hr
  have HS := hide hs
  clear hr hs
  obtain ⟨n, hnn⟩ : ∃ n, xs.length = n := ⟨_, rfl⟩
  have HN := hide hnn
  rw [hnn] at hn HR ⊢
  clear hnn
  have hmk := run_make_row2 (P := Tryz.prog) 34 62 (.agg #[.int .i64 0, .slice none 0 0]) 2 32 Tryz.underlying34 infoZV .i64 .i64 n (by omega) (by omega)
  go_enter Tryz.func23, Tryz.ntmps23
  go_wp2
  clear hmk
  go_loopw [4] (fun i wr => ∃ (k : Nat) (cur : Array Value) (B : Nat → Nat), k ≤ n ∧ i = .int .i64 k ∧ wr.heap[w.heap.size]? = some (.cells cur 62 (0, 0)) ∧ cur.size = n * 2 ∧ (∀ j x, j < k → xs[j]? = some x → ∃ cs : Array Value, cs.size = 2 ∧ cs.all (·.oneCell') = true ∧ (∀ r u, cs[r]? = some u → cur[j * 2 + r]? = some u) ∧ VxO wr (fun b => B j ≤ b ∧ b < B (j + 1)) (.agg cs) x) ∧ (∀ j, j < k → B j ≤ B (j + 1)) ∧ w.heap.size < B 0 ∧ B k ≤ wr.heap.size ∧ Below w.heap.size w wr) (fun i _ => n - (intOf i).toNat)
  case atStart => exact ⟨0, _, fun _ => w.heap.size + 1, Nat.zero_le _, rfl, heap_alloc_new w _, size_madeCells _ _, fun j s hj => by omega, fun j hj => by omega, Nat.lt_succ_self _, by simp, (Below.refl _ _).alloc (Nat.le_refl _) _⟩
  case round =>
    obtain ⟨k, cur, B, hk, rfl, hg, hcs, hmk, hB, hB0, hBk, hbel⟩ := hrel
    have HB := hide hB
    clear hB
    have HM := hide hmk
    have HC := hide hcs
    clear hmk hcs
    by_cases hlt : k < n
    · obtain ⟨x, hx⟩ := getAt xs k (by rw [HN.out]; exact hlt)
      obtain ⟨-, b1, o1, rfl, cs, hcs, hone, hc, he⟩ := (HR.out.keep (fun v x h => VxR.keep h hbel) hbel).elem hx
      have HX := hide hx
      have F := hide hc
      have GI := hide (infoAt infoLv hcs)
      have hi : (k : Int) < (n : Int) := by omega
      have Hg := hide hg
      have zg := heap_lt hg
      have cT := toVx _ x wr he (HS.out x (List.mem_of_getElem? hx))
      clear hx hc hcs hone hg he
      go_wp2_with (refine wpList_load_at rfl 105 (.tmp 18) rfl b1 (o1 + k * 2) rfl cs _ F.out Tryz.underlying105 rfl GI.out ?_)
      refine cT.mono ?_
      rintro e w1 ⟨v1, rfl, hv1, hb1⟩
      obtain ⟨ds, rfl, hds, hd1⟩ := VxR.agg (VxO.reads hv1)
      have hk3 : k * 2 + ds.size ≤ cur.size := by rw [HC.out, hds]; omega
      have HK3 := hide hk3
      have GD := hide (infoAt infoSv2 hds)
      have HD1 := hide hd1
      have HDS := hide hds
      have Hg1 := hide (bKeeps hb1 Hg.out)
      have HV := hide hv1
      clear hk3 hds hd1 hv1 cT
      go_wp2_with (refine wpList_store_at rfl 62 (.tmp 21) (.tmp 20) rfl w.heap.size (k * 2) ds rfl rfl _ _ Hg1.out GD.out HK3.out HD1.out ?_)
      have us := updRow0V w1 w.heap.size (putAt cur (k * 2) ds)
      have c1 := bAll hbel hb1
      have z1 := hb1.size
      have zs := us.size
      go_roundw
      case rel =>
        refine ⟨k + 1, _, stepB B k w1.heap.size, by omega, by go_num, setRow_heap _ _ _ _ _ _ Hg1.out, by rw [putAt_size HK3.out]; exact HC.out, fun j y hj hy => ?_, fun j hj => ?_, by rw [stepB_le (Nat.zero_le _)]; exact hB0, by rw [stepB_gt (Nat.lt_succ_self _)]; exact zs, c1.trans (us.below c1.size (fun k h => by omega))⟩
        · by_cases hjk : j = k
          · subst hjk
            rw [HX.out] at hy
            obtain rfl := Option.some.inj hy
            rw [stepB_le (Nat.le_refl _), stepB_gt (Nat.lt_succ_self _)]
            have hb0 := asc_places HB.out 0 j (Nat.zero_le _) (Nat.le_refl _)
            exact ⟨ds, HDS.out, HD1.out, fun r u hr => putAt_in HK3.out hr, (HV.out.mono (fun b hlt h => ⟨Nat.le_trans hBk h, hlt⟩)).keep us (fun b h1 h2 => by omega)⟩
          · obtain ⟨cs', q1, q2, q3, q4⟩ := HM.out j y (by omega) hy
            rw [stepB_le (show j ≤ k by omega), stepB_le (show j + 1 ≤ k by omega)]
            have hb0 := asc_places HB.out 0 j (Nat.zero_le _) (by omega)
            refine ⟨cs', q1, q2, fun r u hr => ?_, ((VxO.keepB q4 hb1)).keep us (fun b h1 h2 => by omega)⟩
            have hrl : r < 2 := by have := (Array.getElem?_eq_some_iff.1 hr).1; omega
            rw [putAt_out HK3.out (by rw [HDS.out]; omega)]
            exact q3 r u hr
        · rcases Nat.lt_or_ge j k with h | h
          · rw [stepB_le (show j ≤ k by omega), stepB_le (show j + 1 ≤ k by omega)]
            exact HB.out j h
          · have e : j = k := by omega
            subst e
            rw [stepB_le (Nat.le_refl _), stepB_gt (Nat.lt_succ_self _)]
            omega
      case measure => simp [intOf]; omega
    · go_wp2
      go_ret
      obtain rfl : k = n := by omega
      refine ⟨_, rfl, ⟨_, _, congrArg (fun q => Value.slice (some ⟨w.heap.size, 0, none⟩) q k) HN.out.symm, by have := HN.out; omega, fun _ => ⟨_, cur, rfl, Nat.le_refl _, hg, fun j b => j < k ∧ B j ≤ b ∧ b < B (j + 1), fun j b hb => ?_, fun i j b hi hj => ?_, fun j x hx => ?_⟩⟩, hbel⟩
      · have := asc_places HB.out 0 j (Nat.zero_le _) (by omega)
        omega
      · rcases Nat.lt_trichotomy i j with h | h | h
        · have := asc_places HB.out (i + 1) j (by omega) (by omega)
          omega
        · exact h
        · have := asc_places HB.out (j + 1) i (by omega) (by omega)
          omega
      have hj := (List.getElem?_eq_some_iff.1 hx).1
      obtain ⟨cs, q1, q2, q3, q4⟩ := HM.out j x (by have := HN.out; omega) hx
      exact ⟨cs, q1, q2, q3, VxO.mono q4 (fun b _ h => ⟨by have := HN.out; omega, h⟩)⟩

end Go.Proofs.YteddhdbglciahaaGreat

/- Commands and papers held against nothing: laws of one program; no statement of the seat is proved here. -/
namespace Go.Proofs.YteddhdbglciahaaGreat
open Go.RowKit

/-- A command that is nothing. -/
def isZ (x : Wd) : Bool := x.c0 == 0 && (x.c1 == 0 && (x.c2 == 0 && (x.c3 == 0 && (x.c4 == 0 && (x.c5 == 0 && (x.c6 == 0 && (x.c7 == 0 && (x.c8 == 0 && x.c9 == 0))))))))
/-- A paper that is nothing. -/
def isZP (p : Pp) : Bool := p.1 == 0 && (p.2.1 == 0 && isZ p.2.2)

set_option maxRecDepth 10000 in
theorem eqlCmd (d : Nat) (x : Wd) (w : World) : (Op.equalIn (d + 1 + 1) 31 (.agg #[.int .i64 x.c0, .int .i64 x.c1, .int .i64 x.c2, .int .i64 x.c3, .int .i64 x.c4, .int .i64 x.c5, .int .i64 x.c6, .int .i64 x.c7, .int .i64 x.c8, .int .i64 x.c9]) (.agg #[.int .i64 0, .int .i64 0, .int .i64 0, .int .i64 0, .int .i64 0, .int .i64 0, .int .i64 0, .int .i64 0, .int .i64 0, .int .i64 0])).run Tryz.prog w = .ok (isZ x) w := by
  have u3 := Tryz.underlying3
  have a3 := Tryz.isAgg3
  have z3 := Tryz.sizeOf3
  have hS : Tryz.prog.underlying 31 = some (.struct (Tryz.prog.fieldsOf 31)) := by kernel_rfl
  rw [run_equalIn_agg w (d + 1) 31 _ _ hS (by kernel_rfl)]
  simp only [Program.fieldsOf, Tryz.underlying31 ]
  go_simp
  unfold isZ
  clear u3 a3 z3 hS
  repeat' split
  all_goals simp [*]

theorem eqlCmd0 (x : Wd) (w : World) : (binOp .eql 31 (.agg #[.int .i64 x.c0, .int .i64 x.c1, .int .i64 x.c2, .int .i64 x.c3, .int .i64 x.c4, .int .i64 x.c5, .int .i64 x.c6, .int .i64 x.c7, .int .i64 x.c8, .int .i64 x.c9]) (.agg #[.int .i64 0, .int .i64 0, .int .i64 0, .int .i64 0, .int .i64 0, .int .i64 0, .int .i64 0, .int .i64 0, .int .i64 0, .int .i64 0])).run Tryz.prog w = .ok (.bool (isZ x)) w := by
  rw [run_eql_struct, show (10000 : Nat) = 9998 + 1 + 1 from rfl, eqlCmd]
  rfl

theorem ifB {a : Int} {c : Bool} (w : World) (R : Result Value) (h : R = .ok (.bool c) w) : (if a = 0 then R else .ok (.bool false) w) = .ok (.bool (a == 0 && c)) w := by
  by_cases ha : a = 0
  · rw [if_pos ha, h, ha]
    rfl
  · rw [if_neg ha, show (a == 0) = false by simpa using ha]
    rfl

set_option maxRecDepth 10000 in
theorem eqlPaper0 (s b : Int) (x : Wd) (w : World) : (binOp .eql 64 (.agg (#[.int .i64 s, .int .i64 b, .int .i64 x.c0, .int .i64 x.c1, .int .i64 x.c2, .int .i64 x.c3, .int .i64 x.c4, .int .i64 x.c5, .int .i64 x.c6, .int .i64 x.c7, .int .i64 x.c8, .int .i64 x.c9] : Array Value)) (.agg #[.int .i64 0, .int .i64 0, .int .i64 0, .int .i64 0, .int .i64 0, .int .i64 0, .int .i64 0, .int .i64 0, .int .i64 0, .int .i64 0, .int .i64 0, .int .i64 0])).run Tryz.prog w = .ok (.bool (isZP (s, b, x))) w := by
  have u3 := Tryz.underlying3
  have a3 := Tryz.isAgg3
  have z3 := Tryz.sizeOf3
  have hS : Tryz.prog.underlying 64 = some (.struct (Tryz.prog.fieldsOf 64)) := by kernel_rfl
  rw [run_eql_struct, show (10000 : Nat) = 9999 + 1 from rfl, run_equalIn_agg w 9999 64 _ _ hS (by kernel_rfl)]
  simp only [Program.fieldsOf, Tryz.underlying64 ]
  go_simp
  unfold isZP isZ
  clear u3 a3 z3 hS
  iterate 11 refine ifB w _ ?_
  by_cases h : x.c9 = 0 <;> simp [h]

theorem guardCmd (w : World) (x y : Operand) (xs ys : Array Value) : (eqGuard .eql 31 x y (.agg xs) (.agg ys)).run Tryz.prog w = .ok () w := run_eqGuard_agg w _ _ _ _ _ _ (by kernel_rfl)
theorem guardPaper (w : World) (x y : Operand) (xs ys : Array Value) : (eqGuard .eql 64 x y (.agg xs) (.agg ys)).run Tryz.prog w = .ok () w := run_eqGuard_agg w _ _ _ _ _ _ (by kernel_rfl)

end Go.Proofs.YteddhdbglciahaaGreat

/- What the laws' own helpers do with numbers: contracts; no statement of the seat is proved here. -/
namespace Go.Proofs.YteddhdbglciahaaGreat
open Go.RowKit

theorem infoInt : (Tryz.prog.info? 3).map (fun i => (i.zero, i.size, i.bytes)) = some (some (.int .i64 0), 1, 8) := by kernel_rfl

set_option maxHeartbeats 1000000 in
theorem toIntS_any (v : Value) (n : Nat) (ss : List Int) (w : World) (hr : RowR w 1 v n (ss.map (Value.int .i64))) (hn : n ≤ 1048576) :
    Calls Tryz.prog 24 #[v] w fun e w' => ∃ v', e = .returned v' ∧ Row w' 3 1 (fun k => w.heap.size ≤ k) v' n (ss.map (Value.int .i64)) ∧ Below w.heap.size w w' := by
  obtain ⟨ao, cap, rfl, hn', hl, hr⟩ := hr
  simp only [List.length_map, Nat.mul_one] at hl
  have Hl := hide hl
  clear hl
  have hmk := run_make_row' (P := Tryz.prog) 23 3 (.int .i64 0) 8 Tryz.underlying23 infoInt rfl .i64 .i64 n (by omega) (by omega)
  go_enter Tryz.func24, Tryz.ntmps24
  go_wp2
  clear hmk
  go_loopw [4] (fun i wr => ∃ (k : Nat) (cur : Array Value), k ≤ n ∧ i = .int .i64 k ∧ wr.heap[w.heap.size]? = some (.cells cur 3 (0, 0)) ∧ cur.size = n ∧ (∀ j s, j < k → ss[j]? = some s → cur[j]? = some (.int .i64 s)) ∧ Below w.heap.size w wr) (fun i _ => n - (intOf i).toNat)
  case atStart => exact ⟨0, _, Nat.zero_le _, rfl, heap_alloc_new w _, size_madeCells _ _, fun j s hj => by omega, (Below.refl _ _).alloc (Nat.le_refl _) _⟩
  case round =>
    obtain ⟨k, cur, hk, rfl, hg, hcs, hmk, hbel⟩ := hrel
    have HM := hide hmk
    have HC := hide hcs
    have hcs' : n ≤ cur.size := by omega
    clear hmk hcs
    by_cases hlt : k < n
    · obtain ⟨b1, o1, rfl, hc1⟩ := hr (by omega)
      obtain ⟨s, hs⟩ := getAt ss k (by have := Hl.out; omega)
      have Hs := hide hs
      have g1 := hc1 k (.int .i64 s) (by simp [hs])
      have f1 : wr.cell? ⟨b1, o1 + k, none⟩ = some (.int .i64 s) := (hbel.cell (p := ⟨b1, o1 + k, none⟩) (World.block_lt_of_cell? w _ g1)).trans g1
      have hi : (k : Int) < (n : Int) := by omega
      obtain ⟨u, hu⟩ : ∃ u, cur[k]? = some u := ⟨cur[k]'(by omega), by simp [show k < cur.size by omega]⟩
      have hcw : wr.cell? ⟨w.heap.size, k, none⟩ = some u := (cell_of_row wr _ k cur _ (0, 0) hg).trans hu
      have hfw : wr.frozen? ⟨w.heap.size, k, none⟩ = false := frozen_of_row wr _ k cur _ hg
      have Hg := hide hg
      clear hr hc1 g1 hs hg
      go_wp2
      go_roundw
      case rel =>
        refine ⟨k + 1, _, by omega, by go_num, row_set _ Hg.out, by simpa using HC.out, fun j t hj ht => ?_, hbel.setCell (p := ⟨w.heap.size, k, none⟩) (Nat.le_refl _) _⟩
        by_cases hjk : j = k
        · subst hjk
          rw [Hs.out] at ht
          rw [Array.getElem?_setIfInBounds_self_of_lt (by omega)]
          rw [Option.some.inj ht]
        · rw [Array.getElem?_setIfInBounds_ne (by omega)]
          exact HM.out j t (by omega) ht
      case measure => simp [intOf]; omega
    · go_wp2
      go_ret
      obtain rfl : k = n := by omega
      refine ⟨_, rfl, ⟨_, _, rfl, hn', by simp [Hl.out], fun _ => ⟨_, cur, rfl, Nat.le_refl _, hg, ?_⟩⟩, hbel⟩
      apply List.ext_getElem?
      intro j
      have hl := Hl.out
      by_cases hj : j < k
      · rw [List.getElem?_take_of_lt (by omega)]
        obtain ⟨s, hs⟩ := getAt ss j (by omega)
        simpa [hs] using HM.out j s hj hs
      · rw [List.getElem?_eq_none (by simp; omega), List.getElem?_eq_none (by simp; omega)]

set_option maxHeartbeats 400000 in
theorem eqIntS_true (va vb : Value) (n : Nat) (ss : List Int) (w : World) (ha : RowR w 1 va n (ss.map (Value.int .i64))) (hb : RowR w 1 vb n (ss.map (Value.int .i64))) :
    Calls Tryz.prog 31 #[va, vb] w fun e w' => e = .returned (.bool true) ∧ Below w.heap.size w w' := by
  obtain ⟨ao, ca, rfl, hn, hl, ha⟩ := ha
  obtain ⟨bo, cb, rfl, _, _, hb⟩ := hb
  go_enter Tryz.func31, Tryz.ntmps31
  go_wp2
  go_loopw [5] (fun i wr => ∃ k : Nat, k ≤ n ∧ i = .int .i64 k ∧ Below w.heap.size w wr) (fun i _ => n - (intOf i).toNat)
  case atStart => exact ⟨0, Nat.zero_le _, rfl, Below.refl _ _⟩
  case round =>
    obtain ⟨k, hk, rfl, hbel⟩ := hrel
    by_cases hlt : k < n
    · obtain ⟨b1, o1, rfl, hc1⟩ := ha (by omega)
      obtain ⟨b2, o2, rfl, hc2⟩ := hb (by omega)
      obtain ⟨s, hs⟩ : ∃ s, (ss.map (Value.int .i64))[k]? = some (.int .i64 s) := by
        simp only [List.length_map, Nat.mul_one] at hl
        exact ⟨ss[k]'(by omega), by simp [show k < ss.length by omega]⟩
      have g1 := hc1 k _ hs
      have g2 := hc2 k _ hs
      have f1 : wr.cell? ⟨b1, o1 + k, none⟩ = some (.int .i64 s) := (hbel.cell (p := ⟨b1, o1 + k, none⟩) (World.block_lt_of_cell? w _ g1)).trans g1
      have f2 : wr.cell? ⟨b2, o2 + k, none⟩ = some (.int .i64 s) := (hbel.cell (p := ⟨b2, o2 + k, none⟩) (World.block_lt_of_cell? w _ g2)).trans g2
      have hi : (k : Int) < (n : Int) := by omega
      clear ha hb hc1 hc2 hs g1 g2 hl
      go_wp2
      go_quiet (fail)
      go_wp2
      go_roundw
      case rel => exact ⟨k + 1, by omega, by go_num, below_drewN hbel _⟩
      case measure => simp [intOf]; omega
    · go_wp2
      go_ret
      exact ⟨rfl, hbel⟩

end Go.Proofs.YteddhdbglciahaaGreat

/- Seekers: what they read, and what the laws' own helpers do with them: contracts; no statement of the seat is proved here. -/
namespace Go.Proofs.YteddhdbglciahaaGreat
open Go.RowKit

/-- A seeker: slot, ballot, phase, its own command (that of a word), the best paper, who said yes. -/
structure Sk where
  s : Int
  b : Int
  ph : Int
  m : Wd
  p : Pp
  ys : List Int
def skarr (k : Sk) (y : Value) : Array Value := (#[.int .i64 k.s, .int .i64 k.b, .int .i64 k.ph, .int .i64 k.m.c0, .int .i64 k.m.c1, .int .i64 k.m.c2, .int .i64 k.m.c3, .int .i64 k.m.c4, .int .i64 k.m.c5, .int .i64 k.m.c6, .int .i64 k.m.c7, .int .i64 k.m.c8, .int .i64 k.m.c9, .int .i64 k.p.1, .int .i64 k.p.2.1, .int .i64 k.p.2.2.c0, .int .i64 k.p.2.2.c1, .int .i64 k.p.2.2.c2, .int .i64 k.p.2.2.c3, .int .i64 k.p.2.2.c4, .int .i64 k.p.2.2.c5, .int .i64 k.p.2.2.c6, .int .i64 k.p.2.2.c7, .int .i64 k.p.2.2.c8, .int .i64 k.p.2.2.c9, y] : Array Value)
def ints (xs : List Int) : List Value := xs.map (Value.int .i64)
/-- What a seeker reads. -/
def SkR (w : World) (v : Value) (k : Sk) : Prop := ∃ yo yc, v = .agg (skarr k (.slice yo k.ys.length yc)) ∧ RowR w 1 (.slice yo k.ys.length yc) k.ys.length (ints k.ys)
def SkO (w : World) (S : Nat → Prop) (v : Value) (k : Sk) : Prop := ∃ yo yc, v = .agg (skarr k (.slice yo k.ys.length yc)) ∧ Row w 3 1 S (.slice yo k.ys.length yc) k.ys.length (ints k.ys)
theorem SkR.keep {w w' : World} {v : Value} {k : Sk} (h : SkR w v k) (hb : Below w.heap.size w w') : SkR w' v k := by
  obtain ⟨yo, yc, e, h⟩ := h
  exact ⟨yo, yc, e, h.keep hb⟩
theorem SkO.reads {w : World} {S : Nat → Prop} {v : Value} {k : Sk} (h : SkO w S v k) : SkR w v k := by
  obtain ⟨yo, yc, e, h⟩ := h
  exact ⟨yo, yc, e, h.reads⟩
theorem SkO.keep {w w' : World} {S T : Nat → Prop} {v : Value} {k : Sk} (h : SkO w S v k) (u : Upd T w w') (hT : ∀ j, S j → ¬ T j) : SkO w' S v k := by
  obtain ⟨yo, yc, e, h⟩ := h
  exact ⟨yo, yc, e, h.keep u hT⟩
theorem SkO.keepB {w w' : World} {S : Nat → Prop} {v : Value} {k : Sk} (h : SkO w S v k) (b : Below w.heap.size w w') : SkO w' S v k := by
  obtain ⟨yo, yc, e, h⟩ := h
  exact ⟨yo, yc, e, h.keepB b⟩
theorem SkO.mono {w : World} {S T : Nat → Prop} {v : Value} {k : Sk} (h : SkO w S v k) (hST : ∀ j, j < w.heap.size → S j → T j) : SkO w T v k := by
  obtain ⟨yo, yc, e, h⟩ := h
  exact ⟨yo, yc, e, h.mono hST⟩
theorem skarr_one (k : Sk) (yo : Option Addr) (n yc : Nat) : (skarr k (.slice yo n yc)).all (·.oneCell') = true := all_of_list rfl
theorem infoSk : (Tryz.prog.info? 80).map (·.size) = some 26 := by kernel_rfl
theorem infoLk : (Tryz.prog.info? 110).map (·.size) = some 26 := by kernel_rfl

/-- The cells of a seeker in a block. -/
theorem sk_cells {V : World} {g : Nat} {k : Sk} {y : Value} {t : TypeId} (h : V.heap[g]? = some (.cells (skarr k y) t (0, 0))) :
    V.cell? ⟨g, 0, none⟩ = some (.int .i64 k.s) ∧ V.cell? ⟨g, 1, none⟩ = some (.int .i64 k.b) ∧ V.cell? ⟨g, 2, none⟩ = some (.int .i64 k.ph) ∧ (∀ j z, (#[.int .i64 k.m.c0, .int .i64 k.m.c1, .int .i64 k.m.c2, .int .i64 k.m.c3, .int .i64 k.m.c4, .int .i64 k.m.c5, .int .i64 k.m.c6, .int .i64 k.m.c7, .int .i64 k.m.c8, .int .i64 k.m.c9] : Array Value)[j]? = some z → V.cell? ⟨g, 3 + j, none⟩ = some z) ∧
    (∀ j z, (pparr k.p)[j]? = some z → V.cell? ⟨g, 13 + j, none⟩ = some z) ∧ V.cell? ⟨g, 13, none⟩ = some (.int .i64 k.p.1) ∧ V.cell? ⟨g, 14, none⟩ = some (.int .i64 k.p.2.1) ∧ V.cell? ⟨g, 25, none⟩ = some y := by
  refine ⟨boxAt h 0, boxAt h 1, boxAt h 2, fun j z hj => ?_, fun j z hj => ?_, boxAt h 13, boxAt h 14, boxAt h 25⟩
  · have hj' : j < 10 := (Array.getElem?_eq_some_iff.1 hj).1
    refine (boxAt h (3 + j)).trans ?_
    rcases (by omega : j = 0 ∨ j = 1 ∨ j = 2 ∨ j = 3 ∨ j = 4 ∨ j = 5 ∨ j = 6 ∨ j = 7 ∨ j = 8 ∨ j = 9) with rfl | rfl | rfl | rfl | rfl | rfl | rfl | rfl | rfl | rfl <;> exact hj
  · have hj' : j < 12 := (Array.getElem?_eq_some_iff.1 hj).1
    refine (boxAt h (13 + j)).trans ?_
    rcases (by omega : j = 0 ∨ j = 1 ∨ j = 2 ∨ j = 3 ∨ j = 4 ∨ j = 5 ∨ j = 6 ∨ j = 7 ∨ j = 8 ∨ j = 9 ∨ j = 10 ∨ j = 11) with rfl | rfl | rfl | rfl | rfl | rfl | rfl | rfl | rfl | rfl | rfl | rfl <;> exact hj

set_option maxHeartbeats 400000 in
theorem szIntS_any (so : Option Addr) (n sc : Nat) (left : Int) (w : World) (hn : n ≤ 9223372036854775807) (h1 : 0 ≤ left) (h2 : left ≤ 1048576) :
    Calls Tryz.prog 17 #[.slice so n sc, .int .i64 left] w fun e w' => ∃ r, e = .returned (.int .i64 r) ∧ Sized left r n ∧ Below w.heap.size w w' := by
  by_cases hneg : left - n < 0
  · go_enter Tryz.func17, Tryz.ntmps17
    go_wp2
    go_ret
    exact ⟨_, rfl, .inl (by omega), Below.refl _ _⟩
  · have hge : 0 ≤ left - n := by omega
    clear hneg
    go_enter Tryz.func17, Tryz.ntmps17
    go_wp2
    go_ret
    exact ⟨_, rfl, .inr ⟨rfl, hge⟩, Below.refl _ _⟩

set_option maxRecDepth 100000 in
theorem szSynSeeker_any (v : Value) (k : Sk) (left : Int) (w : World) (h : SkR w v k) (h1 : 0 ≤ left) (h2 : left ≤ 1048576) :
    Calls Tryz.prog 56 #[v, .int .i64 left] w fun e w' => ∃ r, e = .returned (.int .i64 r) ∧ Sized left r k.ys.length ∧ Below w.heap.size w w' := by
  obtain ⟨yo, yc, rfl, hr⟩ := h
  have hn : k.ys.length ≤ 9223372036854775807 := by obtain ⟨_, _, _, h, _⟩ := hr; exact h
  have al := bal (Below.refl w.heap.size w) (.cells (skarr k (.slice yo k.ys.length yc)) 110)
  have B0 := hide (heap_alloc_new w (.cells (skarr k (.slice yo k.ys.length yc)) 110))
  go_enter Tryz.func56, Tryz.ntmps56
  go_upto_region 1 with fail
  generalize World.alloc _ _ = W at al B0 ⊢
  have g := (sk_cells B0.out).2.2.2.2.2.2.2
  go_wp2_with fail
  refine (szIntS_any _ _ _ left _ hn h1 h2).mono ?_
  rintro e w1 ⟨r, rfl, hs, b1⟩
  rcases hs with hneg | ⟨hr2, hp⟩
  · go_wp2
    go_ret
    exact ⟨_, rfl, .inl (by omega), bAll al b1⟩
  · have hge : ¬ r < 0 := by omega
    have HR2 := hide hr2
    clear hr2
    go_wp2
    go_ret
    exact ⟨_, rfl, .inr ⟨by have := HR2.out; omega, by omega⟩, bAll al b1⟩

set_option maxRecDepth 100000 in
set_option maxHeartbeats 4000000 in
theorem eqSynSeeker_true (va vb : Value) (k : Sk) (w : World) (ha : SkR w va k) (hb : SkR w vb k) :
    Calls Tryz.prog 79 #[va, vb] w fun e w' => e = .returned (.bool true) ∧ Below w.heap.size w w' := by
  obtain ⟨ao, ca, rfl, ha⟩ := ha
  obtain ⟨bo, cb, rfl, hb⟩ := hb
  have al := bal (bal (Below.refl w.heap.size w) (.cells (skarr k (.slice ao k.ys.length ca)) 80)) (.cells (skarr k (.slice bo k.ys.length cb)) 80)
  have A0 := hide (al2_0 w (.cells (skarr k (.slice ao k.ys.length ca)) 80) (.cells (skarr k (.slice bo k.ys.length cb)) 80))
  have B0 := hide (al2_1 w (.cells (skarr k (.slice ao k.ys.length ca)) 80) (.cells (skarr k (.slice bo k.ys.length cb)) 80))
  have HA := hide (ha.keep al)
  have HB := hide (hb.keep al)
  clear ha hb
  go_enter Tryz.func79, Tryz.ntmps79
  go_upto_region 1 with fail
  generalize World.alloc _ _ = W at al A0 B0 HA HB ⊢
  have r0 := Below.refl W.heap.size W
  obtain ⟨x0, x1, x2, xm, -, -, -, -⟩ := sk_cells A0.out
  obtain ⟨y0, y1, y2, ym, -, -, -, -⟩ := sk_cells B0.out
  go_wp2_with (first
    | (refine wpList_load_at rfl 31 (.tmp 20) rfl w.heap.size 3 rfl #[.int .i64 k.m.c0, .int .i64 k.m.c1, .int .i64 k.m.c2, .int .i64 k.m.c3, .int .i64 k.m.c4, .int .i64 k.m.c5, .int .i64 k.m.c6, .int .i64 k.m.c7, .int .i64 k.m.c8, .int .i64 k.m.c9] _ xm Tryz.underlying31 rfl infoCm10 ?_)
    | (refine wpList_load_at rfl 31 (.tmp 22) rfl (w.heap.size + 1) 3 rfl #[.int .i64 k.m.c0, .int .i64 k.m.c1, .int .i64 k.m.c2, .int .i64 k.m.c3, .int .i64 k.m.c4, .int .i64 k.m.c5, .int .i64 k.m.c6, .int .i64 k.m.c7, .int .i64 k.m.c8, .int .i64 k.m.c9] _ ym Tryz.underlying31 rfl infoCm10 ?_))
  refine (eqCmd_true k.m _).mono ?_
  rintro e w1 ⟨rfl, b1⟩
  have xp := (sk_cells (bKeeps b1 A0.out)).2.2.2.2.1
  have yp := (sk_cells (bKeeps b1 B0.out)).2.2.2.2.1
  clear x0 x1 x2 y0 y1 y2 xm ym
  go_wp2_with (first
    | (refine wpList_load_at rfl 64 (.tmp 26) rfl w.heap.size 13 rfl (pparr k.p) _ xp Tryz.underlying64 rfl infoPpS ?_)
    | (refine wpList_load_at rfl 64 (.tmp 28) rfl (w.heap.size + 1) 13 rfl (pparr k.p) _ yp Tryz.underlying64 rfl infoPpS ?_))
  refine (eqSynPaper_true k.p.1 k.p.2.1 k.p.2.2 _).mono ?_
  rintro e w2 ⟨rfl, b2⟩
  have c2 := bAll b1 b2
  have x3 := (sk_cells (bKeeps c2 A0.out)).2.2.2.2.2.2.2
  have y3 := (sk_cells (bKeeps c2 B0.out)).2.2.2.2.2.2.2
  clear xp yp
  go_wp2_with fail
  refine (eqIntS_true _ _ _ k.ys _ (HA.out.keep c2) (HB.out.keep c2)).mono ?_
  rintro e w3 ⟨rfl, b3⟩
  go_wp2
  go_ret
  exact ⟨rfl, bAll al (bAll c2 b3)⟩

end Go.Proofs.YteddhdbglciahaaGreat

/- A law's seeker becomes a program's: a contract; no statement of the seat is proved here. -/
namespace Go.Proofs.YteddhdbglciahaaGreat
open Go.RowKit

theorem infoLc10 : (Tryz.prog.info? 44).map (·.size) = some 10 := by kernel_rfl
def zeroK : Sk := ⟨0, 0, 0, zeroW, (0, 0, zeroW), []⟩

set_option maxRecDepth 100000 in
set_option maxHeartbeats 8000000 in
theorem toSynSeeker_any (v : Value) (k : Sk) (w : World) (h : SkR w v k) (hn : k.ys.length ≤ 1048576) :
    Calls Tryz.prog 63 #[v] w fun e w' => ∃ v', e = .returned v' ∧ SkO w' (fun j => w.heap.size ≤ j) v' k ∧ Below w.heap.size w w' := by
  obtain ⟨yo, yc, rfl, hr⟩ := h
  have HR0 := hide hr
  clear hr
  go_enter Tryz.func63, Tryz.ntmps63
  go_upto_region 2 with fail
  generalize hW : World.alloc _ _ = W
  have al : Below w.heap.size w W := by rw [← hW]; exact bal (bal (bal (Below.refl _ _) _) _) _
  have A0 : Hid (W.heap[w.heap.size]? = some (.cells (skarr k (.slice yo k.ys.length yc)) 110 (0, 0))) := by show _ = _; rw [← hW]; exact al3_0 w _ _ _
  have A1 : Hid (W.heap[w.heap.size + 1]? = some (.cells (skarr zeroK (.slice none 0 0)) 80 (0, 0))) := by show _ = _; rw [← hW]; exact al3_1 w _ _ _
  have A2 : Hid (W.heap[w.heap.size + 1 + 1]? = some (.cells (skarr zeroK (.slice none 0 0)) 80 (0, 0))) := by show _ = _; rw [← hW]; exact al3_2 w _ _ _
  have ZW : Hid (W.heap.size = w.heap.size + 1 + 1 + 1) := by show _ = _; rw [← hW]; simp
  clear hW
  obtain ⟨x0, x1, x2, xm, xp, -, -, xy⟩ := sk_cells A0.out
  have o0 : W.cell? ⟨w.heap.size + 1 + 1, 0, none⟩ = some (.int .i64 0) := boxAt A2.out 0
  have o1 : W.cell? ⟨w.heap.size + 1 + 1, 1, none⟩ = some (.int .i64 0) := boxAt A2.out 1
  have o2 : W.cell? ⟨w.heap.size + 1 + 1, 2, none⟩ = some (.int .i64 0) := boxAt A2.out 2
  have f0 := boxFz A2.out 0
  have f1 := boxFz A2.out 1
  have f2 := boxFz A2.out 2
  go_upto_region 5 with fail
  have u3 : Upd (fun j => j = w.heap.size + 1 + 1) W (((W.setCell ⟨w.heap.size + 1 + 1, 0, none⟩ (.int .i64 k.s)).setCell ⟨w.heap.size + 1 + 1, 1, none⟩ (.int .i64 k.b)).setCell ⟨w.heap.size + 1 + 1, 2, none⟩ (.int .i64 k.ph)) := ((Upd.setCell (S := fun j => j = w.heap.size + 1 + 1) _ _ _ _ rfl).trans (Upd.setCell _ _ _ _ rfl)).trans (Upd.setCell _ _ _ _ rfl)
  have C2 : Hid ((((W.setCell ⟨w.heap.size + 1 + 1, 0, none⟩ (.int .i64 k.s)).setCell ⟨w.heap.size + 1 + 1, 1, none⟩ (.int .i64 k.b)).setCell ⟨w.heap.size + 1 + 1, 2, none⟩ (.int .i64 k.ph)).heap[w.heap.size + 1 + 1]? = some (.cells (skarr { zeroK with s := k.s, b := k.b, ph := k.ph } (.slice none 0 0)) 80 (0, 0))) := row_set _ (row_set _ (row_set _ A2.out))
  have C0 := hide (u3.keeps A0.out (by omega))
  have C1 := hide (u3.keeps A1.out (by omega))
  generalize (((W.setCell ⟨w.heap.size + 1 + 1, 0, none⟩ (.int .i64 k.s)).setCell ⟨w.heap.size + 1 + 1, 1, none⟩ (.int .i64 k.b)).setCell ⟨w.heap.size + 1 + 1, 2, none⟩ (.int .i64 k.ph)) = V at u3 C2 C0 C1 ⊢
  have zV := u3.size
  have zW := ZW.out
  clear x0 x1 x2 xm xp xy o0 o1 o2 f0 f1 f2
  obtain ⟨-, -, -, xm, -, -, -, -⟩ := sk_cells C0.out
  go_wp2_with (refine wpList_load_at rfl 44 (.tmp 13) rfl w.heap.size 3 rfl #[.int .i64 k.m.c0, .int .i64 k.m.c1, .int .i64 k.m.c2, .int .i64 k.m.c3, .int .i64 k.m.c4, .int .i64 k.m.c5, .int .i64 k.m.c6, .int .i64 k.m.c7, .int .i64 k.m.c8, .int .i64 k.m.c9] _ xm Tryz.underlying44 rfl infoLc10 ?_)
  refine (toCmd_any k.m V).mono ?_
  rintro e w1 ⟨rfl, hw1⟩
  have b1 : Below V.heap.size V w1 := by rw [hw1]; exact bal (bal (bal (Below.refl _ _) _) _) _
  clear hw1 xm
  have z1 := b1.size
  have D0 := hide (bKeeps b1 C0.out)
  have D1 := hide (bKeeps b1 C1.out)
  have D2 := hide (bKeeps b1 C2.out)
  have hput : putAt (skarr { zeroK with s := k.s, b := k.b, ph := k.ph } (.slice none 0 0)) 3 #[.int .i64 k.m.c0, .int .i64 k.m.c1, .int .i64 k.m.c2, .int .i64 k.m.c3, .int .i64 k.m.c4, .int .i64 k.m.c5, .int .i64 k.m.c6, .int .i64 k.m.c7, .int .i64 k.m.c8, .int .i64 k.m.c9] = skarr { zeroK with s := k.s, b := k.b, ph := k.ph, m := k.m } (.slice none 0 0) := rfl
  have E2 := hide (setRow_heap w1 (w.heap.size + 1 + 1) _ (skarr { zeroK with s := k.s, b := k.b, ph := k.ph, m := k.m } (.slice none 0 0)) _ _ D2.out)
  have u4 := updRow w1 (w.heap.size + 1 + 1) (skarr { zeroK with s := k.s, b := k.b, ph := k.ph, m := k.m } (.slice none 0 0))
  have E0 := hide (u4.keeps D0.out (by omega))
  have E1 := hide (u4.keeps D1.out (by omega))
  have w4 := (u3.trans (Upd.ofBelow b1)).trans u4
  obtain ⟨-, -, -, -, xp, -, -, -⟩ := sk_cells E0.out
  go_wp2_with (first
    | (refine wpList_store_at rfl 31 (.tmp 16) (.tmp 15) rfl (w.heap.size + 1 + 1) 3 #[.int .i64 k.m.c0, .int .i64 k.m.c1, .int .i64 k.m.c2, .int .i64 k.m.c3, .int .i64 k.m.c4, .int .i64 k.m.c5, .int .i64 k.m.c6, .int .i64 k.m.c7, .int .i64 k.m.c8, .int .i64 k.m.c9] rfl rfl _ _ D2.out infoCm10 (show (3 + 10 : Nat) ≤ 26 by omega) (all_of_list rfl) ?_; rw [hput])
    | (refine wpList_load_at rfl 108 (.tmp 17) rfl w.heap.size 13 rfl (pparr k.p) _ xp Tryz.underlying108 rfl infoLpS ?_))
  refine (toSynPaper_any k.p.1 k.p.2.1 k.p.2.2 _).mono ?_
  rintro e w2 ⟨rfl, b2⟩
  clear xp hput D0 D1 D2 u4 C0 C1 C2
  generalize World.setRow _ _ _ = X at b2 E0 E1 E2 w4
  have z2 := b2.size
  have zX := w4.size
  have F0 := hide (bKeeps b2 E0.out)
  have F1 := hide (bKeeps b2 E1.out)
  have F2 := hide (bKeeps b2 E2.out)
  have hput : putAt (skarr { zeroK with s := k.s, b := k.b, ph := k.ph, m := k.m } (.slice none 0 0)) 13 (pparr k.p) = skarr { zeroK with s := k.s, b := k.b, ph := k.ph, m := k.m, p := k.p } (.slice none 0 0) := rfl
  have G2 := hide (setRow_heap w2 (w.heap.size + 1 + 1) _ (skarr { zeroK with s := k.s, b := k.b, ph := k.ph, m := k.m, p := k.p } (.slice none 0 0)) _ _ F2.out)
  have u5 := updRow w2 (w.heap.size + 1 + 1) (skarr { zeroK with s := k.s, b := k.b, ph := k.ph, m := k.m, p := k.p } (.slice none 0 0))
  have G0 := hide (u5.keeps F0.out (by omega))
  have G1 := hide (u5.keeps F1.out (by omega))
  have w5 := (w4.trans (Upd.ofBelow b2)).trans u5
  have cw5 := al.trans (w5.below al.size (fun j h => by omega))
  have HRV := HR0.out.keep cw5
  obtain ⟨-, -, -, -, -, -, -, xy⟩ := sk_cells G0.out
  have hPA : (pparr k.p).all (·.oneCell') = true := pparr_one k.p
  go_wp2_with (first
    | (refine wpList_store_at rfl 64 (.tmp 20) (.tmp 19) rfl (w.heap.size + 1 + 1) 13 (pparr k.p) rfl rfl _ _ F2.out infoPpS (show (13 + 12 : Nat) ≤ 26 by omega) hPA ?_; rw [hput]))
  refine (toIntS_any _ _ k.ys _ HRV hn).mono ?_
  rintro e w3 ⟨v3, rfl, r3, b3⟩
  clear xy hput F0 F1 F2 u5 E0 E1 E2 w4 HRV
  obtain ⟨so3, sc3, rfl, hn3, hl3, hb3⟩ := r3
  have r3 : Row w3 3 1 _ (.slice so3 k.ys.length sc3) k.ys.length (k.ys.map (Value.int .i64)) := ⟨so3, sc3, rfl, hn3, hl3, hb3⟩
  have R3 := hide r3
  clear r3 hb3 hl3
  generalize World.setRow _ _ _ = Y at b3 G0 G1 G2 w5 cw5 R3
  have z3 := b3.size
  have zY := w5.size
  have J1 := hide (bKeeps b3 G1.out)
  have J2 := hide (bKeeps b3 G2.out)
  have q1 : w3.cell? ⟨w.heap.size + 1 + 1, 25, none⟩ = some (.slice none 0 0) := boxAt J2.out 25
  have q2 := boxFz J2.out 25
  have u6 := Upd.setCell (S := fun j => j = w.heap.size + 1 + 1) w3 (w.heap.size + 1 + 1) 25 (.slice so3 k.ys.length sc3) rfl
  have K2 : Hid ((w3.setCell ⟨w.heap.size + 1 + 1, 25, none⟩ (.slice so3 k.ys.length sc3)).heap[w.heap.size + 1 + 1]? = some (.cells (skarr k (.slice so3 k.ys.length sc3)) 80 (0, 0))) := row_set _ J2.out
  have K1 := hide (u6.keeps J1.out (by omega))
  have K3 := hide (R3.out.keep u6 (fun j h1 h2 => by omega))
  have u7 := updRow (w3.setCell ⟨w.heap.size + 1 + 1, 25, none⟩ (.slice so3 k.ys.length sc3)) (w.heap.size + 1) (skarr k (.slice so3 k.ys.length sc3))
  have z6 := u6.size
  have cw6 := (cw5.trans (b3.mono (by have := cw5.size; omega))).trans (u6.below (by have := cw5.size; omega) (fun j h => by omega))
  clear G0 G1 G2 w5 b3
  go_wp2_with (first
    | (refine wpList_load_row rfl 80 (.tmp 3) rfl (w.heap.size + 1 + 1) rfl _ _ (0, 0) _ K2.out Tryz.underlying80 rfl infoSk ?_)
    | (refine wpList_store_row rfl 80 (.tmp 2) (.tmp 25) rfl (w.heap.size + 1) (skarr k (.slice so3 k.ys.length sc3)) rfl rfl _ _ K1.out infoSk (show (26 : Nat) = 26 from rfl) (skarr_one k so3 _ sc3) ?_))
  refine bodyPost_ret (v := .agg (skarr k (.slice so3 k.ys.length sc3))) (results_cell_row Tryz.results63 _ _ (w.heap.size + 1) _ _ (0, 0) _ rfl (setRow_heap _ _ _ _ _ _ K1.out) Tryz.underlying80 rfl infoSk) rfl ?_
  exact ⟨_, rfl, ⟨so3, sc3, rfl, (K3.out.keep u7 (fun j h1 h2 => by omega)).mono (fun j _ h => by omega)⟩, cw6.trans (u7.below (by have := cw6.size; omega) (fun j h => by omega))⟩

end Go.Proofs.YteddhdbglciahaaGreat

/- What the laws' helpers do with rows of SynSeeker: contracts; no statement of the seat is proved here. (Written by wip/tools/mkrow.py.) -/
namespace Go.Proofs.YteddhdbglciahaaGreat
open Go.RowKit

def SkS (k : Sk) : Prop := k.ys.length ≤ 1048576
theorem SkR.agg {w : World} {v : Value} {k : Sk} (h : SkR w v k) : ∃ cs : Array Value, v = .agg cs ∧ cs.size = 26 ∧ cs.all (·.oneCell') = true := by
  obtain ⟨yo, yc, rfl, -⟩ := h
  exact ⟨_, rfl, rfl, skarr_one _ _ _ _⟩
theorem szSkx (v : Value) (k : Sk) (left : Int) (w : World) (h : SkR w v k) (h1 : 0 ≤ left) (h2 : left ≤ 1048576) :
    Calls Tryz.prog 56 #[v, .int .i64 left] w fun e w' => ∃ r, e = .returned (.int .i64 r) ∧ (r < 0 ∨ (0 ≤ r ∧ r ≤ left ∧ SkS k)) ∧ Below w.heap.size w w' := by
  refine (szSynSeeker_any v k left w h h1 h2).mono ?_
  rintro e w' ⟨r, rfl, hr, b⟩
  exact ⟨r, rfl, by rcases hr with hr | ⟨hr, h0⟩; exact .inl hr; exact .inr ⟨h0, by omega, by unfold SkS; omega⟩, b⟩
theorem toSkx (v : Value) (k : Sk) (w : World) (h : SkR w v k) (hs : SkS k) :
    Calls Tryz.prog 63 #[v] w fun e w' => ∃ v', e = .returned v' ∧ SkO w' (fun k => w.heap.size ≤ k) v' k ∧ Below w.heap.size w w' := toSynSeeker_any v k w h hs
theorem eqSkx (va vb : Value) (k : Sk) (w : World) (ha : SkR w va k) (hb : SkR w vb k) :
    Calls Tryz.prog 79 #[va, vb] w fun e w' => e = .returned (.bool true) ∧ Below w.heap.size w w' := eqSynSeeker_true va vb k w ha hb

theorem infoZK : (Tryz.prog.info? 80).map (fun i => (i.zero, i.size, i.bytes)) = some (some (.agg #[.int .i64 0, .int .i64 0, .int .i64 0, .int .i64 0, .int .i64 0, .int .i64 0, .int .i64 0, .int .i64 0, .int .i64 0, .int .i64 0, .int .i64 0, .int .i64 0, .int .i64 0, .int .i64 0, .int .i64 0, .int .i64 0, .int .i64 0, .int .i64 0, .int .i64 0, .int .i64 0, .int .i64 0, .int .i64 0, .int .i64 0, .int .i64 0, .int .i64 0, .slice none 0 0]), 26, 224) := by kernel_rfl

set_option maxRecDepth 100000 in
set_option maxHeartbeats 4000000 in
theorem szSynSeekerS_row (v : Value) (xs : List (Sk)) (left : Int) (w : World) (hr : RowE w 26 SkR v xs) (h1 : 0 ≤ left) (h2 : left ≤ 1048576) :
    Calls Tryz.prog 18 #[v, .int .i64 left] w fun e w' => ∃ r, e = .returned (.int .i64 r) ∧ (r < 0 ∨ (0 ≤ r ∧ r ≤ left ∧ xs.length ≤ 1048576 ∧ ∀ x ∈ xs, SkS x)) ∧ Below w.heap.size w w' := by
  obtain ⟨ao, cap, rfl⟩ := hr.shape
  have hn := hr.small
  have HR := hide hr
  clear hr
  obtain ⟨n, hnn⟩ : ∃ n, xs.length = n := ⟨_, rfl⟩
  have HN := hide hnn
  rw [hnn] at hn ⊢
  clear hnn
  by_cases hneg : left - n < 0
  · go_enter Tryz.func18, Tryz.ntmps18
    go_wp2
    go_ret
    exact ⟨_, rfl, .inl (by omega), Below.refl _ _⟩
  · have hge : ¬ left - n < 0 := hneg
    go_enter Tryz.func18, Tryz.ntmps18
    go_wp2
    go_loopw [1, 5] (fun l i wr => ∃ (k : Nat) (z : Int), k ≤ n ∧ i = .int .i64 k ∧ l = .int .i64 z ∧ 0 ≤ z ∧ z ≤ left - n ∧ (∀ j x, j < k → xs[j]? = some x → SkS x) ∧ Below w.heap.size w wr) (fun _ i _ => n - (intOf i).toNat)
    case atStart => exact ⟨0, left - n, Nat.zero_le _, rfl, rfl, by omega, by omega, fun j x h => by omega, Below.refl _ _⟩
    case round =>
      obtain ⟨k, z, hk, rfl, rfl, hz0, hz1, hsm, hbel⟩ := hrel
      have HS := hide hsm
      clear hsm
      by_cases hlt : k < n
      · obtain ⟨x, hx⟩ := getAt xs k (by rw [HN.out]; exact hlt)
        obtain ⟨-, b1, o1, rfl, cs, hcs, hone, hc, he⟩ := (HR.out.keep (fun v x h => SkR.keep h hbel) hbel).elem hx
        have HX := hide hx
        have F := hide hc
        have GI := hide (infoAt infoLk hcs)
        have hi : (k : Int) < (n : Int) := by omega
        clear hx hc hcs hone
        go_wp2_with (refine wpList_load_at rfl 110 (.tmp 20) rfl b1 (o1 + k * 26) rfl cs _ F.out Tryz.underlying110 rfl GI.out ?_)
        refine (szSkx _ x z wr he hz0 (by omega)).mono ?_
        rintro e w1 ⟨r, rfl, hr, b1'⟩
        have c1 := bAll hbel b1'
        rcases hr with hr | ⟨hr0, hr1, hsx⟩
        · go_wp2
          go_ret
          exact ⟨_, rfl, .inl (by omega), c1⟩
        · have hr2 : ¬ r < 0 := by omega
          have HSX := hide hsx
          clear hsx b1' F GI he
          go_wp2
          go_roundw
          case rel =>
            refine ⟨k + 1, r, by omega, by go_num, rfl, hr0, by omega, fun j y hj hy => ?_, c1⟩
            by_cases hjk : j = k
            · subst hjk
              rw [HX.out] at hy
              obtain rfl := Option.some.inj hy
              exact HSX.out
            · exact HS.out j y (by omega) hy
          case measure => simp [intOf]; omega
      · go_wp2
        go_ret
        refine ⟨_, rfl, .inr ⟨hz0, by omega, by omega, fun x hx => ?_⟩, hbel⟩
        obtain ⟨j, hj⟩ := List.getElem?_of_mem hx
        have hj' := (List.getElem?_eq_some_iff.1 hj).1
        exact HS.out j x (by have := HN.out; omega) hj

set_option maxRecDepth 100000 in
set_option maxHeartbeats 4000000 in
theorem eqSynSeekerS_row (va vb : Value) (xs : List (Sk)) (w : World) (ha : RowE w 26 SkR va xs) (hb : RowE w 26 SkR vb xs) :
    Calls Tryz.prog 32 #[va, vb] w fun e w' => e = .returned (.bool true) ∧ Below w.heap.size w w' := by
  obtain ⟨ao, ca, rfl⟩ := ha.shape
  obtain ⟨bo, cb, rfl⟩ := hb.shape
  have hn := ha.small
  have HA := hide ha
  have HB := hide hb
  clear ha hb
  obtain ⟨n, hnn⟩ : ∃ n, xs.length = n := ⟨_, rfl⟩
  have HN := hide hnn
  rw [hnn] at hn HA HB ⊢
  clear hnn
  go_enter Tryz.func32, Tryz.ntmps32
  go_wp2
  go_loopw [5] (fun i wr => ∃ k : Nat, k ≤ n ∧ i = .int .i64 k ∧ Below w.heap.size w wr) (fun i _ => n - (intOf i).toNat)
  case atStart => exact ⟨0, Nat.zero_le _, rfl, Below.refl _ _⟩
  case round =>
    obtain ⟨k, hk, rfl, hbel⟩ := hrel
    by_cases hlt : k < n
    · obtain ⟨x, hx⟩ := getAt xs k (by rw [HN.out]; exact hlt)
      have d1 := bDrewB hbel
      obtain ⟨-, b1, o1, rfl, cs1, hcs1, -, hc1, he1⟩ := (HA.out.keep (fun v x h => SkR.keep h d1) d1).elem hx
      obtain ⟨-, b2, o2, rfl, cs2, hcs2, -, hc2, he2⟩ := (HB.out.keep (fun v x h => SkR.keep h d1) d1).elem hx
      have GI1 := hide (infoAt infoSk hcs1)
      have GI2 := hide (infoAt infoSk hcs2)
      have K1 := hide hc1
      have K2 := hide hc2
      have hi : (k : Int) < (n : Int) := by omega
      clear hx hc1 hc2 hcs1 hcs2
      go_wp2
      refine wp_region_noPanic ?_
      refine wp_region_held_drew (S := (fun w' => (∀ j u, cs1[j]? = some u → w'.cell? ⟨b1, o1 + k * 26 + j, none⟩ = some u) ∧ (∀ j u, cs2[j]? = some u → w'.cell? ⟨b2, o2 + k * 26 + j, none⟩ = some u))) (by kernel_rfl) ?_ (fun hHeld => ?_)
      · exact ⟨K1.out, K2.out⟩
      refine wpAnyH_take (i := 0) (v := ?v1) rfl (by kernel_rfl) (by kernel_rfl) (by kernel_rfl) (fun _ _ _ h => h) (Or.inl ⟨by rfl, ?hy1⟩) (by assumption) ?rest1
      case hy1 => ((intro w hSw; (try dsimp only at hSw); (try simp only [List.getElem_toArray, List.getElem_cons_zero]); go_simp; first | done | (with_reducible rfl)))
      simp only [Act.put, List.getElem_toArray, List.getElem_cons_zero, List.setIfInBounds_toArray, List.set_cons_zero, List.set_cons_succ]
      refine wpAnyH_take (i := 1) (v := ?v2) rfl (by kernel_rfl) (by kernel_rfl) (by kernel_rfl) (fun _ _ _ h => h) (Or.inl ⟨by rfl, ?hy2⟩) (by assumption) ?rest2
      case hy2 => ((intro w hSw; (try dsimp only at hSw); (try simp only [List.getElem_toArray, List.getElem_cons_zero, List.getElem_cons_succ]); go_simp; first | done | (with_reducible rfl)))
      simp only [Act.put, List.getElem_toArray, List.getElem_cons_zero, List.getElem_cons_succ, List.setIfInBounds_toArray, List.set_cons_zero, List.set_cons_succ]
      refine wpAnyH_take (i := 2) (v := ?v3) rfl (by kernel_rfl) (by kernel_rfl) (by kernel_rfl) (fun _ _ _ h => h) (Or.inl ⟨by rfl, ?hy3⟩) (by assumption) ?rest3
      case hy3 => ((intro w hSw; (try dsimp only at hSw); (try simp only [List.getElem_toArray, List.getElem_cons_zero, List.getElem_cons_succ]); go_simp; first | done | (with_reducible rfl)))
      simp only [Act.put, List.getElem_toArray, List.getElem_cons_zero, List.getElem_cons_succ, List.setIfInBounds_toArray, List.set_cons_zero, List.set_cons_succ]
      refine wpAnyH_take (i := 3) (v := .agg cs1) rfl (by kernel_rfl) (by kernel_rfl) (by kernel_rfl) (fun _ _ _ h => h) (yields_at rfl 80 (.tmp 19) rfl (b1) (o1 + k * 26) rfl cs1 _ (fun _ h => h.1) Tryz.underlying80 rfl GI1.out) (by assumption) ?_
      simp only [Act.put, List.getElem_toArray, List.getElem_cons_zero, List.getElem_cons_succ, List.setIfInBounds_toArray, List.set_cons_zero, List.set_cons_succ]
      refine wpAnyH_take (i := 4) (v := ?v4) rfl (by kernel_rfl) (by kernel_rfl) (by kernel_rfl) (fun _ _ _ h => h) (Or.inl ⟨by rfl, ?hy4⟩) (by assumption) ?rest4
      case hy4 => ((intro w hSw; (try dsimp only at hSw); (try simp only [List.getElem_toArray, List.getElem_cons_zero, List.getElem_cons_succ]); go_simp; first | done | (with_reducible rfl)))
      simp only [Act.put, List.getElem_toArray, List.getElem_cons_zero, List.getElem_cons_succ, List.setIfInBounds_toArray, List.set_cons_zero, List.set_cons_succ]
      refine wpAnyH_take (i := 5) (v := ?v5) rfl (by kernel_rfl) (by kernel_rfl) (by kernel_rfl) (fun _ _ _ h => h) (Or.inl ⟨by rfl, ?hy5⟩) (by assumption) ?rest5
      case hy5 => ((intro w hSw; (try dsimp only at hSw); (try simp only [List.getElem_toArray, List.getElem_cons_zero, List.getElem_cons_succ]); go_simp; first | done | (with_reducible rfl)))
      simp only [Act.put, List.getElem_toArray, List.getElem_cons_zero, List.getElem_cons_succ, List.setIfInBounds_toArray, List.set_cons_zero, List.set_cons_succ]
      refine wpAnyH_take (i := 6) (v := ?v6) rfl (by kernel_rfl) (by kernel_rfl) (by kernel_rfl) (fun _ _ _ h => h) (Or.inl ⟨by rfl, ?hy6⟩) (by assumption) ?rest6
      case hy6 => ((intro w hSw; (try dsimp only at hSw); (try simp only [List.getElem_toArray, List.getElem_cons_zero, List.getElem_cons_succ]); go_simp; first | done | (with_reducible rfl)))
      simp only [Act.put, List.getElem_toArray, List.getElem_cons_zero, List.getElem_cons_succ, List.setIfInBounds_toArray, List.set_cons_zero, List.set_cons_succ]
      refine wpAnyH_take (i := 7) (v := .agg cs2) rfl (by kernel_rfl) (by kernel_rfl) (by kernel_rfl) (fun _ _ _ h => h) (yields_at rfl 80 (.tmp 23) rfl (b2) (o2 + k * 26) rfl cs2 _ (fun _ h => h.2) Tryz.underlying80 rfl GI2.out) (by assumption) ?_
      simp only [Act.put, List.getElem_toArray, List.getElem_cons_zero, List.getElem_cons_succ, List.setIfInBounds_toArray, List.set_cons_zero, List.set_cons_succ]
      refine wpAnyH_ready (rs := [8]) (by kernel_rfl) (by simp) ?_
      refine AllReadyH.cons rfl (fun K hK => ?_) AllReadyH.nil
      go_simp
      (go_at_call 79; refine (eqSkx _ _ x _ he1 he2).mono ?_; rintro e w1 ⟨rfl, b1'⟩; have c1 := bAll d1 b1')
      refine hK.out _ _ ?_ (fun hHeld => ?_)
      · exact ⟨cellsKeep K1.out b1', cellsKeep K2.out b1'⟩
      clear hK K
      refine wpAnyH_take (i := 9) (v := ?v7) rfl (by kernel_rfl) (by kernel_rfl) (by kernel_rfl) (fun _ _ _ h => h) (Or.inl ⟨by rfl, ?hy7⟩) (by assumption) ?rest7
      case hy7 => ((intro w hSw; (try dsimp only at hSw); (try simp only [List.getElem_toArray, List.getElem_cons_zero, List.getElem_cons_succ]); go_simp; first | done | (with_reducible rfl)))
      simp only [Act.put, List.getElem_toArray, List.getElem_cons_zero, List.getElem_cons_succ, List.setIfInBounds_toArray, List.set_cons_zero, List.set_cons_succ]
      refine wpAnyH_done (by kernel_rfl) ?_ _
      refine NoPanic.normal ?_
      clear hHeld
      go_wp2
      go_roundw
      case rel => exact ⟨k + 1, by omega, by go_num, c1⟩
      case measure => simp [intOf]; omega
    · go_wp2
      go_ret
      exact ⟨rfl, hbel⟩
theorem updRow0K (w : World) (g : Nat) (cs : Array Value) : Upd (fun j => j = g) w (w.setRow g cs) := ⟨rfl, rfl, rfl, by simp, fun _ _ h => setRow_other _ _ _ _ h⟩

set_option maxRecDepth 100000 in
set_option maxHeartbeats 4000000 in
theorem toSynSeekerS_row (v : Value) (xs : List (Sk)) (w : World) (hr : RowE w 26 SkR v xs) (hn : xs.length ≤ 1048576) (hs : ∀ x ∈ xs, SkS x) :
    Calls Tryz.prog 25 #[v] w fun e w' => ∃ v', e = .returned v' ∧ RowO w' 80 26 (fun b => w.heap.size ≤ b) SkO v' xs ∧ Below w.heap.size w w' := by
  obtain ⟨ao, cap, rfl⟩ := hr.shape
  have HR := hide hr
  have HS := hide hs
  clear hr hs
  obtain ⟨n, hnn⟩ : ∃ n, xs.length = n := ⟨_, rfl⟩
  have HN := hide hnn
  rw [hnn] at hn HR ⊢
  clear hnn
  have hmk := run_make_row2 (P := Tryz.prog) 35 80 (.agg #[.int .i64 0, .int .i64 0, .int .i64 0, .int .i64 0, .int .i64 0, .int .i64 0, .int .i64 0, .int .i64 0, .int .i64 0, .int .i64 0, .int .i64 0, .int .i64 0, .int .i64 0, .int .i64 0, .int .i64 0, .int .i64 0, .int .i64 0, .int .i64 0, .int .i64 0, .int .i64 0, .int .i64 0, .int .i64 0, .int .i64 0, .int .i64 0, .int .i64 0, .slice none 0 0]) 26 224 Tryz.underlying35 infoZK .i64 .i64 n (by omega) (by omega)
  go_enter Tryz.func25, Tryz.ntmps25
  go_wp2
  clear hmk
  go_loopw [4] (fun i wr => ∃ (k : Nat) (cur : Array Value) (B : Nat → Nat), k ≤ n ∧ i = .int .i64 k ∧ wr.heap[w.heap.size]? = some (.cells cur 80 (0, 0)) ∧ cur.size = n * 26 ∧ (∀ j x, j < k → xs[j]? = some x → ∃ cs : Array Value, cs.size = 26 ∧ cs.all (·.oneCell') = true ∧ (∀ r u, cs[r]? = some u → cur[j * 26 + r]? = some u) ∧ SkO wr (fun b => B j ≤ b ∧ b < B (j + 1)) (.agg cs) x) ∧ (∀ j, j < k → B j ≤ B (j + 1)) ∧ w.heap.size < B 0 ∧ B k ≤ wr.heap.size ∧ Below w.heap.size w wr) (fun i _ => n - (intOf i).toNat)
  case atStart => exact ⟨0, _, fun _ => w.heap.size + 1, Nat.zero_le _, rfl, heap_alloc_new w _, size_madeCells _ _, fun j s hj => by omega, fun j hj => by omega, Nat.lt_succ_self _, by simp, (Below.refl _ _).alloc (Nat.le_refl _) _⟩
  case round =>
    obtain ⟨k, cur, B, hk, rfl, hg, hcs, hmk, hB, hB0, hBk, hbel⟩ := hrel
    have HB := hide hB
    clear hB
    have HM := hide hmk
    have HC := hide hcs
    clear hmk hcs
    by_cases hlt : k < n
    · obtain ⟨x, hx⟩ := getAt xs k (by rw [HN.out]; exact hlt)
      obtain ⟨-, b1, o1, rfl, cs, hcs, hone, hc, he⟩ := (HR.out.keep (fun v x h => SkR.keep h hbel) hbel).elem hx
      have HX := hide hx
      have F := hide hc
      have GI := hide (infoAt infoLk hcs)
      have hi : (k : Int) < (n : Int) := by omega
      have Hg := hide hg
      have zg := heap_lt hg
      have cT := toSkx _ x wr he (HS.out x (List.mem_of_getElem? hx))
      clear hx hc hcs hone hg he
      go_wp2_with (refine wpList_load_at rfl 110 (.tmp 18) rfl b1 (o1 + k * 26) rfl cs _ F.out Tryz.underlying110 rfl GI.out ?_)
      refine cT.mono ?_
      rintro e w1 ⟨v1, rfl, hv1, hb1⟩
      obtain ⟨ds, rfl, hds, hd1⟩ := SkR.agg (SkO.reads hv1)
      have hk3 : k * 26 + ds.size ≤ cur.size := by rw [HC.out, hds]; omega
      have HK3 := hide hk3
      have GD := hide (infoAt infoSk hds)
      have HD1 := hide hd1
      have HDS := hide hds
      have Hg1 := hide (bKeeps hb1 Hg.out)
      have HV := hide hv1
      clear hk3 hds hd1 hv1 cT
      go_wp2_with (refine wpList_store_at rfl 80 (.tmp 21) (.tmp 20) rfl w.heap.size (k * 26) ds rfl rfl _ _ Hg1.out GD.out HK3.out HD1.out ?_)
      have us := updRow0K w1 w.heap.size (putAt cur (k * 26) ds)
      have c1 := bAll hbel hb1
      have z1 := hb1.size
      have zs := us.size
      go_roundw
      case rel =>
        refine ⟨k + 1, _, stepB B k w1.heap.size, by omega, by go_num, setRow_heap _ _ _ _ _ _ Hg1.out, by rw [putAt_size HK3.out]; exact HC.out, fun j y hj hy => ?_, fun j hj => ?_, by rw [stepB_le (Nat.zero_le _)]; exact hB0, by rw [stepB_gt (Nat.lt_succ_self _)]; exact zs, c1.trans (us.below c1.size (fun k h => by omega))⟩
        · by_cases hjk : j = k
          · subst hjk
            rw [HX.out] at hy
            obtain rfl := Option.some.inj hy
            rw [stepB_le (Nat.le_refl _), stepB_gt (Nat.lt_succ_self _)]
            have hb0 := asc_places HB.out 0 j (Nat.zero_le _) (Nat.le_refl _)
            exact ⟨ds, HDS.out, HD1.out, fun r u hr => putAt_in HK3.out hr, (HV.out.mono (fun b hlt h => ⟨Nat.le_trans hBk h, hlt⟩)).keep us (fun b h1 h2 => by omega)⟩
          · obtain ⟨cs', q1, q2, q3, q4⟩ := HM.out j y (by omega) hy
            rw [stepB_le (show j ≤ k by omega), stepB_le (show j + 1 ≤ k by omega)]
            have hb0 := asc_places HB.out 0 j (Nat.zero_le _) (by omega)
            refine ⟨cs', q1, q2, fun r u hr => ?_, ((SkO.keepB q4 hb1)).keep us (fun b h1 h2 => by omega)⟩
            have hrl : r < 26 := by have := (Array.getElem?_eq_some_iff.1 hr).1; omega
            rw [putAt_out HK3.out (by rw [HDS.out]; omega)]
            exact q3 r u hr
        · rcases Nat.lt_or_ge j k with h | h
          · rw [stepB_le (show j ≤ k by omega), stepB_le (show j + 1 ≤ k by omega)]
            exact HB.out j h
          · have e : j = k := by omega
            subst e
            rw [stepB_le (Nat.le_refl _), stepB_gt (Nat.lt_succ_self _)]
            omega
      case measure => simp [intOf]; omega
    · go_wp2
      go_ret
      obtain rfl : k = n := by omega
      refine ⟨_, rfl, ⟨_, _, congrArg (fun q => Value.slice (some ⟨w.heap.size, 0, none⟩) q k) HN.out.symm, by have := HN.out; omega, fun _ => ⟨_, cur, rfl, Nat.le_refl _, hg, fun j b => j < k ∧ B j ≤ b ∧ b < B (j + 1), fun j b hb => ?_, fun i j b hi hj => ?_, fun j x hx => ?_⟩⟩, hbel⟩
      · have := asc_places HB.out 0 j (Nat.zero_le _) (by omega)
        omega
      · rcases Nat.lt_trichotomy i j with h | h | h
        · have := asc_places HB.out (i + 1) j (by omega) (by omega)
          omega
        · exact h
        · have := asc_places HB.out (j + 1) i (by omega) (by omega)
          omega
      have hj := (List.getElem?_eq_some_iff.1 hx).1
      obtain ⟨cs, q1, q2, q3, q4⟩ := HM.out j x (by have := HN.out; omega) hx
      exact ⟨cs, q1, q2, q3, SkO.mono q4 (fun b _ h => ⟨by have := HN.out; omega, h⟩)⟩

end Go.Proofs.YteddhdbglciahaaGreat
