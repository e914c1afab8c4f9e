/- Contracts and plain facts that this claim leans on (texts VQ, VM, VQ3, VM2); no statement of the seat is proved here. -/
import Derived.Test.YtiigcokbmggdkaaPk10
import Derived.Test.YtiigcokbmggdkaaPk5
import Derived.Test.YtiigcokbmggdkaaPk7
import Derived.Test.YtiigcokbmggdkaaPk9

/- Papers are copied and sought: contracts; no statement of the seat is proved here. -/
namespace Go.Proofs.Ytiigcokbmggdkaa
open Go.RowKit

theorem ordOkV : OrdOk ordV where
  trans a b c h1 h2 := by simp only [ordV, cmpI_neg] at *; omega
  eqL a b c h1 h2 := by simp only [ordV, cmpI_neg, cmpI_zero] at *; omega
  flip a b := by simp only [ordV, cmpI_neg, cmpI_pos]
  refl a := by simp only [ordV, cmpI_zero]

theorem copyV_any (v : Value) (n : Nat) (cs : List Value) (w : World) (hr : RowR w 12 v n cs) (h1 : ∀ u ∈ cs, u.oneCell' = true) (hn : n ≤ 1048576) :
    Calls Try.prog 54 #[v] w fun e w' => ∃ v', e = .returned v' ∧ w'.ownsRow w.heap.size 56 12 v' n cs ∧ Below w.heap.size w w' := by
  obtain ⟨i1, gi, gz0, gz1, gz2⟩ := info_parts infoPp
  have Hr := hide hr
  obtain ⟨ao, ca, rfl, -⟩ := hr
  go_enter Try.func54, Try.ntmps54
  go_wp2_with (at_builtin; refine wpList_append_row _ rfl _ _ 33 rfl w.heap.size 56 i1 (.agg #[.int .i64 0, .int .i64 0, .int .i64 0, .int .i64 0, .int .i64 0, .int .i64 0, .int .i64 0, .int .i64 0, .int .i64 0, .int .i64 0, .int .i64 0, .int .i64 0]) 12 96 Try.underlying33 gi gz0 gz1 gz2 rfl (by decide) _ 0 [] rfl ?qown _ n cs rfl ?qrow h1 ?q63 ?qby ?qbase ?_)
  case qown => exact World.ownsRow_nil _ _ _ _
  case qrow => exact Hr.out
  case q63 => unfold maxLen; omega
  case qby => omega
  case qbase => exact Nat.le_refl _
  intro v' w4 hown hgr
  try simp only [Nat.zero_add, List.nil_append] at hown
  have b4 : Below w.heap.size w w4 := (Below.refl _ _).grown hgr (by simp) (fun k e => by simp [Value.ownBlock] at e)
  go_wp2
  go_ret
  exact ⟨_, rfl, hown, b4⟩

set_option maxRecDepth 100000 in
set_option maxHeartbeats 4000000 in
theorem findV_any (v : Value) (xs : List Pp) (s b : Int) (x : Wd) (w : World) (hr : RowR w 12 v xs.length (ppcells xs)) (hn : xs.length ≤ 60) (hs : Asc ordV xs) :
    Calls Try.prog 126 #[v, .agg (#[.int .i64 s, .int .i64 b, .int .i64 x.c0, .int .i64 x.c1, .int .i64 x.c2, .int .i64 x.c3, .int .i64 x.c4, .int .i64 x.c5, .int .i64 x.c6, .int .i64 x.c7, .int .i64 x.c8, .int .i64 x.c9] : Array Value), .func (.func 80) #[] #[] ] w fun e w' => ∃ (p : Nat) (there : Bool), e = .returned (.tuple #[.int .i64 p, .bool there]) ∧ IsAt ordV xs (s, b, x) p there ∧ Below w.heap.size w w' := by
  obtain ⟨ao, ca, rfl, -, -, hr⟩ := hr
  obtain ⟨n, hnn⟩ : ∃ n, xs.length = n := ⟨_, rfl⟩
  have Hl := hide hnn
  rw [hnn] at hn hr ⊢
  clear hnn
  have hal := bal (Below.refl w.heap.size w) (.cells (pparr (s, b, x)) 56)
  obtain ⟨W, hW⟩ : ∃ W, W = w.alloc (.cells (pparr (s, b, x)) 56) := ⟨_, rfl⟩
  have B0 : Hid (W.heap[w.heap.size]? = some (.cells (pparr (s, b, x)) 56 (0, 0))) := by show _ = _; rw [hW]; exact al1_0 w _
  rw [← hW] at hal
  have HS := hide hs
  clear hs
  have hPA : (#[.int .i64 s, .int .i64 b, .int .i64 x.c0, .int .i64 x.c1, .int .i64 x.c2, .int .i64 x.c3, .int .i64 x.c4, .int .i64 x.c5, .int .i64 x.c6, .int .i64 x.c7, .int .i64 x.c8, .int .i64 x.c9] : Array Value) = (pparr (s, b, x)) := rfl
  rw [hPA]
  clear hPA
  go_enter Try.func126, Try.ntmps126
  go_wp2
  rw [← hW]
  clear hW
  go_loopw [8, 9] (fun lv hv wr => ∃ l h : Nat, l ≤ h ∧ h ≤ n ∧ lv = .int .i64 l ∧ hv = .int .i64 h ∧ (∀ i y, i < l → xs[i]? = some y → ordV y (s, b, x) < 0) ∧ (∀ i y, h ≤ i → xs[i]? = some y → 0 ≤ ordV y (s, b, x)) ∧ Below W.heap.size W wr) (fun lv hv _ => (intOf hv).toNat - (intOf lv).toNat)
  case atStart => exact ⟨0, n, Nat.zero_le _, Nat.le_refl _, rfl, rfl, fun i y hi => by omega, fun i y hi hy => by have := (List.getElem?_eq_some_iff.1 hy).1; have := Hl.out; omega, Below.refl _ _⟩
  case round =>
    obtain ⟨l, h, hlh, hhn, rfl, rfl, hlo, hhi, hbel⟩ := hrel
    have HLo := hide hlo
    have HHi := hide hhi
    clear hlo hhi
    by_cases hlt : l < h
    · obtain ⟨m, hm⟩ : ∃ m, (l + h) / 2 = m := ⟨_, rfl⟩
      have hm1 : l ≤ m := by omega
      have hm2 : m < h := by omega
      have hmi : ((l : Int) + (h : Int)) / 2 = (m : Int) := by omega
      have hmn : (m : Int) < (n : Int) := by omega
      obtain ⟨b1, o1, rfl, hc1⟩ := hr (by omega)
      obtain ⟨⟨s', b', x'⟩, hx⟩ := getAt xs m (by have := Hl.out; omega)
      have G := hide (fun V (hV : Below w.heap.size w V) => pp_at hc1 hx hV)
      have Hx := hide hx
      obtain ⟨o, ho⟩ : ∃ o, cmpI s' s = o := ⟨_, rfl⟩
      have cO := fun w => synBySlot_any s' b' x' s b x w
      rw [ho] at cO
      have Ho : Hid (ordV (s', b', x') (s, b, x) = o) := ho
      have Hr := hide hr
      clear hr hc1 hx ho hm
      by_cases hneg : o < 0
      · have hd1 : decide (o < 0) = true := by simpa using hneg
        go_wp2
        refine wp_region_noPanic ?_
        refine wp_region_held_drew (S := (fun w' => w'.heap[w.heap.size]? = some (.cells (pparr (s, b, x)) 56 (0, 0)) ∧ (∀ j u, (pparr (s', b', x'))[j]? = some u → w'.cell? ⟨b1, o1 + m * 12 + j, none⟩ = some u))) (by kernel_rfl) ?_ (fun hHeld => ?_)
        · exact ⟨bKeeps (bAll hbel (bDrew1 _)) B0.out, G.out _ (bAll hal (bAll hbel (bDrew1 _)))⟩
        refine wpAnyH_take (i := 0) (v := ?v1) rfl (by kernel_rfl) (by kernel_rfl) (by kernel_rfl) (fun _ _ _ h => h) (Or.inl ⟨by rfl, ?hy1⟩) (by assumption) ?rest1
        case hy1 => ((intro w hSw; (try dsimp only at hSw); (try simp only [List.getElem_toArray, List.getElem_cons_zero]); go_simp; first | done | (with_reducible rfl)))
        simp only [Act.put, List.getElem_toArray, List.getElem_cons_zero, List.setIfInBounds_toArray, List.set_cons_zero, List.set_cons_succ]
        refine wpAnyH_take (i := 1) (v := ?v2) rfl (by kernel_rfl) (by kernel_rfl) (by kernel_rfl) (fun _ _ _ h => h) (Or.inl ⟨by rfl, ?hy2⟩) (by assumption) ?rest2
        case hy2 => ((intro w hSw; (try dsimp only at hSw); (try simp only [List.getElem_toArray, List.getElem_cons_zero, List.getElem_cons_succ]); go_simp; first | done | (with_reducible rfl)))
        simp only [Act.put, List.getElem_toArray, List.getElem_cons_zero, List.getElem_cons_succ, List.setIfInBounds_toArray, List.set_cons_zero, List.set_cons_succ]
        refine wpAnyH_take (i := 2) (v := ?v3) rfl (by kernel_rfl) (by kernel_rfl) (by kernel_rfl) (fun _ _ _ h => h) (Or.inl ⟨by rfl, ?hy3⟩) (by assumption) ?rest3
        case hy3 => ((intro w hSw; (try dsimp only at hSw); (try simp only [List.getElem_toArray, List.getElem_cons_zero, List.getElem_cons_succ]); go_simp; first | done | (with_reducible rfl)))
        simp only [Act.put, List.getElem_toArray, List.getElem_cons_zero, List.getElem_cons_succ, List.setIfInBounds_toArray, List.set_cons_zero, List.set_cons_succ]
        refine wpAnyH_take (i := 3) (v := ?v4) rfl (by kernel_rfl) (by kernel_rfl) (by kernel_rfl) (fun _ _ _ h => h) (Or.inl ⟨by rfl, ?hy4⟩) (by assumption) ?rest4
        case hy4 => ((intro w hSw; (try dsimp only at hSw); (try simp only [List.getElem_toArray, List.getElem_cons_zero, List.getElem_cons_succ]); go_simp; first | done | (with_reducible rfl)))
        simp only [Act.put, List.getElem_toArray, List.getElem_cons_zero, List.getElem_cons_succ, List.setIfInBounds_toArray, List.set_cons_zero, List.set_cons_succ]
        refine wpAnyH_take (i := 4) (v := .agg (pparr (s', b', x'))) rfl (by kernel_rfl) (by kernel_rfl) (by kernel_rfl) (fun _ _ _ h => h) (yields_at rfl 56 (.tmp 23) rfl (b1) (o1 + m * 12) rfl (pparr (s', b', x')) _ (fun _ h => h.2) Try.underlying56 rfl infoPpS) (by assumption) ?_
        simp only [Act.put, List.getElem_toArray, List.getElem_cons_zero, List.getElem_cons_succ, List.setIfInBounds_toArray, List.set_cons_zero, List.set_cons_succ]
        refine wpAnyH_take (i := 5) (v := .agg (pparr (s, b, x))) rfl (by kernel_rfl) (by kernel_rfl) (by kernel_rfl) (fun _ _ _ h => h) (yields_row rfl 56 (.tmp 4) rfl (w.heap.size) rfl _ (pparr (s, b, x)) _ (fun _ h => h.1) Try.underlying56 rfl infoPpS) (by assumption) ?_
        simp only [Act.put, List.getElem_toArray, List.getElem_cons_zero, List.getElem_cons_succ, List.setIfInBounds_toArray, List.set_cons_zero, List.set_cons_succ]
        refine wpAnyH_ready (rs := [6]) (by kernel_rfl) (by simp) ?_
        refine AllReadyH.cons rfl (fun K hK => ?_) AllReadyH.nil
        go_simp
        (go_at_call 80; refine (cO _).mono ?_; rintro e w2 ⟨rfl, hb2⟩; have hb2' : Below W.heap.size W w2 := bAll hbel (bAll (bDrew1 _) hb2))
        refine hK.out _ _ ?_ (fun hHeld => ?_)
        · exact ⟨bKeeps hb2' B0.out, G.out _ (bAll hal hb2')⟩
        clear hK K
        refine wpAnyH_take (i := 7) (v := ?v5) rfl (by kernel_rfl) (by kernel_rfl) (by kernel_rfl) (fun _ _ _ h => h) (Or.inl ⟨by rfl, ?hy5⟩) (by assumption) ?rest5
        case hy5 => ((intro w hSw; (try dsimp only at hSw); (try simp only [List.getElem_toArray, List.getElem_cons_zero, List.getElem_cons_succ]); go_simp; first | done | (with_reducible rfl)))
        simp only [Act.put, List.getElem_toArray, List.getElem_cons_zero, List.getElem_cons_succ, List.setIfInBounds_toArray, List.set_cons_zero, List.set_cons_succ]
        refine wpAnyH_done (by kernel_rfl) ?_ _
        refine NoPanic.normal ?_
        go_wp2
        go_roundw
        case rel =>
          refine ⟨m + 1, h, by omega, hhn, by go_num, rfl, fun i y hi hy => ?_, HHi.out, hb2'⟩
          rcases (by omega : i < m ∨ i = m) with h1 | rfl
          · exact asc_below ordOkV HS.out h1 hy Hx.out (by rw [Ho.out]; exact hneg)
          · rw [Hx.out] at hy
            obtain rfl := Option.some.inj hy
            rw [Ho.out]
            exact hneg
        case measure => simp [intOf]; omega
      · have hd1 : decide (o < 0) = false := by simpa using hneg
        go_wp2
        refine wp_region_noPanic ?_
        refine wp_region_held_drew (S := (fun w' => w'.heap[w.heap.size]? = some (.cells (pparr (s, b, x)) 56 (0, 0)) ∧ (∀ j u, (pparr (s', b', x'))[j]? = some u → w'.cell? ⟨b1, o1 + m * 12 + j, none⟩ = some u))) (by kernel_rfl) ?_ (fun hHeld => ?_)
        · exact ⟨bKeeps (bAll hbel (bDrew1 _)) B0.out, G.out _ (bAll hal (bAll hbel (bDrew1 _)))⟩
        refine wpAnyH_take (i := 0) (v := ?v6) rfl (by kernel_rfl) (by kernel_rfl) (by kernel_rfl) (fun _ _ _ h => h) (Or.inl ⟨by rfl, ?hy6⟩) (by assumption) ?rest6
        case hy6 => ((intro w hSw; (try dsimp only at hSw); (try simp only [List.getElem_toArray, List.getElem_cons_zero]); go_simp; first | done | (with_reducible rfl)))
        simp only [Act.put, List.getElem_toArray, List.getElem_cons_zero, List.setIfInBounds_toArray, List.set_cons_zero, List.set_cons_succ]
        refine wpAnyH_take (i := 1) (v := ?v7) rfl (by kernel_rfl) (by kernel_rfl) (by kernel_rfl) (fun _ _ _ h => h) (Or.inl ⟨by rfl, ?hy7⟩) (by assumption) ?rest7
        case hy7 => ((intro w hSw; (try dsimp only at hSw); (try simp only [List.getElem_toArray, List.getElem_cons_zero, List.getElem_cons_succ]); go_simp; first | done | (with_reducible rfl)))
        simp only [Act.put, List.getElem_toArray, List.getElem_cons_zero, List.getElem_cons_succ, List.setIfInBounds_toArray, List.set_cons_zero, List.set_cons_succ]
        refine wpAnyH_take (i := 2) (v := ?v8) rfl (by kernel_rfl) (by kernel_rfl) (by kernel_rfl) (fun _ _ _ h => h) (Or.inl ⟨by rfl, ?hy8⟩) (by assumption) ?rest8
        case hy8 => ((intro w hSw; (try dsimp only at hSw); (try simp only [List.getElem_toArray, List.getElem_cons_zero, List.getElem_cons_succ]); go_simp; first | done | (with_reducible rfl)))
        simp only [Act.put, List.getElem_toArray, List.getElem_cons_zero, List.getElem_cons_succ, List.setIfInBounds_toArray, List.set_cons_zero, List.set_cons_succ]
        refine wpAnyH_take (i := 3) (v := ?v9) rfl (by kernel_rfl) (by kernel_rfl) (by kernel_rfl) (fun _ _ _ h => h) (Or.inl ⟨by rfl, ?hy9⟩) (by assumption) ?rest9
        case hy9 => ((intro w hSw; (try dsimp only at hSw); (try simp only [List.getElem_toArray, List.getElem_cons_zero, List.getElem_cons_succ]); go_simp; first | done | (with_reducible rfl)))
        simp only [Act.put, List.getElem_toArray, List.getElem_cons_zero, List.getElem_cons_succ, List.setIfInBounds_toArray, List.set_cons_zero, List.set_cons_succ]
        refine wpAnyH_take (i := 4) (v := .agg (pparr (s', b', x'))) rfl (by kernel_rfl) (by kernel_rfl) (by kernel_rfl) (fun _ _ _ h => h) (yields_at rfl 56 (.tmp 23) rfl (b1) (o1 + m * 12) rfl (pparr (s', b', x')) _ (fun _ h => h.2) Try.underlying56 rfl infoPpS) (by assumption) ?_
        simp only [Act.put, List.getElem_toArray, List.getElem_cons_zero, List.getElem_cons_succ, List.setIfInBounds_toArray, List.set_cons_zero, List.set_cons_succ]
        refine wpAnyH_take (i := 5) (v := .agg (pparr (s, b, x))) rfl (by kernel_rfl) (by kernel_rfl) (by kernel_rfl) (fun _ _ _ h => h) (yields_row rfl 56 (.tmp 4) rfl (w.heap.size) rfl _ (pparr (s, b, x)) _ (fun _ h => h.1) Try.underlying56 rfl infoPpS) (by assumption) ?_
        simp only [Act.put, List.getElem_toArray, List.getElem_cons_zero, List.getElem_cons_succ, List.setIfInBounds_toArray, List.set_cons_zero, List.set_cons_succ]
        refine wpAnyH_ready (rs := [6]) (by kernel_rfl) (by simp) ?_
        refine AllReadyH.cons rfl (fun K hK => ?_) AllReadyH.nil
        go_simp
        (go_at_call 80; refine (cO _).mono ?_; rintro e w2 ⟨rfl, hb2⟩; have hb2' : Below W.heap.size W w2 := bAll hbel (bAll (bDrew1 _) hb2))
        refine hK.out _ _ ?_ (fun hHeld => ?_)
        · exact ⟨bKeeps hb2' B0.out, G.out _ (bAll hal hb2')⟩
        clear hK K
        refine wpAnyH_take (i := 7) (v := ?v10) rfl (by kernel_rfl) (by kernel_rfl) (by kernel_rfl) (fun _ _ _ h => h) (Or.inl ⟨by rfl, ?hy10⟩) (by assumption) ?rest10
        case hy10 => ((intro w hSw; (try dsimp only at hSw); (try simp only [List.getElem_toArray, List.getElem_cons_zero, List.getElem_cons_succ]); go_simp; first | done | (with_reducible rfl)))
        simp only [Act.put, List.getElem_toArray, List.getElem_cons_zero, List.getElem_cons_succ, List.setIfInBounds_toArray, List.set_cons_zero, List.set_cons_succ]
        refine wpAnyH_done (by kernel_rfl) ?_ _
        refine NoPanic.normal ?_
        go_wp2
        go_roundw
        case rel =>
          refine ⟨l, m, hm1, by omega, rfl, rfl, HLo.out, fun i y hi hy => ?_, hb2'⟩
          rcases (by omega : m < i ∨ i = m) with h1 | rfl
          · exact Int.le_of_lt (asc_above ordOkV HS.out h1 hy Hx.out (by rw [Ho.out]; omega))
          · rw [Hx.out] at hy
            obtain rfl := Option.some.inj hy
            rw [Ho.out]
            omega
        case measure => simp [intOf]; omega
    · obtain rfl : l = h := by omega
      by_cases hln : l < n
      · obtain ⟨b1, o1, rfl, hc1⟩ := hr (by omega)
        obtain ⟨⟨s', b', x'⟩, hx⟩ := getAt xs l (by have := Hl.out; omega)
        have G := hide (fun V (hV : Below w.heap.size w V) => pp_at hc1 hx hV)
        have Hx := hide hx
        obtain ⟨o, ho⟩ : ∃ o, cmpI s' s = o := ⟨_, rfl⟩
        have cO := fun w => synBySlot_any s' b' x' s b x w
        rw [ho] at cO
        have Ho : Hid (ordV (s', b', x') (s, b, x) = o) := ho
        have hli : (l : Int) < (n : Int) := by omega
        have hd1 : decide ((l : Int) < (n : Int)) = true := by simpa using hli
        clear hr hc1 hx ho
        go_wp2
        refine wp_region_noPanic ?_
        refine wp_region_held_drew (S := (fun w' => w'.heap[w.heap.size]? = some (.cells (pparr (s, b, x)) 56 (0, 0)) ∧ (∀ j u, (pparr (s', b', x'))[j]? = some u → w'.cell? ⟨b1, o1 + l * 12 + j, none⟩ = some u))) (by kernel_rfl) ?_ (fun hHeld => ?_)
        · exact ⟨bKeeps (bAll hbel (bDrew1 _)) B0.out, G.out _ (bAll hal (bAll hbel (bDrew1 _)))⟩
        refine wpAnyH_take (i := 0) (v := ?v11) rfl (by kernel_rfl) (by kernel_rfl) (by kernel_rfl) (fun _ _ _ h => h) (Or.inl ⟨by rfl, ?hy11⟩) (by assumption) ?rest11
        case hy11 => ((intro w hSw; (try dsimp only at hSw); (try simp only [List.getElem_toArray, List.getElem_cons_zero]); go_simp; first | done | (with_reducible rfl)))
        simp only [Act.put, List.getElem_toArray, List.getElem_cons_zero, List.setIfInBounds_toArray, List.set_cons_zero, List.set_cons_succ]
        refine wpAnyH_take (i := 1) (v := ?v12) rfl (by kernel_rfl) (by kernel_rfl) (by kernel_rfl) (fun _ _ _ h => h) (Or.inl ⟨by rfl, ?hy12⟩) (by assumption) ?rest12
        case hy12 => ((intro w hSw; (try dsimp only at hSw); (try simp only [List.getElem_toArray, List.getElem_cons_zero, List.getElem_cons_succ]); go_simp; first | done | (with_reducible rfl)))
        simp only [Act.put, List.getElem_toArray, List.getElem_cons_zero, List.getElem_cons_succ, List.setIfInBounds_toArray, List.set_cons_zero, List.set_cons_succ]
        refine wpAnyH_take (i := 2) (v := ?v13) rfl (by kernel_rfl) (by kernel_rfl) (by kernel_rfl) (fun _ _ _ h => h) (Or.inl ⟨by rfl, ?hy13⟩) (by assumption) ?rest13
        case hy13 => ((intro w hSw; (try dsimp only at hSw); (try simp only [List.getElem_toArray, List.getElem_cons_zero, List.getElem_cons_succ]); go_simp; first | done | (with_reducible rfl)))
        simp only [Act.put, List.getElem_toArray, List.getElem_cons_zero, List.getElem_cons_succ, List.setIfInBounds_toArray, List.set_cons_zero, List.set_cons_succ]
        refine wpAnyH_take (i := 3) (v := ?v14) rfl (by kernel_rfl) (by kernel_rfl) (by kernel_rfl) (fun _ _ _ h => h) (Or.inl ⟨by rfl, ?hy14⟩) (by assumption) ?rest14
        case hy14 => ((intro w hSw; (try dsimp only at hSw); (try simp only [List.getElem_toArray, List.getElem_cons_zero, List.getElem_cons_succ]); go_simp; first | done | (with_reducible rfl)))
        simp only [Act.put, List.getElem_toArray, List.getElem_cons_zero, List.getElem_cons_succ, List.setIfInBounds_toArray, List.set_cons_zero, List.set_cons_succ]
        refine wpAnyH_take (i := 4) (v := ?v15) rfl (by kernel_rfl) (by kernel_rfl) (by kernel_rfl) (fun _ _ _ h => h) (Or.inl ⟨by rfl, ?hy15⟩) (by assumption) ?rest15
        case hy15 => ((intro w hSw; (try dsimp only at hSw); (try simp only [List.getElem_toArray, List.getElem_cons_zero, List.getElem_cons_succ]); go_simp; first | done | (with_reducible rfl)))
        simp only [Act.put, List.getElem_toArray, List.getElem_cons_zero, List.getElem_cons_succ, List.setIfInBounds_toArray, List.set_cons_zero, List.set_cons_succ]
        refine wpAnyH_take (i := 5) (v := ?v16) rfl (by kernel_rfl) (by kernel_rfl) (by kernel_rfl) (fun _ _ _ h => h) (Or.inl ⟨by rfl, ?hy16⟩) (by assumption) ?rest16
        case hy16 => ((intro w hSw; (try dsimp only at hSw); (try simp only [List.getElem_toArray, List.getElem_cons_zero, List.getElem_cons_succ]); go_simp; first | done | (with_reducible rfl)))
        simp only [Act.put, List.getElem_toArray, List.getElem_cons_zero, List.getElem_cons_succ, List.setIfInBounds_toArray, List.set_cons_zero, List.set_cons_succ]
        refine wpAnyH_take (i := 6) (v := ?v17) rfl (by kernel_rfl) (by kernel_rfl) (by kernel_rfl) (fun _ _ _ h => h) (Or.inl ⟨by rfl, ?hy17⟩) (by assumption) ?rest17
        case hy17 => ((intro w hSw; (try dsimp only at hSw); (try simp only [List.getElem_toArray, List.getElem_cons_zero, List.getElem_cons_succ]); go_simp; first | done | (with_reducible rfl)))
        simp only [Act.put, List.getElem_toArray, List.getElem_cons_zero, List.getElem_cons_succ, List.setIfInBounds_toArray, List.set_cons_zero, List.set_cons_succ]
        refine wpAnyH_take (i := 7) (v := ?v18) rfl (by kernel_rfl) (by kernel_rfl) (by kernel_rfl) (fun _ _ _ h => h) (Or.inl ⟨by rfl, ?hy18⟩) (by assumption) ?rest18
        case hy18 => ((intro w hSw; (try dsimp only at hSw); (try simp only [List.getElem_toArray, List.getElem_cons_zero, List.getElem_cons_succ]); go_simp; first | done | (with_reducible rfl)))
        simp only [Act.put, List.getElem_toArray, List.getElem_cons_zero, List.getElem_cons_succ, List.setIfInBounds_toArray, List.set_cons_zero, List.set_cons_succ]
        refine wpAnyH_take (i := 8) (v := ?v19) rfl (by kernel_rfl) (by kernel_rfl) (by kernel_rfl) (fun _ _ _ h => h) (Or.inl ⟨by rfl, ?hy19⟩) (by assumption) ?rest19
        case hy19 => ((intro w hSw; (try dsimp only at hSw); (try simp only [List.getElem_toArray, List.getElem_cons_zero, List.getElem_cons_succ]); go_simp; first | done | (with_reducible rfl)))
        simp only [Act.put, List.getElem_toArray, List.getElem_cons_zero, List.getElem_cons_succ, List.setIfInBounds_toArray, List.set_cons_zero, List.set_cons_succ]
        refine wpAnyH_take (i := 9) (v := ?v20) rfl (by kernel_rfl) (by kernel_rfl) (by kernel_rfl) (fun _ _ _ h => h) (Or.inl ⟨by rfl, ?hy20⟩) (by assumption) ?rest20
        case hy20 => ((intro w hSw; (try dsimp only at hSw); (try simp only [List.getElem_toArray, List.getElem_cons_zero, List.getElem_cons_succ]); go_simp; first | done | (with_reducible rfl)))
        simp only [Act.put, List.getElem_toArray, List.getElem_cons_zero, List.getElem_cons_succ, List.setIfInBounds_toArray, List.set_cons_zero, List.set_cons_succ]
        refine wpAnyH_take (i := 10) (v := .agg (pparr (s', b', x'))) rfl (by kernel_rfl) (by kernel_rfl) (by kernel_rfl) (fun _ _ _ h => h) (yields_at rfl 56 (.tmp 40) rfl (b1) (o1 + l * 12) rfl (pparr (s', b', x')) _ (fun _ h => h.2) Try.underlying56 rfl infoPpS) (by assumption) ?_
        simp only [Act.put, List.getElem_toArray, List.getElem_cons_zero, List.getElem_cons_succ, List.setIfInBounds_toArray, List.set_cons_zero, List.set_cons_succ]
        refine wpAnyH_take (i := 11) (v := .agg (pparr (s, b, x))) rfl (by kernel_rfl) (by kernel_rfl) (by kernel_rfl) (fun _ _ _ h => h) (yields_row rfl 56 (.tmp 4) rfl (w.heap.size) rfl _ (pparr (s, b, x)) _ (fun _ h => h.1) Try.underlying56 rfl infoPpS) (by assumption) ?_
        simp only [Act.put, List.getElem_toArray, List.getElem_cons_zero, List.getElem_cons_succ, List.setIfInBounds_toArray, List.set_cons_zero, List.set_cons_succ]
        refine wpAnyH_ready (rs := [12]) (by kernel_rfl) (by simp) ?_
        refine AllReadyH.cons rfl (fun K hK => ?_) AllReadyH.nil
        go_simp
        (go_at_call 80; refine (cO _).mono ?_; rintro e w2 ⟨rfl, hb2⟩; have hb2' : Below W.heap.size W w2 := bAll hbel (bAll (bDrew1 _) hb2))
        refine hK.out _ _ ?_ (fun hHeld => ?_)
        · exact ⟨bKeeps hb2' B0.out, G.out _ (bAll hal hb2')⟩
        clear hK K
        refine wpAnyH_take (i := 13) (v := ?v21) rfl (by kernel_rfl) (by kernel_rfl) (by kernel_rfl) (fun _ _ _ h => h) (Or.inl ⟨by rfl, ?hy21⟩) (by assumption) ?rest21
        case hy21 => ((intro w hSw; (try dsimp only at hSw); (try simp only [List.getElem_toArray, List.getElem_cons_zero, List.getElem_cons_succ]); go_simp; first | done | (with_reducible rfl)))
        simp only [Act.put, List.getElem_toArray, List.getElem_cons_zero, List.getElem_cons_succ, List.setIfInBounds_toArray, List.set_cons_zero, List.set_cons_succ]
        refine wpAnyH_take (i := 14) (v := ?v22) rfl (by kernel_rfl) (by kernel_rfl) (by kernel_rfl) (fun _ _ _ h => h) (Or.inl ⟨by rfl, ?hy22⟩) (by assumption) ?rest22
        case hy22 => ((intro w hSw; (try dsimp only at hSw); (try simp only [List.getElem_toArray, List.getElem_cons_zero, List.getElem_cons_succ]); go_simp; first | done | (with_reducible rfl)))
        simp only [Act.put, List.getElem_toArray, List.getElem_cons_zero, List.getElem_cons_succ, List.setIfInBounds_toArray, List.set_cons_zero, List.set_cons_succ]
        refine wpAnyH_take (i := 15) (v := ?v23) rfl (by kernel_rfl) (by kernel_rfl) (by kernel_rfl) (fun _ _ _ h => h) (Or.inl ⟨by rfl, ?hy23⟩) (by assumption) ?rest23
        case hy23 => ((intro w hSw; (try dsimp only at hSw); (try simp only [List.getElem_toArray, List.getElem_cons_zero, List.getElem_cons_succ]); go_simp; first | done | (with_reducible rfl)))
        simp only [Act.put, List.getElem_toArray, List.getElem_cons_zero, List.getElem_cons_succ, List.setIfInBounds_toArray, List.set_cons_zero, List.set_cons_succ]
        refine wpAnyH_take (i := 16) (v := ?v24) rfl (by kernel_rfl) (by kernel_rfl) (by kernel_rfl) (fun _ _ _ h => h) (Or.inl ⟨by rfl, ?hy24⟩) (by assumption) ?rest24
        case hy24 => ((intro w hSw; (try dsimp only at hSw); (try simp only [List.getElem_toArray, List.getElem_cons_zero, List.getElem_cons_succ]); go_simp; first | done | (with_reducible rfl)))
        simp only [Act.put, List.getElem_toArray, List.getElem_cons_zero, List.getElem_cons_succ, List.setIfInBounds_toArray, List.set_cons_zero, List.set_cons_succ]
        refine wpAnyH_done (by kernel_rfl) ?_ _
        refine NoPanic.normal ?_
        go_wp2
        refine bodyPost_ret (v := .tuple #[.int .i64 l, .bool (o == 0)]) (by simp [results, Try.results126, go_sem]) rfl ⟨l, _, rfl, isAt_of (by rw [Hl.out]; omega) HLo.out HHi.out ?_, bAll hal hb2'⟩
        rw [beq_iff_eq]
        constructor
        · intro h0
          exact ⟨_, Hx.out, by rw [Ho.out]; exact h0⟩
        · rintro ⟨y, hy, h0⟩
          rw [Hx.out] at hy
          obtain rfl := Option.some.inj hy
          rw [Ho.out] at h0
          exact h0
      · have hd1 : decide ((l : Int) < (n : Int)) = false := by simp; omega
        go_wp2
        refine wp_region_noPanic ?_
        refine wp_region_held_drew (S := (fun _ => True)) (by kernel_rfl) ?_ (fun hHeld => ?_)
        · trivial
        refine wpAnyH_take (i := 0) (v := ?v25) rfl (by kernel_rfl) (by kernel_rfl) (by kernel_rfl) (fun _ _ _ h => h) (Or.inl ⟨by rfl, ?hy25⟩) (by assumption) ?rest25
        case hy25 => ((intro w hSw; (try dsimp only at hSw); (try simp only [List.getElem_toArray, List.getElem_cons_zero]); go_simp; first | done | (with_reducible rfl)))
        simp only [Act.put, List.getElem_toArray, List.getElem_cons_zero, List.setIfInBounds_toArray, List.set_cons_zero, List.set_cons_succ]
        refine wpAnyH_take (i := 1) (v := ?v26) rfl (by kernel_rfl) (by kernel_rfl) (by kernel_rfl) (fun _ _ _ h => h) (Or.inl ⟨by rfl, ?hy26⟩) (by assumption) ?rest26
        case hy26 => ((intro w hSw; (try dsimp only at hSw); (try simp only [List.getElem_toArray, List.getElem_cons_zero, List.getElem_cons_succ]); go_simp; first | done | (with_reducible rfl)))
        simp only [Act.put, List.getElem_toArray, List.getElem_cons_zero, List.getElem_cons_succ, List.setIfInBounds_toArray, List.set_cons_zero, List.set_cons_succ]
        refine wpAnyH_take (i := 2) (v := ?v27) rfl (by kernel_rfl) (by kernel_rfl) (by kernel_rfl) (fun _ _ _ h => h) (Or.inl ⟨by rfl, ?hy27⟩) (by assumption) ?rest27
        case hy27 => ((intro w hSw; (try dsimp only at hSw); (try simp only [List.getElem_toArray, List.getElem_cons_zero, List.getElem_cons_succ]); go_simp; first | done | (with_reducible rfl)))
        simp only [Act.put, List.getElem_toArray, List.getElem_cons_zero, List.getElem_cons_succ, List.setIfInBounds_toArray, List.set_cons_zero, List.set_cons_succ]
        refine wpAnyH_take (i := 3) (v := ?v28) rfl (by kernel_rfl) (by kernel_rfl) (by kernel_rfl) (fun _ _ _ h => h) (Or.inl ⟨by rfl, ?hy28⟩) (by assumption) ?rest28
        case hy28 => ((intro w hSw; (try dsimp only at hSw); (try simp only [List.getElem_toArray, List.getElem_cons_zero, List.getElem_cons_succ]); go_simp; first | done | (with_reducible rfl)))
        simp only [Act.put, List.getElem_toArray, List.getElem_cons_zero, List.getElem_cons_succ, List.setIfInBounds_toArray, List.set_cons_zero, List.set_cons_succ]
        refine wpAnyH_take (i := 4) (v := ?v29) rfl (by kernel_rfl) (by kernel_rfl) (by kernel_rfl) (fun _ _ _ h => h) (Or.inl ⟨by rfl, ?hy29⟩) (by assumption) ?rest29
        case hy29 => ((intro w hSw; (try dsimp only at hSw); (try simp only [List.getElem_toArray, List.getElem_cons_zero, List.getElem_cons_succ]); go_simp; first | done | (with_reducible rfl)))
        simp only [Act.put, List.getElem_toArray, List.getElem_cons_zero, List.getElem_cons_succ, List.setIfInBounds_toArray, List.set_cons_zero, List.set_cons_succ]
        refine wpAnyH_take (i := 5) (v := ?v30) rfl (by kernel_rfl) (by kernel_rfl) (by kernel_rfl) (fun _ _ _ h => h) (Or.inl ⟨by rfl, ?hy30⟩) (by assumption) ?rest30
        case hy30 => ((intro w hSw; (try dsimp only at hSw); (try simp only [List.getElem_toArray, List.getElem_cons_zero, List.getElem_cons_succ]); go_simp; first | done | (with_reducible rfl)))
        simp only [Act.put, List.getElem_toArray, List.getElem_cons_zero, List.getElem_cons_succ, List.setIfInBounds_toArray, List.set_cons_zero, List.set_cons_succ]
        refine wpAnyH_take (i := 6) (v := undef) rfl (by kernel_rfl) (by kernel_rfl) (by kernel_rfl) (fun _ _ _ h => h) (Or.inr ⟨by rfl, rfl⟩) (by assumption) ?_
        simp only [Act.put, List.getElem_toArray, List.getElem_cons_zero, List.getElem_cons_succ, List.setIfInBounds_toArray, List.set_cons_zero, List.set_cons_succ]
        refine wpAnyH_take (i := 7) (v := undef) rfl (by kernel_rfl) (by kernel_rfl) (by kernel_rfl) (fun _ _ _ h => h) (Or.inr ⟨by rfl, rfl⟩) (by assumption) ?_
        simp only [Act.put, List.getElem_toArray, List.getElem_cons_zero, List.getElem_cons_succ, List.setIfInBounds_toArray, List.set_cons_zero, List.set_cons_succ]
        refine wpAnyH_take (i := 8) (v := undef) rfl (by kernel_rfl) (by kernel_rfl) (by kernel_rfl) (fun _ _ _ h => h) (Or.inr ⟨by rfl, rfl⟩) (by assumption) ?_
        simp only [Act.put, List.getElem_toArray, List.getElem_cons_zero, List.getElem_cons_succ, List.setIfInBounds_toArray, List.set_cons_zero, List.set_cons_succ]
        refine wpAnyH_take (i := 9) (v := undef) rfl (by kernel_rfl) (by kernel_rfl) (by kernel_rfl) (fun _ _ _ h => h) (Or.inr ⟨by rfl, rfl⟩) (by assumption) ?_
        simp only [Act.put, List.getElem_toArray, List.getElem_cons_zero, List.getElem_cons_succ, List.setIfInBounds_toArray, List.set_cons_zero, List.set_cons_succ]
        refine wpAnyH_take (i := 10) (v := undef) rfl (by kernel_rfl) (by kernel_rfl) (by kernel_rfl) (fun _ _ _ h => h) (Or.inr ⟨by rfl, rfl⟩) (by assumption) ?_
        simp only [Act.put, List.getElem_toArray, List.getElem_cons_zero, List.getElem_cons_succ, List.setIfInBounds_toArray, List.set_cons_zero, List.set_cons_succ]
        refine wpAnyH_take (i := 11) (v := undef) rfl (by kernel_rfl) (by kernel_rfl) (by kernel_rfl) (fun _ _ _ h => h) (Or.inr ⟨by rfl, rfl⟩) (by assumption) ?_
        simp only [Act.put, List.getElem_toArray, List.getElem_cons_zero, List.getElem_cons_succ, List.setIfInBounds_toArray, List.set_cons_zero, List.set_cons_succ]
        refine wpAnyH_take (i := 12) (v := undef) rfl (by kernel_rfl) (by kernel_rfl) (by kernel_rfl) (fun _ _ _ h => h) (Or.inr ⟨by rfl, rfl⟩) (by assumption) ?_
        simp only [Act.put, List.getElem_toArray, List.getElem_cons_zero, List.getElem_cons_succ, List.setIfInBounds_toArray, List.set_cons_zero, List.set_cons_succ]
        refine wpAnyH_take (i := 13) (v := undef) rfl (by kernel_rfl) (by kernel_rfl) (by kernel_rfl) (fun _ _ _ h => h) (Or.inr ⟨by rfl, rfl⟩) (by assumption) ?_
        simp only [Act.put, List.getElem_toArray, List.getElem_cons_zero, List.getElem_cons_succ, List.setIfInBounds_toArray, List.set_cons_zero, List.set_cons_succ]
        refine wpAnyH_take (i := 14) (v := ?v31) rfl (by kernel_rfl) (by kernel_rfl) (by kernel_rfl) (fun _ _ _ h => h) (Or.inl ⟨by rfl, ?hy31⟩) (by assumption) ?rest31
        case hy31 => ((intro w hSw; (try dsimp only at hSw); (try simp only [List.getElem_toArray, List.getElem_cons_zero, List.getElem_cons_succ]); go_simp; first | done | (with_reducible rfl)))
        simp only [Act.put, List.getElem_toArray, List.getElem_cons_zero, List.getElem_cons_succ, List.setIfInBounds_toArray, List.set_cons_zero, List.set_cons_succ]
        refine wpAnyH_take (i := 15) (v := ?v32) rfl (by kernel_rfl) (by kernel_rfl) (by kernel_rfl) (fun _ _ _ h => h) (Or.inl ⟨by rfl, ?hy32⟩) (by assumption) ?rest32
        case hy32 => ((intro w hSw; (try dsimp only at hSw); (try simp only [List.getElem_toArray, List.getElem_cons_zero, List.getElem_cons_succ]); go_simp; first | done | (with_reducible rfl)))
        simp only [Act.put, List.getElem_toArray, List.getElem_cons_zero, List.getElem_cons_succ, List.setIfInBounds_toArray, List.set_cons_zero, List.set_cons_succ]
        refine wpAnyH_take (i := 16) (v := ?v33) rfl (by kernel_rfl) (by kernel_rfl) (by kernel_rfl) (fun _ _ _ h => h) (Or.inl ⟨by rfl, ?hy33⟩) (by assumption) ?rest33
        case hy33 => ((intro w hSw; (try dsimp only at hSw); (try simp only [List.getElem_toArray, List.getElem_cons_zero, List.getElem_cons_succ]); go_simp; first | done | (with_reducible rfl)))
        simp only [Act.put, List.getElem_toArray, List.getElem_cons_zero, List.getElem_cons_succ, List.setIfInBounds_toArray, List.set_cons_zero, List.set_cons_succ]
        refine wpAnyH_done (by kernel_rfl) ?_ _
        refine NoPanic.normal ?_
        go_wp2
        refine bodyPost_ret (v := .tuple #[.int .i64 l, .bool false]) (by simp [results, Try.results126, go_sem]) rfl ⟨l, _, rfl, isAt_of (by rw [Hl.out]; omega) HLo.out HHi.out ?_, bAll hal (bAll hbel (bDrew1 _))⟩
        constructor
        · intro h0
          cases h0
        · rintro ⟨y, hy, h0⟩
          have := (List.getElem?_eq_some_iff.1 hy).1
          have := Hl.out
          omega

end Go.Proofs.Ytiigcokbmggdkaa

/- How a paper is put into papers, as plain lists: plain facts; no statement of the seat is proved here. -/
namespace Go.Proofs.Ytiigcokbmggdkaa

/-- What the specification's put has of the papers ahead: those, if none is of the slot or behind it; else with the paper in its place. -/
def PutV (p : Pp) (ys out : List Pp) (done : Bool) : Prop :=
  (done = false ∧ (∀ y ∈ ys, y.1 < p.1) ∧ out = ys) ∨ (done = true ∧ (∃ z ∈ ys, p.1 ≤ z.1) ∧ out = insL ordV ys p)

theorem insV_lo {p : Pp} {ys : List Pp} (h : ∀ y ∈ ys, y.1 < p.1) : insL ordV ys p = ys ++ [p] := by
  have h1 := filter_lo (ord := ordV) (xs := ys) (x := p) (fun y hy => cmpI_neg.2 (h y hy))
  simp only [insL, h1.1, h1.2]
theorem insV_snoc {p y : Pp} {ys : List Pp} (h : p.1 < y.1) : insL ordV (ys ++ [y]) p = insL ordV ys p ++ [y] := by
  have a1 : ¬ ordV y p < 0 := by simp only [ordV, cmpI_neg]; omega
  have a2 : 0 < ordV y p := cmpI_pos.2 h
  simp [insL, a1, a2]
theorem insV_same {p y : Pp} {ys : List Pp} (h : y.1 = p.1) : insL ordV (ys ++ [y]) p = insL ordV ys p := by
  have a1 : ¬ ordV y p < 0 := by simp only [ordV, cmpI_neg]; omega
  have a2 : ¬ 0 < ordV y p := by simp only [ordV, cmpI_pos]; omega
  simp [insL, a1, a2]

theorem putV_start (p : Pp) : PutV p [] [] false := .inl ⟨rfl, by simp, rfl⟩
theorem putV_lo {p y : Pp} {ys out : List Pp} (h : PutV p ys out false) (hy : y.1 < p.1) : PutV p (ys ++ [y]) (out ++ [y]) false := by
  rcases h with ⟨-, h1, rfl⟩ | ⟨h, -⟩
  · refine .inl ⟨rfl, fun z hz => ?_, rfl⟩
    rcases List.mem_append.1 hz with hz | hz
    · exact h1 z hz
    · rw [List.mem_singleton.1 hz]; exact hy
  · cases h
theorem putV_hit {p y : Pp} {ys out : List Pp} (h : PutV p ys out false) (hy : y.1 = p.1) : PutV p (ys ++ [y]) (out ++ [p]) true := by
  rcases h with ⟨-, h1, rfl⟩ | ⟨h, -⟩
  · exact .inr ⟨rfl, ⟨y, by simp, by omega⟩, by rw [insV_same hy, insV_lo h1]⟩
  · cases h
theorem putV_over {p y : Pp} {ys out : List Pp} (h : PutV p ys out false) (hy : p.1 < y.1) : PutV p (ys ++ [y]) (out ++ [p] ++ [y]) true := by
  rcases h with ⟨-, h1, rfl⟩ | ⟨h, -⟩
  · exact .inr ⟨rfl, ⟨y, by simp, by omega⟩, by rw [insV_snoc hy, insV_lo h1]⟩
  · cases h
theorem putV_done {p y : Pp} {ys out : List Pp} (hs : Asc ordV (ys ++ [y])) (h : PutV p ys out true) : p.1 < y.1 ∧ PutV p (ys ++ [y]) (out ++ [y]) true := by
  rcases h with ⟨h, -⟩ | ⟨-, ⟨z, hz, hzp⟩, rfl⟩
  · cases h
  · have h1 : ordV z y < 0 := by
      have := List.pairwise_append.1 hs
      exact this.2.2 z hz y (by simp)
    have h2 : z.1 < y.1 := cmpI_neg.1 h1
    have h3 : p.1 < y.1 := by omega
    exact ⟨h3, .inr ⟨rfl, ⟨z, by simp [hz], hzp⟩, by rw [insV_snoc h3]⟩⟩
theorem putV_end {p : Pp} {ys out : List Pp} {done : Bool} (h : PutV p ys out done) : (if done = false then out ++ [p] else out) = insL ordV ys p := by
  rcases h with ⟨rfl, h1, rfl⟩ | ⟨rfl, -, rfl⟩
  · simp [insV_lo h1]
  · simp
theorem putV_len {p : Pp} {ys out : List Pp} {done : Bool} (h : PutV p ys out done) : out.length ≤ ys.length + 1 := by
  rcases h with ⟨-, -, rfl⟩ | ⟨-, -, rfl⟩
  · omega
  · exact ins_len ys p

end Go.Proofs.Ytiigcokbmggdkaa

/- A word's slot and ballot, a denial, the paper of a slot: contracts; no statement of the seat is proved here. -/
namespace Go.Proofs.Ytiigcokbmggdkaa
open Go.RowKit

/-- Whether a word is ok, of a slot and a ballot that can be voted on. -/
def asksW (x : Wd) : Bool := okW x && (inI x.a4 1 60 && decide (1 ≤ x.a3))

set_option maxRecDepth 100000 in
set_option maxHeartbeats 4000000 in
theorem synAsks_any (v : Value) (x : Wd) (w : World) (h : WdR w v x) :
    Calls Try.prog 56 #[v] w fun e w' => e = .returned (.bool (asksW x)) ∧ Below w.heap.size w w' := by
  obtain ⟨cs, e0, hs, h1⟩ := h.agg
  have hd3 : cs[3]? = some (.int .i64 x.a3) ∧ cs[4]? = some (.int .i64 x.a4) := by
    obtain ⟨po, pc, lo, lc, e, -, -⟩ := h
    rw [e0] at e
    injection e with e
    rw [e]
    exact ⟨rfl, rfl⟩
  subst e0
  have al := bal (Below.refl w.heap.size w) (.cells cs 40)
  have B0 := hide (heap_alloc_new w (.cells cs 40))
  have HX := hide (h.keep al)
  have HI := hide (infoAt infoWd hs)
  have H3 := hide hd3
  obtain ⟨i1, hi1⟩ : ∃ i, okW x = i := ⟨_, rfl⟩
  obtain ⟨i2, hi2⟩ : ∃ i, inI x.a4 1 60 = i := ⟨_, rfl⟩
  have hf : asksW x = (i1 && (i2 && decide (1 ≤ x.a3))) := by simp only [asksW, hi1, hi2]
  rw [hf]
  have c1 := fun v w h => implWordOk_any v x w h
  have c2 := fun w => blkWithin_any x.a4 1 60 w
  rw [hi1] at c1
  rw [hi2] at c2
  clear h hs h1 hd3 hi1 hi2 hf
  go_enter Try.func56, Try.ntmps56
  go_wp2_with (refine wpList_load_row rfl 40 (.tmp 1) rfl w.heap.size rfl _ cs (0, 0) _ B0.out Try.underlying40 rfl HI.out ?_)
  refine (c1 _ _ HX.out).mono ?_
  rintro e w1 ⟨rfl, b1⟩
  have C1 := hide (bKeeps b1 B0.out)
  have g3 : w1.cell? ⟨w.heap.size, 3, none⟩ = some (.int .i64 x.a3) := (boxAt C1.out 3).trans H3.out.1
  have g4 : w1.cell? ⟨w.heap.size, 4, none⟩ = some (.int .i64 x.a4) := (boxAt C1.out 4).trans H3.out.2
  have d1 := bAll al b1
  clear b1 B0 HX al
  cases i1
  · go_wp2
    go_ret
    exact ⟨rfl, d1⟩
  go_wp2_with fail
  refine (c2 _).mono ?_
  rintro e w2 ⟨rfl, rfl⟩
  cases i2
  · go_wp2
    go_ret
    exact ⟨rfl, d1⟩
  go_wp2
  go_ret
  exact ⟨by simp, d1⟩

/-- The place of the first paper of a slot, or -1. -/
def firstV (s : Int) (xs : List Pp) : Int := match xs.findIdx? (fun p => decide (p.1 = s)) with
  | some i => (i : Int)
  | none => -1

theorem firstV_none {s : Int} {xs : List Pp} (h : ∀ (j : Nat) (p : Pp), xs[j]? = some p → p.1 ≠ s) : firstV s xs = -1 := by
  have : xs.findIdx? (fun p => decide (p.1 = s)) = none := by
    rw [List.findIdx?_eq_none_iff]
    intro p hp
    obtain ⟨j, hj⟩ := List.mem_iff_getElem?.1 hp
    simpa using h j p hj
  simp [firstV, this]
theorem firstV_some {s : Int} {xs : List Pp} {k : Nat} {p : Pp} (hk : xs[k]? = some p) (hp : p.1 = s) (h : ∀ (j : Nat) (p : Pp), j < k → xs[j]? = some p → p.1 ≠ s) : firstV s xs = (k : Int) := by
  have hkl := (List.getElem?_eq_some_iff.1 hk).1
  have : xs.findIdx? (fun p => decide (p.1 = s)) = some k := by
    rw [List.findIdx?_eq_some_iff_getElem]
    refine ⟨hkl, ?_, fun j hj => ?_⟩
    · have e := (List.getElem?_eq_some_iff.1 hk).2
      rw [e]
      simpa using hp
    · have := h j (xs[j]'(by omega)) hj (List.getElem?_eq_getElem _)
      simpa using this
  simp [firstV, this]

set_option maxRecDepth 100000 in
set_option maxHeartbeats 4000000 in
theorem l21Paper_any (v : Value) (xs : List Pp) (s : Int) (w : World) (hr : RowR w 12 v xs.length (ppcells xs)) :
    Calls Try.prog 49 #[v, .int .i64 s] w fun e w' => e = .returned (.int .i64 (firstV s xs)) ∧ Below w.heap.size w w' := by
  obtain ⟨ao, ca, rfl, hn, -, hr⟩ := hr
  obtain ⟨R, HR⟩ : ∃ R, Hid (firstV s xs = R) := ⟨_, rfl⟩
  rw [HR.out]
  obtain ⟨n, hnn⟩ : ∃ n, xs.length = n := ⟨_, rfl⟩
  have Hl := hide hnn
  rw [hnn] at hn hr ⊢
  clear hnn
  go_enter Try.func49, Try.ntmps49
  go_wp2
  go_loopw [5] (fun i wr => ∃ k : Nat, k ≤ n ∧ i = .int .i64 k ∧ (∀ j p, j < k → xs[j]? = some p → p.1 ≠ s) ∧ Below w.heap.size w wr) (fun i _ => n - (intOf i).toNat)
  case atStart => exact ⟨0, Nat.zero_le _, rfl, fun j p hj => by omega, Below.refl _ _⟩
  case round =>
    obtain ⟨k, hk, rfl, hno, hbel⟩ := hrel
    have HN := hide hno
    clear hno
    by_cases hlt : k < n
    · obtain ⟨b1, o1, rfl, hc1⟩ := hr (by omega)
      obtain ⟨⟨s', b', x'⟩, hx⟩ := getAt xs k (by have := Hl.out; omega)
      have f0 : wr.cell? ⟨b1, o1 + k * 12, none⟩ = some (.int .i64 s') := pp_at hc1 hx hbel 0 _ rfl
      have hi : (k : Int) < (n : Int) := by omega
      have Hx := hide hx
      clear hr hc1 hx
      by_cases he : s' = s
      · have hR : Hid (R = (k : Int)) := by show _ = _; rw [← HR.out]; exact firstV_some Hx.out he HN.out
        have he' : (s' == s) = true := by simpa using he
        go_wp2
        go_ret
        exact ⟨by rw [hR.out]; rfl, hbel⟩
      · have he' : (s' == s) = false := by simpa using he
        go_wp2
        go_roundw
        case rel =>
          refine ⟨k + 1, by omega, by go_num, fun j p hj hp => ?_, hbel⟩
          rcases (by omega : j < k ∨ j = k) with h1 | rfl
          · exact HN.out j p h1 hp
          · rw [Hx.out] at hp
            obtain rfl := Option.some.inj hp
            exact he
        case measure => simp [intOf]; omega
    · have hR : Hid (R = -1) := by
        show _ = _
        rw [← HR.out]
        exact firstV_none (fun j p hp => HN.out j p (by have := (List.getElem?_eq_some_iff.1 hp).1; have := Hl.out; omega) hp)
      go_wp2
      go_ret
      exact ⟨by rw [hR.out]; rfl, hbel⟩

end Go.Proofs.Ytiigcokbmggdkaa

/- What a voter does with a word, as plain values: plain facts; no statement of the seat is proved here. -/
namespace Go.Proofs.Ytiigcokbmggdkaa

/-- What a voter of the number me answers to the word w: of a kind, with what was voted for and its command (that of c). -/
def backW (me : Int) (w : Wd) (kind was : Int) (c : Wd) : Wd := { c with a0 := kind, a1 := me, a2 := w.a1, a3 := w.a3, a4 := w.a4, a5 := was, b0 := 0, b1 := 0, b2 := 0, b3 := 0, b4 := 0, b5 := 0, b6 := 0, b7 := 0, ps := [], ls := [] }

/-- What a voter does with a word: what it has promised then, its papers, its answer, and whether. -/
def voteR (P : Int) (xs : List Pp) (me : Int) (w : Wd) : Int × List Pp × Wd × Bool :=
  if (okV P xs && (inI me 0 2 && (asksW w && (decide (w.a0 = 1) || decide (w.a0 = 3))))) = true then
    if w.a0 = 1 then
      if P < w.a3 then (w.a3, xs, (match xs.find? (fun p => decide (p.1 = w.a4)) with | some p => backW me w 2 p.2.1 p.2.2 | none => backW me w 2 0 zeroW), true)
      else (P, xs, backW me w 5 P zeroW, true)
    else if P ≤ w.a3 then (w.a3, insL ordV xs (w.a4, w.a3, w), backW me w 4 0 zeroW, true)
    else (P, xs, backW me w 5 P zeroW, true)
  else (P, xs, zeroW, false)

/-- Where the search stands, that is the place of the slot. -/
theorem isAt_first {xs : List Pp} {s b : Int} {x : Wd} {p : Nat} {there : Bool} (hs : Asc ordV xs) (h : IsAt ordV xs (s, b, x) p there) : firstV s xs = if there = true then (p : Int) else -1 := by
  have lo : ∀ (j : Nat) (q : Pp), j < p → xs[j]? = some q → q.1 ≠ s := fun j q hj hq => by
    have h2 : q.1 < s := cmpI_neg.1 (h.lo q (List.mem_of_getElem? (by rw [List.getElem?_take_of_lt hj]; exact hq)))
    omega
  cases there
  · refine firstV_none (fun j q hq => ?_)
    by_cases hj : j < p
    · exact lo j q hj hq
    · intro e
      by_cases hjp : j = p
      · subst hjp
        have := h.th.2 ⟨q, hq, cmpI_zero.2 e⟩
        cases this
      · have hpl : p < xs.length := by have := (List.getElem?_eq_some_iff.1 hq).1; omega
        have g1 := h.hi (xs[p]'hpl) (List.mem_of_getElem? (i := 0) (by rw [List.getElem?_drop]; exact List.getElem?_eq_getElem hpl))
        have g2 : 0 < ordV q (s, b, x) := asc_above ordOkV hs (show p < j by omega) hq (List.getElem?_eq_getElem hpl) g1
        have g3 : s < q.1 := cmpI_pos.1 g2
        omega
  · obtain ⟨q, hq, h0⟩ := h.th.1 rfl
    simp only [if_true]
    exact firstV_some hq (cmpI_zero.1 h0) lo

theorem find_first {xs : List Pp} {s : Int} {k : Nat} {p : Pp} (hk : xs[k]? = some p) (h : firstV s xs = (k : Int)) : xs.find? (fun p => decide (p.1 = s)) = some p := by
  unfold firstV at h
  cases hf : xs.findIdx? (fun p => decide (p.1 = s)) with
  | none => rw [hf] at h; simp at h
  | some i =>
    rw [hf] at h
    simp only at h
    have hik : i = k := by omega
    subst hik
    rw [List.findIdx?_eq_some_iff_getElem] at hf
    obtain ⟨hl, h1, h2⟩ := hf
    rw [List.find?_eq_some_iff_getElem]
    have e := (List.getElem?_eq_some_iff.1 hk).2
    exact ⟨by rw [← e]; exact h1, i, hl, e, fun j hj => by simpa using h2 j hj⟩
theorem find_none {xs : List Pp} {s : Int} (h : firstV s xs = -1) : xs.find? (fun p => decide (p.1 = s)) = none := by
  unfold firstV at h
  cases hf : xs.findIdx? (fun p => decide (p.1 = s)) with
  | some i => rw [hf] at h; simp only at h; omega
  | none =>
    rw [List.findIdx?_eq_none_iff] at hf
    rw [List.find?_eq_none]
    intro q hq
    simpa using hf q hq

end Go.Proofs.Ytiigcokbmggdkaa
