/- Contracts and plain facts that this claim leans on (texts VQ5, SE, SK1, VQ3, VM2); no statement of the seat is proved here. -/
import Derived.Test.YtiigcokbmggdkaaVk12
import Derived.Laws.StructEq
import Derived.Test.YtiigcokbmggdkaaVk1
import Derived.Deep.DeepCutAuto
import Derived.Test.YtiigcokbmggdkaaVk10
import Derived.Test.YtiigcokbmggdkaaVk11
import Derived.Test.YtiigcokbmggdkaaVk7

/- The specification puts a paper into papers: a contract; no statement of the seat is proved here. -/
namespace Go.Proofs.Ytiigcokbmggdkaa
open Go.RowKit

set_option maxRecDepth 100000 in
set_option maxHeartbeats 8000000 in
theorem l21Put_any (v : Value) (xs : List Pp) (s b : Int) (x : Wd) (w : World) (hr : RowR w 12 v xs.length (ppcells xs)) (hn : xs.length ≤ 60) (hs : Asc ordV xs) :
    Calls Try.prog 50 #[v, .agg (#[.int .i64 s, .int .i64 b, .int .i64 x.c0, .int .i64 x.c1, .int .i64 x.c2, .int .i64 x.c3, .int .i64 x.c4, .int .i64 x.c5, .int .i64 x.c6, .int .i64 x.c7, .int .i64 x.c8, .int .i64 x.c9] : Array Value) ] w fun e w' => ∃ v', e = .returned v' ∧ RowA w' w.heap.size 56 12 v' (insL ordV xs (s, b, x)).length (ppcells (insL ordV xs (s, b, x))) ∧ Below w.heap.size w w' := by
  obtain ⟨i1, gi, gz0, gz1, gz2⟩ := info_parts infoPp
  obtain ⟨ao, ca, rfl, -, -, hr⟩ := hr
  obtain ⟨X, hX⟩ : ∃ X, insL ordV xs (s, b, x) = X := ⟨_, rfl⟩
  have HX := hide hX
  rw [hX]
  obtain ⟨n, hnn⟩ : ∃ n, xs.length = n := ⟨_, rfl⟩
  have Hl := hide hnn
  rw [hnn] at hn hr ⊢
  have HA := hide hs
  clear hnn hX hs
  have al0 := bal (bal (Below.refl w.heap.size w) (.cells (#[.int .i64 s, .int .i64 b, .int .i64 x.c0, .int .i64 x.c1, .int .i64 x.c2, .int .i64 x.c3, .int .i64 x.c4, .int .i64 x.c5, .int .i64 x.c6, .int .i64 x.c7, .int .i64 x.c8, .int .i64 x.c9] : Array Value) 56)) (.cells #[] 56)
  obtain ⟨W, hW⟩ : ∃ W, W = (w.alloc (.cells (#[.int .i64 s, .int .i64 b, .int .i64 x.c0, .int .i64 x.c1, .int .i64 x.c2, .int .i64 x.c3, .int .i64 x.c4, .int .i64 x.c5, .int .i64 x.c6, .int .i64 x.c7, .int .i64 x.c8, .int .i64 x.c9] : Array Value) 56)).alloc (.cells #[] 56) := ⟨_, rfl⟩
  have B0 : Hid (W.heap[w.heap.size]? = some (.cells (#[.int .i64 s, .int .i64 b, .int .i64 x.c0, .int .i64 x.c1, .int .i64 x.c2, .int .i64 x.c3, .int .i64 x.c4, .int .i64 x.c5, .int .i64 x.c6, .int .i64 x.c7, .int .i64 x.c8, .int .i64 x.c9] : Array Value) 56 (0, 0))) := by show _ = _; rw [hW]; exact al2_0 w _ _
  have KB : Hid (∀ V, Below W.heap.size W V → V.heap[w.heap.size]? = some (.cells (#[.int .i64 s, .int .i64 b, .int .i64 x.c0, .int .i64 x.c1, .int .i64 x.c2, .int .i64 x.c3, .int .i64 x.c4, .int .i64 x.c5, .int .i64 x.c6, .int .i64 x.c7, .int .i64 x.c8, .int .i64 x.c9] : Array Value) 56 (0, 0))) := fun V hV => bKeeps hV B0.out
  rw [← hW] at al0
  have hzW := al0.size
  go_enter Try.func50, Try.ntmps50
  go_wp2
  rw [← hW]
  clear hW
  go_loopw [5, 6, 7] (fun o dn i wr => ∃ (k : Nat) (out : List Pp) (done : Bool), k ≤ n ∧ i = .int .i64 k ∧ dn = .bool done ∧ PutV (s, b, x) (xs.take k) out done ∧ RowA wr W.heap.size 56 12 o out.length (ppcells out) ∧ Below W.heap.size W wr) (fun _ _ i _ => n - (intOf i).toNat)
  case atStart => exact ⟨0, [], false, Nat.zero_le _, rfl, rfl, putV_start _, .inr ⟨rfl, rfl, _, rfl⟩, Below.refl _ _⟩
  case round =>
    obtain ⟨k, out, done, hk, rfl, rfl, hput, hrow, hbel⟩ := hrel
    have hol : Hid (out.length ≤ 61) := by
      show _ ≤ _
      have := putV_len hput
      rw [List.length_take] at this
      omega
    have HP := hide hput
    have HW := hide hrow
    obtain ⟨po, pc, rfl⟩ := hrow.shape
    have c0 : wr.cell? ⟨w.heap.size, 0, none⟩ = some (.int .i64 s) := boxAt (KB.out _ hbel) 0
    clear hput hrow
    by_cases hlt : k < n
    · obtain ⟨b1, o1, rfl, hc⟩ := hr (by omega)
      obtain ⟨⟨s', b', x'⟩, hy⟩ := getAt xs k (by have := Hl.out; omega)
      have ht : Hid (xs.take (k + 1) = xs.take k ++ [(s', b', x')]) := by
        show _ = _
        have hm := (List.getElem?_eq_some_iff.1 hy).1
        rw [List.take_succ_eq_append_getElem hm]
        rw [List.getElem?_eq_getElem hm] at hy
        rw [Option.some.inj hy]
      have HS : Hid (Asc ordV (xs.take k ++ [(s', b', x')])) := by show Asc _ _; rw [← ht.out]; exact HA.out.sublist (List.take_sublist _ _)
      have G := hide (fun V (hV : Below W.heap.size W V) => pp_at hc hy (bAll al0 hV))
      have f0 : wr.cell? ⟨b1, o1 + k * 12, none⟩ = some (.int .i64 s') := G.out _ hbel 0 _ rfl
      have hmi : (k : Int) < (n : Int) := by omega
      have dq : ∀ q, Below W.heap.size W (wr.drewN q) := fun q => bAll hbel (below_drewN (Below.refl _ _) q)
      have DQ := hide dq
      clear hr hc hy dq
      cases done
      · rcases (by omega : s' < s ∨ s' = s ∨ s < s') with hlo | heq | hhi
        · have HN := hide (putV_lo HP.out (y := (s', b', x')) hlo)
          rw [← ht.out] at HN
          have h1 : decide (s' ≥ s) = false := by simp; omega
          have h2 : decide (s ≤ s') = false := by simp; omega
          have h3 : (s' != s) = true := by simp; omega
          have h4 : (s' == s) = false := by simp; omega
          have cwr := hbel
          have Rwr := HW
          go_wp2
          go_quiet (fail)
          go_wp2
          go_quiet (fail)
          generalize hV : World.drewN (World.drewN wr _) _ = V1
          have bV1 : Below wr.heap.size wr V1 := by rw [← hV]; exact below_drewN (below_drewN (Below.refl _ _) _) _
          have cV1 := bAll cwr bV1
          have RV1 := hide (Rwr.out.keepB bV1)
          clear hV
          have alV1 := bal (Below.refl V1.heap.size V1) (.cells (#[.int .i64 s', .int .i64 b', .int .i64 x'.c0, .int .i64 x'.c1, .int .i64 x'.c2, .int .i64 x'.c3, .int .i64 x'.c4, .int .i64 x'.c5, .int .i64 x'.c6, .int .i64 x'.c7, .int .i64 x'.c8, .int .i64 x'.c9] : Array Value) 56)
          have rowV1 := RV1.out.keepB alV1
          have NV1 := hide (newV_cells V1 (s', b', x') 56)
          go_wp2_with (first
            | (refine wpList_load_at rfl 56 (.tmp 42) rfl b1 (o1 + k * 12) rfl (#[.int .i64 s', .int .i64 b', .int .i64 x'.c0, .int .i64 x'.c1, .int .i64 x'.c2, .int .i64 x'.c3, .int .i64 x'.c4, .int .i64 x'.c5, .int .i64 x'.c6, .int .i64 x'.c7, .int .i64 x'.c8, .int .i64 x'.c9] : Array Value) _ (G.out _ cV1) Try.underlying56 rfl infoPpS ?_)
            | (at_builtin; refine wpList_appendA _ rfl _ _ 33 rfl W.heap.size 56 i1 (.agg #[.int .i64 0, .int .i64 0, .int .i64 0, .int .i64 0, .int .i64 0, .int .i64 0, .int .i64 0, .int .i64 0, .int .i64 0, .int .i64 0, .int .i64 0, .int .i64 0]) 12 96 Try.underlying33 gi gz0 gz1 gz2 rfl (by decide) _ (out.length) (ppcells out) rfl rowV1 ⟨V1.heap.size, 0, none⟩ 1 1 (ppcell (s', b', x')) rfl rfl NV1.out (ppcell_one _) (by decide) ?q63 ?qby ?qbase ?_))
          case q63 => have := hol.out; unfold maxLen; omega
          case qby => have := hol.out; omega
          case qbase => have := cV1.size; first | omega | (simp; omega)
          intro vw4 w4 rw4 uw4
          obtain ⟨sow4, scw4, rfl, -⟩ := owns_shape rw4
          have ew4 := bAll cV1 alV1
          have cw4 : Below W.heap.size W w4 := ew4.trans (uw4.below ew4.size (fun _ h => h.1))
          have Rw4 := hide (show RowA w4 W.heap.size 56 12 _ _ _ from .inl rw4)
          clear rowV1 NV1 uw4 ew4 alV1
          go_wp2
          go_roundw
          case rel =>
            refine ⟨k + 1, out ++ [(s', b', x')], false, by omega, by go_num, rfl, HN.out, ?_, cw4⟩
            have := Rw4.out
            simpa [ppcells, List.flatMap_append] using this
          case measure => simp [intOf]; omega
        · subst heq
          have HN := hide (putV_hit HP.out (y := (s', b', x')) rfl)
          rw [← ht.out] at HN
          have h1 : decide (s' ≥ s') = true := by simp
          have h3 : (s' != s') = false := by simp
          have cwr := hbel
          have Rwr := HW
          go_wp2
          go_quiet (fail)
          generalize hV : World.drewN wr _ = V1
          have bV1 : Below wr.heap.size wr V1 := by rw [← hV]; exact below_drewN (Below.refl _ _) _
          have cV1 := bAll cwr bV1
          have RV1 := hide (Rwr.out.keepB bV1)
          clear hV
          have alV1 := bal (Below.refl V1.heap.size V1) (.cells (#[.int .i64 s', .int .i64 b, .int .i64 x.c0, .int .i64 x.c1, .int .i64 x.c2, .int .i64 x.c3, .int .i64 x.c4, .int .i64 x.c5, .int .i64 x.c6, .int .i64 x.c7, .int .i64 x.c8, .int .i64 x.c9] : Array Value) 56)
          have rowV1 := RV1.out.keepB alV1
          have NV1 := hide (newV_cells V1 (s', b, x) 56)
          go_wp2_with (first
            | (refine wpList_load_row rfl 56 (.tmp 3) rfl w.heap.size rfl _ (#[.int .i64 s', .int .i64 b, .int .i64 x.c0, .int .i64 x.c1, .int .i64 x.c2, .int .i64 x.c3, .int .i64 x.c4, .int .i64 x.c5, .int .i64 x.c6, .int .i64 x.c7, .int .i64 x.c8, .int .i64 x.c9] : Array Value) (0, 0) _ (KB.out _ cV1) Try.underlying56 rfl infoPpS ?_)
            | (at_builtin; refine wpList_appendA _ rfl _ _ 33 rfl W.heap.size 56 i1 (.agg #[.int .i64 0, .int .i64 0, .int .i64 0, .int .i64 0, .int .i64 0, .int .i64 0, .int .i64 0, .int .i64 0, .int .i64 0, .int .i64 0, .int .i64 0, .int .i64 0]) 12 96 Try.underlying33 gi gz0 gz1 gz2 rfl (by decide) _ (out.length) (ppcells out) rfl rowV1 ⟨V1.heap.size, 0, none⟩ 1 1 (ppcell (s', b, x)) rfl rfl NV1.out (ppcell_one _) (by decide) ?q63 ?qby ?qbase ?_))
          case q63 => have := hol.out; unfold maxLen; omega
          case qby => have := hol.out; omega
          case qbase => have := cV1.size; first | omega | (simp; omega)
          intro vw4 w4 rw4 uw4
          obtain ⟨sow4, scw4, rfl, -⟩ := owns_shape rw4
          have ew4 := bAll cV1 alV1
          have cw4 : Below W.heap.size W w4 := ew4.trans (uw4.below ew4.size (fun _ h => h.1))
          have Rw4 := hide (show RowA w4 W.heap.size 56 12 _ _ _ from .inl rw4)
          clear rowV1 NV1 uw4 ew4 alV1
          have f4 : w4.cell? ⟨b1, o1 + k * 12, none⟩ = some (.int .i64 s') := G.out _ cw4 0 _ rfl
          have g4 : w4.cell? ⟨w.heap.size, 0, none⟩ = some (.int .i64 s') := boxAt (KB.out _ cw4) 0
          go_wp2
          go_quiet (fail)
          generalize hV : World.drewN w4 _ = V2
          have bV2 : Below w4.heap.size w4 V2 := by rw [← hV]; exact below_drewN (Below.refl _ _) _
          have cV2 := bAll cw4 bV2
          have RV2 := hide (Rw4.out.keepB bV2)
          clear hV
          go_wp2
          go_roundw
          case rel =>
            refine ⟨k + 1, out ++ [(s', b, x)], true, by omega, by go_num, rfl, HN.out, ?_, cV2⟩
            have := RV2.out
            simpa [ppcells, List.flatMap_append] using this
          case measure => simp [intOf]; omega
        · have HN := hide (putV_over HP.out (y := (s', b', x')) hhi)
          rw [← ht.out] at HN
          have h1 : decide (s' ≥ s) = true := by simp; omega
          have h2 : decide (s ≤ s') = true := by simp; omega
          have h3 : (s' != s) = true := by simp; omega
          have h4 : (s' == s) = false := by simp; omega
          have cwr := hbel
          have Rwr := HW
          go_wp2
          go_quiet (fail)
          generalize hV : World.drewN wr _ = V1
          have bV1 : Below wr.heap.size wr V1 := by rw [← hV]; exact below_drewN (Below.refl _ _) _
          have cV1 := bAll cwr bV1
          have RV1 := hide (Rwr.out.keepB bV1)
          clear hV
          have alV1 := bal (Below.refl V1.heap.size V1) (.cells (#[.int .i64 s, .int .i64 b, .int .i64 x.c0, .int .i64 x.c1, .int .i64 x.c2, .int .i64 x.c3, .int .i64 x.c4, .int .i64 x.c5, .int .i64 x.c6, .int .i64 x.c7, .int .i64 x.c8, .int .i64 x.c9] : Array Value) 56)
          have rowV1 := RV1.out.keepB alV1
          have NV1 := hide (newV_cells V1 (s, b, x) 56)
          go_wp2_with (first
            | (refine wpList_load_row rfl 56 (.tmp 3) rfl w.heap.size rfl _ (#[.int .i64 s, .int .i64 b, .int .i64 x.c0, .int .i64 x.c1, .int .i64 x.c2, .int .i64 x.c3, .int .i64 x.c4, .int .i64 x.c5, .int .i64 x.c6, .int .i64 x.c7, .int .i64 x.c8, .int .i64 x.c9] : Array Value) (0, 0) _ (KB.out _ cV1) Try.underlying56 rfl infoPpS ?_)
            | (at_builtin; refine wpList_appendA _ rfl _ _ 33 rfl W.heap.size 56 i1 (.agg #[.int .i64 0, .int .i64 0, .int .i64 0, .int .i64 0, .int .i64 0, .int .i64 0, .int .i64 0, .int .i64 0, .int .i64 0, .int .i64 0, .int .i64 0, .int .i64 0]) 12 96 Try.underlying33 gi gz0 gz1 gz2 rfl (by decide) _ (out.length) (ppcells out) rfl rowV1 ⟨V1.heap.size, 0, none⟩ 1 1 (ppcell (s, b, x)) rfl rfl NV1.out (ppcell_one _) (by decide) ?q63 ?qby ?qbase ?_))
          case q63 => have := hol.out; unfold maxLen; omega
          case qby => have := hol.out; omega
          case qbase => have := cV1.size; first | omega | (simp; omega)
          intro vw4 w4 rw4 uw4
          obtain ⟨sow4, scw4, rfl, -⟩ := owns_shape rw4
          have ew4 := bAll cV1 alV1
          have cw4 : Below W.heap.size W w4 := ew4.trans (uw4.below ew4.size (fun _ h => h.1))
          have Rw4 := hide (show RowA w4 W.heap.size 56 12 _ _ _ from .inl rw4)
          clear rowV1 NV1 uw4 ew4 alV1
          have f4 : w4.cell? ⟨b1, o1 + k * 12, none⟩ = some (.int .i64 s') := G.out _ cw4 0 _ rfl
          have g4 : w4.cell? ⟨w.heap.size, 0, none⟩ = some (.int .i64 s) := boxAt (KB.out _ cw4) 0
          go_wp2
          go_quiet (fail)
          generalize hV : World.drewN w4 _ = V2
          have bV2 : Below w4.heap.size w4 V2 := by rw [← hV]; exact below_drewN (Below.refl _ _) _
          have cV2 := bAll cw4 bV2
          have RV2 := hide (Rw4.out.keepB bV2)
          clear hV
          have alV2 := bal (Below.refl V2.heap.size V2) (.cells (#[.int .i64 s', .int .i64 b', .int .i64 x'.c0, .int .i64 x'.c1, .int .i64 x'.c2, .int .i64 x'.c3, .int .i64 x'.c4, .int .i64 x'.c5, .int .i64 x'.c6, .int .i64 x'.c7, .int .i64 x'.c8, .int .i64 x'.c9] : Array Value) 56)
          have rowV2 := RV2.out.keepB alV2
          have NV2 := hide (newV_cells V2 (s', b', x') 56)
          go_wp2_with (first
            | (refine wpList_load_at rfl 56 (.tmp 42) rfl b1 (o1 + k * 12) rfl (#[.int .i64 s', .int .i64 b', .int .i64 x'.c0, .int .i64 x'.c1, .int .i64 x'.c2, .int .i64 x'.c3, .int .i64 x'.c4, .int .i64 x'.c5, .int .i64 x'.c6, .int .i64 x'.c7, .int .i64 x'.c8, .int .i64 x'.c9] : Array Value) _ (G.out _ cV2) Try.underlying56 rfl infoPpS ?_)
            | (at_builtin; refine wpList_appendA _ rfl _ _ 33 rfl W.heap.size 56 i1 (.agg #[.int .i64 0, .int .i64 0, .int .i64 0, .int .i64 0, .int .i64 0, .int .i64 0, .int .i64 0, .int .i64 0, .int .i64 0, .int .i64 0, .int .i64 0, .int .i64 0]) 12 96 Try.underlying33 gi gz0 gz1 gz2 rfl (by decide) _ (out.length + 1) (ppcells out ++ ppcell (s, b, x)) rfl rowV2 ⟨V2.heap.size, 0, none⟩ 1 1 (ppcell (s', b', x')) rfl rfl NV2.out (ppcell_one _) (by decide) ?q63 ?qby ?qbase ?_))
          case q63 => have := hol.out; unfold maxLen; omega
          case qby => have := hol.out; omega
          case qbase => have := cV2.size; first | omega | (simp; omega)
          intro vw5 w5 rw5 uw5
          obtain ⟨sow5, scw5, rfl, -⟩ := owns_shape rw5
          have ew5 := bAll cV2 alV2
          have cw5 : Below W.heap.size W w5 := ew5.trans (uw5.below ew5.size (fun _ h => h.1))
          have Rw5 := hide (show RowA w5 W.heap.size 56 12 _ _ _ from .inl rw5)
          clear rowV2 NV2 uw5 ew5 alV2
          go_wp2
          go_roundw
          case rel =>
            refine ⟨k + 1, out ++ [(s, b, x)] ++ [(s', b', x')], true, by omega, by go_num, rfl, HN.out, ?_, cw5⟩
            have := Rw5.out
            simpa [ppcells, List.flatMap_append] using this
          case measure => simp [intOf]; omega
      · obtain ⟨hgt, hnx⟩ := putV_done HS.out HP.out
        have HN := hide hnx
        rw [← ht.out] at HN
        have h3 : (s' != s) = true := by simp at hgt ⊢; omega
        have h4 : (s' == s) = false := by simp at hgt ⊢; omega
        have cwr := hbel
        have Rwr := HW
        go_wp2
        go_quiet (fail)
        go_wp2
        go_quiet (fail)
        generalize hV : World.drewN (World.drewN wr _) _ = V1
        have bV1 : Below wr.heap.size wr V1 := by rw [← hV]; exact below_drewN (below_drewN (Below.refl _ _) _) _
        have cV1 := bAll cwr bV1
        have RV1 := hide (Rwr.out.keepB bV1)
        clear hV
        have alV1 := bal (Below.refl V1.heap.size V1) (.cells (#[.int .i64 s', .int .i64 b', .int .i64 x'.c0, .int .i64 x'.c1, .int .i64 x'.c2, .int .i64 x'.c3, .int .i64 x'.c4, .int .i64 x'.c5, .int .i64 x'.c6, .int .i64 x'.c7, .int .i64 x'.c8, .int .i64 x'.c9] : Array Value) 56)
        have rowV1 := RV1.out.keepB alV1
        have NV1 := hide (newV_cells V1 (s', b', x') 56)
        go_wp2_with (first
          | (refine wpList_load_at rfl 56 (.tmp 42) rfl b1 (o1 + k * 12) rfl (#[.int .i64 s', .int .i64 b', .int .i64 x'.c0, .int .i64 x'.c1, .int .i64 x'.c2, .int .i64 x'.c3, .int .i64 x'.c4, .int .i64 x'.c5, .int .i64 x'.c6, .int .i64 x'.c7, .int .i64 x'.c8, .int .i64 x'.c9] : Array Value) _ (G.out _ cV1) Try.underlying56 rfl infoPpS ?_)
          | (at_builtin; refine wpList_appendA _ rfl _ _ 33 rfl W.heap.size 56 i1 (.agg #[.int .i64 0, .int .i64 0, .int .i64 0, .int .i64 0, .int .i64 0, .int .i64 0, .int .i64 0, .int .i64 0, .int .i64 0, .int .i64 0, .int .i64 0, .int .i64 0]) 12 96 Try.underlying33 gi gz0 gz1 gz2 rfl (by decide) _ (out.length) (ppcells out) rfl rowV1 ⟨V1.heap.size, 0, none⟩ 1 1 (ppcell (s', b', x')) rfl rfl NV1.out (ppcell_one _) (by decide) ?q63 ?qby ?qbase ?_))
        case q63 => have := hol.out; unfold maxLen; omega
        case qby => have := hol.out; omega
        case qbase => have := cV1.size; first | omega | (simp; omega)
        intro vw4 w4 rw4 uw4
        obtain ⟨sow4, scw4, rfl, -⟩ := owns_shape rw4
        have ew4 := bAll cV1 alV1
        have cw4 : Below W.heap.size W w4 := ew4.trans (uw4.below ew4.size (fun _ h => h.1))
        have Rw4 := hide (show RowA w4 W.heap.size 56 12 _ _ _ from .inl rw4)
        clear rowV1 NV1 uw4 ew4 alV1
        go_wp2
        go_roundw
        case rel =>
          refine ⟨k + 1, out ++ [(s', b', x')], true, by omega, by go_num, rfl, HN.out, ?_, cw4⟩
          have := Rw4.out
          simpa [ppcells, List.flatMap_append] using this
        case measure => simp [intOf]; omega
    · obtain rfl : k = n := by omega
      have htk : xs.take k = xs := List.take_of_length_le (by have := Hl.out; omega)
      have HE := hide (putV_end HP.out)
      rw [htk, HX.out] at HE
      cases done
      · replace HE : Hid (out ++ [(s, b, x)] = X) := HE.out
        have cwr := hbel
        have Rwr := HW
        have alwr := bal (Below.refl wr.heap.size wr) (.cells (#[.int .i64 s, .int .i64 b, .int .i64 x.c0, .int .i64 x.c1, .int .i64 x.c2, .int .i64 x.c3, .int .i64 x.c4, .int .i64 x.c5, .int .i64 x.c6, .int .i64 x.c7, .int .i64 x.c8, .int .i64 x.c9] : Array Value) 56)
        have rowwr := Rwr.out.keepB alwr
        have Nwr := hide (newV_cells wr (s, b, x) 56)
        go_wp2_with (first
          | (refine wpList_load_row rfl 56 (.tmp 3) rfl w.heap.size rfl _ (#[.int .i64 s, .int .i64 b, .int .i64 x.c0, .int .i64 x.c1, .int .i64 x.c2, .int .i64 x.c3, .int .i64 x.c4, .int .i64 x.c5, .int .i64 x.c6, .int .i64 x.c7, .int .i64 x.c8, .int .i64 x.c9] : Array Value) (0, 0) _ (KB.out _ cwr) Try.underlying56 rfl infoPpS ?_)
          | (at_builtin; refine wpList_appendA _ rfl _ _ 33 rfl W.heap.size 56 i1 (.agg #[.int .i64 0, .int .i64 0, .int .i64 0, .int .i64 0, .int .i64 0, .int .i64 0, .int .i64 0, .int .i64 0, .int .i64 0, .int .i64 0, .int .i64 0, .int .i64 0]) 12 96 Try.underlying33 gi gz0 gz1 gz2 rfl (by decide) _ (out.length) (ppcells out) rfl rowwr ⟨wr.heap.size, 0, none⟩ 1 1 (ppcell (s, b, x)) rfl rfl Nwr.out (ppcell_one _) (by decide) ?q63 ?qby ?qbase ?_))
        case q63 => have := hol.out; unfold maxLen; omega
        case qby => have := hol.out; omega
        case qbase => have := cwr.size; first | omega | (simp; omega)
        intro vw4 w4 rw4 uw4
        obtain ⟨sow4, scw4, rfl, -⟩ := owns_shape rw4
        have ew4 := bAll cwr alwr
        have cw4 : Below W.heap.size W w4 := ew4.trans (uw4.below ew4.size (fun _ h => h.1))
        have Rw4 := hide (show RowA w4 W.heap.size 56 12 _ _ _ from .inl rw4)
        clear rowwr Nwr uw4 ew4 alwr
        go_wp2
        go_ret
        refine ⟨_, rfl, ?_, bAll al0 cw4⟩
        rw [← HE.out]
        have := Rw4.out.base (b' := w.heap.size) (by omega)
        simpa [ppcells, List.flatMap_append] using this
      · replace HE : Hid (out = X) := HE.out
        go_wp2
        go_ret
        refine ⟨_, rfl, ?_, bAll al0 hbel⟩
        rw [← HE.out]
        exact HW.out.base (b' := w.heap.size) (by omega)

end Go.Proofs.Ytiigcokbmggdkaa

/- Commands and papers held against nothing: laws of one program; no statement of the seat is proved here. -/
namespace Go.Proofs.Ytiigcokbmggdkaa
open Go.RowKit

theorem guardPaper (w : World) (x y : Operand) (xs ys : Array Value) : (eqGuard .eql 56 x y (.agg xs) (.agg ys)).run Try.prog w = .ok () w := run_eqGuard_agg w _ _ _ _ _ _ (by kernel_rfl)

end Go.Proofs.Ytiigcokbmggdkaa

/- Seekers: what they read, and what the laws' own helpers do with them: contracts; no statement of the seat is proved here. -/
namespace Go.Proofs.Ytiigcokbmggdkaa
open Go.RowKit

/-- A seeker: slot, ballot, phase, its own command (that of a word), the best paper, who said yes. -/
structure Sk where
  s : Int
  b : Int
  ph : Int
  m : Wd
  p : Pp
  ys : List Int
def skarr (k : Sk) (y : Value) : Array Value := (#[.int .i64 k.s, .int .i64 k.b, .int .i64 k.ph, .int .i64 k.m.c0, .int .i64 k.m.c1, .int .i64 k.m.c2, .int .i64 k.m.c3, .int .i64 k.m.c4, .int .i64 k.m.c5, .int .i64 k.m.c6, .int .i64 k.m.c7, .int .i64 k.m.c8, .int .i64 k.m.c9, .int .i64 k.p.1, .int .i64 k.p.2.1, .int .i64 k.p.2.2.c0, .int .i64 k.p.2.2.c1, .int .i64 k.p.2.2.c2, .int .i64 k.p.2.2.c3, .int .i64 k.p.2.2.c4, .int .i64 k.p.2.2.c5, .int .i64 k.p.2.2.c6, .int .i64 k.p.2.2.c7, .int .i64 k.p.2.2.c8, .int .i64 k.p.2.2.c9, y] : Array Value)
def ints (xs : List Int) : List Value := xs.map (Value.int .i64)
/-- What a seeker reads. -/
def SkR (w : World) (v : Value) (k : Sk) : Prop := ∃ yo yc, v = .agg (skarr k (.slice yo k.ys.length yc)) ∧ RowR w 1 (.slice yo k.ys.length yc) k.ys.length (ints k.ys)
def SkO (w : World) (S : Nat → Prop) (v : Value) (k : Sk) : Prop := ∃ yo yc, v = .agg (skarr k (.slice yo k.ys.length yc)) ∧ Row w 3 1 S (.slice yo k.ys.length yc) k.ys.length (ints k.ys)
theorem SkR.keep {w w' : World} {v : Value} {k : Sk} (h : SkR w v k) (hb : Below w.heap.size w w') : SkR w' v k := by
  obtain ⟨yo, yc, e, h⟩ := h
  exact ⟨yo, yc, e, h.keep hb⟩
theorem SkO.reads {w : World} {S : Nat → Prop} {v : Value} {k : Sk} (h : SkO w S v k) : SkR w v k := by
  obtain ⟨yo, yc, e, h⟩ := h
  exact ⟨yo, yc, e, h.reads⟩
theorem SkO.keep {w w' : World} {S T : Nat → Prop} {v : Value} {k : Sk} (h : SkO w S v k) (u : Upd T w w') (hT : ∀ j, S j → ¬ T j) : SkO w' S v k := by
  obtain ⟨yo, yc, e, h⟩ := h
  exact ⟨yo, yc, e, h.keep u hT⟩
theorem SkO.keepB {w w' : World} {S : Nat → Prop} {v : Value} {k : Sk} (h : SkO w S v k) (b : Below w.heap.size w w') : SkO w' S v k := by
  obtain ⟨yo, yc, e, h⟩ := h
  exact ⟨yo, yc, e, h.keepB b⟩
theorem SkO.mono {w : World} {S T : Nat → Prop} {v : Value} {k : Sk} (h : SkO w S v k) (hST : ∀ j, j < w.heap.size → S j → T j) : SkO w T v k := by
  obtain ⟨yo, yc, e, h⟩ := h
  exact ⟨yo, yc, e, h.mono hST⟩
end Go.Proofs.Ytiigcokbmggdkaa

/- A word's slot and ballot, a denial, the paper of a slot: contracts; no statement of the seat is proved here. -/
namespace Go.Proofs.Ytiigcokbmggdkaa
open Go.RowKit

/-- Whether a word is ok, of a slot and a ballot that can be voted on. -/
def asksW (x : Wd) : Bool := okW x && (inI x.a4 1 60 && decide (1 ≤ x.a3))

set_option maxRecDepth 100000 in
set_option maxHeartbeats 4000000 in
theorem synAsks_any (v : Value) (x : Wd) (w : World) (h : WdR w v x) :
    Calls Try.prog 56 #[v] w fun e w' => e = .returned (.bool (asksW x)) ∧ Below w.heap.size w w' := by
  obtain ⟨cs, e0, hs, h1⟩ := h.agg
  have hd3 : cs[3]? = some (.int .i64 x.a3) ∧ cs[4]? = some (.int .i64 x.a4) := by
    obtain ⟨po, pc, lo, lc, e, -, -⟩ := h
    rw [e0] at e
    injection e with e
    rw [e]
    exact ⟨rfl, rfl⟩
  subst e0
  have al := bal (Below.refl w.heap.size w) (.cells cs 40)
  have B0 := hide (heap_alloc_new w (.cells cs 40))
  have HX := hide (h.keep al)
  have HI := hide (infoAt infoWd hs)
  have H3 := hide hd3
  obtain ⟨i1, hi1⟩ : ∃ i, okW x = i := ⟨_, rfl⟩
  obtain ⟨i2, hi2⟩ : ∃ i, inI x.a4 1 60 = i := ⟨_, rfl⟩
  have hf : asksW x = (i1 && (i2 && decide (1 ≤ x.a3))) := by simp only [asksW, hi1, hi2]
  rw [hf]
  have c1 := fun v w h => implWordOk_any v x w h
  have c2 := fun w => blkWithin_any x.a4 1 60 w
  rw [hi1] at c1
  rw [hi2] at c2
  clear h hs h1 hd3 hi1 hi2 hf
  go_enter Try.func56, Try.ntmps56
  go_wp2_with (refine wpList_load_row rfl 40 (.tmp 1) rfl w.heap.size rfl _ cs (0, 0) _ B0.out Try.underlying40 rfl HI.out ?_)
  refine (c1 _ _ HX.out).mono ?_
  rintro e w1 ⟨rfl, b1⟩
  have C1 := hide (bKeeps b1 B0.out)
  have g3 : w1.cell? ⟨w.heap.size, 3, none⟩ = some (.int .i64 x.a3) := (boxAt C1.out 3).trans H3.out.1
  have g4 : w1.cell? ⟨w.heap.size, 4, none⟩ = some (.int .i64 x.a4) := (boxAt C1.out 4).trans H3.out.2
  have d1 := bAll al b1
  clear b1 B0 HX al
  cases i1
  · go_wp2
    go_ret
    exact ⟨rfl, d1⟩
  go_wp2_with fail
  refine (c2 _).mono ?_
  rintro e w2 ⟨rfl, rfl⟩
  cases i2
  · go_wp2
    go_ret
    exact ⟨rfl, d1⟩
  go_wp2
  go_ret
  exact ⟨by simp, d1⟩

/-- The place of the first paper of a slot, or -1. -/
def firstV (s : Int) (xs : List Pp) : Int := match xs.findIdx? (fun p => decide (p.1 = s)) with
  | some i => (i : Int)
  | none => -1

theorem firstV_none {s : Int} {xs : List Pp} (h : ∀ (j : Nat) (p : Pp), xs[j]? = some p → p.1 ≠ s) : firstV s xs = -1 := by
  have : xs.findIdx? (fun p => decide (p.1 = s)) = none := by
    rw [List.findIdx?_eq_none_iff]
    intro p hp
    obtain ⟨j, hj⟩ := List.mem_iff_getElem?.1 hp
    simpa using h j p hj
  simp [firstV, this]
theorem firstV_some {s : Int} {xs : List Pp} {k : Nat} {p : Pp} (hk : xs[k]? = some p) (hp : p.1 = s) (h : ∀ (j : Nat) (p : Pp), j < k → xs[j]? = some p → p.1 ≠ s) : firstV s xs = (k : Int) := by
  have hkl := (List.getElem?_eq_some_iff.1 hk).1
  have : xs.findIdx? (fun p => decide (p.1 = s)) = some k := by
    rw [List.findIdx?_eq_some_iff_getElem]
    refine ⟨hkl, ?_, fun j hj => ?_⟩
    · have e := (List.getElem?_eq_some_iff.1 hk).2
      rw [e]
      simpa using hp
    · have := h j (xs[j]'(by omega)) hj (List.getElem?_eq_getElem _)
      simpa using this
  simp [firstV, this]

set_option maxRecDepth 100000 in
set_option maxHeartbeats 4000000 in
theorem l21Paper_any (v : Value) (xs : List Pp) (s : Int) (w : World) (hr : RowR w 12 v xs.length (ppcells xs)) :
    Calls Try.prog 49 #[v, .int .i64 s] w fun e w' => e = .returned (.int .i64 (firstV s xs)) ∧ Below w.heap.size w w' := by
  obtain ⟨ao, ca, rfl, hn, -, hr⟩ := hr
  obtain ⟨R, HR⟩ : ∃ R, Hid (firstV s xs = R) := ⟨_, rfl⟩
  rw [HR.out]
  obtain ⟨n, hnn⟩ : ∃ n, xs.length = n := ⟨_, rfl⟩
  have Hl := hide hnn
  rw [hnn] at hn hr ⊢
  clear hnn
  go_enter Try.func49, Try.ntmps49
  go_wp2
  go_loopw [5] (fun i wr => ∃ k : Nat, k ≤ n ∧ i = .int .i64 k ∧ (∀ j p, j < k → xs[j]? = some p → p.1 ≠ s) ∧ Below w.heap.size w wr) (fun i _ => n - (intOf i).toNat)
  case atStart => exact ⟨0, Nat.zero_le _, rfl, fun j p hj => by omega, Below.refl _ _⟩
  case round =>
    obtain ⟨k, hk, rfl, hno, hbel⟩ := hrel
    have HN := hide hno
    clear hno
    by_cases hlt : k < n
    · obtain ⟨b1, o1, rfl, hc1⟩ := hr (by omega)
      obtain ⟨⟨s', b', x'⟩, hx⟩ := getAt xs k (by have := Hl.out; omega)
      have f0 : wr.cell? ⟨b1, o1 + k * 12, none⟩ = some (.int .i64 s') := pp_at hc1 hx hbel 0 _ rfl
      have hi : (k : Int) < (n : Int) := by omega
      have Hx := hide hx
      clear hr hc1 hx
      by_cases he : s' = s
      · have hR : Hid (R = (k : Int)) := by show _ = _; rw [← HR.out]; exact firstV_some Hx.out he HN.out
        have he' : (s' == s) = true := by simpa using he
        go_wp2
        go_ret
        exact ⟨by rw [hR.out]; rfl, hbel⟩
      · have he' : (s' == s) = false := by simpa using he
        go_wp2
        go_roundw
        case rel =>
          refine ⟨k + 1, by omega, by go_num, fun j p hj hp => ?_, hbel⟩
          rcases (by omega : j < k ∨ j = k) with h1 | rfl
          · exact HN.out j p h1 hp
          · rw [Hx.out] at hp
            obtain rfl := Option.some.inj hp
            exact he
        case measure => simp [intOf]; omega
    · have hR : Hid (R = -1) := by
        show _ = _
        rw [← HR.out]
        exact firstV_none (fun j p hp => HN.out j p (by have := (List.getElem?_eq_some_iff.1 hp).1; have := Hl.out; omega) hp)
      go_wp2
      go_ret
      exact ⟨by rw [hR.out]; rfl, hbel⟩

end Go.Proofs.Ytiigcokbmggdkaa

/- What a voter does with a word, as plain values: plain facts; no statement of the seat is proved here. -/
namespace Go.Proofs.Ytiigcokbmggdkaa

/-- What a voter of the number me answers to the word w: of a kind, with what was voted for and its command (that of c). -/
def backW (me : Int) (w : Wd) (kind was : Int) (c : Wd) : Wd := { c with a0 := kind, a1 := me, a2 := w.a1, a3 := w.a3, a4 := w.a4, a5 := was, b0 := 0, b1 := 0, b2 := 0, b3 := 0, b4 := 0, b5 := 0, b6 := 0, b7 := 0, ps := [], ls := [] }

/-- What a voter does with a word: what it has promised then, its papers, its answer, and whether. -/
def voteR (P : Int) (xs : List Pp) (me : Int) (w : Wd) : Int × List Pp × Wd × Bool :=
  if (okV P xs && (inI me 0 2 && (asksW w && (decide (w.a0 = 1) || decide (w.a0 = 3))))) = true then
    if w.a0 = 1 then
      if P < w.a3 then (w.a3, xs, (match xs.find? (fun p => decide (p.1 = w.a4)) with | some p => backW me w 2 p.2.1 p.2.2 | none => backW me w 2 0 zeroW), true)
      else (P, xs, backW me w 5 P zeroW, true)
    else if P ≤ w.a3 then (w.a3, insL ordV xs (w.a4, w.a3, w), backW me w 4 0 zeroW, true)
    else (P, xs, backW me w 5 P zeroW, true)
  else (P, xs, zeroW, false)

/-- Where the search stands, that is the place of the slot. -/
theorem isAt_first {xs : List Pp} {s b : Int} {x : Wd} {p : Nat} {there : Bool} (hs : Asc ordV xs) (h : IsAt ordV xs (s, b, x) p there) : firstV s xs = if there = true then (p : Int) else -1 := by
  have lo : ∀ (j : Nat) (q : Pp), j < p → xs[j]? = some q → q.1 ≠ s := fun j q hj hq => by
    have h2 : q.1 < s := cmpI_neg.1 (h.lo q (List.mem_of_getElem? (by rw [List.getElem?_take_of_lt hj]; exact hq)))
    omega
  cases there
  · refine firstV_none (fun j q hq => ?_)
    by_cases hj : j < p
    · exact lo j q hj hq
    · intro e
      by_cases hjp : j = p
      · subst hjp
        have := h.th.2 ⟨q, hq, cmpI_zero.2 e⟩
        cases this
      · have hpl : p < xs.length := by have := (List.getElem?_eq_some_iff.1 hq).1; omega
        have g1 := h.hi (xs[p]'hpl) (List.mem_of_getElem? (i := 0) (by rw [List.getElem?_drop]; exact List.getElem?_eq_getElem hpl))
        have g2 : 0 < ordV q (s, b, x) := asc_above ordOkV hs (show p < j by omega) hq (List.getElem?_eq_getElem hpl) g1
        have g3 : s < q.1 := cmpI_pos.1 g2
        omega
  · obtain ⟨q, hq, h0⟩ := h.th.1 rfl
    simp only [if_true]
    exact firstV_some hq (cmpI_zero.1 h0) lo

theorem find_first {xs : List Pp} {s : Int} {k : Nat} {p : Pp} (hk : xs[k]? = some p) (h : firstV s xs = (k : Int)) : xs.find? (fun p => decide (p.1 = s)) = some p := by
  unfold firstV at h
  cases hf : xs.findIdx? (fun p => decide (p.1 = s)) with
  | none => rw [hf] at h; simp at h
  | some i =>
    rw [hf] at h
    simp only at h
    have hik : i = k := by omega
    subst hik
    rw [List.findIdx?_eq_some_iff_getElem] at hf
    obtain ⟨hl, h1, h2⟩ := hf
    rw [List.find?_eq_some_iff_getElem]
    have e := (List.getElem?_eq_some_iff.1 hk).2
    exact ⟨by rw [← e]; exact h1, i, hl, e, fun j hj => by simpa using h2 j hj⟩
theorem find_none {xs : List Pp} {s : Int} (h : firstV s xs = -1) : xs.find? (fun p => decide (p.1 = s)) = none := by
  unfold firstV at h
  cases hf : xs.findIdx? (fun p => decide (p.1 = s)) with
  | some i => rw [hf] at h; simp only at h; omega
  | none =>
    rw [List.findIdx?_eq_none_iff] at hf
    rw [List.find?_eq_none]
    intro q hq
    simpa using hf q hq

theorem asc_slots {xs : List Pp} (hs : Asc ordV xs) (h : ∀ q ∈ xs, 1 ≤ q.1 ∧ q.1 ≤ 60) : xs.length ≤ 60 := by
  have each : ∀ (i : Nat) (q : Pp), xs[i]? = some q → (i : Int) + 1 ≤ q.1 := by
    intro i
    induction i with
    | zero => intro q hq; have := (h q (List.mem_of_getElem? hq)).1; omega
    | succ i ih =>
      intro q hq
      have hi : i < xs.length := by have := (List.getElem?_eq_some_iff.1 hq).1; omega
      have h1 := ih _ (List.getElem?_eq_getElem hi)
      have h2 : (xs[i]'hi).1 < q.1 := cmpI_neg.1 (asc_get hs (Nat.lt_succ_self i) (List.getElem?_eq_getElem hi) hq)
      push_cast
      omega
  rcases Nat.eq_zero_or_pos xs.length with h0 | h0
  · omega
  · have h1 := each (xs.length - 1) _ (List.getElem?_eq_getElem (by omega))
    have h2 := (h _ (List.getElem_mem (show xs.length - 1 < xs.length by omega))).2
    omega

/-- A voter that was ok stays ok. -/
theorem vote_ok {P : Int} {xs : List Pp} {p : Pp} (h : okV P xs = true) (hp : ppI p = true) (hP : P ≤ p.2.1) : okV p.2.1 (insL ordV xs p) = true ∧ okV p.2.1 xs = true := by
  simp only [okV, Bool.and_eq_true] at h
  obtain ⟨h1, h2⟩ := h
  obtain ⟨l1, l2, l3⟩ := (ok_iff ordOkV).1 h2
  have hp2 : inI p.2.1 0 99999 = true := by
    simp only [ppI, inI, Bool.and_eq_true, decide_eq_true_eq] at hp ⊢
    omega
  have hfit : ∀ q ∈ xs, fitV p.2.1 q = true := fun q hq => by
    have := l2 q hq
    simp only [fitV, Bool.and_eq_true, decide_eq_true_eq] at this ⊢
    exact ⟨this.1, by omega⟩
  have hpf : fitV p.2.1 p = true := by simp [fitV, hp]
  refine ⟨?_, ?_⟩
  · simp only [okV, hp2, Bool.true_and]
    refine (ok_iff ordOkV).2 ⟨?_, fun q hq => ?_, ins_asc ordOkV l3⟩
    · refine asc_slots (ins_asc ordOkV l3) (fun q hq => ?_)
      have : fitV p.2.1 q = true := by
        rcases ins_mem.1 hq with rfl | ⟨hq, -⟩
        · exact hpf
        · exact hfit q hq
      simp only [fitV, ppI, inI, Bool.and_eq_true, decide_eq_true_eq] at this
      exact this.1.1
    · rcases ins_mem.1 hq with rfl | ⟨hq, -⟩
      · exact hpf
      · exact hfit q hq
  · simp only [okV, hp2, Bool.true_and]
    exact (ok_iff ordOkV).2 ⟨l1, hfit, l3⟩

end Go.Proofs.Ytiigcokbmggdkaa
