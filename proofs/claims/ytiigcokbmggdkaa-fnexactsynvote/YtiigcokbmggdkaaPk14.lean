/- Contracts and plain facts that this claim leans on (texts VQ5); no statement of the seat is proved here. -/
import Derived.Test.YtiigcokbmggdkaaPk13
import Derived.Test.YtiigcokbmggdkaaPk11
import Derived.Test.YtiigcokbmggdkaaPk12

/- The specification puts a paper into papers: a contract; no statement of the seat is proved here. -/
namespace Go.Proofs.Ytiigcokbmggdkaa
open Go.RowKit

set_option maxRecDepth 100000 in
set_option maxHeartbeats 8000000 in
theorem l21Put_any (v : Value) (xs : List Pp) (s b : Int) (x : Wd) (w : World) (hr : RowR w 12 v xs.length (ppcells xs)) (hn : xs.length ≤ 60) (hs : Asc ordV xs) :
    Calls Try.prog 50 #[v, .agg (#[.int .i64 s, .int .i64 b, .int .i64 x.c0, .int .i64 x.c1, .int .i64 x.c2, .int .i64 x.c3, .int .i64 x.c4, .int .i64 x.c5, .int .i64 x.c6, .int .i64 x.c7, .int .i64 x.c8, .int .i64 x.c9] : Array Value) ] w fun e w' => ∃ v', e = .returned v' ∧ RowA w' w.heap.size 56 12 v' (insL ordV xs (s, b, x)).length (ppcells (insL ordV xs (s, b, x))) ∧ Below w.heap.size w w' := by
  obtain ⟨i1, gi, gz0, gz1, gz2⟩ := info_parts infoPp
  obtain ⟨ao, ca, rfl, -, -, hr⟩ := hr
  obtain ⟨X, hX⟩ : ∃ X, insL ordV xs (s, b, x) = X := ⟨_, rfl⟩
  have HX := hide hX
  rw [hX]
  obtain ⟨n, hnn⟩ : ∃ n, xs.length = n := ⟨_, rfl⟩
  have Hl := hide hnn
  rw [hnn] at hn hr ⊢
  have HA := hide hs
  clear hnn hX hs
  have al0 := bal (bal (Below.refl w.heap.size w) (.cells (#[.int .i64 s, .int .i64 b, .int .i64 x.c0, .int .i64 x.c1, .int .i64 x.c2, .int .i64 x.c3, .int .i64 x.c4, .int .i64 x.c5, .int .i64 x.c6, .int .i64 x.c7, .int .i64 x.c8, .int .i64 x.c9] : Array Value) 56)) (.cells #[] 56)
  obtain ⟨W, hW⟩ : ∃ W, W = (w.alloc (.cells (#[.int .i64 s, .int .i64 b, .int .i64 x.c0, .int .i64 x.c1, .int .i64 x.c2, .int .i64 x.c3, .int .i64 x.c4, .int .i64 x.c5, .int .i64 x.c6, .int .i64 x.c7, .int .i64 x.c8, .int .i64 x.c9] : Array Value) 56)).alloc (.cells #[] 56) := ⟨_, rfl⟩
  have B0 : Hid (W.heap[w.heap.size]? = some (.cells (#[.int .i64 s, .int .i64 b, .int .i64 x.c0, .int .i64 x.c1, .int .i64 x.c2, .int .i64 x.c3, .int .i64 x.c4, .int .i64 x.c5, .int .i64 x.c6, .int .i64 x.c7, .int .i64 x.c8, .int .i64 x.c9] : Array Value) 56 (0, 0))) := by show _ = _; rw [hW]; exact al2_0 w _ _
  have KB : Hid (∀ V, Below W.heap.size W V → V.heap[w.heap.size]? = some (.cells (#[.int .i64 s, .int .i64 b, .int .i64 x.c0, .int .i64 x.c1, .int .i64 x.c2, .int .i64 x.c3, .int .i64 x.c4, .int .i64 x.c5, .int .i64 x.c6, .int .i64 x.c7, .int .i64 x.c8, .int .i64 x.c9] : Array Value) 56 (0, 0))) := fun V hV => bKeeps hV B0.out
  rw [← hW] at al0
  have hzW := al0.size
  go_enter Try.func50, Try.ntmps50
  go_wp2
  rw [← hW]
  clear hW
  go_loopw [5, 6, 7] (fun o dn i wr => ∃ (k : Nat) (out : List Pp) (done : Bool), k ≤ n ∧ i = .int .i64 k ∧ dn = .bool done ∧ PutV (s, b, x) (xs.take k) out done ∧ RowA wr W.heap.size 56 12 o out.length (ppcells out) ∧ Below W.heap.size W wr) (fun _ _ i _ => n - (intOf i).toNat)
  case atStart => exact ⟨0, [], false, Nat.zero_le _, rfl, rfl, putV_start _, .inr ⟨rfl, rfl, _, rfl⟩, Below.refl _ _⟩
  case round =>
    obtain ⟨k, out, done, hk, rfl, rfl, hput, hrow, hbel⟩ := hrel
    have hol : Hid (out.length ≤ 61) := by
      show _ ≤ _
      have := putV_len hput
      rw [List.length_take] at this
      omega
    have HP := hide hput
    have HW := hide hrow
    obtain ⟨po, pc, rfl⟩ := hrow.shape
    have c0 : wr.cell? ⟨w.heap.size, 0, none⟩ = some (.int .i64 s) := boxAt (KB.out _ hbel) 0
    clear hput hrow
    by_cases hlt : k < n
    · obtain ⟨b1, o1, rfl, hc⟩ := hr (by omega)
      obtain ⟨⟨s', b', x'⟩, hy⟩ := getAt xs k (by have := Hl.out; omega)
      have ht : Hid (xs.take (k + 1) = xs.take k ++ [(s', b', x')]) := by
        show _ = _
        have hm := (List.getElem?_eq_some_iff.1 hy).1
        rw [List.take_succ_eq_append_getElem hm]
        rw [List.getElem?_eq_getElem hm] at hy
        rw [Option.some.inj hy]
      have HS : Hid (Asc ordV (xs.take k ++ [(s', b', x')])) := by show Asc _ _; rw [← ht.out]; exact HA.out.sublist (List.take_sublist _ _)
      have G := hide (fun V (hV : Below W.heap.size W V) => pp_at hc hy (bAll al0 hV))
      have f0 : wr.cell? ⟨b1, o1 + k * 12, none⟩ = some (.int .i64 s') := G.out _ hbel 0 _ rfl
      have hmi : (k : Int) < (n : Int) := by omega
      have dq : ∀ q, Below W.heap.size W (wr.drewN q) := fun q => bAll hbel (below_drewN (Below.refl _ _) q)
      have DQ := hide dq
      clear hr hc hy dq
      cases done
      · rcases (by omega : s' < s ∨ s' = s ∨ s < s') with hlo | heq | hhi
        · have HN := hide (putV_lo HP.out (y := (s', b', x')) hlo)
          rw [← ht.out] at HN
          have h1 : decide (s' ≥ s) = false := by simp; omega
          have h2 : decide (s ≤ s') = false := by simp; omega
          have h3 : (s' != s) = true := by simp; omega
          have h4 : (s' == s) = false := by simp; omega
          have cwr := hbel
          have Rwr := HW
          go_wp2
          go_quiet (fail)
          go_wp2
          go_quiet (fail)
          generalize hV : World.drewN (World.drewN wr _) _ = V1
          have bV1 : Below wr.heap.size wr V1 := by rw [← hV]; exact below_drewN (below_drewN (Below.refl _ _) _) _
          have cV1 := bAll cwr bV1
          have RV1 := hide (Rwr.out.keepB bV1)
          clear hV
          have alV1 := bal (Below.refl V1.heap.size V1) (.cells (#[.int .i64 s', .int .i64 b', .int .i64 x'.c0, .int .i64 x'.c1, .int .i64 x'.c2, .int .i64 x'.c3, .int .i64 x'.c4, .int .i64 x'.c5, .int .i64 x'.c6, .int .i64 x'.c7, .int .i64 x'.c8, .int .i64 x'.c9] : Array Value) 56)
          have rowV1 := RV1.out.keepB alV1
          have NV1 := hide (newV_cells V1 (s', b', x') 56)
          go_wp2_with (first
            | (refine wpList_load_at rfl 56 (.tmp 42) rfl b1 (o1 + k * 12) rfl (#[.int .i64 s', .int .i64 b', .int .i64 x'.c0, .int .i64 x'.c1, .int .i64 x'.c2, .int .i64 x'.c3, .int .i64 x'.c4, .int .i64 x'.c5, .int .i64 x'.c6, .int .i64 x'.c7, .int .i64 x'.c8, .int .i64 x'.c9] : Array Value) _ (G.out _ cV1) Try.underlying56 rfl infoPpS ?_)
            | (at_builtin; refine wpList_appendA _ rfl _ _ 33 rfl W.heap.size 56 i1 (.agg #[.int .i64 0, .int .i64 0, .int .i64 0, .int .i64 0, .int .i64 0, .int .i64 0, .int .i64 0, .int .i64 0, .int .i64 0, .int .i64 0, .int .i64 0, .int .i64 0]) 12 96 Try.underlying33 gi gz0 gz1 gz2 rfl (by decide) _ (out.length) (ppcells out) rfl rowV1 ⟨V1.heap.size, 0, none⟩ 1 1 (ppcell (s', b', x')) rfl rfl NV1.out (ppcell_one _) (by decide) ?q63 ?qby ?qbase ?_))
          case q63 => have := hol.out; unfold maxLen; omega
          case qby => have := hol.out; omega
          case qbase => have := cV1.size; first | omega | (simp; omega)
          intro vw4 w4 rw4 uw4
          obtain ⟨sow4, scw4, rfl, -⟩ := owns_shape rw4
          have ew4 := bAll cV1 alV1
          have cw4 : Below W.heap.size W w4 := ew4.trans (uw4.below ew4.size (fun _ h => h.1))
          have Rw4 := hide (show RowA w4 W.heap.size 56 12 _ _ _ from .inl rw4)
          clear rowV1 NV1 uw4 ew4 alV1
          go_wp2
          go_roundw
          case rel =>
            refine ⟨k + 1, out ++ [(s', b', x')], false, by omega, by go_num, rfl, HN.out, ?_, cw4⟩
            have := Rw4.out
            simpa [ppcells, List.flatMap_append] using this
          case measure => simp [intOf]; omega
        · subst heq
          have HN := hide (putV_hit HP.out (y := (s', b', x')) rfl)
          rw [← ht.out] at HN
          have h1 : decide (s' ≥ s') = true := by simp
          have h3 : (s' != s') = false := by simp
          have cwr := hbel
          have Rwr := HW
          go_wp2
          go_quiet (fail)
          generalize hV : World.drewN wr _ = V1
          have bV1 : Below wr.heap.size wr V1 := by rw [← hV]; exact below_drewN (Below.refl _ _) _
          have cV1 := bAll cwr bV1
          have RV1 := hide (Rwr.out.keepB bV1)
          clear hV
          have alV1 := bal (Below.refl V1.heap.size V1) (.cells (#[.int .i64 s', .int .i64 b, .int .i64 x.c0, .int .i64 x.c1, .int .i64 x.c2, .int .i64 x.c3, .int .i64 x.c4, .int .i64 x.c5, .int .i64 x.c6, .int .i64 x.c7, .int .i64 x.c8, .int .i64 x.c9] : Array Value) 56)
          have rowV1 := RV1.out.keepB alV1
          have NV1 := hide (newV_cells V1 (s', b, x) 56)
          go_wp2_with (first
            | (refine wpList_load_row rfl 56 (.tmp 3) rfl w.heap.size rfl _ (#[.int .i64 s', .int .i64 b, .int .i64 x.c0, .int .i64 x.c1, .int .i64 x.c2, .int .i64 x.c3, .int .i64 x.c4, .int .i64 x.c5, .int .i64 x.c6, .int .i64 x.c7, .int .i64 x.c8, .int .i64 x.c9] : Array Value) (0, 0) _ (KB.out _ cV1) Try.underlying56 rfl infoPpS ?_)
            | (at_builtin; refine wpList_appendA _ rfl _ _ 33 rfl W.heap.size 56 i1 (.agg #[.int .i64 0, .int .i64 0, .int .i64 0, .int .i64 0, .int .i64 0, .int .i64 0, .int .i64 0, .int .i64 0, .int .i64 0, .int .i64 0, .int .i64 0, .int .i64 0]) 12 96 Try.underlying33 gi gz0 gz1 gz2 rfl (by decide) _ (out.length) (ppcells out) rfl rowV1 ⟨V1.heap.size, 0, none⟩ 1 1 (ppcell (s', b, x)) rfl rfl NV1.out (ppcell_one _) (by decide) ?q63 ?qby ?qbase ?_))
          case q63 => have := hol.out; unfold maxLen; omega
          case qby => have := hol.out; omega
          case qbase => have := cV1.size; first | omega | (simp; omega)
          intro vw4 w4 rw4 uw4
          obtain ⟨sow4, scw4, rfl, -⟩ := owns_shape rw4
          have ew4 := bAll cV1 alV1
          have cw4 : Below W.heap.size W w4 := ew4.trans (uw4.below ew4.size (fun _ h => h.1))
          have Rw4 := hide (show RowA w4 W.heap.size 56 12 _ _ _ from .inl rw4)
          clear rowV1 NV1 uw4 ew4 alV1
          have f4 : w4.cell? ⟨b1, o1 + k * 12, none⟩ = some (.int .i64 s') := G.out _ cw4 0 _ rfl
          have g4 : w4.cell? ⟨w.heap.size, 0, none⟩ = some (.int .i64 s') := boxAt (KB.out _ cw4) 0
          go_wp2
          go_quiet (fail)
          generalize hV : World.drewN w4 _ = V2
          have bV2 : Below w4.heap.size w4 V2 := by rw [← hV]; exact below_drewN (Below.refl _ _) _
          have cV2 := bAll cw4 bV2
          have RV2 := hide (Rw4.out.keepB bV2)
          clear hV
          go_wp2
          go_roundw
          case rel =>
            refine ⟨k + 1, out ++ [(s', b, x)], true, by omega, by go_num, rfl, HN.out, ?_, cV2⟩
            have := RV2.out
            simpa [ppcells, List.flatMap_append] using this
          case measure => simp [intOf]; omega
        · have HN := hide (putV_over HP.out (y := (s', b', x')) hhi)
          rw [← ht.out] at HN
          have h1 : decide (s' ≥ s) = true := by simp; omega
          have h2 : decide (s ≤ s') = true := by simp; omega
          have h3 : (s' != s) = true := by simp; omega
          have h4 : (s' == s) = false := by simp; omega
          have cwr := hbel
          have Rwr := HW
          go_wp2
          go_quiet (fail)
          generalize hV : World.drewN wr _ = V1
          have bV1 : Below wr.heap.size wr V1 := by rw [← hV]; exact below_drewN (Below.refl _ _) _
          have cV1 := bAll cwr bV1
          have RV1 := hide (Rwr.out.keepB bV1)
          clear hV
          have alV1 := bal (Below.refl V1.heap.size V1) (.cells (#[.int .i64 s, .int .i64 b, .int .i64 x.c0, .int .i64 x.c1, .int .i64 x.c2, .int .i64 x.c3, .int .i64 x.c4, .int .i64 x.c5, .int .i64 x.c6, .int .i64 x.c7, .int .i64 x.c8, .int .i64 x.c9] : Array Value) 56)
          have rowV1 := RV1.out.keepB alV1
          have NV1 := hide (newV_cells V1 (s, b, x) 56)
          go_wp2_with (first
            | (refine wpList_load_row rfl 56 (.tmp 3) rfl w.heap.size rfl _ (#[.int .i64 s, .int .i64 b, .int .i64 x.c0, .int .i64 x.c1, .int .i64 x.c2, .int .i64 x.c3, .int .i64 x.c4, .int .i64 x.c5, .int .i64 x.c6, .int .i64 x.c7, .int .i64 x.c8, .int .i64 x.c9] : Array Value) (0, 0) _ (KB.out _ cV1) Try.underlying56 rfl infoPpS ?_)
            | (at_builtin; refine wpList_appendA _ rfl _ _ 33 rfl W.heap.size 56 i1 (.agg #[.int .i64 0, .int .i64 0, .int .i64 0, .int .i64 0, .int .i64 0, .int .i64 0, .int .i64 0, .int .i64 0, .int .i64 0, .int .i64 0, .int .i64 0, .int .i64 0]) 12 96 Try.underlying33 gi gz0 gz1 gz2 rfl (by decide) _ (out.length) (ppcells out) rfl rowV1 ⟨V1.heap.size, 0, none⟩ 1 1 (ppcell (s, b, x)) rfl rfl NV1.out (ppcell_one _) (by decide) ?q63 ?qby ?qbase ?_))
          case q63 => have := hol.out; unfold maxLen; omega
          case qby => have := hol.out; omega
          case qbase => have := cV1.size; first | omega | (simp; omega)
          intro vw4 w4 rw4 uw4
          obtain ⟨sow4, scw4, rfl, -⟩ := owns_shape rw4
          have ew4 := bAll cV1 alV1
          have cw4 : Below W.heap.size W w4 := ew4.trans (uw4.below ew4.size (fun _ h => h.1))
          have Rw4 := hide (show RowA w4 W.heap.size 56 12 _ _ _ from .inl rw4)
          clear rowV1 NV1 uw4 ew4 alV1
          have f4 : w4.cell? ⟨b1, o1 + k * 12, none⟩ = some (.int .i64 s') := G.out _ cw4 0 _ rfl
          have g4 : w4.cell? ⟨w.heap.size, 0, none⟩ = some (.int .i64 s) := boxAt (KB.out _ cw4) 0
          go_wp2
          go_quiet (fail)
          generalize hV : World.drewN w4 _ = V2
          have bV2 : Below w4.heap.size w4 V2 := by rw [← hV]; exact below_drewN (Below.refl _ _) _
          have cV2 := bAll cw4 bV2
          have RV2 := hide (Rw4.out.keepB bV2)
          clear hV
          have alV2 := bal (Below.refl V2.heap.size V2) (.cells (#[.int .i64 s', .int .i64 b', .int .i64 x'.c0, .int .i64 x'.c1, .int .i64 x'.c2, .int .i64 x'.c3, .int .i64 x'.c4, .int .i64 x'.c5, .int .i64 x'.c6, .int .i64 x'.c7, .int .i64 x'.c8, .int .i64 x'.c9] : Array Value) 56)
          have rowV2 := RV2.out.keepB alV2
          have NV2 := hide (newV_cells V2 (s', b', x') 56)
          go_wp2_with (first
            | (refine wpList_load_at rfl 56 (.tmp 42) rfl b1 (o1 + k * 12) rfl (#[.int .i64 s', .int .i64 b', .int .i64 x'.c0, .int .i64 x'.c1, .int .i64 x'.c2, .int .i64 x'.c3, .int .i64 x'.c4, .int .i64 x'.c5, .int .i64 x'.c6, .int .i64 x'.c7, .int .i64 x'.c8, .int .i64 x'.c9] : Array Value) _ (G.out _ cV2) Try.underlying56 rfl infoPpS ?_)
            | (at_builtin; refine wpList_appendA _ rfl _ _ 33 rfl W.heap.size 56 i1 (.agg #[.int .i64 0, .int .i64 0, .int .i64 0, .int .i64 0, .int .i64 0, .int .i64 0, .int .i64 0, .int .i64 0, .int .i64 0, .int .i64 0, .int .i64 0, .int .i64 0]) 12 96 Try.underlying33 gi gz0 gz1 gz2 rfl (by decide) _ (out.length + 1) (ppcells out ++ ppcell (s, b, x)) rfl rowV2 ⟨V2.heap.size, 0, none⟩ 1 1 (ppcell (s', b', x')) rfl rfl NV2.out (ppcell_one _) (by decide) ?q63 ?qby ?qbase ?_))
          case q63 => have := hol.out; unfold maxLen; omega
          case qby => have := hol.out; omega
          case qbase => have := cV2.size; first | omega | (simp; omega)
          intro vw5 w5 rw5 uw5
          obtain ⟨sow5, scw5, rfl, -⟩ := owns_shape rw5
          have ew5 := bAll cV2 alV2
          have cw5 : Below W.heap.size W w5 := ew5.trans (uw5.below ew5.size (fun _ h => h.1))
          have Rw5 := hide (show RowA w5 W.heap.size 56 12 _ _ _ from .inl rw5)
          clear rowV2 NV2 uw5 ew5 alV2
          go_wp2
          go_roundw
          case rel =>
            refine ⟨k + 1, out ++ [(s, b, x)] ++ [(s', b', x')], true, by omega, by go_num, rfl, HN.out, ?_, cw5⟩
            have := Rw5.out
            simpa [ppcells, List.flatMap_append] using this
          case measure => simp [intOf]; omega
      · obtain ⟨hgt, hnx⟩ := putV_done HS.out HP.out
        have HN := hide hnx
        rw [← ht.out] at HN
        have h3 : (s' != s) = true := by simp at hgt ⊢; omega
        have h4 : (s' == s) = false := by simp at hgt ⊢; omega
        have cwr := hbel
        have Rwr := HW
        go_wp2
        go_quiet (fail)
        go_wp2
        go_quiet (fail)
        generalize hV : World.drewN (World.drewN wr _) _ = V1
        have bV1 : Below wr.heap.size wr V1 := by rw [← hV]; exact below_drewN (below_drewN (Below.refl _ _) _) _
        have cV1 := bAll cwr bV1
        have RV1 := hide (Rwr.out.keepB bV1)
        clear hV
        have alV1 := bal (Below.refl V1.heap.size V1) (.cells (#[.int .i64 s', .int .i64 b', .int .i64 x'.c0, .int .i64 x'.c1, .int .i64 x'.c2, .int .i64 x'.c3, .int .i64 x'.c4, .int .i64 x'.c5, .int .i64 x'.c6, .int .i64 x'.c7, .int .i64 x'.c8, .int .i64 x'.c9] : Array Value) 56)
        have rowV1 := RV1.out.keepB alV1
        have NV1 := hide (newV_cells V1 (s', b', x') 56)
        go_wp2_with (first
          | (refine wpList_load_at rfl 56 (.tmp 42) rfl b1 (o1 + k * 12) rfl (#[.int .i64 s', .int .i64 b', .int .i64 x'.c0, .int .i64 x'.c1, .int .i64 x'.c2, .int .i64 x'.c3, .int .i64 x'.c4, .int .i64 x'.c5, .int .i64 x'.c6, .int .i64 x'.c7, .int .i64 x'.c8, .int .i64 x'.c9] : Array Value) _ (G.out _ cV1) Try.underlying56 rfl infoPpS ?_)
          | (at_builtin; refine wpList_appendA _ rfl _ _ 33 rfl W.heap.size 56 i1 (.agg #[.int .i64 0, .int .i64 0, .int .i64 0, .int .i64 0, .int .i64 0, .int .i64 0, .int .i64 0, .int .i64 0, .int .i64 0, .int .i64 0, .int .i64 0, .int .i64 0]) 12 96 Try.underlying33 gi gz0 gz1 gz2 rfl (by decide) _ (out.length) (ppcells out) rfl rowV1 ⟨V1.heap.size, 0, none⟩ 1 1 (ppcell (s', b', x')) rfl rfl NV1.out (ppcell_one _) (by decide) ?q63 ?qby ?qbase ?_))
        case q63 => have := hol.out; unfold maxLen; omega
        case qby => have := hol.out; omega
        case qbase => have := cV1.size; first | omega | (simp; omega)
        intro vw4 w4 rw4 uw4
        obtain ⟨sow4, scw4, rfl, -⟩ := owns_shape rw4
        have ew4 := bAll cV1 alV1
        have cw4 : Below W.heap.size W w4 := ew4.trans (uw4.below ew4.size (fun _ h => h.1))
        have Rw4 := hide (show RowA w4 W.heap.size 56 12 _ _ _ from .inl rw4)
        clear rowV1 NV1 uw4 ew4 alV1
        go_wp2
        go_roundw
        case rel =>
          refine ⟨k + 1, out ++ [(s', b', x')], true, by omega, by go_num, rfl, HN.out, ?_, cw4⟩
          have := Rw4.out
          simpa [ppcells, List.flatMap_append] using this
        case measure => simp [intOf]; omega
    · obtain rfl : k = n := by omega
      have htk : xs.take k = xs := List.take_of_length_le (by have := Hl.out; omega)
      have HE := hide (putV_end HP.out)
      rw [htk, HX.out] at HE
      cases done
      · replace HE : Hid (out ++ [(s, b, x)] = X) := HE.out
        have cwr := hbel
        have Rwr := HW
        have alwr := bal (Below.refl wr.heap.size wr) (.cells (#[.int .i64 s, .int .i64 b, .int .i64 x.c0, .int .i64 x.c1, .int .i64 x.c2, .int .i64 x.c3, .int .i64 x.c4, .int .i64 x.c5, .int .i64 x.c6, .int .i64 x.c7, .int .i64 x.c8, .int .i64 x.c9] : Array Value) 56)
        have rowwr := Rwr.out.keepB alwr
        have Nwr := hide (newV_cells wr (s, b, x) 56)
        go_wp2_with (first
          | (refine wpList_load_row rfl 56 (.tmp 3) rfl w.heap.size rfl _ (#[.int .i64 s, .int .i64 b, .int .i64 x.c0, .int .i64 x.c1, .int .i64 x.c2, .int .i64 x.c3, .int .i64 x.c4, .int .i64 x.c5, .int .i64 x.c6, .int .i64 x.c7, .int .i64 x.c8, .int .i64 x.c9] : Array Value) (0, 0) _ (KB.out _ cwr) Try.underlying56 rfl infoPpS ?_)
          | (at_builtin; refine wpList_appendA _ rfl _ _ 33 rfl W.heap.size 56 i1 (.agg #[.int .i64 0, .int .i64 0, .int .i64 0, .int .i64 0, .int .i64 0, .int .i64 0, .int .i64 0, .int .i64 0, .int .i64 0, .int .i64 0, .int .i64 0, .int .i64 0]) 12 96 Try.underlying33 gi gz0 gz1 gz2 rfl (by decide) _ (out.length) (ppcells out) rfl rowwr ⟨wr.heap.size, 0, none⟩ 1 1 (ppcell (s, b, x)) rfl rfl Nwr.out (ppcell_one _) (by decide) ?q63 ?qby ?qbase ?_))
        case q63 => have := hol.out; unfold maxLen; omega
        case qby => have := hol.out; omega
        case qbase => have := cwr.size; first | omega | (simp; omega)
        intro vw4 w4 rw4 uw4
        obtain ⟨sow4, scw4, rfl, -⟩ := owns_shape rw4
        have ew4 := bAll cwr alwr
        have cw4 : Below W.heap.size W w4 := ew4.trans (uw4.below ew4.size (fun _ h => h.1))
        have Rw4 := hide (show RowA w4 W.heap.size 56 12 _ _ _ from .inl rw4)
        clear rowwr Nwr uw4 ew4 alwr
        go_wp2
        go_ret
        refine ⟨_, rfl, ?_, bAll al0 cw4⟩
        rw [← HE.out]
        have := Rw4.out.base (b' := w.heap.size) (by omega)
        simpa [ppcells, List.flatMap_append] using this
      · replace HE : Hid (out = X) := HE.out
        go_wp2
        go_ret
        refine ⟨_, rfl, ?_, bAll al0 hbel⟩
        rw [← HE.out]
        exact HW.out.base (b' := w.heap.size) (by omega)

end Go.Proofs.Ytiigcokbmggdkaa
