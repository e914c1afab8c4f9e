/- Contracts and plain facts that this claim leans on (texts FW5, FW6, VL0, SSk, OkLaw, ArgD, ArgW, ArgS, ArgC); no statement of the seat is proved here. -/
import Derived.Test.YtiigcokbmggdkaaTk5
import Derived.Test.YtiigcokbmggdkaaTk6
import Derived.Test.YtiigcokbmggdkaaTk3
import Derived.Test.YtiigcokbmggdkaaTk2
import Derived.Test.YtiigcokbmggdkaaTk4
import Derived.Test.YtiigcokbmggdkaaTk1
import Derived.ProofKit
import Derived.OpenShut
import Derived.ShutString
import Derived.ChangeOld
import Derived.Below
import Derived.Lib.SmallJoins
import Derived.Deep.Strs
import Derived.Deep.SlicePairs
import Derived.Deep.Slices
import Derived.ChangeSlices

/- SynSeek of the program: a contract; no statement of the seat is proved here. (Written by wip/tools/mkseek.py.) -/
namespace Go.Proofs.Ytiigcokbmggdkaa
open Go.RowKit

set_option maxRecDepth 100000 in
set_option maxHeartbeats 8000000 in
theorem implSynSeek_any (me round slot : Int) (m : Wd) (w : World) :
    Calls Try.prog 33 #[.int .i64 me, .int .i64 round, .int .i64 slot, .agg #[.int .i64 m.c0, .int .i64 m.c1, .int .i64 m.c2, .int .i64 m.c3, .int .i64 m.c4, .int .i64 m.c5, .int .i64 m.c6, .int .i64 m.c7, .int .i64 m.c8, .int .i64 m.c9] ] w fun e w' => ∃ v', e = .returned (.tuple #[.agg (skarr (seekK me round slot m) (.slice none 0 0)), v']) ∧ SeekO w w' (seekL me round slot m) v' := by
  obtain ⟨K, hK⟩ : ∃ K, seekK me round slot m = K := ⟨_, rfl⟩
  obtain ⟨L, hL⟩ : ∃ L, seekL me round slot m = L := ⟨_, rfl⟩
  rw [hK, hL]
  have HK := hide hK
  have HL := hide hL
  obtain ⟨i1, hi1⟩ : ∃ j, inI me 0 4 = j := ⟨_, rfl⟩
  obtain ⟨i2, hi2⟩ : ∃ j, inI round 1 12498 = j := ⟨_, rfl⟩
  have c1 := fun V => wordIsServer_any me V
  have c2 := fun V => blkWithin_any round 1 12498 V
  rw [hi1] at c1
  rw [hi2] at c2
  clear hK hL
  go_enter Try.func33, Try.ntmps33
  go_upto_region 1 with fail
  generalize hW : World.alloc _ _ = W
  have al : Below w.heap.size w W := by rw [← hW]; exact bal (bal (Below.refl _ _) _) _
  have B0 : Hid (W.heap[w.heap.size]? = some (.cells #[.int .i64 m.c0, .int .i64 m.c1, .int .i64 m.c2, .int .i64 m.c3, .int .i64 m.c4, .int .i64 m.c5, .int .i64 m.c6, .int .i64 m.c7, .int .i64 m.c8, .int .i64 m.c9] 36 (0, 0))) := by show _ = _; rw [← hW]; exact al2_0 w _ _
  have B1 : Hid (W.heap[w.heap.size + 1]? = some (.cells (skarr zeroK (.slice none 0 0)) 66 (0, 0))) := by show _ = _; rw [← hW]; exact al2_1 w _ _
  clear hW
  by_cases hin : i1 = true ∧ i2 = true
  · obtain ⟨rfl, rfl⟩ := hin
    obtain ⟨j, hj⟩ : ∃ j, (inI slot 1 60 && cmdI m) = j := ⟨_, rfl⟩
    have HI : Hid (seekI me round slot m = j) := by show _ = _; rw [seekI, hi1, hi2, hj]; rfl
    simp only [inI, Bool.and_eq_true, decide_eq_true_eq] at hi1 hi2
    obtain ⟨h1a, h1b⟩ := hi1
    obtain ⟨h2a, h2b⟩ := hi2
    go_upto_region 2 with (first
      | (refine wpList_load_row rfl 36 (.tmp 7) rfl w.heap.size rfl _ #[.int .i64 m.c0, .int .i64 m.c1, .int .i64 m.c2, .int .i64 m.c3, .int .i64 m.c4, .int .i64 m.c5, .int .i64 m.c6, .int .i64 m.c7, .int .i64 m.c8, .int .i64 m.c9] (0, 0) _ B0.out Try.underlying36 rfl infoCm10 ?_)
      | (refine wpList_builtSk slot (8 * round + me) m rfl _ rfl ?hp ?_; (case hp => ((conv => lhs; simp only [List.map_toArray, List.map_cons, List.map_nil]); rfl)))
      | (refine wpList_store_row rfl 66 (.tmp 10) (.tmp 17) rfl W.heap.size (skarr ⟨slot, 8 * round + me, 1, m, (0, 0, zeroW), []⟩ (.slice none 0 0)) rfl rfl _ _ (heap_alloc_new W _) infoSk (show (26 : Nat) = 26 from rfl) (skarr_one _ _ _ _) ?_; rw [World.setRow_alloc_new]))
    generalize hB : 8 * round + me = B
    have HB : Hid (round * 8 + me = B) := by show _ = _; omega
    have hB1 : 1 ≤ B := by omega
    have hB2 : B ≤ 99999 := by omega
    have hj2 : mayS ⟨slot, B, 1, m, (0, 0, zeroW), []⟩ = j := by
      rw [← hj]
      have e1 : inI B 1 99999 = true := by rw [inI, decide_eq_true hB1, decide_eq_true hB2]; rfl
      rw [mayS, ppI]
      show ((inI slot 1 60 && (inI B 1 99999 && cmdI m)) && true) = _
      rw [e1]
      simp
    generalize hX : World.alloc _ _ = X
    have aX : Below W.heap.size W X := by rw [← hX]; exact bal (Below.refl _ _) _
    have NX : Hid (X.heap[W.heap.size]? = some (.cells (skarr ⟨slot, B, 1, m, (0, 0, zeroW), []⟩ (.slice none 0 0)) 66 (0, 0))) := by show _ = _; rw [← hX]; exact heap_alloc_new W _
    have ltW := heap_lt B1.out
    clear hX hB hj h1a h1b h2a h2b hB1 hB2
    go_wp2_with fail
    refine (c1 _).mono ?_
    rintro e V1 ⟨rfl, rfl⟩
    go_wp2_with fail
    refine (c2 _).mono ?_
    rintro e V2 ⟨rfl, rfl⟩
    have cM := maySeek_any W.heap.size ⟨slot, B, 1, m, (0, 0, zeroW), []⟩ none 0 V2 NX.out (RowR.nil _ _)
    rw [hj2] at cM
    clear hj2
    go_wp2_with fail
    refine cM.mono ?_
    rintro e V3 ⟨rfl, b3⟩
    have b3' := bAll aX b3
    clear cM c1 c2
    cases j
    · have hb := hide (bKeeps b3' B1.out)
      have cw : Below w.heap.size w V3 := bAll al b3'
      have ek : K = zeroK := by rw [← HK.out, seekK, HI.out]; rfl
      have el : L = [] := by rw [← HL.out, seekL, HI.out]; rfl
      have ek := hide ek
      have el := hide el
      clear HK HL HI
      go_wp2_with (first
        | (refine wpList_builtSk0 rfl _ rfl ?hp ?_; (case hp => rfl))
        | (refine wpList_store_row rfl 66 (.tmp 8) (.tmp 30) rfl (w.heap.size + 1) (skarr zeroK (.slice none 0 0)) rfl rfl _ _ hb.out infoSk (show (26 : Nat) = 26 from rfl) (skarr_one _ _ _ _) ?_))
      have s8 := updRow V3 (w.heap.size + 1) (skarr zeroK (.slice none 0 0))
      refine bodyPost_ret (v := .tuple #[.agg (skarr zeroK (.slice none 0 0)), .slice none 0 0]) (results_row_tmp Try.results33 _ _ (w.heap.size + 1) _ _ (0, 0) _ _ rfl rfl (setRow_heap _ _ _ _ _ _ hb.out) Try.underlying66 rfl infoSk) rfl ?_
      exact ⟨_, by rw [ek.out], by rw [el.out]; exact ⟨_, _, rfl, by simp, rfl, fun h => by simp at h⟩, cw.trans (s8.below cw.size (fun j h => by omega))⟩
    have ek : K = ⟨slot, B, 1, m, (0, 0, zeroW), []⟩ := by rw [← HK.out, seekK, HI.out]; show begK me round slot m = _; rw [begK, HB.out]
    have el : L = allTo (askW me B slot) 3 := by rw [← HL.out, seekL, HI.out]; show allTo (askW me (round * 8 + me) slot) 3 = _; rw [HB.out]
    have ek := hide ek
    have el := hide el
    clear HK HL HI
    have NX3 := hide (bKeeps b3 NX.out)
    have B13 := hide (bKeeps b3' B1.out)
    have z3 := b3'.size
    have zal := al.size
    have dd := bDrewB (Below.refl V3.heap.size V3)
    have S0 : Hid (∀ V : World, Below V3.heap.size V3 V → (V.heap[W.heap.size]? = some (.cells (skarr ⟨slot, B, 1, m, (0, 0, zeroW), []⟩ (.slice none 0 0)) 66 (0, 0)) ∧ V.cell? ⟨W.heap.size, 1, none⟩ = some (.int .i64 B)) ∧ V.heap[w.heap.size + 1]? = some (.cells (skarr zeroK (.slice none 0 0)) 66 (0, 0))) := fun V h => ⟨⟨bKeeps h NX3.out, boxAt (bKeeps h NX3.out) 1⟩, bKeeps h B13.out⟩
    go_wp2
    refine wp_region_noPanic ?_
    refine wp_region_held_drew (S := (fun w' => w'.heap[W.heap.size]? = some (.cells (skarr ⟨slot, B, 1, m, (0, 0, zeroW), []⟩ (.slice none 0 0)) 66 (0, 0)) ∧ w'.cell? ⟨W.heap.size, 1, none⟩ = some (.int .i64 B))) (by kernel_rfl) ?_ (fun hHeld => ?_)
    · exact (S0.out _ dd).1
    refine wpAnyH_take (i := 0) (v := .agg (skarr ⟨slot, B, 1, m, (0, 0, zeroW), []⟩ (.slice none 0 0))) rfl (by kernel_rfl) (by kernel_rfl) (by kernel_rfl) (fun _ _ _ h => h) (yields_row rfl 66 (.tmp 10) rfl (W.heap.size) rfl _ (skarr ⟨slot, B, 1, m, (0, 0, zeroW), []⟩ (.slice none 0 0)) _ (fun _ h => h.1) Try.underlying66 rfl infoSk) (by assumption) ?_
    simp only [Act.put, List.getElem_toArray, List.getElem_cons_zero, List.setIfInBounds_toArray, List.set_cons_zero, List.set_cons_succ]
    refine wpAnyH_take (i := 1) (v := ?v1) rfl (by kernel_rfl) (by kernel_rfl) (by kernel_rfl) (fun _ _ _ h => h) (Or.inl ⟨by rfl, ?hy1⟩) (by assumption) ?rest1
    case hy1 => ((intro w hSw; (try dsimp only at hSw); (try simp only [List.getElem_toArray, List.getElem_cons_zero, List.getElem_cons_succ]); go_simp; first | done | (with_reducible rfl)))
    simp only [Act.put, List.getElem_toArray, List.getElem_cons_zero, List.getElem_cons_succ, List.setIfInBounds_toArray, List.set_cons_zero, List.set_cons_succ]
    refine wpAnyH_take (i := 2) (v := ?v2) rfl (by kernel_rfl) (by kernel_rfl) (by kernel_rfl) (fun _ _ _ h => h) (Or.inl ⟨by rfl, ?hy2⟩) (by assumption) ?rest2
    case hy2 => ((intro w hSw; (try dsimp only at hSw); (try simp only [List.getElem_toArray, List.getElem_cons_zero, List.getElem_cons_succ]); go_simp; first | done | (with_reducible rfl)))
    simp only [Act.put, List.getElem_toArray, List.getElem_cons_zero, List.getElem_cons_succ, List.setIfInBounds_toArray, List.set_cons_zero, List.set_cons_succ]
    refine wpAnyH_take (i := 3) (v := ?v3) rfl (by kernel_rfl) (by kernel_rfl) (by kernel_rfl) (fun _ _ _ h => h) (Or.inl ⟨by rfl, ?hy3⟩) (by assumption) ?rest3
    case hy3 => ((intro w hSw; (try dsimp only at hSw); (try simp only [List.getElem_toArray, List.getElem_cons_zero, List.getElem_cons_succ]); go_simp; first | done | (with_reducible rfl)))
    simp only [Act.put, List.getElem_toArray, List.getElem_cons_zero, List.getElem_cons_succ, List.setIfInBounds_toArray, List.set_cons_zero, List.set_cons_succ]
    refine wpAnyH_take (i := 4) (v := ?v4) rfl (by kernel_rfl) (by kernel_rfl) (by kernel_rfl) (fun _ _ _ h => h) (Or.inl ⟨by rfl, ?hy4⟩) (by assumption) ?rest4
    case hy4 => ((intro w hSw; (try dsimp only at hSw); (try simp only [List.getElem_toArray, List.getElem_cons_zero, List.getElem_cons_succ]); go_simp; first | done | (with_reducible rfl)))
    simp only [Act.put, List.getElem_toArray, List.getElem_cons_zero, List.getElem_cons_succ, List.setIfInBounds_toArray, List.set_cons_zero, List.set_cons_succ]
    refine wpAnyH_take (i := 5) (v := .agg (fwarr (askW 0 B slot))) rfl (by kernel_rfl) (by kernel_rfl) (by kernel_rfl) (fun _ _ _ h => h) (yields_build rfl 40 _ rfl [(0, .int .i64 1), (3, .int .i64 B), (4, .int .i64 slot)] _ ((by (conv => lhs; simp only [List.map_toArray, List.map_cons, List.map_nil]); rfl)) (builtAsk2 B slot)) (by assumption) ?_
    simp only [Act.put, List.getElem_toArray, List.getElem_cons_zero, List.getElem_cons_succ, List.setIfInBounds_toArray, List.set_cons_zero, List.set_cons_succ]
    refine wpAnyH_ready (rs := [6]) (by kernel_rfl) (by simp) ?_
    refine AllReadyH.cons rfl (fun K hK => ?_) AllReadyH.nil
    go_simp
    (go_at_call 91; refine (synAskAll_any me (askW 0 B slot) _).mono ?_; rintro e V5 ⟨v5, rfl, r5, b5⟩; have c5 := bAll dd b5)
    refine hK.out _ _ ?_ (fun hHeld => ?_)
    · exact (S0.out _ c5).1
    clear hK K
    have s8 := updRow V5 (w.heap.size + 1) (skarr ⟨slot, B, 1, m, (0, 0, zeroW), []⟩ (.slice none 0 0))
    have z5 := b5.size
    have z3d : V3.heap.size ≤ V3.drew.heap.size := dd.size
    refine wpAnyH_ready (rs := [7]) (by kernel_rfl) (by simp) ?_
    refine AllReadyH.cons rfl (fun K hK => ?_) AllReadyH.nil
    (refine wp_store_row 66 (.tmp 8) (.tmp 31) rfl (w.heap.size + 1) (skarr ⟨slot, B, 1, m, (0, 0, zeroW), []⟩ (.slice none 0 0)) rfl rfl _ _ (S0.out _ c5).2 infoSk (show (26 : Nat) = 26 from rfl) (skarr_one _ _ _ _) ?_)
    refine hK.out _ _ ?_ (fun hHeld => ?_)
    · exact ⟨s8.keeps (S0.out _ c5).1.1 (by omega), boxAt (s8.keeps (S0.out _ c5).1.1 (by omega)) 1⟩
    clear hK K
    refine wpAnyH_take (i := 8) (v := ?v5) rfl (by kernel_rfl) (by kernel_rfl) (by kernel_rfl) (fun _ _ _ h => h) (Or.inl ⟨by rfl, ?y5⟩) (by assumption) ?r5
    case y5 => (intro w hSw; go_simp; first | done | (with_reducible rfl))
    simp only [Act.put, List.getElem_toArray, List.getElem_cons_zero, List.getElem_cons_succ, List.setIfInBounds_toArray, List.set_cons_zero, List.set_cons_succ]
    refine wpAnyH_done (by kernel_rfl) ?_ _
    refine NoPanic.normal ?_
    clear hHeld
    go_wp2_with fail
    refine bodyPost_ret (v := .tuple #[.agg (skarr ⟨slot, B, 1, m, (0, 0, zeroW), []⟩ (.slice none 0 0)), v5]) (results_row_tmp Try.results33 _ _ (w.heap.size + 1) _ _ (0, 0) _ _ rfl rfl (setRow_heap _ _ _ _ _ _ (S0.out _ c5).2) Try.underlying66 rfl infoSk) rfl ?_
    have cw := bAll (bAll al b3') c5
    refine ⟨_, by rw [ek.out], ?_, cw.trans (s8.below cw.size (fun j h => by omega))⟩
    rcases r5 with ⟨h, -⟩ | ⟨-, r5⟩
    · simp [askW] at h
    have r6 := (r5.row (by omega)).keep s8 (fun j h1 h2 => by omega)
    rw [el.out, allTo_len]
    exact r6.mono (fun j _ h => by omega)
  · obtain ⟨j, hj⟩ : ∃ j, (inI slot 1 60 && cmdI m) = j := ⟨_, rfl⟩
    have HI : Hid (seekI me round slot m = false) := by
      show _ = _
      have hf : (i1 && i2) = false := by cases i1 <;> cases i2 <;> first | rfl | exact absurd ⟨rfl, rfl⟩ hin
      rw [seekI, hi1, hi2, ← Bool.and_assoc, hf]
      rfl
    clear hi1 hi2 hj
    go_upto_region 2 with (first
      | (refine wpList_load_row rfl 36 (.tmp 7) rfl w.heap.size rfl _ #[.int .i64 m.c0, .int .i64 m.c1, .int .i64 m.c2, .int .i64 m.c3, .int .i64 m.c4, .int .i64 m.c5, .int .i64 m.c6, .int .i64 m.c7, .int .i64 m.c8, .int .i64 m.c9] (0, 0) _ B0.out Try.underlying36 rfl infoCm10 ?_)
      | (refine wpList_builtSk slot (wrap64 (wrap64 (8 * round) + me)) m rfl _ rfl ?hp ?_; (case hp => ((conv => lhs; simp only [List.map_toArray, List.map_cons, List.map_nil]); rfl)))
      | (refine wpList_store_row rfl 66 (.tmp 10) (.tmp 17) rfl W.heap.size (skarr ⟨slot, wrap64 (wrap64 (8 * round) + me), 1, m, (0, 0, zeroW), []⟩ (.slice none 0 0)) rfl rfl _ _ (heap_alloc_new W _) infoSk (show (26 : Nat) = 26 from rfl) (skarr_one _ _ _ _) ?_; rw [World.setRow_alloc_new]))
    generalize hX : World.alloc _ _ = X
    have aX : Below W.heap.size W X := by rw [← hX]; exact bal (Below.refl _ _) _
    clear hX
    go_wp2_with fail
    refine (c1 _).mono ?_
    rintro e V1 ⟨rfl, rfl⟩
    cases i1
    · have hb := hide (bKeeps aX B1.out)
      have cw : Below w.heap.size w V1 := bAll al aX
      have ek : K = zeroK := by rw [← HK.out, seekK, HI.out]; rfl
      have el : L = [] := by rw [← HL.out, seekL, HI.out]; rfl
      have ek := hide ek
      have el := hide el
      clear HK HL HI
      go_wp2_with (first
        | (refine wpList_builtSk0 rfl _ rfl ?hp ?_; (case hp => rfl))
        | (refine wpList_store_row rfl 66 (.tmp 8) (.tmp 30) rfl (w.heap.size + 1) (skarr zeroK (.slice none 0 0)) rfl rfl _ _ hb.out infoSk (show (26 : Nat) = 26 from rfl) (skarr_one _ _ _ _) ?_))
      have s8 := updRow V1 (w.heap.size + 1) (skarr zeroK (.slice none 0 0))
      refine bodyPost_ret (v := .tuple #[.agg (skarr zeroK (.slice none 0 0)), .slice none 0 0]) (results_row_tmp Try.results33 _ _ (w.heap.size + 1) _ _ (0, 0) _ _ rfl rfl (setRow_heap _ _ _ _ _ _ hb.out) Try.underlying66 rfl infoSk) rfl ?_
      exact ⟨_, by rw [ek.out], by rw [el.out]; exact ⟨_, _, rfl, by simp, rfl, fun h => by simp at h⟩, cw.trans (s8.below cw.size (fun j h => by omega))⟩
    go_wp2_with fail
    refine (c2 _).mono ?_
    rintro e V2 ⟨rfl, rfl⟩
    cases i2
    · have hb := hide (bKeeps aX B1.out)
      have cw : Below w.heap.size w V2 := bAll al aX
      have ek : K = zeroK := by rw [← HK.out, seekK, HI.out]; rfl
      have el : L = [] := by rw [← HL.out, seekL, HI.out]; rfl
      have ek := hide ek
      have el := hide el
      clear HK HL HI
      go_wp2_with (first
        | (refine wpList_builtSk0 rfl _ rfl ?hp ?_; (case hp => rfl))
        | (refine wpList_store_row rfl 66 (.tmp 8) (.tmp 30) rfl (w.heap.size + 1) (skarr zeroK (.slice none 0 0)) rfl rfl _ _ hb.out infoSk (show (26 : Nat) = 26 from rfl) (skarr_one _ _ _ _) ?_))
      have s8 := updRow V2 (w.heap.size + 1) (skarr zeroK (.slice none 0 0))
      refine bodyPost_ret (v := .tuple #[.agg (skarr zeroK (.slice none 0 0)), .slice none 0 0]) (results_row_tmp Try.results33 _ _ (w.heap.size + 1) _ _ (0, 0) _ _ rfl rfl (setRow_heap _ _ _ _ _ _ hb.out) Try.underlying66 rfl infoSk) rfl ?_
      exact ⟨_, by rw [ek.out], by rw [el.out]; exact ⟨_, _, rfl, by simp, rfl, fun h => by simp at h⟩, cw.trans (s8.below cw.size (fun j h => by omega))⟩
    · exact absurd (by simp) hin

end Go.Proofs.Ytiigcokbmggdkaa

/- Marks in rows of numbers, in seekers: contracts; no statement of the seat is proved here. -/
namespace Go.Proofs.Ytiigcokbmggdkaa
open Go.RowKit

def mkN (k n : Nat) : List Int := (List.range n).map fun i => ((k + i : Nat) : Int)
theorem mkN_len (k n : Nat) : (mkN k n).length = n := by simp [mkN]
theorem mkN_get (k n i : Nat) (h : i < n) : (mkN k n)[i]? = some ((k + i : Nat) : Int) := by simp [mkN, h]

set_option maxRecDepth 100000 in
set_option maxHeartbeats 4000000 in
theorem markIntS_row (S : Nat → Prop) (v : Value) (n : Nat) (cs : List Value) (k0 : Nat) (w : World) (hr : Row w 3 1 S v n cs) (h2 : k0 + n ≤ 1099511627776) :
    Calls Try.prog 92 #[v, .int .i64 k0] w fun e w' => e = .returned (.int .i64 (k0 + n : Nat)) ∧ Row w' 3 1 S v n (ints (mkN k0 n)) ∧ Upd S w w' := by
  obtain ⟨ao, cap, rfl, hn, hl, hr⟩ := hr
  rcases Nat.eq_zero_or_pos n with rfl | hpos
  · go_enter Try.func92, Try.ntmps92
    go_wp2
    refine wp_loop_rounds 1 ?_
    rw [rounds_succ]
    go_wp2
    go_ret
    exact ⟨rfl, ⟨ao, cap, rfl, hn, by simp [mkN, ints], fun h => by omega⟩, Upd.refl _ _⟩
  · obtain ⟨g, cur, rfl, hS, hg, ht⟩ := hr hpos
    have hcs : n ≤ cur.size := by
      have := congrArg List.length ht
      simp [hl] at this
      omega
    clear hr ht hl
    go_enter Try.func92, Try.ntmps92
    go_wp2
    go_loopw [1, 5] (fun kv i wr => ∃ (k m : Nat) (cur' : Array Value), k ≤ n ∧ m = k0 + k ∧ i = .int .i64 k ∧ kv = .int .i64 (m : Nat) ∧ wr.heap[g]? = some (.cells cur' 3 (0, 0)) ∧ cur'.size = cur.size ∧ (∀ j, j < k → cur'[j]? = some (.int .i64 (k0 + j : Nat))) ∧ Upd S w wr) (fun _ i _ => n - (intOf i).toNat)
    case atStart => exact ⟨0, k0, cur, Nat.zero_le _, rfl, rfl, rfl, hg, rfl, fun j hj => by omega, Upd.refl _ _⟩
    case round =>
      obtain ⟨k, m, cur', hk, hm, rfl, rfl, hgr, hsz, hmk, hup⟩ := hrel
      have Hm := hide hm
      have hm2 : (m : Int) ≤ 1099511627776 := by omega
      clear hm
      have HM := hide hmk
      have HZ := hide hsz
      have hsz' : n ≤ cur'.size := by omega
      clear hmk hsz
      by_cases hlt : k < n
      · have hi : (k : Int) < (n : Int) := by omega
        obtain ⟨u0, hu0⟩ : ∃ u, cur'[k]? = some u := ⟨cur'[k]'(by omega), by simp [show k < cur'.size by omega]⟩
        have hcw0 : wr.cell? ⟨g, k, none⟩ = some u0 := (cell_of_row wr _ _ cur' _ (0, 0) hgr).trans hu0
        have hfw0 : wr.frozen? ⟨g, k, none⟩ = false := frozen_of_row wr _ _ cur' _ hgr
        have Hg := hide hgr
        have HS' := hide hsz'
        clear hgr hsz' hu0
        go_wp2
        go_roundw
        case rel =>
          refine ⟨k + 1, m + 1, cur'.setIfInBounds k (.int .i64 (m : Int)), by omega, by rw [Hm.out]; omega, by go_num, by go_num, row_set _ Hg.out, by simpa using HZ.out, fun j hj => ?_, hup.trans (Upd.setCell _ _ _ _ hS)⟩
          by_cases hjk : j = k
          · subst hjk
            rw [Array.getElem?_setIfInBounds_self_of_lt (by have := HS'.out; omega), Hm.out]
          · rw [Array.getElem?_setIfInBounds_ne (by omega)]
            exact HM.out j (by omega)
        case measure => simp [intOf]; omega
      · go_wp2
        go_ret
        obtain rfl : k = n := by omega
        refine ⟨by rw [Hm.out]; rfl, ⟨_, cap, rfl, hn, by simp [ints, mkN_len], fun _ => ⟨g, cur', rfl, hS, hgr, ?_⟩⟩, hup⟩
        have hz := HZ.out
        apply List.ext_getElem?
        intro j
        by_cases hj : j < k
        · rw [List.getElem?_take_of_lt (by omega), ints, List.getElem?_map, mkN_get _ _ _ hj]
          simpa using HM.out j hj
        · rw [List.getElem?_eq_none (by simp; omega), List.getElem?_eq_none (by simp [ints, mkN_len]; omega)]

set_option maxRecDepth 100000 in
set_option maxHeartbeats 4000000 in
theorem heldIntS_ok (v : Value) (n k0 : Nat) (w : World) (hr : RowR w 1 v n (ints (mkN k0 n))) (h2 : k0 + n ≤ 1099511627776) :
    Calls Try.prog 93 #[v, .int .i64 k0] w fun e w' => e = .returned (.int .i64 (k0 + n : Nat)) ∧ Below w.heap.size w w' := by
  obtain ⟨ao, cap, rfl, hn, hl, hr⟩ := hr
  clear hl
  go_enter Try.func93, Try.ntmps93
  go_wp2
  go_loopw [1, 5] (fun kv i wr => ∃ k m : Nat, k ≤ n ∧ m = k0 + k ∧ i = .int .i64 k ∧ kv = .int .i64 (m : Nat) ∧ Below w.heap.size w wr) (fun _ i _ => n - (intOf i).toNat)
  case atStart => exact ⟨0, k0, Nat.zero_le _, rfl, rfl, rfl, Below.refl _ _⟩
  case round =>
    obtain ⟨k, m, hk, hm, rfl, rfl, hbel⟩ := hrel
    have Hm : Hid (m = k0 + k) := hm
    have hm2 : (m : Int) ≤ 1099511627776 := by omega
    clear hm
    by_cases hlt : k < n
    · obtain ⟨b1, o1, rfl, hc1⟩ := hr (by omega)
      have f0 : wr.cell? ⟨b1, o1 + k, none⟩ = some (.int .i64 (m : Int)) := by
        have q := hc1 k (.int .i64 ((k0 + k : Nat) : Int)) (by rw [ints, List.getElem?_map, mkN_get _ _ _ hlt]; rfl)
        rw [Hm.out]
        exact (hbel.cell (p := ⟨b1, o1 + k, none⟩) (World.block_lt_of_cell? w _ q)).trans q
      have hi : (k : Int) < (n : Int) := by omega
      clear hr hc1
      go_wp2
      go_roundw
      case rel => exact ⟨k + 1, m + 1, by omega, by rw [Hm.out]; omega, by go_num, by go_num, hbel⟩
      case measure => simp [intOf]; omega
    · go_wp2
      go_ret
      obtain rfl : k = n := by omega
      exact ⟨by rw [Hm.out]; rfl, hbel⟩

set_option maxRecDepth 100000 in
set_option maxHeartbeats 4000000 in
theorem markSynSeeker_any (S : Nat → Prop) (v : Value) (k : Sk) (k0 : Nat) (w : World) (h : SkO w S v k) (h2 : k0 + k.ys.length ≤ 1099511627776) :
    Calls Try.prog 35 #[v, .int .i64 k0] w fun e w' => e = .returned (.int .i64 (k0 + k.ys.length : Nat)) ∧ SkO w' S v { k with ys := mkN k0 k.ys.length } ∧ Upd S w w' := by
  obtain ⟨yo, yc, rfl, hr⟩ := h
  have al := bal (Below.refl w.heap.size w) (.cells (skarr k (.slice yo k.ys.length yc)) 66)
  have HR := hide (hr.keepB al)
  have x := (sk_cells (heap_alloc_new w (.cells (skarr k (.slice yo k.ys.length yc)) 66))).2.2.2.2.2.2.2
  clear hr
  go_enter Try.func35, Try.ntmps35
  go_upto_region 1 with fail
  generalize hW : World.alloc _ _ = W at al HR x ⊢
  clear hW
  go_wp2_with fail
  refine (markIntS_row S _ _ _ k0 _ HR.out h2).mono ?_
  rintro e w1 ⟨rfl, r1, u1⟩
  go_wp2
  go_ret
  exact ⟨rfl, ⟨yo, yc, by rw [mkN_len]; rfl, by rw [mkN_len]; exact r1⟩, (Upd.ofBelow al).trans u1⟩

set_option maxRecDepth 100000 in
set_option maxHeartbeats 4000000 in
theorem heldSynSeeker_ok (v : Value) (k : Sk) (n k0 : Nat) (w : World) (h : SkR w v { k with ys := mkN k0 n }) (h2 : k0 + n ≤ 1099511627776) :
    Calls Try.prog 37 #[v, .int .i64 k0] w fun e w' => e = .returned (.int .i64 (k0 + n : Nat)) ∧ Below w.heap.size w w' := by
  obtain ⟨yo, yc, rfl, hr⟩ := h
  simp only [mkN_len] at hr ⊢
  have al := bal (Below.refl w.heap.size w) (.cells (skarr { k with ys := mkN k0 n } (.slice yo n yc)) 66)
  have HR := hide (heldIntS_ok _ n k0 _ (hr.keep al) h2)
  have x := (sk_cells (heap_alloc_new w (.cells (skarr { k with ys := mkN k0 n } (.slice yo n yc)) 66))).2.2.2.2.2.2.2
  obtain ⟨M, hM⟩ : ∃ M : Nat, M = k0 + n := ⟨_, rfl⟩
  rw [← hM] at HR ⊢
  have hMn : ¬ (M : Int) < 0 := by omega
  clear hr hM
  go_enter Try.func37, Try.ntmps37
  go_upto_region 1 with fail
  generalize hW : World.alloc _ _ = W at al HR x ⊢
  clear hW
  go_wp2_with fail
  refine HR.out.mono ?_
  rintro e w1 ⟨rfl, b1⟩
  go_wp2
  go_ret
  exact ⟨rfl, bAll al b1⟩

end Go.Proofs.Ytiigcokbmggdkaa

/- What the laws of votes have in common: contracts and plain facts; no statement of the seat is proved here. -/
namespace Go.Proofs.Ytiigcokbmggdkaa
open Go.RowKit

theorem VtO.keep {w w' : World} {S T : Nat → Prop} {v : Value} {P : Int} {xs : List Pp} (h : VtO w S v P xs) (u : Upd T w w') (hT : ∀ k, S k → ¬ T k) : VtO w' S v P xs := by
  obtain ⟨ao, cap, e, hc, h⟩ := h
  exact ⟨ao, cap, e, hc, h.keep u hT⟩
theorem VtO.keepB {w w' : World} {S : Nat → Prop} {v : Value} {P : Int} {xs : List Pp} (h : VtO w S v P xs) (b : Below w.heap.size w w') : VtO w' S v P xs := by
  obtain ⟨ao, cap, e, hc, h⟩ := h
  exact ⟨ao, cap, e, hc, h.keepB b⟩
theorem VtO.mono {w : World} {S T : Nat → Prop} {v : Value} {P : Int} {xs : List Pp} (h : VtO w S v P xs) (hST : ∀ k, k < w.heap.size → S k → T k) : VtO w T v P xs := by
  obtain ⟨ao, cap, e, hc, h⟩ := h
  exact ⟨ao, cap, e, hc, h.mono hST⟩
theorem rowIn {w : World} {e : TypeId} {size : Nat} {S : Nat → Prop} {v : Value} {n : Nat} {cs : List Value} (h : Row w e size S v n cs) : Row w e size (fun k => S k ∧ k < w.heap.size) v n cs := by
  obtain ⟨ao, cap, rfl, hn, hl, h⟩ := h
  refine ⟨ao, cap, rfl, hn, hl, fun hp => ?_⟩
  obtain ⟨g, cur, e, hS, hg, ht⟩ := h hp
  exact ⟨g, cur, e, ⟨hS, heap_lt hg⟩, hg, ht⟩
/-- What a voter gives, in two boxes; all of it lies between base and top. -/
def VoB (V : World) (base top g h : Nat) (R : Int × List Pp × Wd × Bool) : Prop :=
  ∃ so sc cs lo hi, V.heap[g]? = some (.cells #[.int .i64 R.1, .slice so R.2.1.length sc] 35 (0, 0)) ∧ V.heap[h]? = some (.cells cs 40 (0, 0)) ∧
    VtO V (fun k => lo ≤ k ∧ k < hi) (.agg #[.int .i64 R.1, .slice so R.2.1.length sc]) R.1 R.2.1 ∧ WdO V (fun _ => False) (.agg cs) R.2.2.1 ∧
    base ≤ g ∧ g < top ∧ base ≤ h ∧ h < top ∧ g ≠ h ∧ base ≤ lo ∧ hi ≤ top ∧ ¬ (lo ≤ g ∧ g < hi) ∧ ¬ (lo ≤ h ∧ h < hi)

theorem VoB.keep {V V' : World} {base top g h : Nat} {R : Int × List Pp × Wd × Bool} {T : Nat → Prop} (H : VoB V base top g h R) (u : Upd T V V') (hT : ∀ k, base ≤ k → k < top → ¬ T k) : VoB V' base top g h R := by
  obtain ⟨so, sc, cs, lo, hi, h1, h2, h3, h4, h5, h6, h7, h8, h9, h10, h11, h12, h13⟩ := H
  exact ⟨so, sc, cs, lo, hi, u.keeps h1 (hT g h5 h6), u.keeps h2 (hT h h7 h8), h3.keep u (fun k hk => hT k (by omega) (by omega)), h4.keep u (fun _ h => h.elim), h5, h6, h7, h8, h9, h10, h11, h12, h13⟩
theorem VoB.keepB {V V' : World} {base top g h : Nat} {R : Int × List Pp × Wd × Bool} (H : VoB V base top g h R) (b : Below V.heap.size V V') : VoB V' base top g h R :=
  H.keep (T := fun _ => False) (Upd.ofBelow b) (fun _ _ _ h => h)
theorem VoB.mono {V : World} {base base' top top' g h : Nat} {R : Int × List Pp × Wd × Bool} (H : VoB V base top g h R) (hb : base' ≤ base) (ht : top ≤ top') : VoB V base' top' g h R := by
  obtain ⟨so, sc, cs, lo, hi, h1, h2, h3, h4, h5, h6, h7, h8, h9, h10, h11, h12, h13⟩ := H
  exact ⟨so, sc, cs, lo, hi, h1, h2, h3, h4, by omega, by omega, by omega, by omega, h9, by omega, by omega, h12, h13⟩

end Go.Proofs.Ytiigcokbmggdkaa

/- What the law FnExactSynSeek does: its walk; the statement itself is proved elsewhere. -/
namespace Go.Proofs.Ytiigcokbmggdkaa
open Go.RowKit

theorem sk0R {K : Sk} (h : K.ys = []) (w : World) : SkR w (.agg (skarr K (.slice none 0 0))) K := ⟨none, 0, by rw [h]; rfl, by rw [h]; exact RowR.nil _ _⟩
theorem sk0O {K : Sk} (h : K.ys = []) (w : World) (S : Nat → Prop) : SkO w S (.agg (skarr K (.slice none 0 0))) K := ⟨none, 0, by rw [h]; rfl, by rw [h]; exact Row.nil _ _ _ _⟩
theorem markSk0 {K : Sk} (h : K.ys = []) (k0 : Nat) (w : World) (h2 : k0 ≤ 1099511627776) :
    Calls Try.prog 35 #[.agg (skarr K (.slice none 0 0)), .int .i64 k0] w fun e w' => e = .returned (.int .i64 k0) ∧ Below w.heap.size w w' := by
  refine (markSynSeeker_any (fun _ => False) _ K k0 w (sk0O h w _) (by rw [h]; exact h2)).mono ?_
  rintro e w' ⟨rfl, -, u⟩
  exact ⟨by rw [h]; rfl, u.belowAll (fun _ h => h.elim)⟩
theorem heldSk0 {K : Sk} (h : K.ys = []) (k0 : Nat) (w : World) (h2 : k0 ≤ 1099511627776) :
    Calls Try.prog 37 #[.agg (skarr K (.slice none 0 0)), .int .i64 k0] w fun e w' => e = .returned (.int .i64 k0) ∧ Below w.heap.size w w' := by
  have e : ({ K with ys := mkN k0 0 } : Sk) = K := by cases K; simp only at h; subst h; rfl
  refine (heldSynSeeker_ok _ K 0 k0 w (by rw [e]; exact sk0R h w) (by omega)).mono ?_
  rintro e w' ⟨rfl, b⟩
  exact ⟨rfl, b⟩

set_option maxRecDepth 100000 in
set_option maxHeartbeats 16000000 in
theorem synSeek_walk (me round slot : Int) (m : Wd) (w : World) :
    Calls Try.prog 6 #[.int .i64 me, .int .i64 round, .int .i64 slot, .agg #[.int .i64 m.c0, .int .i64 m.c1, .int .i64 m.c2, .int .i64 m.c3, .int .i64 m.c4, .int .i64 m.c5, .int .i64 m.c6, .int .i64 m.c7, .int .i64 m.c8, .int .i64 m.c9] ] w fun e w' => e = .returned (.bool true) ∧ Below w.heap.size w w' := by
  obtain ⟨K, hK⟩ : ∃ K, seekK me round slot m = K := ⟨_, rfl⟩
  obtain ⟨L, hL⟩ : ∃ L, seekL me round slot m = L := ⟨_, rfl⟩
  have hys : K.ys = [] := by rw [← hK]; exact seekK_ys _ _ _ _
  have hfl : ∀ y ∈ L, Flat y := by rw [← hL]; exact seekL_flat _ _ _ _
  have hln : L.length ≤ 3 := by rw [← hL]; exact seekL_len _ _ _ _
  have cS := fun V => specSynSeek_any me round slot m V
  have cI := fun V => implSynSeek_any me round slot m V
  rw [hK, hL] at cS cI
  obtain ⟨n, hn⟩ : ∃ n, n = L.length := ⟨_, rfl⟩
  obtain ⟨M, hM⟩ : ∃ M : Nat, M = 1 + n * 24 := ⟨_, rfl⟩
  have HM := hide hM
  have HN := hide hn
  have hM1 : (M : Int) ≤ 1099511627776 := by omega
  have hM0 : ¬ (M : Int) < 0 := by omega
  have cMk := fun (S : Nat → Prop) v V (h : Row V 40 26 S v n (fwcells L)) => markWordS_any S v n L 1 V h HN.out.symm (Nat.le_refl _) (by omega)
  have cHd := fun v V (h : RowR V 26 v n (fwcells (mkF 1 n))) => heldWordS_ok v n 1 V h (Nat.le_refl _) (by omega)
  rw [← hM] at cMk cHd
  have HF := hide hfl
  have HY := hide hys
  clear hK hL hM hn hys hfl hln
  go_enter Try.func6, Try.ntmps6
  go_upto_region 1 with fail
  generalize hW : World.alloc _ _ = W
  have al : Below w.heap.size w W := by rw [← hW]; exact bal (Below.refl _ _) _
  have B0 : Hid (W.heap[w.heap.size]? = some (.cells #[.int .i64 m.c0, .int .i64 m.c1, .int .i64 m.c2, .int .i64 m.c3, .int .i64 m.c4, .int .i64 m.c5, .int .i64 m.c6, .int .i64 m.c7, .int .i64 m.c8, .int .i64 m.c9] 26 (0, 0))) := by show _ = _; rw [← hW]; exact al1_0 w _
  clear hW
  -- the specification
  go_wp2_with (refine wpList_load_row rfl 26 (.tmp 7) rfl w.heap.size rfl _ #[.int .i64 m.c0, .int .i64 m.c1, .int .i64 m.c2, .int .i64 m.c3, .int .i64 m.c4, .int .i64 m.c5, .int .i64 m.c6, .int .i64 m.c7, .int .i64 m.c8, .int .i64 m.c9] (0, 0) _ B0.out Try.underlying26 rfl infoLc10 ?_)
  refine (toCmd_any m W).mono ?_
  rintro e V1 ⟨rfl, hV⟩
  have b1 : Below W.heap.size W V1 := by rw [hV]; exact bal (bal (bal (Below.refl _ _) _) _) _
  clear hV
  go_wp2_with fail
  refine (cS V1).mono ?_
  rintro e V2 ⟨v2, rfl, r2, b2⟩
  rw [← HN.out] at r2
  have R2 := hide (rowIn r2)
  have b2' := bAll b1 b2
  obtain ⟨o2, k2, rfl, -⟩ := r2
  clear cS
  have a2 := bal (Below.refl V2.heap.size V2) (.cells (skarr K (.slice none 0 0)) 66)
  have N2 := hide (heap_alloc_new V2 (.cells (skarr K (.slice none 0 0)) 66))
  go_upto_region 2 with (refine wpList_store_row rfl 66 (.tmp 9) (.tmp 24) rfl V2.heap.size (skarr K (.slice none 0 0)) rfl rfl _ _ (heap_alloc_new V2 _) infoSk (show (26 : Nat) = 26 from rfl) (skarr_one _ _ _ _) ?_; rw [World.setRow_alloc_new])
  generalize hX : V2.alloc (.cells (skarr K (.slice none 0 0)) 66) = X2 at a2 N2 ⊢
  clear hX
  have c2 := bAll b2' a2
  have R2 := hide (R2.out.keepB a2)
  have lt2 := heap_lt N2.out
  have z2 := b2'.size
  -- the program
  have B2 := hide (bKeeps c2 B0.out)
  go_wp2_with (refine wpList_load_row rfl 26 (.tmp 7) rfl w.heap.size rfl _ #[.int .i64 m.c0, .int .i64 m.c1, .int .i64 m.c2, .int .i64 m.c3, .int .i64 m.c4, .int .i64 m.c5, .int .i64 m.c6, .int .i64 m.c7, .int .i64 m.c8, .int .i64 m.c9] (0, 0) _ B2.out Try.underlying26 rfl infoLc10 ?_)
  refine (toCmd_any m X2).mono ?_
  rintro e V3 ⟨rfl, hV⟩
  have b3 : Below X2.heap.size X2 V3 := by rw [hV]; exact bal (bal (bal (Below.refl _ _) _) _) _
  clear hV
  go_wp2_with fail
  refine (cI V3).mono ?_
  rintro e V4 ⟨v4, rfl, r4, b4⟩
  rw [← HN.out] at r4
  have R4 := hide (rowIn r4)
  have b4' := bAll b3 b4
  obtain ⟨o4, k4, rfl, -⟩ := r4
  have a4 := bal (Below.refl V4.heap.size V4) (.cells (skarr K (.slice none 0 0)) 66)
  have N4 := hide (heap_alloc_new V4 (.cells (skarr K (.slice none 0 0)) 66))
  go_upto_region 3 with (refine wpList_store_row rfl 66 (.tmp 11) (.tmp 33) rfl V4.heap.size (skarr K (.slice none 0 0)) rfl rfl _ _ (heap_alloc_new V4 _) infoSk (show (26 : Nat) = 26 from rfl) (skarr_one _ _ _ _) ?_; rw [World.setRow_alloc_new])
  generalize hX : V4.alloc (.cells (skarr K (.slice none 0 0)) 66) = X4 at a4 N4 ⊢
  clear hX
  have c4 := bAll b4' a4
  have R4 := hide (R4.out.keepB a4)
  have R2 := hide (R2.out.keepB c4)
  have N2 := hide (bKeeps c4 N2.out)
  have z3 := b3.size
  have z4 := b4'.size
  have C4 := hide (bAll c2 c4)
  have Z34 : Hid (X2.heap.size ≤ V3.heap.size) := z3
  have Z2 : Hid (W.heap.size ≤ V2.heap.size) := z2
  have hn0 : n ≤ 9223372036854775807 := by obtain ⟨_, _, _, h, _⟩ := R2.out; exact h
  clear a2 a4 b1 b2 b3 b4 b2' b4' c2 c4 B2 z3 z4 z2
  -- their answers are one
  have S : Hid (∀ V : World, Upd (fun j => V3.heap.size ≤ j ∧ j < V4.heap.size) X4 V → (V.heap[V2.heap.size]? = some (.cells (skarr K (.slice none 0 0)) 66 (0, 0)) ∧ V.heap[V4.heap.size]? = some (.cells (skarr K (.slice none 0 0)) 66 (0, 0)) ∧ V.heap[w.heap.size]? = some (.cells #[.int .i64 m.c0, .int .i64 m.c1, .int .i64 m.c2, .int .i64 m.c3, .int .i64 m.c4, .int .i64 m.c5, .int .i64 m.c6, .int .i64 m.c7, .int .i64 m.c8, .int .i64 m.c9] 26 (0, 0))) ∧ RowR V 26 (.slice o2 n k2) n (fwcells L)) := by
    show ∀ V : World, _
    intro V u
    have hlt := heap_lt B0.out
    have hz := Z34.out
    have hc := C4.out.size
    have hB := bKeeps C4.out B0.out
    refine ⟨⟨u.keeps N2.out (by omega), u.keeps N4.out (by omega), u.keeps hB ?_⟩, (R2.out.keep u (fun j h1 h2 => by have := h1.2; omega)).reads⟩
    have hz2 := Z2.out
    omega
  have cK : ∀ V, Calls Try.prog 35 #[.agg (skarr K (.slice none 0 0)), .int .i64 1] V fun e w' => e = .returned (.int .i64 1) ∧ Below V.heap.size V w' := fun V => markSk0 HY.out 1 V (by omega)
  have cJ : ∀ V, Calls Try.prog 37 #[.agg (skarr K (.slice none 0 0)), .int .i64 1] V fun e w' => e = .returned (.int .i64 1) ∧ Below V.heap.size V w' := fun V => heldSk0 HY.out 1 V (by omega)
  have cM : ∀ v V, Row V 40 26 (fun j => V3.heap.size ≤ j ∧ j < V4.heap.size) v n (fwcells L) → Calls Try.prog 36 #[v, .int .i64 1] V fun e w' => e = .returned (.int .i64 M) ∧ Row w' 40 26 (fun j => V3.heap.size ≤ j ∧ j < V4.heap.size) v n (fwcells (mkF 1 n)) ∧ Upd (fun j => V3.heap.size ≤ j ∧ j < V4.heap.size) V w' := fun v V h => cMk _ v V h
  have cH : ∀ v V, RowR V 26 v n (fwcells (mkF 1 n)) → Calls Try.prog 38 #[v, .int .i64 1] V fun e w' => e = .returned (.int .i64 M) ∧ Below V.heap.size V w' := fun v V h => cHd v V h
  clear cMk cHd
  have f := (S.out X4 (Upd.refl _ _)).1
  go_wp2_with (first
    | (refine wpList_load_row rfl 66 (.tmp 11) rfl V4.heap.size rfl _ _ (0, 0) _ f.2.1 Try.underlying66 rfl infoSk ?_)
    | (refine wpList_load_row rfl 66 (.tmp 9) rfl V2.heap.size rfl _ _ (0, 0) _ f.1 Try.underlying66 rfl infoSk ?_))
  refine (eqSynSeeker_true _ _ K _ (sk0R HY.out _) (sk0R HY.out _)).mono ?_
  rintro e V5 ⟨rfl, b5⟩
  have u5 : Upd (fun j => V3.heap.size ≤ j ∧ j < V4.heap.size) X4 V5 := Upd.ofBelow b5
  clear f
  go_wp2_with fail
  refine (eqWordS_true (.slice o4 n k4) (.slice o2 n k2) n L V5 HF.out (R4.out.reads.keep b5) (S.out _ u5).2).mono ?_
  rintro e V6 ⟨rfl, b6⟩
  have b6' := bAll b5 b6
  have u6 : Upd (fun j => V3.heap.size ≤ j ∧ j < V4.heap.size) X4 V6 := Upd.ofBelow b6'
  have f := (S.out V6 u6).1
  clear b5 u5 b6
  -- marks
  go_wp2_with (refine wpList_load_row rfl 66 (.tmp 11) rfl V4.heap.size rfl _ _ (0, 0) _ f.2.1 Try.underlying66 rfl infoSk ?_)
  refine (cK _).mono ?_
  rintro e V7 ⟨rfl, b7⟩
  have b7' := bAll b6' b7
  clear f u6 b6' b7
  go_wp2_with fail
  refine (cM _ _ (R4.out.keepB b7')).mono ?_
  rintro e V8 ⟨rfl, r8, u8⟩
  have u8' : Upd (fun j => V3.heap.size ≤ j ∧ j < V4.heap.size) X4 V8 := (Upd.ofBelow b7').trans u8
  have R8 := hide r8.reads
  have f := (S.out V8 u8').1
  clear b7' u8 r8 cM cK
  go_wp2_with (refine wpList_load_row rfl 66 (.tmp 11) rfl V4.heap.size rfl _ _ (0, 0) _ f.2.1 Try.underlying66 rfl infoSk ?_)
  refine (cJ _).mono ?_
  rintro e V9 ⟨rfl, b9⟩
  clear f
  go_wp2_with fail
  refine (cH _ _ (R8.out.keep b9)).mono ?_
  rintro e V10 ⟨rfl, b10⟩
  have b10' := bAll b9 b10
  have f := (S.out V10 (u8'.trans (Upd.ofBelow b10'))).1
  clear b9 b10
  -- once more
  go_wp2_with (refine wpList_load_row rfl 26 (.tmp 7) rfl w.heap.size rfl _ #[.int .i64 m.c0, .int .i64 m.c1, .int .i64 m.c2, .int .i64 m.c3, .int .i64 m.c4, .int .i64 m.c5, .int .i64 m.c6, .int .i64 m.c7, .int .i64 m.c8, .int .i64 m.c9] (0, 0) _ f.2.2 Try.underlying26 rfl infoLc10 ?_)
  refine (toCmd_any m V10).mono ?_
  rintro e V11 ⟨rfl, hV⟩
  have b11 : Below V10.heap.size V10 V11 := by rw [hV]; exact bal (bal (bal (Below.refl _ _) _) _) _
  clear hV f
  go_wp2_with fail
  refine (cI V11).mono ?_
  rintro e V12 ⟨v12, rfl, r12, b12⟩
  rw [← HN.out] at r12
  have R12 := hide r12
  have b12' := bAll b10' (bAll b11 b12)
  obtain ⟨o12, k12, rfl, -⟩ := r12
  clear cI b11 b12 b10'
  have a12 := bal (Below.refl V12.heap.size V12) (.cells (skarr K (.slice none 0 0)) 66)
  have N12 := hide (heap_alloc_new V12 (.cells (skarr K (.slice none 0 0)) 66))
  go_upto_region 18 with (refine wpList_store_row rfl 66 (.tmp 15) (.tmp 71) rfl V12.heap.size (skarr K (.slice none 0 0)) rfl rfl _ _ (heap_alloc_new V12 _) infoSk (show (26 : Nat) = 26 from rfl) (skarr_one _ _ _ _) ?_; rw [World.setRow_alloc_new])
  generalize hX : V12.alloc (.cells (skarr K (.slice none 0 0)) 66) = X12 at a12 N12 ⊢
  clear hX
  have c12 := bAll b12' a12
  have R12 := hide (R12.out.keepB a12)
  have u12 := u8'.trans (Upd.ofBelow c12)
  have f := (S.out X12 u12).1
  clear b12' a12
  go_wp2_with (first
    | (refine wpList_load_row rfl 66 (.tmp 15) rfl V12.heap.size rfl _ _ (0, 0) _ N12.out Try.underlying66 rfl infoSk ?_)
    | (refine wpList_load_row rfl 66 (.tmp 9) rfl V2.heap.size rfl _ _ (0, 0) _ f.1 Try.underlying66 rfl infoSk ?_))
  refine (eqSynSeeker_true _ _ K _ (sk0R HY.out _) (sk0R HY.out _)).mono ?_
  rintro e V13 ⟨rfl, b13⟩
  clear f
  go_wp2_with fail
  refine (eqWordS_true (.slice o12 n k12) (.slice o2 n k2) n L V13 HF.out (R12.out.reads.keep b13) (S.out _ (u12.trans (Upd.ofBelow b13))).2).mono ?_
  rintro e V14 ⟨rfl, b14⟩
  have b14' := bAll c12 (bAll b13 b14)
  have f := (S.out V14 (u8'.trans (Upd.ofBelow b14'))).1
  clear b13 b14 c12
  go_wp2_with (refine wpList_load_row rfl 66 (.tmp 11) rfl V4.heap.size rfl _ _ (0, 0) _ f.2.1 Try.underlying66 rfl infoSk ?_)
  refine (cJ _).mono ?_
  rintro e V15 ⟨rfl, b15⟩
  clear f
  go_wp2_with fail
  refine (cH _ _ (R8.out.keep (bAll b14' b15))).mono ?_
  rintro e V16 ⟨rfl, b16⟩
  have u16 := u8'.trans (Upd.ofBelow (bAll b14' (bAll b15 b16)))
  go_wp2
  go_ret
  have hz := Z34.out
  have hz2 := Z2.out
  have hc := C4.out.size
  have hlt := lt2
  have c16 := C4.out.trans (u16.below C4.out.size (fun j h => by omega))
  exact ⟨rfl, bAll al c16⟩

end Go.Proofs.Ytiigcokbmggdkaa

/- What the law FnExactSecOk does: its walk; the statement itself is proved elsewhere. -/
namespace Go.Proofs.Ytiigcokbmggdkaa
open Go.RowKit

theorem DiskR.shape {w : World} {v : Value} {kept : List ByteArray} {wait : List (Int × ByteArray)} (h : DiskR w v kept wait) : ∃ ao ca ao' ca', v = .agg #[.slice ao kept.length ca, .slice ao' wait.length ca'] := by
  obtain ⟨vk, vw, rfl, ⟨ao, ca, rfl, -⟩, ⟨ao', ca', rfl, -⟩⟩ := h
  exact ⟨ao, ca, ao', ca', rfl⟩

end Go.Proofs.Ytiigcokbmggdkaa

/- How a disk that is an argument is opened; no statement of the seat is proved here. -/
namespace Go.Proofs.Ytiigcokbmggdkaa
open Go.ChangeShapes Go.WideShapes Go.ChangeAt Go.RowKit Go.Deep Go.Joins

theorem seat_own : ownKnob Try.prog.godebug = none := by kernel_rfl
theorem seat_laidOut : laidOutB Try.prog = true := by kernel_rfl

end Go.Proofs.Ytiigcokbmggdkaa

/- How a word that is an argument is opened; no statement of the seat is proved here. -/
namespace Go.Proofs.Ytiigcokbmggdkaa
open Go.ChangeShapes Go.WideShapes Go.ChangeAt Go.RowKit Go.Deep Go.Joins

theorem at_of {l : List Value} {o : Nat} {u : Value} (e : (l.drop o).take 1 = [u]) : l[o]? = some u := by
  have := congrArg (fun m => m[0]?) e
  simpa using this
section
variable {H : Type} {enc : TypeId × Value → H} {P : Program} {w : World} {base : Nat} {spare : Nat → Bool} {held : Bool}

theorem intAt {n o i : Nat} {t : TypeId} {l : List Value} {xs : List (DataW H × List MemPlace)} (ht : P.underlying t = some (.int .i64)) (hc : P.cellsOf t = 1)
    (hq : DataW.trod enc P w base spare held n t ((l.drop o).take (P.cellsOf t)) = xs[i]?) (hi : i < xs.length) : ∃ z : Int, l[o]? = some (.int .i64 z) := by
  rw [hc, List.getElem?_eq_getElem hi] at hq
  obtain ⟨z, e, _, _⟩ := DataW.trod_int ht hq
  exact ⟨z, at_of e⟩
end

end Go.Proofs.Ytiigcokbmggdkaa

/- How a seeker, and a command, that is an argument is opened; no statement of the seat is proved here. -/
namespace Go.Proofs.Ytiigcokbmggdkaa
open Go.ChangeShapes Go.WideShapes Go.ChangeAt Go.RowKit Go.Deep Go.Joins

section
variable {H : Type} {enc : TypeId × Value → H} {w : World} {base : Nat} {spare : Nat → Bool} {held : Bool}

set_option maxRecDepth 100000 in
set_option maxHeartbeats 4000000 in
theorem cmdL_of {fuel : Nat} {l : List Value} {y : DataW H × List MemPlace} (hf : DataW.trod enc Try.prog w base spare held fuel 26 l = some y) (hl : l.length = 10) : ∃ x : Wd, l = (#[.int .i64 x.c0, .int .i64 x.c1, .int .i64 x.c2, .int .i64 x.c3, .int .i64 x.c4, .int .i64 x.c5, .int .i64 x.c6, .int .i64 x.c7, .int .i64 x.c8, .int .i64 x.c9] : Array Value).toList := by
  have hc1 : Try.prog.cellsOf 3 = 1 := by kernel_rfl
  obtain ⟨zs, n2, -, -, -, hzl, hz⟩ := DataW.trod_struct Try.underlying26 hf
  have hzl' : zs.length = 10 := hzl
  clear hzl
  obtain ⟨c0, hc_0⟩ := intAt (o := 0) (i := 0) Try.underlying3 hc1 (hz 0 _ rfl) (by omega)
  obtain ⟨c1, hc_1⟩ := intAt (o := 1) (i := 1) Try.underlying3 hc1 (hz 1 _ rfl) (by omega)
  obtain ⟨c2, hc_2⟩ := intAt (o := 2) (i := 2) Try.underlying3 hc1 (hz 2 _ rfl) (by omega)
  obtain ⟨c3, hc_3⟩ := intAt (o := 3) (i := 3) Try.underlying3 hc1 (hz 3 _ rfl) (by omega)
  obtain ⟨c4, hc_4⟩ := intAt (o := 4) (i := 4) Try.underlying3 hc1 (hz 4 _ rfl) (by omega)
  obtain ⟨c5, hc_5⟩ := intAt (o := 5) (i := 5) Try.underlying3 hc1 (hz 5 _ rfl) (by omega)
  obtain ⟨c6, hc_6⟩ := intAt (o := 6) (i := 6) Try.underlying3 hc1 (hz 6 _ rfl) (by omega)
  obtain ⟨c7, hc_7⟩ := intAt (o := 7) (i := 7) Try.underlying3 hc1 (hz 7 _ rfl) (by omega)
  obtain ⟨c8, hc_8⟩ := intAt (o := 8) (i := 8) Try.underlying3 hc1 (hz 8 _ rfl) (by omega)
  obtain ⟨c9, hc_9⟩ := intAt (o := 9) (i := 9) Try.underlying3 hc1 (hz 9 _ rfl) (by omega)
  refine ⟨⟨0, 0, 0, 0, 0, 0, c0, c1, c2, c3, c4, c5, c6, c7, c8, c9, 0, 0, 0, 0, 0, 0, 0, 0, [], []⟩, ?_⟩
  apply List.ext_getElem?
  intro j
  by_cases hj : j < 10
  · rcases (by omega : j = 0 ∨ j = 1 ∨ j = 2 ∨ j = 3 ∨ j = 4 ∨ j = 5 ∨ j = 6 ∨ j = 7 ∨ j = 8 ∨ j = 9) with rfl | rfl | rfl | rfl | rfl | rfl | rfl | rfl | rfl | rfl
    · exact hc_0
    · exact hc_1
    · exact hc_2
    · exact hc_3
    · exact hc_4
    · exact hc_5
    · exact hc_6
    · exact hc_7
    · exact hc_8
    · exact hc_9
  · rw [List.getElem?_eq_none (by omega), List.getElem?_eq_none (by show 10 ≤ j; omega)]
end

end Go.Proofs.Ytiigcokbmggdkaa

/- How a command that is an argument is opened; no statement of the seat is proved here. -/
namespace Go.Proofs.Ytiigcokbmggdkaa
open Go.ChangeShapes Go.WideShapes Go.ChangeAt Go.RowKit Go.Deep Go.Joins

set_option maxRecDepth 100000 in
theorem cmd_of {H : Type} {enc : TypeId × Value → H} {w : World} {base : Nat} {spare : Nat → Bool} {held : Bool} {r : Reach} {b0 : Nat} {v : Value} {d : DataW H} {p : List MemPlace}
    (hv : Value.okWide Try.prog w r b0 26 v) (h : DataW.Trod enc Try.prog w base spare held 26 v d p) : ∃ x : Wd, v = .agg #[.int .i64 x.c0, .int .i64 x.c1, .int .i64 x.c2, .int .i64 x.c3, .int .i64 x.c4, .int .i64 x.c5, .int .i64 x.c6, .int .i64 x.c7, .int .i64 x.c8, .int .i64 x.c9] := by
  obtain ⟨cs, rfl, hsz⟩ := okWide_struct Try.underlying26 hv
  obtain ⟨fuel, hf⟩ := h
  have hc10 : Try.prog.cellsOf 26 = 10 := by kernel_rfl
  rw [hc10] at hsz
  obtain ⟨x, hx⟩ := cmdL_of hf (by show cs.toList.length = 10; simp; omega)
  have hx' : cs.toList = (#[.int .i64 x.c0, .int .i64 x.c1, .int .i64 x.c2, .int .i64 x.c3, .int .i64 x.c4, .int .i64 x.c5, .int .i64 x.c6, .int .i64 x.c7, .int .i64 x.c8, .int .i64 x.c9] : Array Value).toList := hx
  exact ⟨x, by rw [Array.toList_inj.1 hx']⟩

end Go.Proofs.Ytiigcokbmggdkaa
