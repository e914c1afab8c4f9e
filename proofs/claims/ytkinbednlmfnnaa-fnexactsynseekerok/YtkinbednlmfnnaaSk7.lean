/- Contracts and plain facts that this claim leans on (texts SLOk, ArgD, ArgW, ArgV, ArgI, ArgS); no statement of the seat is proved here. -/
import Derived.Test.YtkinbednlmfnnaaSk3
import Derived.Test.YtkinbednlmfnnaaSk6
import Derived.Test.YtkinbednlmfnnaaSk1
import Derived.ProofKit
import Derived.OpenShut
import Derived.ShutString
import Derived.ChangeOld
import Derived.Below
import Derived.Lib.SmallJoins
import Derived.Deep.Strs
import Derived.Deep.SlicePairs
import Derived.Deep.Slices
import Derived.Test.YtkinbednlmfnnaaSk2
import Derived.ChangeSlices

/- What the law FnExactSynSeekerOk does: its walk; the statement itself is proved elsewhere. -/
namespace Go.Proofs.Ytkinbednlmfnnaa
open Go.RowKit

set_option maxRecDepth 100000 in
set_option maxHeartbeats 8000000 in
theorem synSeekerOk_walk (v : Value) (k : Sk) (w : World) (h : SkR w v k) :
    Calls Try.prog 5 #[v] w fun e w' => e = .returned (.bool true) ∧ Below w.heap.size w w' := by
  obtain ⟨ok, hok⟩ : ∃ ok, okS k = ok := ⟨_, rfl⟩
  have cS := fun v w h => specSynSeekerOk_any v k w h
  have cI := fun v w h => implSynSeekerOk_any v k w h
  rw [hok] at cS cI
  clear hok
  have HV := hide h
  obtain ⟨yo, yc, rfl, hr⟩ := h
  clear hr
  go_enter Try.func5, Try.ntmps5
  go_upto_region 1 with fail
  generalize hW : World.alloc _ _ = W
  have al : Below w.heap.size w W := by rw [← hW]; exact bal (Below.refl _ _) _
  have B0 : Hid (W.heap[w.heap.size]? = some (.cells (skarr k (.slice yo k.ys.length yc)) 62 (0, 0))) := by show _ = _; rw [← hW]; exact al1_0 w _
  have V0 := hide (HV.out.keep al)
  clear hW HV
  go_wp2_with (refine wpList_load_row rfl 62 (.tmp 1) rfl w.heap.size rfl _ _ (0, 0) _ B0.out Try.underlying62 rfl infoLk ?_)
  refine (szSynSeeker_any _ k 1048576 _ V0.out (by omega) (by omega)).mono ?_
  rintro e w1 ⟨r, rfl, hs, b1⟩
  rcases hs with hneg | ⟨hr2, hp⟩
  · go_wp2
    go_ret
    exact ⟨rfl, bAll al b1⟩
  have hge : ¬ r < 0 := by omega
  have hn : k.ys.length ≤ 1048576 := by omega
  clear hr2 hp
  have C1 := hide (bKeeps b1 B0.out)
  go_wp2_with (refine wpList_load_row rfl 62 (.tmp 1) rfl w.heap.size rfl _ _ (0, 0) _ C1.out Try.underlying62 rfl infoLk ?_)
  refine (toSynSeeker_any _ k _ (V0.out.keep b1) hn).mono ?_
  rintro e w2 ⟨v2, rfl, d2, b2⟩
  have b2 := bAll b1 b2
  go_wp2_with fail
  refine (cS _ _ d2.reads).mono ?_
  rintro e w3 ⟨rfl, b3⟩
  have b3 := bAll b2 b3
  have C3 := hide (bKeeps b3 B0.out)
  clear d2 b1 C1
  go_wp2_with (refine wpList_load_row rfl 62 (.tmp 1) rfl w.heap.size rfl _ _ (0, 0) _ C3.out Try.underlying62 rfl infoLk ?_)
  refine (toSynSeeker_any _ k _ (V0.out.keep b3) hn).mono ?_
  rintro e w4 ⟨v4, rfl, d4, b4⟩
  have b4 := bAll b3 b4
  obtain ⟨zo, zc, rfl, r4⟩ := d4
  have a5 := bal (Below.refl w4.heap.size w4) (.cells (skarr k (.slice zo k.ys.length zc)) 66)
  have A5 := hide (heap_alloc_new w4 (.cells (skarr k (.slice zo k.ys.length zc)) 66))
  have X5 := hide (show SkR (w4.alloc (.cells (skarr k (.slice zo k.ys.length zc)) 66)) (.agg (skarr k (.slice zo k.ys.length zc))) k from ⟨zo, zc, rfl, r4.reads.keep a5⟩)
  have b5 := bAll b4 a5
  clear r4 C3
  go_wp2_with (first
    | (refine wpList_store_row rfl 66 (.tmp 5) (.tmp 16) rfl w4.heap.size _ rfl rfl _ _ (heap_alloc_new w4 _) infoSk (show (26 : Nat) = 26 from rfl) (skarr_one k zo _ zc) ?_; rw [World.setRow_alloc_new])
    | (refine wpList_load_row rfl 66 (.tmp 5) rfl w4.heap.size rfl _ _ (0, 0) _ A5.out Try.underlying66 rfl infoSk ?_))
  refine (cI _ _ X5.out).mono ?_
  rintro e w6 ⟨rfl, b6⟩
  have A6 := hide (bKeeps b6 A5.out)
  have X6 := hide (X5.out.keep b6)
  have c6 := bAll b5 b6
  have dd := bDrewB (Below.refl w6.heap.size w6)
  have B6 := hide (bKeeps c6 B0.out)
  have V6 := hide (V0.out.keep c6)
  clear b6 a5 A5 X5 b5 b4 b3 b2 cS cI
  go_wp2
  refine wp_region_noPanic ?_
  refine wp_region_held_drew (S := (fun w' => w'.heap[w4.heap.size]? = some (.cells (skarr k (.slice zo k.ys.length zc)) 66 (0, 0)) ∧ w'.heap[w.heap.size]? = some (.cells (skarr k (.slice yo k.ys.length yc)) 62 (0, 0)))) (by kernel_rfl) ?_ (fun hHeld => ?_)
  · exact ⟨bKeeps dd A6.out, bKeeps dd B6.out⟩
  refine wpAnyH_take (i := 0) (v := .agg (skarr k (.slice zo k.ys.length zc))) rfl (by kernel_rfl) (by kernel_rfl) (by kernel_rfl) (fun _ _ _ h => h) (yields_row rfl 66 (.tmp 5) rfl (w4.heap.size) rfl _ (skarr k (.slice zo k.ys.length zc)) _ (fun _ h => h.1) Try.underlying66 rfl infoSk) (by assumption) ?_
  simp only [Act.put, List.getElem_toArray, List.getElem_cons_zero, List.setIfInBounds_toArray, List.set_cons_zero, List.set_cons_succ]
  refine wpAnyH_take (i := 1) (v := .agg (skarr k (.slice yo k.ys.length yc))) rfl (by kernel_rfl) (by kernel_rfl) (by kernel_rfl) (fun _ _ _ h => h) (yields_row rfl 62 (.tmp 1) rfl (w.heap.size) rfl _ (skarr k (.slice yo k.ys.length yc)) _ (fun _ h => h.2) Try.underlying62 rfl infoLk) (by assumption) ?_
  simp only [Act.put, List.getElem_toArray, List.getElem_cons_zero, List.getElem_cons_succ, List.setIfInBounds_toArray, List.set_cons_zero, List.set_cons_succ]
  refine wpAnyH_ready (rs := [2]) (by kernel_rfl) (by simp) ?_
  refine AllReadyH.cons rfl (fun K hK => ?_) AllReadyH.nil
  go_simp
  (go_at_call 28; refine (toSynSeeker_any _ k _ (V6.out.keep dd) hn).mono ?_; rintro e w7 ⟨v7, rfl, d7, b7⟩; have b7' := bAll dd b7)
  refine hK.out _ _ ?_ (fun hHeld => ?_)
  · exact ⟨bKeeps b7' A6.out, bKeeps b7' B6.out⟩
  clear hK K
  refine wpAnyH_ready (rs := [3]) (by kernel_rfl) (by simp) ?_
  refine AllReadyH.cons rfl (fun K hK => ?_) AllReadyH.nil
  go_simp
  (go_at_call 30; refine (eqSynSeeker_true _ _ k _ (X6.out.keep b7') d7.reads).mono ?_; rintro e w8 ⟨rfl, b8⟩; have b8' := bAll b7' b8)
  refine hK.out _ _ ?_ (fun hHeld => ?_)
  · exact ⟨bKeeps b8' A6.out, bKeeps b8' B6.out⟩
  clear hK K
  refine wpAnyH_take (i := 4) (v := ?v1) rfl (by kernel_rfl) (by kernel_rfl) (by kernel_rfl) (fun _ _ _ h => h) (Or.inl ⟨by rfl, ?hy1⟩) (by assumption) ?rest1
  case hy1 => ((intro w hSw; (try dsimp only at hSw); (try simp only [List.getElem_toArray, List.getElem_cons_zero, List.getElem_cons_succ]); go_simp; first | done | (with_reducible rfl)))
  simp only [Act.put, List.getElem_toArray, List.getElem_cons_zero, List.getElem_cons_succ, List.setIfInBounds_toArray, List.set_cons_zero, List.set_cons_succ]
  refine wpAnyH_done (by kernel_rfl) ?_ _
  refine NoPanic.normal ?_
  go_wp2
  go_ret
  exact ⟨rfl, bAll al (bAll c6 b8')⟩

end Go.Proofs.Ytkinbednlmfnnaa

/- How a disk that is an argument is opened; no statement of the seat is proved here. -/
namespace Go.Proofs.Ytkinbednlmfnnaa
open Go.ChangeShapes Go.WideShapes Go.ChangeAt Go.RowKit Go.Deep Go.Joins

theorem seat_own : ownKnob Try.prog.godebug = none := by kernel_rfl
theorem seat_laidOut : laidOutB Try.prog = true := by kernel_rfl

end Go.Proofs.Ytkinbednlmfnnaa

/- How a word that is an argument is opened; no statement of the seat is proved here. -/
namespace Go.Proofs.Ytkinbednlmfnnaa
open Go.ChangeShapes Go.WideShapes Go.ChangeAt Go.RowKit Go.Deep Go.Joins

theorem at_of {l : List Value} {o : Nat} {u : Value} (e : (l.drop o).take 1 = [u]) : l[o]? = some u := by
  have := congrArg (fun m => m[0]?) e
  simpa using this
theorem of_at {l : List Value} {o : Nat} {u : Value} (h : l[o]? = some u) : (l.drop o).take 1 = [u] := by
  obtain ⟨hl, e⟩ := List.getElem?_eq_some_iff.1 h
  rw [List.drop_eq_getElem_cons hl, e]
  rfl

section
variable {H : Type} {enc : TypeId × Value → H} {P : Program} {w : World} {base : Nat} {spare : Nat → Bool} {held : Bool}

theorem intAt {n o i : Nat} {t : TypeId} {l : List Value} {xs : List (DataW H × List MemPlace)} (ht : P.underlying t = some (.int .i64)) (hc : P.cellsOf t = 1)
    (hq : DataW.trod enc P w base spare held n t ((l.drop o).take (P.cellsOf t)) = xs[i]?) (hi : i < xs.length) : ∃ z : Int, l[o]? = some (.int .i64 z) := by
  rw [hc, List.getElem?_eq_getElem hi] at hq
  obtain ⟨z, e, _, _⟩ := DataW.trod_int ht hq
  exact ⟨z, at_of e⟩
end

end Go.Proofs.Ytkinbednlmfnnaa

/- How a voter that is an argument is opened; no statement of the seat is proved here. -/
namespace Go.Proofs.Ytkinbednlmfnnaa
open Go.ChangeShapes Go.WideShapes Go.ChangeAt Go.RowKit Go.Deep Go.Joins

section
variable {H : Type} {enc : TypeId × Value → H} {w : World} {base : Nat} {spare : Nat → Bool} {held : Bool}

set_option maxRecDepth 100000 in
set_option maxHeartbeats 4000000 in
theorem paper_of {fuel : Nat} {l : List Value} {y : DataW H × List MemPlace} (hf : DataW.trod enc Try.prog w base spare held fuel 59 l = some y) (hl : l.length = 12) : ∃ p : Pp, l = ppcell p := by
  have hc10 : Try.prog.cellsOf 26 = 10 := by kernel_rfl
  have hc1 : Try.prog.cellsOf 3 = 1 := by kernel_rfl
  obtain ⟨xs, n, -, -, -, hxl, hq⟩ := DataW.trod_struct Try.underlying59 hf
  have hxl' : xs.length = 3 := hxl
  clear hxl
  obtain ⟨s, hs⟩ := intAt (o := 0) (i := 0) Try.underlying3 hc1 (hq 0 _ rfl) (by omega)
  obtain ⟨b, hb⟩ := intAt (o := 1) (i := 1) Try.underlying3 hc1 (hq 1 _ rfl) (by omega)
  have q6 : DataW.trod enc Try.prog w base spare held n 26 ((l.drop 2).take (Try.prog.cellsOf 26)) = xs[2]? := hq 2 _ rfl
  obtain ⟨y6, hy6⟩ : ∃ y, xs[2]? = some y := ⟨xs[2]'(by omega), List.getElem?_eq_getElem _⟩
  rw [hc10, hy6] at q6
  obtain ⟨zs, n2, -, -, -, hzl, hz⟩ := DataW.trod_struct Try.underlying26 q6
  have hzl' : zs.length = 10 := hzl
  clear hzl
  have sub : ∀ k u, k < 10 → ((l.drop 2).take 10)[k]? = some u → l[2 + k]? = some u := by
    intro k u hk hu
    rw [List.getElem?_take_of_lt hk, List.getElem?_drop] at hu
    exact hu
  obtain ⟨c0, hc_0⟩ := intAt (o := 0) (i := 0) Try.underlying3 hc1 (hz 0 _ rfl) (by omega)
  obtain ⟨c1, hc_1⟩ := intAt (o := 1) (i := 1) Try.underlying3 hc1 (hz 1 _ rfl) (by omega)
  obtain ⟨c2, hc_2⟩ := intAt (o := 2) (i := 2) Try.underlying3 hc1 (hz 2 _ rfl) (by omega)
  obtain ⟨c3, hc_3⟩ := intAt (o := 3) (i := 3) Try.underlying3 hc1 (hz 3 _ rfl) (by omega)
  obtain ⟨c4, hc_4⟩ := intAt (o := 4) (i := 4) Try.underlying3 hc1 (hz 4 _ rfl) (by omega)
  obtain ⟨c5, hc_5⟩ := intAt (o := 5) (i := 5) Try.underlying3 hc1 (hz 5 _ rfl) (by omega)
  obtain ⟨c6, hc_6⟩ := intAt (o := 6) (i := 6) Try.underlying3 hc1 (hz 6 _ rfl) (by omega)
  obtain ⟨c7, hc_7⟩ := intAt (o := 7) (i := 7) Try.underlying3 hc1 (hz 7 _ rfl) (by omega)
  obtain ⟨c8, hc_8⟩ := intAt (o := 8) (i := 8) Try.underlying3 hc1 (hz 8 _ rfl) (by omega)
  obtain ⟨c9, hc_9⟩ := intAt (o := 9) (i := 9) Try.underlying3 hc1 (hz 9 _ rfl) (by omega)
  refine ⟨(s, b, ⟨0, 0, 0, 0, 0, 0, c0, c1, c2, c3, c4, c5, c6, c7, c8, c9, 0, 0, 0, 0, 0, 0, 0, 0, [], []⟩), ?_⟩
  apply List.ext_getElem?
  intro j
  by_cases hj : j < 12
  · rcases (by omega : j = 0 ∨ j = 1 ∨ j = 2 ∨ j = 3 ∨ j = 4 ∨ j = 5 ∨ j = 6 ∨ j = 7 ∨ j = 8 ∨ j = 9 ∨ j = 10 ∨ j = 11) with rfl | rfl | rfl | rfl | rfl | rfl | rfl | rfl | rfl | rfl | rfl | rfl
    · exact hs
    · exact hb
    · exact sub 0 _ (by omega) hc_0
    · exact sub 1 _ (by omega) hc_1
    · exact sub 2 _ (by omega) hc_2
    · exact sub 3 _ (by omega) hc_3
    · exact sub 4 _ (by omega) hc_4
    · exact sub 5 _ (by omega) hc_5
    · exact sub 6 _ (by omega) hc_6
    · exact sub 7 _ (by omega) hc_7
    · exact sub 8 _ (by omega) hc_8
    · exact sub 9 _ (by omega) hc_9
  · rw [List.getElem?_eq_none (by omega), List.getElem?_eq_none (by rw [ppcell_len]; omega)]

end

end Go.Proofs.Ytkinbednlmfnnaa

/- How an argument that is a slice of numbers is opened; no statement of the seat is proved here. -/
namespace Go.Proofs.Ytkinbednlmfnnaa
open Go.ChangeShapes Go.WideShapes Go.ChangeAt Go.RowKit Go.Deep Go.Joins

section
variable {H : Type} {enc : TypeId × Value → H} {P : Program} {w : World} {base : Nat} {spare : Nat → Bool} {held : Bool}

theorem rowR_of_ints {t e : TypeId} {fuel : Nat} {v : Value} {x : DataW H × List MemPlace} (ht : P.underlying t = some (.slice e)) (he : P.underlying e = some (.int .i64)) (hc : P.cellsOf e = 1)
    (h : DataW.trod enc P w base spare held fuel t [v] = some x) : ∃ (ko : Option Addr) (kc : Nat) (ks : List Int), v = .slice ko ks.length kc ∧ RowR w 1 (.slice ko ks.length kc) ks.length (ks.map (Value.int .i64)) := by
  rcases open_ints ht he hc h with ⟨hcs, _⟩ | ⟨a, len, cap, zs, hcs, _, hl, hm, hmm, _, hx, _⟩
  · obtain rfl : v = .slice none 0 0 := by simpa using hcs
    exact ⟨none, 0, [], rfl, RowR.nil _ _⟩
  · obtain rfl : v = .slice (some a) len cap := by simpa using hcs
    have hlm : len ≤ zs.length := by rw [hmm]; split <;> omega
    unfold maxLen at hm
    have hlen : (zs.take len).length = len := by simp; omega
    refine ⟨some a, cap, zs.take len, by rw [hlen], some a, cap, rfl, by omega, by simp, fun h0 => ?_⟩
    have h1 := hx 0 (by omega)
    obtain ⟨b, off, spot⟩ := a
    have hspot : spot = none := by simpa [Addr.add] using World.cell?_spot h1
    subst hspot
    refine ⟨b, off, rfl, fun j u hj => ?_⟩
    have hj' : j < len := by have := (List.getElem?_eq_some_iff.1 hj).1; simp at this; omega
    have h2 := hx j (by omega)
    rw [Addr.add_lit] at h2
    rw [h2]
    rw [List.getElem?_map, List.getElem?_take_of_lt hj'] at hj
    simpa [List.getD, show j < zs.length by omega] using hj
end

end Go.Proofs.Ytkinbednlmfnnaa

/- How a seeker, and a command, that is an argument is opened; no statement of the seat is proved here. -/
namespace Go.Proofs.Ytkinbednlmfnnaa
open Go.ChangeShapes Go.WideShapes Go.ChangeAt Go.RowKit Go.Deep Go.Joins

section
variable {H : Type} {enc : TypeId × Value → H} {w : World} {base : Nat} {spare : Nat → Bool} {held : Bool}

set_option maxRecDepth 100000 in
set_option maxHeartbeats 4000000 in
theorem cmdL_of {fuel : Nat} {l : List Value} {y : DataW H × List MemPlace} (hf : DataW.trod enc Try.prog w base spare held fuel 26 l = some y) (hl : l.length = 10) : ∃ x : Wd, l = (#[.int .i64 x.c0, .int .i64 x.c1, .int .i64 x.c2, .int .i64 x.c3, .int .i64 x.c4, .int .i64 x.c5, .int .i64 x.c6, .int .i64 x.c7, .int .i64 x.c8, .int .i64 x.c9] : Array Value).toList := by
  have hc1 : Try.prog.cellsOf 3 = 1 := by kernel_rfl
  obtain ⟨zs, n2, -, -, -, hzl, hz⟩ := DataW.trod_struct Try.underlying26 hf
  have hzl' : zs.length = 10 := hzl
  clear hzl
  obtain ⟨c0, hc_0⟩ := intAt (o := 0) (i := 0) Try.underlying3 hc1 (hz 0 _ rfl) (by omega)
  obtain ⟨c1, hc_1⟩ := intAt (o := 1) (i := 1) Try.underlying3 hc1 (hz 1 _ rfl) (by omega)
  obtain ⟨c2, hc_2⟩ := intAt (o := 2) (i := 2) Try.underlying3 hc1 (hz 2 _ rfl) (by omega)
  obtain ⟨c3, hc_3⟩ := intAt (o := 3) (i := 3) Try.underlying3 hc1 (hz 3 _ rfl) (by omega)
  obtain ⟨c4, hc_4⟩ := intAt (o := 4) (i := 4) Try.underlying3 hc1 (hz 4 _ rfl) (by omega)
  obtain ⟨c5, hc_5⟩ := intAt (o := 5) (i := 5) Try.underlying3 hc1 (hz 5 _ rfl) (by omega)
  obtain ⟨c6, hc_6⟩ := intAt (o := 6) (i := 6) Try.underlying3 hc1 (hz 6 _ rfl) (by omega)
  obtain ⟨c7, hc_7⟩ := intAt (o := 7) (i := 7) Try.underlying3 hc1 (hz 7 _ rfl) (by omega)
  obtain ⟨c8, hc_8⟩ := intAt (o := 8) (i := 8) Try.underlying3 hc1 (hz 8 _ rfl) (by omega)
  obtain ⟨c9, hc_9⟩ := intAt (o := 9) (i := 9) Try.underlying3 hc1 (hz 9 _ rfl) (by omega)
  refine ⟨⟨0, 0, 0, 0, 0, 0, c0, c1, c2, c3, c4, c5, c6, c7, c8, c9, 0, 0, 0, 0, 0, 0, 0, 0, [], []⟩, ?_⟩
  apply List.ext_getElem?
  intro j
  by_cases hj : j < 10
  · rcases (by omega : j = 0 ∨ j = 1 ∨ j = 2 ∨ j = 3 ∨ j = 4 ∨ j = 5 ∨ j = 6 ∨ j = 7 ∨ j = 8 ∨ j = 9) with rfl | rfl | rfl | rfl | rfl | rfl | rfl | rfl | rfl | rfl
    · exact hc_0
    · exact hc_1
    · exact hc_2
    · exact hc_3
    · exact hc_4
    · exact hc_5
    · exact hc_6
    · exact hc_7
    · exact hc_8
    · exact hc_9
  · rw [List.getElem?_eq_none (by omega), List.getElem?_eq_none (by show 10 ≤ j; omega)]
end

set_option maxRecDepth 100000 in
set_option maxHeartbeats 4000000 in
theorem skR_of {H : Type} {enc : TypeId × Value → H} {w : World} {base : Nat} {spare : Nat → Bool} {held : Bool} {r : Reach} {b0 : Nat} {v : Value} {d : DataW H} {p : List MemPlace}
    (hv : Value.okWide Try.prog w r b0 62 v) (h : DataW.Trod enc Try.prog w base spare held 62 v d p) : ∃ k, SkR w v k := by
  obtain ⟨cs, rfl, hsz⟩ := okWide_struct Try.underlying62 hv
  obtain ⟨fuel, hf⟩ := h
  have hc26 : Try.prog.cellsOf 62 = 26 := by kernel_rfl
  have hc1 : Try.prog.cellsOf 3 = 1 := by kernel_rfl
  have hcm : Try.prog.cellsOf 26 = 10 := by kernel_rfl
  have hcp : Try.prog.cellsOf 59 = 12 := by kernel_rfl
  have hcy : Try.prog.cellsOf 60 = 1 := by kernel_rfl
  rw [hc26] at hsz
  obtain ⟨xs, n, -, -, -, hxl, hq⟩ := DataW.trod_struct Try.underlying62 hf
  have hxl' : xs.length = 6 := hxl
  clear hxl
  obtain ⟨s, hs⟩ := intAt (o := 0) (i := 0) Try.underlying3 hc1 (hq 0 _ rfl) (by omega)
  obtain ⟨b, hb⟩ := intAt (o := 1) (i := 1) Try.underlying3 hc1 (hq 1 _ rfl) (by omega)
  obtain ⟨ph, hph⟩ := intAt (o := 2) (i := 2) Try.underlying3 hc1 (hq 2 _ rfl) (by omega)
  have q3 : DataW.trod enc Try.prog w base spare held n 26 ((cs.toList.drop 3).take (Try.prog.cellsOf 26)) = xs[3]? := hq 3 _ rfl
  obtain ⟨y3, hy3⟩ : ∃ y, xs[3]? = some y := ⟨xs[3]'(by omega), List.getElem?_eq_getElem _⟩
  rw [hcm, hy3] at q3
  obtain ⟨m, hm⟩ := cmdL_of q3 (by simp; omega)
  have q4 : DataW.trod enc Try.prog w base spare held n 59 ((cs.toList.drop 13).take (Try.prog.cellsOf 59)) = xs[4]? := hq 4 _ rfl
  obtain ⟨y4, hy4⟩ : ∃ y, xs[4]? = some y := ⟨xs[4]'(by omega), List.getElem?_eq_getElem _⟩
  rw [hcp, hy4] at q4
  obtain ⟨pp, hpp⟩ := paper_of q4 (by simp; omega)
  obtain ⟨vy, hvy⟩ : ∃ u, cs.toList[25]? = some u := ⟨cs.toList[25]'(by simp; omega), List.getElem?_eq_getElem _⟩
  have q5 : DataW.trod enc Try.prog w base spare held n 60 ((cs.toList.drop 25).take (Try.prog.cellsOf 60)) = xs[5]? := hq 5 _ rfl
  obtain ⟨y5, hy5⟩ : ∃ y, xs[5]? = some y := ⟨xs[5]'(by omega), List.getElem?_eq_getElem _⟩
  rw [hcy, of_at hvy, hy5] at q5
  obtain ⟨yo, yc, ys, rfl, hys⟩ := rowR_of_ints Try.underlying60 Try.underlying3 hc1 q5
  refine ⟨⟨s, b, ph, m, pp, ys⟩, yo, yc, ?_, hys⟩
  have sub : ∀ (o k N : Nat) (u : Value), k < N → ((cs.toList.drop o).take N)[k]? = some u → cs.toList[o + k]? = some u := by
    intro o k N u hk hu
    rw [List.getElem?_take_of_lt hk, List.getElem?_drop] at hu
    exact hu
  congr 1
  apply Array.ext_getElem?
  intro j
  rw [← Array.getElem?_toList]
  by_cases hj : j < 26
  · by_cases h0 : j < 3
    · rcases (by omega : j = 0 ∨ j = 1 ∨ j = 2) with rfl | rfl | rfl
      · exact hs
      · exact hb
      · exact hph
    by_cases h1 : j < 13
    · obtain ⟨i, rfl⟩ : ∃ i, j = 3 + i := ⟨j - 3, by omega⟩
      obtain ⟨u, hu⟩ : ∃ u, ((#[.int .i64 m.c0, .int .i64 m.c1, .int .i64 m.c2, .int .i64 m.c3, .int .i64 m.c4, .int .i64 m.c5, .int .i64 m.c6, .int .i64 m.c7, .int .i64 m.c8, .int .i64 m.c9] : Array Value).toList)[i]? = some u := ⟨_, List.getElem?_eq_getElem (by show i < 10; omega)⟩
      rw [sub 3 i 10 u (by omega) (by rw [hm]; exact hu)]
      rcases (by omega : i = 0 ∨ i = 1 ∨ i = 2 ∨ i = 3 ∨ i = 4 ∨ i = 5 ∨ i = 6 ∨ i = 7 ∨ i = 8 ∨ i = 9) with rfl | rfl | rfl | rfl | rfl | rfl | rfl | rfl | rfl | rfl <;> exact hu.symm
    by_cases h2 : j < 25
    · obtain ⟨i, rfl⟩ : ∃ i, j = 13 + i := ⟨j - 13, by omega⟩
      obtain ⟨u, hu⟩ : ∃ u, (ppcell pp)[i]? = some u := ⟨_, List.getElem?_eq_getElem (by rw [ppcell_len]; omega)⟩
      rw [sub 13 i 12 u (by omega) (by rw [hpp]; exact hu)]
      rcases (by omega : i = 0 ∨ i = 1 ∨ i = 2 ∨ i = 3 ∨ i = 4 ∨ i = 5 ∨ i = 6 ∨ i = 7 ∨ i = 8 ∨ i = 9 ∨ i = 10 ∨ i = 11) with rfl | rfl | rfl | rfl | rfl | rfl | rfl | rfl | rfl | rfl | rfl | rfl <;> exact hu.symm
    · obtain rfl : j = 25 := by omega
      exact hvy
  · rw [List.getElem?_eq_none (by simp; omega), Array.getElem?_eq_none (by show 26 ≤ j; omega)]

end Go.Proofs.Ytkinbednlmfnnaa
