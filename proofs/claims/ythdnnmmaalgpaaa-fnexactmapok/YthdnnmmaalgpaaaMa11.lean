/- Contracts and plain facts that this claim leans on (texts MOw, OkLaw, ArgD, ArgW, ArgI, ArgE, ArgM, MK12, MK13); no statement of the seat is proved here. -/
import Derived.Test.YthdnnmmaalgpaaaMa10
import Derived.Test.YthdnnmmaalgpaaaMa1
import Derived.ProofKit
import Derived.OpenShut
import Derived.ShutString
import Derived.ChangeOld
import Derived.Below
import Derived.Lib.SmallJoins
import Derived.Deep.Strs
import Derived.Deep.SlicePairs
import Derived.Deep.Slices
import Derived.ChangeSlices
import Derived.Test.YthdnnmmaalgpaaaMa7
import Derived.Test.YthdnnmmaalgpaaaMa8

/- What the law FnExactMapOk does: its walk; the statement itself is proved elsewhere. -/
namespace Go.Proofs.Ythdnnmmaalgpaaa
open Go.RowKit

set_option maxRecDepth 100000 in
set_option maxHeartbeats 8000000 in
theorem mapOk_walk (v : Value) (c : Ms) (w : World) (h : MsR w v c) :
    Calls Try.prog 4 #[v] w fun e w' => e = .returned (.bool true) ∧ Below w.heap.size w w' := by
  obtain ⟨ok, hok⟩ : ∃ ok, okMs c = ok := ⟨_, rfl⟩
  have cS := fun v w h => specMapOk_any v c w h
  have cI := fun v w h => implMapOk_any v c w h
  rw [hok] at cS cI
  clear hok
  have HV := hide h
  obtain ⟨cs, rfl, hs, -⟩ := h.agg
  have HI := hide (infoAt infoMsL hs)
  clear h hs
  go_enter Try.func4, Try.ntmps4
  go_upto_region 1 with fail
  generalize hW : World.alloc _ _ = W
  have al : Below w.heap.size w W := by rw [← hW]; exact bal (Below.refl _ _) _
  have B0 : Hid (W.heap[w.heap.size]? = some (.cells cs 35 (0, 0))) := by show _ = _; rw [← hW]; exact al1_0 w _
  have V0 := hide (HV.out.keep al)
  clear hW HV
  go_wp2_with (refine wpList_load_row rfl 35 (.tmp 1) rfl w.heap.size rfl _ cs (0, 0) _ B0.out Try.underlying35 rfl HI.out ?_)
  refine (szMapState_any _ c _ V0.out).mono ?_
  rintro e w1 ⟨r, rfl, hs, b1⟩
  rcases hs with hneg | ⟨hr0, hsm⟩
  · go_wp2
    go_ret
    exact ⟨rfl, bAll al b1⟩
  have hge : ¬ r < 0 := by omega
  have HS := hide hsm
  clear hr0 hsm
  have C1 := hide (bKeeps b1 B0.out)
  go_wp2_with (refine wpList_load_row rfl 35 (.tmp 1) rfl w.heap.size rfl _ cs (0, 0) _ C1.out Try.underlying35 rfl HI.out ?_)
  refine (toMapState_any _ c _ (V0.out.keep b1) HS.out).mono ?_
  rintro e w2 ⟨v2, rfl, d2, b2⟩
  have b2 := bAll b1 b2
  go_wp2_with fail
  refine (cS _ _ d2.reads).mono ?_
  rintro e w3 ⟨rfl, b3⟩
  have b3 := bAll b2 b3
  have C3 := hide (bKeeps b3 B0.out)
  clear d2 b1 C1
  go_wp2_with (refine wpList_load_row rfl 35 (.tmp 1) rfl w.heap.size rfl _ cs (0, 0) _ C3.out Try.underlying35 rfl HI.out ?_)
  refine (toMapState_any _ c _ (V0.out.keep b3) HS.out).mono ?_
  rintro e w4 ⟨v4, rfl, d4, b4⟩
  have b4 := bAll b3 b4
  obtain ⟨ds, rfl, hds, hd1⟩ := d4.reads.agg
  have GI := hide (infoAt infoMsI hds)
  have GZ := hide ((show (#[.int .i64 0, .int .i64 0, .int .i64 0, .slice none 0 0, .slice none 0 0, .slice none 0 0] : Array Value).size = 6 from rfl).trans hds.symm)
  have G1 := hide hd1
  have a5 := bal (Below.refl w4.heap.size w4) (.cells ds 26)
  have A5 := hide (heap_alloc_new w4 (.cells ds 26))
  have X5 := hide (d4.reads.keep a5)
  have b5 := bAll b4 a5
  clear d4 C3 hds hd1
  go_wp2_with (first
    | (refine wpList_store_row rfl 26 (.tmp 5) (.tmp 16) rfl w4.heap.size ds rfl rfl _ _ (heap_alloc_new w4 _) GI.out GZ.out G1.out ?_; rw [World.setRow_alloc_new])
    | (refine wpList_load_row rfl 26 (.tmp 5) rfl w4.heap.size rfl _ ds (0, 0) _ A5.out Try.underlying26 rfl GI.out ?_))
  refine (cI _ _ X5.out).mono ?_
  rintro e w6 ⟨rfl, b6⟩
  have A6 := hide (bKeeps b6 A5.out)
  have X6 := hide (X5.out.keep b6)
  have c6 := bAll b5 b6
  have dd := bDrewB (Below.refl w6.heap.size w6)
  have B6 := hide (bKeeps c6 B0.out)
  have V6 := hide (V0.out.keep c6)
  clear b6 a5 A5 X5 b5 b4 b3 b2 cS cI
  go_wp2
  refine wp_region_noPanic ?_
  refine wp_region_held_drew (S := (fun w' => w'.heap[w4.heap.size]? = some (.cells ds 26 (0, 0)) ∧ w'.heap[w.heap.size]? = some (.cells cs 35 (0, 0)))) (by kernel_rfl) ?_ (fun hHeld => ?_)
  · exact ⟨bKeeps dd A6.out, bKeeps dd B6.out⟩
  refine wpAnyH_take (i := 0) (v := .agg ds) rfl (by kernel_rfl) (by kernel_rfl) (by kernel_rfl) (fun _ _ _ h => h) (yields_row rfl 26 (.tmp 5) rfl (w4.heap.size) rfl _ ds _ (fun _ h => h.1) Try.underlying26 rfl GI.out) (by assumption) ?_
  simp only [Act.put, List.getElem_toArray, List.getElem_cons_zero, List.setIfInBounds_toArray, List.set_cons_zero, List.set_cons_succ]
  refine wpAnyH_take (i := 1) (v := .agg cs) rfl (by kernel_rfl) (by kernel_rfl) (by kernel_rfl) (fun _ _ _ h => h) (yields_row rfl 35 (.tmp 1) rfl (w.heap.size) rfl _ cs _ (fun _ h => h.2) Try.underlying35 rfl HI.out) (by assumption) ?_
  simp only [Act.put, List.getElem_toArray, List.getElem_cons_zero, List.getElem_cons_succ, List.setIfInBounds_toArray, List.set_cons_zero, List.set_cons_succ]
  refine wpAnyH_ready (rs := [2]) (by kernel_rfl) (by simp) ?_
  refine AllReadyH.cons rfl (fun K hK => ?_) AllReadyH.nil
  go_simp
  (go_at_call 13; refine (toMapState_any _ c _ (V6.out.keep dd) HS.out).mono ?_; rintro e w7 ⟨v7, rfl, d7, b7⟩; have b7' := bAll dd b7)
  refine hK.out _ _ ?_ (fun hHeld => ?_)
  · exact ⟨bKeeps b7' A6.out, bKeeps b7' B6.out⟩
  clear hK K
  refine wpAnyH_ready (rs := [3]) (by kernel_rfl) (by simp) ?_
  refine AllReadyH.cons rfl (fun K hK => ?_) AllReadyH.nil
  go_simp
  (go_at_call 8; refine (eqMapState_true _ _ c _ (X6.out.keep b7') d7.reads).mono ?_; rintro e w8 ⟨rfl, b8⟩; have b8' := bAll b7' b8)
  refine hK.out _ _ ?_ (fun hHeld => ?_)
  · exact ⟨bKeeps b8' A6.out, bKeeps b8' B6.out⟩
  clear hK K
  refine wpAnyH_take (i := 4) (v := ?v1) rfl (by kernel_rfl) (by kernel_rfl) (by kernel_rfl) (fun _ _ _ h => h) (Or.inl ⟨by rfl, ?hy1⟩) (by assumption) ?rest1
  case hy1 => ((intro w hSw; (try dsimp only at hSw); (try simp only [List.getElem_toArray, List.getElem_cons_zero, List.getElem_cons_succ]); go_simp; first | done | (with_reducible rfl)))
  simp only [Act.put, List.getElem_toArray, List.getElem_cons_zero, List.getElem_cons_succ, List.setIfInBounds_toArray, List.set_cons_zero, List.set_cons_succ]
  refine wpAnyH_done (by kernel_rfl) ?_ _
  refine NoPanic.normal ?_
  go_wp2
  go_ret
  exact ⟨rfl, bAll al (bAll c6 b8')⟩

end Go.Proofs.Ythdnnmmaalgpaaa

/- What the law FnExactSecOk does: its walk; the statement itself is proved elsewhere. -/
namespace Go.Proofs.Ythdnnmmaalgpaaa
open Go.RowKit

theorem DiskR.shape {w : World} {v : Value} {kept : List ByteArray} {wait : List (Int × ByteArray)} (h : DiskR w v kept wait) : ∃ ao ca ao' ca', v = .agg #[.slice ao kept.length ca, .slice ao' wait.length ca'] := by
  obtain ⟨vk, vw, rfl, ⟨ao, ca, rfl, -⟩, ⟨ao', ca', rfl, -⟩⟩ := h
  exact ⟨ao, ca, ao', ca', rfl⟩

end Go.Proofs.Ythdnnmmaalgpaaa

/- How a disk that is an argument is opened; no statement of the seat is proved here. -/
namespace Go.Proofs.Ythdnnmmaalgpaaa
open Go.ChangeShapes Go.WideShapes Go.ChangeAt Go.RowKit Go.Deep Go.Joins

theorem seat_own : ownKnob Try.prog.godebug = none := by kernel_rfl
theorem seat_laidOut : laidOutB Try.prog = true := by kernel_rfl

end Go.Proofs.Ythdnnmmaalgpaaa

/- How a word that is an argument is opened; no statement of the seat is proved here. -/
namespace Go.Proofs.Ythdnnmmaalgpaaa
open Go.ChangeShapes Go.WideShapes Go.ChangeAt Go.RowKit Go.Deep Go.Joins

theorem at_of {l : List Value} {o : Nat} {u : Value} (e : (l.drop o).take 1 = [u]) : l[o]? = some u := by
  have := congrArg (fun m => m[0]?) e
  simpa using this
theorem of_at {l : List Value} {o : Nat} {u : Value} (h : l[o]? = some u) : (l.drop o).take 1 = [u] := by
  obtain ⟨hl, e⟩ := List.getElem?_eq_some_iff.1 h
  rw [List.drop_eq_getElem_cons hl, e]
  rfl

section
variable {H : Type} {enc : TypeId × Value → H} {P : Program} {w : World} {base : Nat} {spare : Nat → Bool} {held : Bool}

theorem intAt {n o i : Nat} {t : TypeId} {l : List Value} {xs : List (DataW H × List MemPlace)} (ht : P.underlying t = some (.int .i64)) (hc : P.cellsOf t = 1)
    (hq : DataW.trod enc P w base spare held n t ((l.drop o).take (P.cellsOf t)) = xs[i]?) (hi : i < xs.length) : ∃ z : Int, l[o]? = some (.int .i64 z) := by
  rw [hc, List.getElem?_eq_getElem hi] at hq
  obtain ⟨z, e, _, _⟩ := DataW.trod_int ht hq
  exact ⟨z, at_of e⟩
end

end Go.Proofs.Ythdnnmmaalgpaaa

/- How an argument that is a slice of numbers is opened; no statement of the seat is proved here. -/
namespace Go.Proofs.Ythdnnmmaalgpaaa
open Go.ChangeShapes Go.WideShapes Go.ChangeAt Go.RowKit Go.Deep Go.Joins

section
variable {H : Type} {enc : TypeId × Value → H} {P : Program} {w : World} {base : Nat} {spare : Nat → Bool} {held : Bool}

theorem rowR_of_ints {t e : TypeId} {fuel : Nat} {v : Value} {x : DataW H × List MemPlace} (ht : P.underlying t = some (.slice e)) (he : P.underlying e = some (.int .i64)) (hc : P.cellsOf e = 1)
    (h : DataW.trod enc P w base spare held fuel t [v] = some x) : ∃ (ko : Option Addr) (kc : Nat) (ks : List Int), v = .slice ko ks.length kc ∧ RowR w 1 (.slice ko ks.length kc) ks.length (ks.map (Value.int .i64)) := by
  rcases open_ints ht he hc h with ⟨hcs, _⟩ | ⟨a, len, cap, zs, hcs, _, hl, hm, hmm, _, hx, _⟩
  · obtain rfl : v = .slice none 0 0 := by simpa using hcs
    exact ⟨none, 0, [], rfl, RowR.nil _ _⟩
  · obtain rfl : v = .slice (some a) len cap := by simpa using hcs
    have hlm : len ≤ zs.length := by rw [hmm]; split <;> omega
    unfold maxLen at hm
    have hlen : (zs.take len).length = len := by simp; omega
    refine ⟨some a, cap, zs.take len, by rw [hlen], some a, cap, rfl, by omega, by simp, fun h0 => ?_⟩
    have h1 := hx 0 (by omega)
    obtain ⟨b, off, spot⟩ := a
    have hspot : spot = none := by simpa [Addr.add] using World.cell?_spot h1
    subst hspot
    refine ⟨b, off, rfl, fun j u hj => ?_⟩
    have hj' : j < len := by have := (List.getElem?_eq_some_iff.1 hj).1; simp at this; omega
    have h2 := hx j (by omega)
    rw [Addr.add_lit] at h2
    rw [h2]
    rw [List.getElem?_map, List.getElem?_take_of_lt hj'] at hj
    simpa [List.getD, show j < zs.length by omega] using hj
end

end Go.Proofs.Ythdnnmmaalgpaaa

/- How a row of structs that is an argument is opened; no statement of the seat is proved here. (Written by wip/tools/mkargm.py.) -/
namespace Go.Proofs.Ythdnnmmaalgpaaa
open Go.ChangeShapes Go.WideShapes Go.ChangeAt Go.RowKit Go.Deep Go.Joins

section
variable {H : Type} {enc : TypeId × Value → H} {w : World} {base : Nat} {spare : Nat → Bool} {held : Bool}

theorem rowE_of {α : Type} [Inhabited α] {E : World → Value → α → Prop} {t e : TypeId} {size fuel : Nat} {v : Value} {x : DataW H × List MemPlace} (ht : Try.prog.underlying t = some (.slice e)) (ce : Try.prog.cellsOf e = size) (hs : 0 < size)
    (one : ∀ (n : Nat) (l : List Value) (y : DataW H × List MemPlace), DataW.trod enc Try.prog w base spare held n e l = some y → l.length = size → ∃ x, E w (.agg l.toArray) x)
    (hagg : ∀ v x, E w v x → ∃ cs : Array Value, v = .agg cs ∧ cs.size = size ∧ cs.all (·.oneCell') = true)
    (h : DataW.trod enc Try.prog w base spare held fuel t [v] = some x) : ∃ xs : List α, RowE w size E v xs := by
  rcases open_slice ht h with ⟨hcs, _⟩ | ⟨a, len, cap, m, n, D, Pl, hcs, _, hl, hm, hmm, _, hx⟩
  · obtain rfl : v = .slice none 0 0 := by simpa using hcs
    exact ⟨[], none, 0, rfl, by simp, fun h => by simp at h⟩
  · obtain rfl : v = .slice (some a) len cap := by simpa using hcs
    have hlm : len ≤ m := by rw [hmm]; split <;> omega
    unfold maxLen at hm
    have each : ∀ i, i < m → ∃ x : α, ∃ cs : Array Value, cs.size = size ∧ cs.all (·.oneCell') = true ∧ (∀ r u, cs[r]? = some u → w.cell? (a.add (i * size + r)) = some u) ∧ E w (.agg cs) x := fun i hi => by
      obtain ⟨cs', h1, h2⟩ := hx i hi
      rw [ce] at h1
      obtain ⟨_, hlen, hcell⟩ := World.cells?_some h1
      obtain ⟨y, hy⟩ := one _ _ _ h2 hlen
      obtain ⟨ds, e1, e2, e3⟩ := hagg _ _ hy
      injection e1 with e1
      refine ⟨y, cs'.toArray, by simpa using hlen, by rw [e1]; exact e3, fun r u hr => ?_, hy⟩
      have hr2 : cs'[r]? = some u := by simpa using hr
      have hr' : r < size := by have := (List.getElem?_eq_some_iff.1 hr2).1; omega
      have g := hcell r (by omega)
      rw [Addr.add_add] at g
      rw [g]
      first | exact hr2 | simpa [List.getD, hr2] using hr2
    obtain ⟨Y, hY⟩ := choose_lt each
    have hlen : ((List.range len).map Y).length = len := by simp
    refine ⟨(List.range len).map Y, some a, cap, by rw [hlen], by rw [hlen]; omega, fun h0 => ?_⟩
    rw [hlen] at h0
    obtain ⟨cs0, s0, -, q0, -⟩ := hY 0 (by omega)
    obtain ⟨u0, hu0⟩ : ∃ u, cs0[0]? = some u := ⟨cs0[0]'(by omega), by simp [show 0 < cs0.size by omega]⟩
    have h1 := q0 0 u0 hu0
    obtain ⟨b, off, spot⟩ := a
    have hspot : spot = none := by simpa [Addr.add] using World.cell?_spot h1
    subst hspot
    refine ⟨b, off, rfl, fun j x hj => ?_⟩
    have hj' : j < len := by have := (List.getElem?_eq_some_iff.1 hj).1; rw [hlen] at this; exact this
    have e : Y j = x := by
      rw [List.getElem?_map, List.getElem?_range hj'] at hj
      simpa using hj
    subst e
    obtain ⟨cs, s1, s2, q, s3⟩ := hY j (by omega)
    refine ⟨cs, s1, s2, fun i u hi => ?_, s3⟩
    have g := q i u hi
    rw [Addr.add_lit] at g
    rw [Nat.add_assoc]
    exact g

theorem rowR_of_intsC {t e : TypeId} {fuel : Nat} {v : Value} {x : DataW H × List MemPlace} (ht : Try.prog.underlying t = some (.slice e)) (he : Try.prog.underlying e = some (.int .i64)) (hc : Try.prog.cellsOf e = 1)
    (h : DataW.trod enc Try.prog w base spare held fuel t [v] = some x) : ∃ (ko : Option Addr) (kc : Nat) (ks : List Int), v = .slice ko ks.length kc ∧ ks.length ≤ kc ∧ RowR w 1 (.slice ko ks.length kc) ks.length (ks.map (Value.int .i64)) := by
  obtain ⟨ko, kc, ks, rfl, hr⟩ := rowR_of_ints ht he hc h
  refine ⟨ko, kc, ks, rfl, ?_, hr⟩
  rcases open_slice ht h with ⟨hcs, _⟩ | ⟨a, len, cap, m, n, D, Pl, hcs, _, hl, hm, hmm, _, hx⟩
  · have e1 : Value.slice ko ks.length kc = .slice none 0 0 := by simpa using hcs
    injection e1 with _ e2 e3
    omega
  · have e1 : Value.slice ko ks.length kc = .slice (some a) len cap := by simpa using hcs
    injection e1 with _ e2 e3
    omega
end

/-- A row of structs of numbers, as a list of cells. -/
theorem rowR_ofE {α : Type} {f : α → List Value} {c : Nat} (hf : ∀ x, (f x).length = c) (hc0 : 0 < c) {E : World → Value → α → Prop} (hE : ∀ w cs x, E w (.agg cs) x → cs.toList = f x) {w : World} {v : Value} {xs : List α} (h : RowE w c E v xs) : RowR w c v xs.length (xs.flatMap f) := by
  obtain ⟨ao, cap, rfl, hn, h⟩ := h
  refine ⟨ao, cap, rfl, hn, fm_len hf xs, fun h0 => ?_⟩
  obtain ⟨b, off, e, hh⟩ := h h0
  refine ⟨b, off, e, fun j u hj => ?_⟩
  have hjl : j < xs.length * c := by have := (List.getElem?_eq_some_iff.1 hj).1; rwa [fm_len hf] at this
  have hi : j / c < xs.length := (Nat.div_lt_iff_lt_mul hc0).2 hjl
  obtain ⟨x, hx⟩ := getAt xs (j / c) hi
  have hm := fm_at hf xs (j / c) x (j % c) hx (Nat.mod_lt _ hc0)
  have e2 : j / c * c + j % c = j := by rw [Nat.mul_comm]; exact Nat.div_add_mod j c
  rw [e2, hj] at hm
  obtain ⟨cs, h1, h2, h3, h4⟩ := hh (j / c) x hx
  have g := h3 (j % c) u (by rw [← Array.getElem?_toList, hE _ _ _ h4]; exact hm.symm)
  rw [Nat.add_assoc, e2] at g
  exact g

end Go.Proofs.Ythdnnmmaalgpaaa

/- How a map that is an argument is opened; no statement of the seat is proved here. (Written by wip/tools/mkargm.py.) -/
namespace Go.Proofs.Ythdnnmmaalgpaaa
open Go.ChangeShapes Go.WideShapes Go.ChangeAt Go.RowKit Go.Deep Go.Joins

section
variable {H : Type} {enc : TypeId × Value → H} {w : World} {base : Nat} {spare : Nat → Bool} {held : Bool}

set_option maxRecDepth 100000 in
set_option maxHeartbeats 4000000 in
theorem vwL_of {fuel : Nat} {l : List Value} {y : DataW H × List MemPlace} (hf : DataW.trod enc Try.prog w base spare held fuel 82 l = some y) (hl : l.length = 3) : ∃ x, VwE w (.agg l.toArray) x := by
  obtain ⟨cs, rfl⟩ : ∃ cs : Array Value, l = cs.toList := ⟨l.toArray, rfl⟩
  have hsz : cs.size = 3 := by simpa using hl
  have hc1 : Try.prog.cellsOf 3 = 1 := by kernel_rfl
  obtain ⟨zs, n, -, -, -, hzl, hq⟩ := DataW.trod_struct Try.underlying82 hf
  have hzl' : zs.length = 3 := hzl
  clear hzl
  obtain ⟨a0, h0⟩ := intAt (o := 0) (i := 0) Try.underlying3 hc1 (hq 0 _ rfl) (by omega)
  obtain ⟨a1, h1⟩ := intAt (o := 1) (i := 1) Try.underlying3 hc1 (hq 1 _ rfl) (by omega)
  obtain ⟨a2, h2⟩ := intAt (o := 2) (i := 2) Try.underlying3 hc1 (hq 2 _ rfl) (by omega)
  refine ⟨(a0, a1, a2), ?_⟩
  show Value.agg cs.toList.toArray = _
  congr 1
  apply Array.ext_getElem?
  intro j
  rw [← Array.getElem?_toList]
  by_cases hj : j < 3
  · skip
    rcases (by omega : j = 0 ∨ j = 1 ∨ j = 2) with rfl | rfl | rfl
    · exact h0
    · exact h1
    · exact h2
  · rw [List.getElem?_eq_none (by simp; omega), Array.getElem?_eq_none (by show 3 ≤ j; omega)]

set_option maxRecDepth 100000 in
set_option maxHeartbeats 4000000 in
theorem dnL_of {fuel : Nat} {l : List Value} {y : DataW H × List MemPlace} (hf : DataW.trod enc Try.prog w base spare held fuel 84 l = some y) (hl : l.length = 4) : ∃ x, DnE w (.agg l.toArray) x := by
  obtain ⟨cs, rfl⟩ : ∃ cs : Array Value, l = cs.toList := ⟨l.toArray, rfl⟩
  have hsz : cs.size = 4 := by simpa using hl
  have hc1 : Try.prog.cellsOf 3 = 1 := by kernel_rfl
  obtain ⟨zs, n, -, -, -, hzl, hq⟩ := DataW.trod_struct Try.underlying84 hf
  have hzl' : zs.length = 4 := hzl
  clear hzl
  obtain ⟨a0, h0⟩ := intAt (o := 0) (i := 0) Try.underlying3 hc1 (hq 0 _ rfl) (by omega)
  obtain ⟨a1, h1⟩ := intAt (o := 1) (i := 1) Try.underlying3 hc1 (hq 1 _ rfl) (by omega)
  obtain ⟨a2, h2⟩ := intAt (o := 2) (i := 2) Try.underlying3 hc1 (hq 2 _ rfl) (by omega)
  obtain ⟨a3, h3⟩ := intAt (o := 3) (i := 3) Try.underlying3 hc1 (hq 3 _ rfl) (by omega)
  refine ⟨(a0, a1, a2, a3), ?_⟩
  show Value.agg cs.toList.toArray = _
  congr 1
  apply Array.ext_getElem?
  intro j
  rw [← Array.getElem?_toList]
  by_cases hj : j < 4
  · skip
    rcases (by omega : j = 0 ∨ j = 1 ∨ j = 2 ∨ j = 3) with rfl | rfl | rfl | rfl
    · exact h0
    · exact h1
    · exact h2
    · exact h3
  · rw [List.getElem?_eq_none (by simp; omega), Array.getElem?_eq_none (by show 4 ≤ j; omega)]

set_option maxRecDepth 100000 in
set_option maxHeartbeats 4000000 in
theorem dkL_of {fuel : Nat} {l : List Value} {y : DataW H × List MemPlace} (hf : DataW.trod enc Try.prog w base spare held fuel 78 l = some y) (hl : l.length = 7) : ∃ x, DkR w (.agg l.toArray) x := by
  obtain ⟨cs, rfl⟩ : ∃ cs : Array Value, l = cs.toList := ⟨l.toArray, rfl⟩
  have hsz : cs.size = 7 := by simpa using hl
  have hc1 : Try.prog.cellsOf 3 = 1 := by kernel_rfl
  obtain ⟨zs, n, -, -, -, hzl, hq⟩ := DataW.trod_struct Try.underlying78 hf
  have hzl' : zs.length = 7 := hzl
  clear hzl
  obtain ⟨a0, h0⟩ := intAt (o := 0) (i := 0) Try.underlying3 hc1 (hq 0 _ rfl) (by omega)
  obtain ⟨a1, h1⟩ := intAt (o := 1) (i := 1) Try.underlying3 hc1 (hq 1 _ rfl) (by omega)
  obtain ⟨a2, h2⟩ := intAt (o := 2) (i := 2) Try.underlying3 hc1 (hq 2 _ rfl) (by omega)
  obtain ⟨a3, h3⟩ := intAt (o := 3) (i := 3) Try.underlying3 hc1 (hq 3 _ rfl) (by omega)
  obtain ⟨a4, h4⟩ := intAt (o := 4) (i := 4) Try.underlying3 hc1 (hq 4 _ rfl) (by omega)
  obtain ⟨a5, h5⟩ := intAt (o := 5) (i := 5) Try.underlying3 hc1 (hq 5 _ rfl) (by omega)
  obtain ⟨vp, hvp⟩ : ∃ u, cs.toList[6]? = some u := ⟨cs.toList[6]'(by simp; omega), List.getElem?_eq_getElem _⟩
  have qp : DataW.trod enc Try.prog w base spare held n 55 ((cs.toList.drop 6).take (Try.prog.cellsOf 55)) = zs[6]? := hq 6 _ rfl
  obtain ⟨yp, hyp⟩ : ∃ y, zs[6]? = some y := ⟨zs[6]'(by omega), List.getElem?_eq_getElem _⟩
  rw [show Try.prog.cellsOf 55 = 1 by kernel_rfl, of_at hvp, hyp] at qp
  obtain ⟨ko, kc, ks, rfl, hcap, hr⟩ := rowR_of_intsC Try.underlying55 Try.underlying3 (by kernel_rfl) qp
  refine ⟨⟨a0, a1, a2, a3, a4, a5, ks⟩, ko, kc, ?_, hcap, hr⟩
  show Value.agg cs.toList.toArray = _
  congr 1
  apply Array.ext_getElem?
  intro j
  rw [← Array.getElem?_toList]
  by_cases hj : j < 7
  · skip
    rcases (by omega : j = 0 ∨ j = 1 ∨ j = 2 ∨ j = 3 ∨ j = 4 ∨ j = 5 ∨ j = 6) with rfl | rfl | rfl | rfl | rfl | rfl | rfl
    · exact h0
    · exact h1
    · exact h2
    · exact h3
    · exact h4
    · exact h5
    · exact hvp
  · rw [List.getElem?_eq_none (by simp; omega), Array.getElem?_eq_none (by show 7 ≤ j; omega)]
end

instance : Inhabited Dk := ⟨⟨0, 0, 0, 0, 0, 0, []⟩⟩

set_option maxRecDepth 100000 in
set_option maxHeartbeats 4000000 in
theorem msR_of {H : Type} {enc : TypeId × Value → H} {w : World} {base : Nat} {spare : Nat → Bool} {held : Bool} {r : Reach} {b0 : Nat} {v : Value} {d : DataW H} {p : List MemPlace}
    (hv : Value.okWide Try.prog w r b0 35 v) (h : DataW.Trod enc Try.prog w base spare held 35 v d p) : ∃ c, MsR w v c := by
  obtain ⟨cs, rfl, hsz⟩ := okWide_struct Try.underlying35 hv
  obtain ⟨fuel, hf⟩ := h
  have hc6 : Try.prog.cellsOf 35 = 6 := by kernel_rfl
  have hc1 : Try.prog.cellsOf 3 = 1 := by kernel_rfl
  rw [hc6] at hsz
  obtain ⟨xs, n, -, -, -, hxl, hq⟩ := DataW.trod_struct Try.underlying35 hf
  have hxl' : xs.length = 6 := hxl
  clear hxl
  obtain ⟨a0, h0⟩ := intAt (o := 0) (i := 0) Try.underlying3 hc1 (hq 0 _ rfl) (by omega)
  obtain ⟨a1, h1⟩ := intAt (o := 1) (i := 1) Try.underlying3 hc1 (hq 1 _ rfl) (by omega)
  obtain ⟨a2, h2⟩ := intAt (o := 2) (i := 2) Try.underlying3 hc1 (hq 2 _ rfl) (by omega)
  obtain ⟨v3, hv3⟩ : ∃ u, cs.toList[3]? = some u := ⟨cs.toList[3]'(by simp; omega), List.getElem?_eq_getElem _⟩
  have q3 : DataW.trod enc Try.prog w base spare held n 31 ((cs.toList.drop 3).take (Try.prog.cellsOf 31)) = xs[3]? := hq 3 _ rfl
  obtain ⟨y3, hy3⟩ : ∃ y, xs[3]? = some y := ⟨xs[3]'(by omega), List.getElem?_eq_getElem _⟩
  rw [show Try.prog.cellsOf 31 = 1 by kernel_rfl, of_at hv3, hy3] at q3
  obtain ⟨v4, hv4⟩ : ∃ u, cs.toList[4]? = some u := ⟨cs.toList[4]'(by simp; omega), List.getElem?_eq_getElem _⟩
  have q4 : DataW.trod enc Try.prog w base spare held n 32 ((cs.toList.drop 4).take (Try.prog.cellsOf 32)) = xs[4]? := hq 4 _ rfl
  obtain ⟨y4, hy4⟩ : ∃ y, xs[4]? = some y := ⟨xs[4]'(by omega), List.getElem?_eq_getElem _⟩
  rw [show Try.prog.cellsOf 32 = 1 by kernel_rfl, of_at hv4, hy4] at q4
  obtain ⟨v5, hv5⟩ : ∃ u, cs.toList[5]? = some u := ⟨cs.toList[5]'(by simp; omega), List.getElem?_eq_getElem _⟩
  have q5 : DataW.trod enc Try.prog w base spare held n 33 ((cs.toList.drop 5).take (Try.prog.cellsOf 33)) = xs[5]? := hq 5 _ rfl
  obtain ⟨y5, hy5⟩ : ∃ y, xs[5]? = some y := ⟨xs[5]'(by omega), List.getElem?_eq_getElem _⟩
  rw [show Try.prog.cellsOf 33 = 1 by kernel_rfl, of_at hv5, hy5] at q5
  obtain ⟨ds, g3⟩ := rowE_of (E := DkR) (size := 7) Try.underlying31 (by kernel_rfl) (by omega) (fun n l y hf hl => dkL_of hf hl) (fun v x h => DkR.agg h) q3
  obtain ⟨vs, g4⟩ := rowE_of (E := VwE) (size := 3) Try.underlying32 (by kernel_rfl) (by omega) (fun n l y hf hl => vwL_of hf hl) (fun v x h => ⟨_, h, rfl, all_of_list rfl⟩) q4
  obtain ⟨es, g5⟩ := rowE_of (E := DnE) (size := 4) Try.underlying33 (by kernel_rfl) (by omega) (fun n l y hf hl => dnL_of hf hl) (fun v x h => ⟨_, h, rfl, all_of_list rfl⟩) q5
  refine ⟨⟨a0, a1, a2, ds, vs, es⟩, v3, v4, v5, ?_, ⟨g3, rowR_ofE gcell_len (by omega) (fun w cs x h => ?_) g4, rowR_ofE ecell_len (by omega) (fun w cs x h => ?_) g5⟩⟩
  · congr 1
    apply Array.ext_getElem?
    intro j
    rw [← Array.getElem?_toList]
    by_cases hj : j < 6
    · skip
      rcases (by omega : j = 0 ∨ j = 1 ∨ j = 2 ∨ j = 3 ∨ j = 4 ∨ j = 5) with rfl | rfl | rfl | rfl | rfl | rfl
      · exact h0
      · exact h1
      · exact h2
      · exact hv3
      · exact hv4
      · exact hv5
    · rw [List.getElem?_eq_none (by simp; omega), Array.getElem?_eq_none (by show 6 ≤ j; omega)]
  · injection (show Value.agg cs = .agg #[.int .i64 x.1, .int .i64 x.2.1, .int .i64 x.2.2] from h) with h
    rw [h]
    rfl
  · injection (show Value.agg cs = .agg #[.int .i64 x.1, .int .i64 x.2.1, .int .i64 x.2.2.1, .int .i64 x.2.2.2] from h) with h
    rw [h]
    rfl

end Go.Proofs.Ythdnnmmaalgpaaa

/- Where a disk stands, by the program, and what is wrong with a block: contracts; no statement of the seat is proved here. (Written by wip/tools/mkfind.py.) -/
namespace Go.Proofs.Ythdnnmmaalgpaaa
open Go.RowKit

theorem ordOkD : OrdOk ordD where
  trans a b c h1 h2 := by simp only [ordD, cmpI_neg] at *; omega
  eqL a b c h1 h2 := by simp only [ordD, cmpI_neg, cmpI_zero] at *; omega
  flip a b := by simp only [ordD, cmpI_neg, cmpI_pos]
  refl a := by simp only [ordD, cmpI_zero]
theorem asc_belowD {α : Type} {ord : α → α → Int} (ho : OrdOk ord) {xs : List α} {x y z : α} {i m : Nat} (hs : Asc ord xs) (h : i < m) (hi : xs[i]? = some y) (hm : xs[m]? = some z) (hz : ord z x < 0) : ord y x < 0 := by
  obtain ⟨hi1, e1⟩ := List.getElem?_eq_some_iff.1 hi
  obtain ⟨hm1, e2⟩ := List.getElem?_eq_some_iff.1 hm
  have := List.pairwise_iff_getElem.1 hs i m hi1 hm1 h
  rw [e1, e2] at this
  exact ho.trans _ _ _ this hz
theorem asc_aboveD {α : Type} {ord : α → α → Int} (ho : OrdOk ord) {xs : List α} {x y z : α} {i m : Nat} (hs : Asc ord xs) (h : m < i) (hi : xs[i]? = some y) (hm : xs[m]? = some z) (hz : 0 ≤ ord z x) : 0 < ord y x := by
  obtain ⟨hi1, e1⟩ := List.getElem?_eq_some_iff.1 hi
  obtain ⟨hm1, e2⟩ := List.getElem?_eq_some_iff.1 hm
  have := List.pairwise_iff_getElem.1 hs m i hm1 hi1 h
  rw [e1, e2] at this
  exact ho.above hz this

set_option maxRecDepth 100000 in
set_option maxHeartbeats 8000000 in
theorem findD_any (v vx : Value) (xs : List Dk) (x : Dk) (w : World) (hr : RowE w 7 DkR v xs) (hx0 : DkR w vx x) (hn : xs.length ≤ 60) (hs : Asc ordD xs) :
    Calls Try.prog 65 #[v, vx, .func (.func 38) #[] #[] ] w fun e w' => ∃ (p : Nat) (there : Bool), e = .returned (.tuple #[.int .i64 p, .bool there]) ∧ IsAt ordD xs x p there ∧ Below w.heap.size w w' := by
  obtain ⟨ao, ca, rfl⟩ := hr.shape
  have HR := hide hr
  have HX0 := hide hx0
  obtain ⟨c0, rfl, hc0, h10⟩ := hx0.agg
  have GI0 := hide (infoAt infoDk hc0)
  obtain ⟨n, hnn⟩ : ∃ n, xs.length = n := ⟨_, rfl⟩
  have Hl := hide hnn
  rw [hnn] at hn HR ⊢
  clear hnn hr
  have hal := bal (Below.refl w.heap.size w) (.cells c0 57)
  obtain ⟨W, hW⟩ : ∃ W, W = w.alloc (.cells c0 57) := ⟨_, rfl⟩
  have B0 : Hid (W.heap[w.heap.size]? = some (.cells c0 57 (0, 0))) := by show _ = _; rw [hW]; exact al1_0 w _
  rw [← hW] at hal
  have HS := hide hs
  clear hs hc0 h10
  go_enter Try.func65, Try.ntmps65
  go_wp2
  rw [← hW]
  clear hW
  go_loopw [8, 9] (fun lv hv wr => ∃ l h : Nat, l ≤ h ∧ h ≤ n ∧ lv = .int .i64 l ∧ hv = .int .i64 h ∧ (∀ i y, i < l → xs[i]? = some y → ordD y x < 0) ∧ (∀ i y, h ≤ i → xs[i]? = some y → 0 ≤ ordD y x) ∧ Below W.heap.size W wr) (fun lv hv _ => (intOf hv).toNat - (intOf lv).toNat)
  case atStart => exact ⟨0, n, Nat.zero_le _, Nat.le_refl _, rfl, rfl, fun i y hi => by omega, fun i y hi hy => by have := (List.getElem?_eq_some_iff.1 hy).1; have := Hl.out; omega, Below.refl _ _⟩
  case round =>
    obtain ⟨l, h, hlh, hhn, rfl, rfl, hlo, hhi, hbel⟩ := hrel
    have HLo := hide hlo
    have HHi := hide hhi
    clear hlo hhi
    by_cases hlt : l < h
    · obtain ⟨m, hm⟩ : ∃ m, (l + h) / 2 = m := ⟨_, rfl⟩
      have hm1 : l ≤ m := by omega
      have hm2 : m < h := by omega
      have hmi : ((l : Int) + (h : Int)) / 2 = (m : Int) := by omega
      have hmn : (m : Int) < (n : Int) := by omega
      obtain ⟨y, hx⟩ := getAt xs m (by have := Hl.out; omega)
      obtain ⟨-, b1, o1, hao, cs, hcs, -, hc, he⟩ := (HR.out.keep (fun v x h => DkR.keep h (bAll hal hbel)) (bAll hal hbel)).elem hx
      have GI := hide (infoAt infoDk hcs)
      have G := hide hc
      have Hx := hide hx
      obtain ⟨o, ho⟩ : ∃ o, ordD y x = o := ⟨_, rfl⟩
      have cO := fun V (b : Below wr.heap.size wr V) => mapById_any _ _ y x V (DkR.keep he b) (DkR.keep (HX0.out) (bAll (bAll hal hbel) b))
      rw [ho] at cO
      have Ho : Hid (ordD y x = o) := ho
      subst hao
      clear hc hcs he hx ho hm
      by_cases hneg : o < 0
      · have hd1 : decide (o < 0) = true := by simpa using hneg
        go_wp2
        refine wp_region_noPanic ?_
        refine wp_region_held_drew (S := (fun w' => w'.heap[w.heap.size]? = some (.cells c0 57 (0, 0)) ∧ (∀ j u, cs[j]? = some u → w'.cell? ⟨b1, o1 + m * 7 + j, none⟩ = some u))) (by kernel_rfl) ?_ (fun hHeld => ?_)
        · exact ⟨bKeeps (bAll hbel (bDrew1 _)) B0.out, cellsKeep G.out (bDrew1 _)⟩
        refine wpAnyH_take (i := 0) (v := ?v1) rfl (by kernel_rfl) (by kernel_rfl) (by kernel_rfl) (fun _ _ _ h => h) (Or.inl ⟨by rfl, ?hy1⟩) (by assumption) ?rest1
        case hy1 => ((intro w hSw; (try dsimp only at hSw); (try simp only [List.getElem_toArray, List.getElem_cons_zero]); go_simp; first | done | (with_reducible rfl)))
        simp only [Act.put, List.getElem_toArray, List.getElem_cons_zero, List.setIfInBounds_toArray, List.set_cons_zero, List.set_cons_succ]
        refine wpAnyH_take (i := 1) (v := ?v2) rfl (by kernel_rfl) (by kernel_rfl) (by kernel_rfl) (fun _ _ _ h => h) (Or.inl ⟨by rfl, ?hy2⟩) (by assumption) ?rest2
        case hy2 => ((intro w hSw; (try dsimp only at hSw); (try simp only [List.getElem_toArray, List.getElem_cons_zero, List.getElem_cons_succ]); go_simp; first | done | (with_reducible rfl)))
        simp only [Act.put, List.getElem_toArray, List.getElem_cons_zero, List.getElem_cons_succ, List.setIfInBounds_toArray, List.set_cons_zero, List.set_cons_succ]
        refine wpAnyH_take (i := 2) (v := ?v3) rfl (by kernel_rfl) (by kernel_rfl) (by kernel_rfl) (fun _ _ _ h => h) (Or.inl ⟨by rfl, ?hy3⟩) (by assumption) ?rest3
        case hy3 => ((intro w hSw; (try dsimp only at hSw); (try simp only [List.getElem_toArray, List.getElem_cons_zero, List.getElem_cons_succ]); go_simp; first | done | (with_reducible rfl)))
        simp only [Act.put, List.getElem_toArray, List.getElem_cons_zero, List.getElem_cons_succ, List.setIfInBounds_toArray, List.set_cons_zero, List.set_cons_succ]
        refine wpAnyH_take (i := 3) (v := ?v4) rfl (by kernel_rfl) (by kernel_rfl) (by kernel_rfl) (fun _ _ _ h => h) (Or.inl ⟨by rfl, ?hy4⟩) (by assumption) ?rest4
        case hy4 => ((intro w hSw; (try dsimp only at hSw); (try simp only [List.getElem_toArray, List.getElem_cons_zero, List.getElem_cons_succ]); go_simp; first | done | (with_reducible rfl)))
        simp only [Act.put, List.getElem_toArray, List.getElem_cons_zero, List.getElem_cons_succ, List.setIfInBounds_toArray, List.set_cons_zero, List.set_cons_succ]
        refine wpAnyH_take (i := 4) (v := .agg cs) rfl (by kernel_rfl) (by kernel_rfl) (by kernel_rfl) (fun _ _ _ h => h) (yields_at rfl 57 (.tmp 23) rfl (b1) (o1 + m * 7) rfl cs _ (fun _ h => h.2) Try.underlying57 rfl GI.out) (by assumption) ?_
        simp only [Act.put, List.getElem_toArray, List.getElem_cons_zero, List.getElem_cons_succ, List.setIfInBounds_toArray, List.set_cons_zero, List.set_cons_succ]
        refine wpAnyH_take (i := 5) (v := .agg c0) rfl (by kernel_rfl) (by kernel_rfl) (by kernel_rfl) (fun _ _ _ h => h) (yields_row rfl 57 (.tmp 4) rfl (w.heap.size) rfl _ c0 _ (fun _ h => h.1) Try.underlying57 rfl GI0.out) (by assumption) ?_
        simp only [Act.put, List.getElem_toArray, List.getElem_cons_zero, List.getElem_cons_succ, List.setIfInBounds_toArray, List.set_cons_zero, List.set_cons_succ]
        refine wpAnyH_ready (rs := [6]) (by kernel_rfl) (by simp) ?_
        refine AllReadyH.cons rfl (fun K hK => ?_) AllReadyH.nil
        go_simp
        (go_at_call 38; refine (cO _ (bDrew1 _)).mono ?_; rintro e w2 ⟨rfl, hb2⟩; have hb2' : Below W.heap.size W w2 := bAll hbel (bAll (bDrew1 _) hb2); have hb3' := bAll (bDrew1 wr) hb2)
        refine hK.out _ _ ?_ (fun hHeld => ?_)
        · exact ⟨bKeeps hb2' B0.out, cellsKeep G.out hb3'⟩
        clear hK K
        refine wpAnyH_take (i := 7) (v := ?v5) rfl (by kernel_rfl) (by kernel_rfl) (by kernel_rfl) (fun _ _ _ h => h) (Or.inl ⟨by rfl, ?hy5⟩) (by assumption) ?rest5
        case hy5 => ((intro w hSw; (try dsimp only at hSw); (try simp only [List.getElem_toArray, List.getElem_cons_zero, List.getElem_cons_succ]); go_simp; first | done | (with_reducible rfl)))
        simp only [Act.put, List.getElem_toArray, List.getElem_cons_zero, List.getElem_cons_succ, List.setIfInBounds_toArray, List.set_cons_zero, List.set_cons_succ]
        refine wpAnyH_done (by kernel_rfl) ?_ _
        refine NoPanic.normal ?_
        go_wp2
        go_roundw
        case rel =>
          refine ⟨m + 1, h, by omega, hhn, by go_num, rfl, fun i z hi hz => ?_, HHi.out, hb2'⟩
          rcases (by omega : i < m ∨ i = m) with h1 | rfl
          · exact asc_belowD ordOkD HS.out h1 hz Hx.out (by rw [Ho.out]; exact hneg)
          · rw [Hx.out] at hz
            obtain rfl := Option.some.inj hz
            rw [Ho.out]
            exact hneg
        case measure => simp [intOf]; omega
      · have hd1 : decide (o < 0) = false := by simpa using hneg
        go_wp2
        refine wp_region_noPanic ?_
        refine wp_region_held_drew (S := (fun w' => w'.heap[w.heap.size]? = some (.cells c0 57 (0, 0)) ∧ (∀ j u, cs[j]? = some u → w'.cell? ⟨b1, o1 + m * 7 + j, none⟩ = some u))) (by kernel_rfl) ?_ (fun hHeld => ?_)
        · exact ⟨bKeeps (bAll hbel (bDrew1 _)) B0.out, cellsKeep G.out (bDrew1 _)⟩
        refine wpAnyH_take (i := 0) (v := ?v6) rfl (by kernel_rfl) (by kernel_rfl) (by kernel_rfl) (fun _ _ _ h => h) (Or.inl ⟨by rfl, ?hy6⟩) (by assumption) ?rest6
        case hy6 => ((intro w hSw; (try dsimp only at hSw); (try simp only [List.getElem_toArray, List.getElem_cons_zero]); go_simp; first | done | (with_reducible rfl)))
        simp only [Act.put, List.getElem_toArray, List.getElem_cons_zero, List.setIfInBounds_toArray, List.set_cons_zero, List.set_cons_succ]
        refine wpAnyH_take (i := 1) (v := ?v7) rfl (by kernel_rfl) (by kernel_rfl) (by kernel_rfl) (fun _ _ _ h => h) (Or.inl ⟨by rfl, ?hy7⟩) (by assumption) ?rest7
        case hy7 => ((intro w hSw; (try dsimp only at hSw); (try simp only [List.getElem_toArray, List.getElem_cons_zero, List.getElem_cons_succ]); go_simp; first | done | (with_reducible rfl)))
        simp only [Act.put, List.getElem_toArray, List.getElem_cons_zero, List.getElem_cons_succ, List.setIfInBounds_toArray, List.set_cons_zero, List.set_cons_succ]
        refine wpAnyH_take (i := 2) (v := ?v8) rfl (by kernel_rfl) (by kernel_rfl) (by kernel_rfl) (fun _ _ _ h => h) (Or.inl ⟨by rfl, ?hy8⟩) (by assumption) ?rest8
        case hy8 => ((intro w hSw; (try dsimp only at hSw); (try simp only [List.getElem_toArray, List.getElem_cons_zero, List.getElem_cons_succ]); go_simp; first | done | (with_reducible rfl)))
        simp only [Act.put, List.getElem_toArray, List.getElem_cons_zero, List.getElem_cons_succ, List.setIfInBounds_toArray, List.set_cons_zero, List.set_cons_succ]
        refine wpAnyH_take (i := 3) (v := ?v9) rfl (by kernel_rfl) (by kernel_rfl) (by kernel_rfl) (fun _ _ _ h => h) (Or.inl ⟨by rfl, ?hy9⟩) (by assumption) ?rest9
        case hy9 => ((intro w hSw; (try dsimp only at hSw); (try simp only [List.getElem_toArray, List.getElem_cons_zero, List.getElem_cons_succ]); go_simp; first | done | (with_reducible rfl)))
        simp only [Act.put, List.getElem_toArray, List.getElem_cons_zero, List.getElem_cons_succ, List.setIfInBounds_toArray, List.set_cons_zero, List.set_cons_succ]
        refine wpAnyH_take (i := 4) (v := .agg cs) rfl (by kernel_rfl) (by kernel_rfl) (by kernel_rfl) (fun _ _ _ h => h) (yields_at rfl 57 (.tmp 23) rfl (b1) (o1 + m * 7) rfl cs _ (fun _ h => h.2) Try.underlying57 rfl GI.out) (by assumption) ?_
        simp only [Act.put, List.getElem_toArray, List.getElem_cons_zero, List.getElem_cons_succ, List.setIfInBounds_toArray, List.set_cons_zero, List.set_cons_succ]
        refine wpAnyH_take (i := 5) (v := .agg c0) rfl (by kernel_rfl) (by kernel_rfl) (by kernel_rfl) (fun _ _ _ h => h) (yields_row rfl 57 (.tmp 4) rfl (w.heap.size) rfl _ c0 _ (fun _ h => h.1) Try.underlying57 rfl GI0.out) (by assumption) ?_
        simp only [Act.put, List.getElem_toArray, List.getElem_cons_zero, List.getElem_cons_succ, List.setIfInBounds_toArray, List.set_cons_zero, List.set_cons_succ]
        refine wpAnyH_ready (rs := [6]) (by kernel_rfl) (by simp) ?_
        refine AllReadyH.cons rfl (fun K hK => ?_) AllReadyH.nil
        go_simp
        (go_at_call 38; refine (cO _ (bDrew1 _)).mono ?_; rintro e w2 ⟨rfl, hb2⟩; have hb2' : Below W.heap.size W w2 := bAll hbel (bAll (bDrew1 _) hb2); have hb3' := bAll (bDrew1 wr) hb2)
        refine hK.out _ _ ?_ (fun hHeld => ?_)
        · exact ⟨bKeeps hb2' B0.out, cellsKeep G.out hb3'⟩
        clear hK K
        refine wpAnyH_take (i := 7) (v := ?v10) rfl (by kernel_rfl) (by kernel_rfl) (by kernel_rfl) (fun _ _ _ h => h) (Or.inl ⟨by rfl, ?hy10⟩) (by assumption) ?rest10
        case hy10 => ((intro w hSw; (try dsimp only at hSw); (try simp only [List.getElem_toArray, List.getElem_cons_zero, List.getElem_cons_succ]); go_simp; first | done | (with_reducible rfl)))
        simp only [Act.put, List.getElem_toArray, List.getElem_cons_zero, List.getElem_cons_succ, List.setIfInBounds_toArray, List.set_cons_zero, List.set_cons_succ]
        refine wpAnyH_done (by kernel_rfl) ?_ _
        refine NoPanic.normal ?_
        go_wp2
        go_roundw
        case rel =>
          refine ⟨l, m, hm1, by omega, rfl, rfl, HLo.out, fun i z hi hz => ?_, hb2'⟩
          rcases (by omega : m < i ∨ i = m) with h1 | rfl
          · exact Int.le_of_lt (asc_aboveD ordOkD HS.out h1 hz Hx.out (by rw [Ho.out]; omega))
          · rw [Hx.out] at hz
            obtain rfl := Option.some.inj hz
            rw [Ho.out]
            omega
        case measure => simp [intOf]; omega
    · obtain rfl : l = h := by omega
      by_cases hln : l < n
      · obtain ⟨y, hx⟩ := getAt xs l (by have := Hl.out; omega)
        obtain ⟨-, b1, o1, hao, cs, hcs, -, hc, he⟩ := (HR.out.keep (fun v x h => DkR.keep h (bAll hal hbel)) (bAll hal hbel)).elem hx
        have GI := hide (infoAt infoDk hcs)
        have G := hide hc
        have Hx := hide hx
        obtain ⟨o, ho⟩ : ∃ o, ordD y x = o := ⟨_, rfl⟩
        have cO := fun V (b : Below wr.heap.size wr V) => mapById_any _ _ y x V (DkR.keep he b) (DkR.keep (HX0.out) (bAll (bAll hal hbel) b))
        rw [ho] at cO
        have Ho : Hid (ordD y x = o) := ho
        subst hao
        have hli : (l : Int) < (n : Int) := by omega
        have hd1 : decide ((l : Int) < (n : Int)) = true := by simpa using hli
        clear hc hcs he hx ho
        go_wp2
        refine wp_region_noPanic ?_
        refine wp_region_held_drew (S := (fun w' => w'.heap[w.heap.size]? = some (.cells c0 57 (0, 0)) ∧ (∀ j u, cs[j]? = some u → w'.cell? ⟨b1, o1 + l * 7 + j, none⟩ = some u))) (by kernel_rfl) ?_ (fun hHeld => ?_)
        · exact ⟨bKeeps (bAll hbel (bDrew1 _)) B0.out, cellsKeep G.out (bDrew1 _)⟩
        refine wpAnyH_take (i := 0) (v := ?v11) rfl (by kernel_rfl) (by kernel_rfl) (by kernel_rfl) (fun _ _ _ h => h) (Or.inl ⟨by rfl, ?hy11⟩) (by assumption) ?rest11
        case hy11 => ((intro w hSw; (try dsimp only at hSw); (try simp only [List.getElem_toArray, List.getElem_cons_zero]); go_simp; first | done | (with_reducible rfl)))
        simp only [Act.put, List.getElem_toArray, List.getElem_cons_zero, List.setIfInBounds_toArray, List.set_cons_zero, List.set_cons_succ]
        refine wpAnyH_take (i := 1) (v := ?v12) rfl (by kernel_rfl) (by kernel_rfl) (by kernel_rfl) (fun _ _ _ h => h) (Or.inl ⟨by rfl, ?hy12⟩) (by assumption) ?rest12
        case hy12 => ((intro w hSw; (try dsimp only at hSw); (try simp only [List.getElem_toArray, List.getElem_cons_zero, List.getElem_cons_succ]); go_simp; first | done | (with_reducible rfl)))
        simp only [Act.put, List.getElem_toArray, List.getElem_cons_zero, List.getElem_cons_succ, List.setIfInBounds_toArray, List.set_cons_zero, List.set_cons_succ]
        refine wpAnyH_take (i := 2) (v := ?v13) rfl (by kernel_rfl) (by kernel_rfl) (by kernel_rfl) (fun _ _ _ h => h) (Or.inl ⟨by rfl, ?hy13⟩) (by assumption) ?rest13
        case hy13 => ((intro w hSw; (try dsimp only at hSw); (try simp only [List.getElem_toArray, List.getElem_cons_zero, List.getElem_cons_succ]); go_simp; first | done | (with_reducible rfl)))
        simp only [Act.put, List.getElem_toArray, List.getElem_cons_zero, List.getElem_cons_succ, List.setIfInBounds_toArray, List.set_cons_zero, List.set_cons_succ]
        refine wpAnyH_take (i := 3) (v := ?v14) rfl (by kernel_rfl) (by kernel_rfl) (by kernel_rfl) (fun _ _ _ h => h) (Or.inl ⟨by rfl, ?hy14⟩) (by assumption) ?rest14
        case hy14 => ((intro w hSw; (try dsimp only at hSw); (try simp only [List.getElem_toArray, List.getElem_cons_zero, List.getElem_cons_succ]); go_simp; first | done | (with_reducible rfl)))
        simp only [Act.put, List.getElem_toArray, List.getElem_cons_zero, List.getElem_cons_succ, List.setIfInBounds_toArray, List.set_cons_zero, List.set_cons_succ]
        refine wpAnyH_take (i := 4) (v := ?v15) rfl (by kernel_rfl) (by kernel_rfl) (by kernel_rfl) (fun _ _ _ h => h) (Or.inl ⟨by rfl, ?hy15⟩) (by assumption) ?rest15
        case hy15 => ((intro w hSw; (try dsimp only at hSw); (try simp only [List.getElem_toArray, List.getElem_cons_zero, List.getElem_cons_succ]); go_simp; first | done | (with_reducible rfl)))
        simp only [Act.put, List.getElem_toArray, List.getElem_cons_zero, List.getElem_cons_succ, List.setIfInBounds_toArray, List.set_cons_zero, List.set_cons_succ]
        refine wpAnyH_take (i := 5) (v := ?v16) rfl (by kernel_rfl) (by kernel_rfl) (by kernel_rfl) (fun _ _ _ h => h) (Or.inl ⟨by rfl, ?hy16⟩) (by assumption) ?rest16
        case hy16 => ((intro w hSw; (try dsimp only at hSw); (try simp only [List.getElem_toArray, List.getElem_cons_zero, List.getElem_cons_succ]); go_simp; first | done | (with_reducible rfl)))
        simp only [Act.put, List.getElem_toArray, List.getElem_cons_zero, List.getElem_cons_succ, List.setIfInBounds_toArray, List.set_cons_zero, List.set_cons_succ]
        refine wpAnyH_take (i := 6) (v := ?v17) rfl (by kernel_rfl) (by kernel_rfl) (by kernel_rfl) (fun _ _ _ h => h) (Or.inl ⟨by rfl, ?hy17⟩) (by assumption) ?rest17
        case hy17 => ((intro w hSw; (try dsimp only at hSw); (try simp only [List.getElem_toArray, List.getElem_cons_zero, List.getElem_cons_succ]); go_simp; first | done | (with_reducible rfl)))
        simp only [Act.put, List.getElem_toArray, List.getElem_cons_zero, List.getElem_cons_succ, List.setIfInBounds_toArray, List.set_cons_zero, List.set_cons_succ]
        refine wpAnyH_take (i := 7) (v := ?v18) rfl (by kernel_rfl) (by kernel_rfl) (by kernel_rfl) (fun _ _ _ h => h) (Or.inl ⟨by rfl, ?hy18⟩) (by assumption) ?rest18
        case hy18 => ((intro w hSw; (try dsimp only at hSw); (try simp only [List.getElem_toArray, List.getElem_cons_zero, List.getElem_cons_succ]); go_simp; first | done | (with_reducible rfl)))
        simp only [Act.put, List.getElem_toArray, List.getElem_cons_zero, List.getElem_cons_succ, List.setIfInBounds_toArray, List.set_cons_zero, List.set_cons_succ]
        refine wpAnyH_take (i := 8) (v := ?v19) rfl (by kernel_rfl) (by kernel_rfl) (by kernel_rfl) (fun _ _ _ h => h) (Or.inl ⟨by rfl, ?hy19⟩) (by assumption) ?rest19
        case hy19 => ((intro w hSw; (try dsimp only at hSw); (try simp only [List.getElem_toArray, List.getElem_cons_zero, List.getElem_cons_succ]); go_simp; first | done | (with_reducible rfl)))
        simp only [Act.put, List.getElem_toArray, List.getElem_cons_zero, List.getElem_cons_succ, List.setIfInBounds_toArray, List.set_cons_zero, List.set_cons_succ]
        refine wpAnyH_take (i := 9) (v := ?v20) rfl (by kernel_rfl) (by kernel_rfl) (by kernel_rfl) (fun _ _ _ h => h) (Or.inl ⟨by rfl, ?hy20⟩) (by assumption) ?rest20
        case hy20 => ((intro w hSw; (try dsimp only at hSw); (try simp only [List.getElem_toArray, List.getElem_cons_zero, List.getElem_cons_succ]); go_simp; first | done | (with_reducible rfl)))
        simp only [Act.put, List.getElem_toArray, List.getElem_cons_zero, List.getElem_cons_succ, List.setIfInBounds_toArray, List.set_cons_zero, List.set_cons_succ]
        refine wpAnyH_take (i := 10) (v := .agg cs) rfl (by kernel_rfl) (by kernel_rfl) (by kernel_rfl) (fun _ _ _ h => h) (yields_at rfl 57 (.tmp 40) rfl (b1) (o1 + l * 7) rfl cs _ (fun _ h => h.2) Try.underlying57 rfl GI.out) (by assumption) ?_
        simp only [Act.put, List.getElem_toArray, List.getElem_cons_zero, List.getElem_cons_succ, List.setIfInBounds_toArray, List.set_cons_zero, List.set_cons_succ]
        refine wpAnyH_take (i := 11) (v := .agg c0) rfl (by kernel_rfl) (by kernel_rfl) (by kernel_rfl) (fun _ _ _ h => h) (yields_row rfl 57 (.tmp 4) rfl (w.heap.size) rfl _ c0 _ (fun _ h => h.1) Try.underlying57 rfl GI0.out) (by assumption) ?_
        simp only [Act.put, List.getElem_toArray, List.getElem_cons_zero, List.getElem_cons_succ, List.setIfInBounds_toArray, List.set_cons_zero, List.set_cons_succ]
        refine wpAnyH_ready (rs := [12]) (by kernel_rfl) (by simp) ?_
        refine AllReadyH.cons rfl (fun K hK => ?_) AllReadyH.nil
        go_simp
        (go_at_call 38; refine (cO _ (bDrew1 _)).mono ?_; rintro e w2 ⟨rfl, hb2⟩; have hb2' : Below W.heap.size W w2 := bAll hbel (bAll (bDrew1 _) hb2); have hb3' := bAll (bDrew1 wr) hb2)
        refine hK.out _ _ ?_ (fun hHeld => ?_)
        · exact ⟨bKeeps hb2' B0.out, cellsKeep G.out hb3'⟩
        clear hK K
        refine wpAnyH_take (i := 13) (v := ?v21) rfl (by kernel_rfl) (by kernel_rfl) (by kernel_rfl) (fun _ _ _ h => h) (Or.inl ⟨by rfl, ?hy21⟩) (by assumption) ?rest21
        case hy21 => ((intro w hSw; (try dsimp only at hSw); (try simp only [List.getElem_toArray, List.getElem_cons_zero, List.getElem_cons_succ]); go_simp; first | done | (with_reducible rfl)))
        simp only [Act.put, List.getElem_toArray, List.getElem_cons_zero, List.getElem_cons_succ, List.setIfInBounds_toArray, List.set_cons_zero, List.set_cons_succ]
        refine wpAnyH_take (i := 14) (v := ?v22) rfl (by kernel_rfl) (by kernel_rfl) (by kernel_rfl) (fun _ _ _ h => h) (Or.inl ⟨by rfl, ?hy22⟩) (by assumption) ?rest22
        case hy22 => ((intro w hSw; (try dsimp only at hSw); (try simp only [List.getElem_toArray, List.getElem_cons_zero, List.getElem_cons_succ]); go_simp; first | done | (with_reducible rfl)))
        simp only [Act.put, List.getElem_toArray, List.getElem_cons_zero, List.getElem_cons_succ, List.setIfInBounds_toArray, List.set_cons_zero, List.set_cons_succ]
        refine wpAnyH_take (i := 15) (v := ?v23) rfl (by kernel_rfl) (by kernel_rfl) (by kernel_rfl) (fun _ _ _ h => h) (Or.inl ⟨by rfl, ?hy23⟩) (by assumption) ?rest23
        case hy23 => ((intro w hSw; (try dsimp only at hSw); (try simp only [List.getElem_toArray, List.getElem_cons_zero, List.getElem_cons_succ]); go_simp; first | done | (with_reducible rfl)))
        simp only [Act.put, List.getElem_toArray, List.getElem_cons_zero, List.getElem_cons_succ, List.setIfInBounds_toArray, List.set_cons_zero, List.set_cons_succ]
        refine wpAnyH_take (i := 16) (v := ?v24) rfl (by kernel_rfl) (by kernel_rfl) (by kernel_rfl) (fun _ _ _ h => h) (Or.inl ⟨by rfl, ?hy24⟩) (by assumption) ?rest24
        case hy24 => ((intro w hSw; (try dsimp only at hSw); (try simp only [List.getElem_toArray, List.getElem_cons_zero, List.getElem_cons_succ]); go_simp; first | done | (with_reducible rfl)))
        simp only [Act.put, List.getElem_toArray, List.getElem_cons_zero, List.getElem_cons_succ, List.setIfInBounds_toArray, List.set_cons_zero, List.set_cons_succ]
        refine wpAnyH_done (by kernel_rfl) ?_ _
        refine NoPanic.normal ?_
        go_wp2
        refine bodyPost_ret (v := .tuple #[.int .i64 l, .bool (o == 0)]) (by simp [results, Try.results65, go_sem]) rfl ⟨l, _, rfl, isAt_of (by rw [Hl.out]; omega) HLo.out HHi.out ?_, bAll hal hb2'⟩
        rw [beq_iff_eq]
        constructor
        · intro h0
          exact ⟨_, Hx.out, by rw [Ho.out]; exact h0⟩
        · rintro ⟨z, hz, h0⟩
          rw [Hx.out] at hz
          obtain rfl := Option.some.inj hz
          rw [Ho.out] at h0
          exact h0
      · have hd1 : decide ((l : Int) < (n : Int)) = false := by simp; omega
        go_wp2
        refine wp_region_noPanic ?_
        refine wp_region_held_drew (S := (fun _ => True)) (by kernel_rfl) ?_ (fun hHeld => ?_)
        · trivial
        refine wpAnyH_take (i := 0) (v := ?v25) rfl (by kernel_rfl) (by kernel_rfl) (by kernel_rfl) (fun _ _ _ h => h) (Or.inl ⟨by rfl, ?hy25⟩) (by assumption) ?rest25
        case hy25 => ((intro w hSw; (try dsimp only at hSw); (try simp only [List.getElem_toArray, List.getElem_cons_zero]); go_simp; first | done | (with_reducible rfl)))
        simp only [Act.put, List.getElem_toArray, List.getElem_cons_zero, List.setIfInBounds_toArray, List.set_cons_zero, List.set_cons_succ]
        refine wpAnyH_take (i := 1) (v := ?v26) rfl (by kernel_rfl) (by kernel_rfl) (by kernel_rfl) (fun _ _ _ h => h) (Or.inl ⟨by rfl, ?hy26⟩) (by assumption) ?rest26
        case hy26 => ((intro w hSw; (try dsimp only at hSw); (try simp only [List.getElem_toArray, List.getElem_cons_zero, List.getElem_cons_succ]); go_simp; first | done | (with_reducible rfl)))
        simp only [Act.put, List.getElem_toArray, List.getElem_cons_zero, List.getElem_cons_succ, List.setIfInBounds_toArray, List.set_cons_zero, List.set_cons_succ]
        refine wpAnyH_take (i := 2) (v := ?v27) rfl (by kernel_rfl) (by kernel_rfl) (by kernel_rfl) (fun _ _ _ h => h) (Or.inl ⟨by rfl, ?hy27⟩) (by assumption) ?rest27
        case hy27 => ((intro w hSw; (try dsimp only at hSw); (try simp only [List.getElem_toArray, List.getElem_cons_zero, List.getElem_cons_succ]); go_simp; first | done | (with_reducible rfl)))
        simp only [Act.put, List.getElem_toArray, List.getElem_cons_zero, List.getElem_cons_succ, List.setIfInBounds_toArray, List.set_cons_zero, List.set_cons_succ]
        refine wpAnyH_take (i := 3) (v := ?v28) rfl (by kernel_rfl) (by kernel_rfl) (by kernel_rfl) (fun _ _ _ h => h) (Or.inl ⟨by rfl, ?hy28⟩) (by assumption) ?rest28
        case hy28 => ((intro w hSw; (try dsimp only at hSw); (try simp only [List.getElem_toArray, List.getElem_cons_zero, List.getElem_cons_succ]); go_simp; first | done | (with_reducible rfl)))
        simp only [Act.put, List.getElem_toArray, List.getElem_cons_zero, List.getElem_cons_succ, List.setIfInBounds_toArray, List.set_cons_zero, List.set_cons_succ]
        refine wpAnyH_take (i := 4) (v := ?v29) rfl (by kernel_rfl) (by kernel_rfl) (by kernel_rfl) (fun _ _ _ h => h) (Or.inl ⟨by rfl, ?hy29⟩) (by assumption) ?rest29
        case hy29 => ((intro w hSw; (try dsimp only at hSw); (try simp only [List.getElem_toArray, List.getElem_cons_zero, List.getElem_cons_succ]); go_simp; first | done | (with_reducible rfl)))
        simp only [Act.put, List.getElem_toArray, List.getElem_cons_zero, List.getElem_cons_succ, List.setIfInBounds_toArray, List.set_cons_zero, List.set_cons_succ]
        refine wpAnyH_take (i := 5) (v := ?v30) rfl (by kernel_rfl) (by kernel_rfl) (by kernel_rfl) (fun _ _ _ h => h) (Or.inl ⟨by rfl, ?hy30⟩) (by assumption) ?rest30
        case hy30 => ((intro w hSw; (try dsimp only at hSw); (try simp only [List.getElem_toArray, List.getElem_cons_zero, List.getElem_cons_succ]); go_simp; first | done | (with_reducible rfl)))
        simp only [Act.put, List.getElem_toArray, List.getElem_cons_zero, List.getElem_cons_succ, List.setIfInBounds_toArray, List.set_cons_zero, List.set_cons_succ]
        refine wpAnyH_take (i := 6) (v := undef) rfl (by kernel_rfl) (by kernel_rfl) (by kernel_rfl) (fun _ _ _ h => h) (Or.inr ⟨by rfl, rfl⟩) (by assumption) ?_
        simp only [Act.put, List.getElem_toArray, List.getElem_cons_zero, List.getElem_cons_succ, List.setIfInBounds_toArray, List.set_cons_zero, List.set_cons_succ]
        refine wpAnyH_take (i := 7) (v := undef) rfl (by kernel_rfl) (by kernel_rfl) (by kernel_rfl) (fun _ _ _ h => h) (Or.inr ⟨by rfl, rfl⟩) (by assumption) ?_
        simp only [Act.put, List.getElem_toArray, List.getElem_cons_zero, List.getElem_cons_succ, List.setIfInBounds_toArray, List.set_cons_zero, List.set_cons_succ]
        refine wpAnyH_take (i := 8) (v := undef) rfl (by kernel_rfl) (by kernel_rfl) (by kernel_rfl) (fun _ _ _ h => h) (Or.inr ⟨by rfl, rfl⟩) (by assumption) ?_
        simp only [Act.put, List.getElem_toArray, List.getElem_cons_zero, List.getElem_cons_succ, List.setIfInBounds_toArray, List.set_cons_zero, List.set_cons_succ]
        refine wpAnyH_take (i := 9) (v := undef) rfl (by kernel_rfl) (by kernel_rfl) (by kernel_rfl) (fun _ _ _ h => h) (Or.inr ⟨by rfl, rfl⟩) (by assumption) ?_
        simp only [Act.put, List.getElem_toArray, List.getElem_cons_zero, List.getElem_cons_succ, List.setIfInBounds_toArray, List.set_cons_zero, List.set_cons_succ]
        refine wpAnyH_take (i := 10) (v := undef) rfl (by kernel_rfl) (by kernel_rfl) (by kernel_rfl) (fun _ _ _ h => h) (Or.inr ⟨by rfl, rfl⟩) (by assumption) ?_
        simp only [Act.put, List.getElem_toArray, List.getElem_cons_zero, List.getElem_cons_succ, List.setIfInBounds_toArray, List.set_cons_zero, List.set_cons_succ]
        refine wpAnyH_take (i := 11) (v := undef) rfl (by kernel_rfl) (by kernel_rfl) (by kernel_rfl) (fun _ _ _ h => h) (Or.inr ⟨by rfl, rfl⟩) (by assumption) ?_
        simp only [Act.put, List.getElem_toArray, List.getElem_cons_zero, List.getElem_cons_succ, List.setIfInBounds_toArray, List.set_cons_zero, List.set_cons_succ]
        refine wpAnyH_take (i := 12) (v := undef) rfl (by kernel_rfl) (by kernel_rfl) (by kernel_rfl) (fun _ _ _ h => h) (Or.inr ⟨by rfl, rfl⟩) (by assumption) ?_
        simp only [Act.put, List.getElem_toArray, List.getElem_cons_zero, List.getElem_cons_succ, List.setIfInBounds_toArray, List.set_cons_zero, List.set_cons_succ]
        refine wpAnyH_take (i := 13) (v := undef) rfl (by kernel_rfl) (by kernel_rfl) (by kernel_rfl) (fun _ _ _ h => h) (Or.inr ⟨by rfl, rfl⟩) (by assumption) ?_
        simp only [Act.put, List.getElem_toArray, List.getElem_cons_zero, List.getElem_cons_succ, List.setIfInBounds_toArray, List.set_cons_zero, List.set_cons_succ]
        refine wpAnyH_take (i := 14) (v := ?v31) rfl (by kernel_rfl) (by kernel_rfl) (by kernel_rfl) (fun _ _ _ h => h) (Or.inl ⟨by rfl, ?hy31⟩) (by assumption) ?rest31
        case hy31 => ((intro w hSw; (try dsimp only at hSw); (try simp only [List.getElem_toArray, List.getElem_cons_zero, List.getElem_cons_succ]); go_simp; first | done | (with_reducible rfl)))
        simp only [Act.put, List.getElem_toArray, List.getElem_cons_zero, List.getElem_cons_succ, List.setIfInBounds_toArray, List.set_cons_zero, List.set_cons_succ]
        refine wpAnyH_take (i := 15) (v := ?v32) rfl (by kernel_rfl) (by kernel_rfl) (by kernel_rfl) (fun _ _ _ h => h) (Or.inl ⟨by rfl, ?hy32⟩) (by assumption) ?rest32
        case hy32 => ((intro w hSw; (try dsimp only at hSw); (try simp only [List.getElem_toArray, List.getElem_cons_zero, List.getElem_cons_succ]); go_simp; first | done | (with_reducible rfl)))
        simp only [Act.put, List.getElem_toArray, List.getElem_cons_zero, List.getElem_cons_succ, List.setIfInBounds_toArray, List.set_cons_zero, List.set_cons_succ]
        refine wpAnyH_take (i := 16) (v := ?v33) rfl (by kernel_rfl) (by kernel_rfl) (by kernel_rfl) (fun _ _ _ h => h) (Or.inl ⟨by rfl, ?hy33⟩) (by assumption) ?rest33
        case hy33 => ((intro w hSw; (try dsimp only at hSw); (try simp only [List.getElem_toArray, List.getElem_cons_zero, List.getElem_cons_succ]); go_simp; first | done | (with_reducible rfl)))
        simp only [Act.put, List.getElem_toArray, List.getElem_cons_zero, List.getElem_cons_succ, List.setIfInBounds_toArray, List.set_cons_zero, List.set_cons_succ]
        refine wpAnyH_done (by kernel_rfl) ?_ _
        refine NoPanic.normal ?_
        go_wp2
        refine bodyPost_ret (v := .tuple #[.int .i64 l, .bool false]) (by simp [results, Try.results65, go_sem]) rfl ⟨l, _, rfl, isAt_of (by rw [Hl.out]; omega) HLo.out HHi.out ?_, bAll hal (bAll hbel (bDrew1 _))⟩
        constructor
        · intro h0
          cases h0
        · rintro ⟨z, hz, h0⟩
          have := (List.getElem?_eq_some_iff.1 hz).1
          have := Hl.out
          omega

/-- A disk of a number, and nothing else. -/
def idD (n : Int) : Dk := ⟨n, 0, 0, 0, 0, 0, []⟩

set_option maxRecDepth 100000 in
set_option maxHeartbeats 8000000 in
theorem find_any (B : Nat) (sl sv nx : Int) (v0 u1 u2 : Value) (xs : List Dk) (n : Int) (w : World) (hB : w.heap[B]? = some (.cells #[.int .i64 sl, .int .i64 sv, .int .i64 nx, v0, u1, u2] 26 (0, 0))) (hr : RowE w 7 DkR v0 xs) (hn : xs.length ≤ 60) (hs : Asc ordD xs) :
    Calls Try.prog 59 #[.pointer (some ⟨B, 0, none⟩), .int .i64 n] w fun e w' => ∃ (p : Nat) (there : Bool), e = .returned (.tuple #[.int .i64 p, .bool there]) ∧ IsAt ordD xs (idD n) p there ∧ Below w.heap.size w w' := by
  have x3 : w.cell? ⟨B, 3, none⟩ = some v0 := boxAt hB 3
  have cF := findD_any v0 (.agg #[.int .i64 n, .int .i64 0, .int .i64 0, .int .i64 0, .int .i64 0, .int .i64 0, .slice none 0 0]) xs (idD n) w hr ⟨none, 0, rfl, Nat.le_refl _, RowR.nil _ _⟩ hn hs
  clear hB hr
  go_enter Try.func59, Try.ntmps59
  go_wp2_with fail
  refine cF.mono ?_
  rintro e w1 ⟨p, there, rfl, hp, b1⟩
  go_wp2
  exact bodyPost_ret (v := .tuple #[.int .i64 p, .bool there]) (by simp [results, Try.results59, go_sem]) rfl ⟨p, there, rfl, hp, b1⟩

/-- What is wrong with a block of disks. -/
def wrongD (xs : List Dk) (disk block epoch : Int) (wr : Bool) : Int :=
  match xs.find? (fun d => decide (d.i = disk)) with
  | none => 1
  | some d => if inI block 0 (d.z - 1) = false then 2 else if wr = false ∧ epoch ≠ 0 ∧ inI epoch 1 (d.ep - 1) = false then 3 else 0
theorem find_here {xs : List Dk} {k : Nat} {d : Dk} (hs : Asc ordD xs) (hk : xs[k]? = some d) : xs.find? (fun y => decide (y.i = d.i)) = some d := by
  obtain ⟨hl, e⟩ := List.getElem?_eq_some_iff.1 hk
  rw [List.find?_eq_some_iff_getElem]
  refine ⟨by simp, k, hl, e, fun j hj => ?_⟩
  have := List.pairwise_iff_getElem.1 hs j k (by omega) hl hj
  rw [e, ordD, cmpI_neg] at this
  simp
  omega
theorem find_none' {xs : List Dk} {n : Int} (h : ∀ y ∈ xs, y.i ≠ n) : xs.find? (fun y => decide (y.i = n)) = none := by
  rw [List.find?_eq_none]
  intro y hy
  simpa using h y hy
/-- What the program's find says. -/
theorem isAt_find {xs : List Dk} {n : Int} {p : Nat} {there : Bool} (hs : Asc ordD xs) (h : IsAt ordD xs (idD n) p there) :
    (there = true ∧ ∃ d, xs[p]? = some d ∧ d.i = n ∧ xs.find? (fun y => decide (y.i = n)) = some d) ∨ (there = false ∧ xs.find? (fun y => decide (y.i = n)) = none) := by
  cases there with
  | true =>
    obtain ⟨d, hd, h0⟩ := h.th.1 rfl
    have e : d.i = n := by rw [ordD, cmpI_zero] at h0; exact h0
    refine .inl ⟨rfl, d, hd, e, ?_⟩
    rw [← e]
    exact find_here hs hd
  | false =>
    refine .inr ⟨rfl, find_none' fun y hy e => ?_⟩
    have h0 : ordD y (idD n) = 0 := by rw [ordD, cmpI_zero]; exact e
    have ht : y ∈ xs.take p ++ xs.drop p := by rw [List.take_append_drop]; exact hy
    rcases List.mem_append.1 ht with ht | ht
    · have := h.lo y ht
      omega
    · rcases hl : xs.drop p with _ | ⟨z, r⟩
      · rw [hl] at ht
        simp at ht
      · have hz : xs[p]? = some z := by
          have := List.getElem?_drop (xs := xs) (i := p) (j := 0)
          rw [hl] at this
          simpa using this.symm
        have hz0 : ordD z (idD n) ≠ 0 := fun e => by have := h.th.2 ⟨z, hz, e⟩; cases this
        have hz1 := h.hi z (by rw [hl]; simp)
        rw [hl] at ht
        rcases List.mem_cons.1 ht with rfl | hr
        · exact hz0 h0
        · have hd : Asc ordD (z :: r) := by rw [← hl]; exact hs.sublist (List.drop_sublist p xs)
          have := asc_tail_above ordOkD hd hz1 y hr
          omega

set_option maxRecDepth 100000 in
set_option maxHeartbeats 8000000 in
theorem wrong_any (B : Nat) (sl sv nx : Int) (v0 u1 u2 : Value) (xs : List Dk) (n block epoch : Int) (wr : Bool) (w : World) (hB : w.heap[B]? = some (.cells #[.int .i64 sl, .int .i64 sv, .int .i64 nx, v0, u1, u2] 26 (0, 0))) (hr : RowE w 7 DkR v0 xs) (hn : xs.length ≤ 60) (hs : Asc ordD xs) (hfit : ∀ d ∈ xs, 1 ≤ d.z ∧ d.z ≤ 8 ∧ 1 ≤ d.ep ∧ d.ep ≤ 99999) :
    Calls Try.prog 45 #[.pointer (some ⟨B, 0, none⟩), .int .i64 n, .int .i64 block, .int .i64 epoch, .bool wr] w fun e w' => e = .returned (.int .i64 (wrongD xs n block epoch wr)) ∧ Below w.heap.size w w' := by
  obtain ⟨ao, ca, rfl⟩ := hr.shape
  have cF := find_any B sl sv nx _ u1 u2 xs n w hB hr hn hs
  have HB := hide hB
  have HR := hide hr
  have HS := hide hs
  have HF := hide hfit
  clear hB hr hs hfit
  obtain ⟨Q, HQ⟩ : ∃ Q, Hid (wrongD xs n block epoch wr = Q) := ⟨_, rfl⟩
  rw [HQ.out]
  go_enter Try.func45, Try.ntmps45
  go_wp2_with fail
  refine cF.mono ?_
  rintro e w1 ⟨p, there, rfl, hp, b1⟩
  rcases isAt_find HS.out hp with ⟨rfl, d, hd, hdn, hfd⟩ | ⟨rfl, hfd⟩
  case inr =>
    have hq : Q = 1 := by rw [← HQ.out, wrongD, hfd]
    clear cF hp
    go_wp2
    go_ret
    exact ⟨by rw [hq]; rfl, b1⟩
  have hqd : Hid (Q = if inI block 0 (d.z - 1) = false then 2 else if wr = false ∧ epoch ≠ 0 ∧ inI epoch 1 (d.ep - 1) = false then 3 else 0) := by show _ = _; rw [← HQ.out, wrongD, hfd]
  obtain ⟨hz1, hz2, he1, he2⟩ := HF.out d (List.mem_of_getElem? hd)
  have hpl := (List.getElem?_eq_some_iff.1 hd).1
  have hpi : (p : Int) < (xs.length : Int) := by omega
  obtain ⟨-, bb, oo, hao, cs, -, -, hc, hdr⟩ := (HR.out.keep (fun v x h => DkR.keep h b1) b1).elem hd
  subst hao
  obtain ⟨yo, yc, ecs, -, -⟩ := hdr
  injection ecs with ecs
  rw [ecs] at hc
  have f1 : w1.cell? ⟨bb, oo + p * 7 + 1, none⟩ = some (.int .i64 d.z) := hc 1 _ rfl
  have f2 : w1.cell? ⟨bb, oo + p * 7 + 2, none⟩ = some (.int .i64 d.ep) := hc 2 _ rfl
  have x3 : w1.cell? ⟨B, 3, none⟩ = some (.slice (some ⟨bb, oo, none⟩) xs.length ca) := boxAt (bKeeps b1 HB.out) 3
  have hw1 : IntKind.i64.wrap (d.z - 1) = d.z - 1 := wrapI _ (by omega) (by omega)
  have hw2 : IntKind.i64.wrap (d.ep - 1) = d.ep - 1 := wrapI _ (by omega) (by omega)
  have c1 := fun w => blkWithin_any block 0 (d.z - 1) w
  have c2 := fun w => blkWithin_any epoch 1 (d.ep - 1) w
  obtain ⟨i1, h1⟩ : ∃ i, inI block 0 (d.z - 1) = i := ⟨_, rfl⟩
  obtain ⟨i2, h2⟩ : ∃ i, inI epoch 1 (d.ep - 1) = i := ⟨_, rfl⟩
  rw [h1] at c1
  rw [h2] at c2
  have K1 := hide h1
  have K2 := hide h2
  clear cF hp hd hfd hc ecs hdn h1 h2
  go_wp2_with fail
  refine (c1 _).mono ?_
  rintro e w' ⟨rfl, hw⟩
  rw [hw]
  clear hw w'
  cases i1 with
  | false =>
    have hq : Q = 2 := by rw [hqd.out, if_pos K1.out]
    go_wp2
    go_ret
    exact ⟨by rw [hq]; rfl, b1⟩
  | true =>
  cases wr with
  | true =>
    have hq : Q = 0 := by rw [hqd.out, K1.out]; simp
    go_wp2
    go_ret
    exact ⟨by rw [hq]; rfl, b1⟩
  | false =>
  by_cases he0 : epoch = 0
  · have e0 : (epoch != 0) = false := by simpa using he0
    have hq : Q = 0 := by rw [hqd.out, K1.out]; simp [he0]
    clear he0
    go_wp2
    go_ret
    exact ⟨by rw [hq]; rfl, b1⟩
  · have e0 : (epoch != 0) = true := by simpa using he0
    have HE := hide he0
    clear he0
    go_wp2_with fail
    refine (c2 _).mono ?_
    rintro e w' ⟨rfl, hw⟩
    rw [hw]
    clear hw w'
    cases i2 with
    | false =>
      have hq : Q = 3 := by rw [hqd.out, K1.out, K2.out]; simp [HE.out]
      go_wp2
      go_ret
      exact ⟨by rw [hq]; rfl, b1⟩
    | true =>
      have hq : Q = 0 := by rw [hqd.out, K1.out, K2.out]; simp
      go_wp2
      go_ret
      exact ⟨by rw [hq]; rfl, b1⟩

end Go.Proofs.Ythdnnmmaalgpaaa

/- MapJudge of both sides: contracts; no statement of the seat is proved here. (Written by wip/tools/mkjudge.py.) -/
namespace Go.Proofs.Ythdnnmmaalgpaaa
open Go.RowKit

theorem okMs_parts {c : Ms} (h : okMs c = true) : okL 4 (fitD c.nx) ordD c.ds = true ∧ c.vs.length = 3 ∧ okL 4 fitE ordE c.es = true ∧ inI c.sl 0 60 = true ∧ inI c.sv 3 5 = true ∧ inI c.nx 1 5 = true ∧ c.vs.all (fitW c.sv) = true := by
  simp only [okMs, Bool.and_eq_true, decide_eq_true_eq] at h
  obtain ⟨h1, h2, h3, h4, h5, h6, h7, h8, h9⟩ := h
  exact ⟨by simp only [okL, Bool.and_eq_true, decide_eq_true_eq]; exact ⟨h1, h7⟩, h2, by simp only [okL, Bool.and_eq_true, decide_eq_true_eq]; exact ⟨h3, h9⟩, h4, h5, h6, h8⟩
theorem okMs_asc {c : Ms} (h : okMs c = true) : Asc ordD c.ds := ok_asc ordOkD (okMs_parts h).1
theorem okMs_len {c : Ms} (h : okMs c = true) : c.ds.length ≤ 4 := ok_len (okMs_parts h).1
theorem okMs_fit {c : Ms} (h : okMs c = true) : ∀ d ∈ c.ds, 1 ≤ d.z ∧ d.z ≤ 8 ∧ 1 ≤ d.ep ∧ d.ep ≤ 99999 := by
  intro d hd
  have hf := ok_fit (okMs_parts h).1 d hd
  simp only [fitD, Bool.and_eq_true] at hf
  have h1 := inI_lo hf.2.1
  have h2 := inI_lo hf.2.2.1
  omega
/-- What MapJudge says. -/
def judgeM (c : Ms) (disk block epoch : Int) (wr : Bool) : Int := if okMs c = true then wrongD c.ds disk block epoch wr else 1

set_option maxRecDepth 100000 in
set_option maxHeartbeats 8000000 in
theorem implMapJudge_any (v : Value) (c : Ms) (n block epoch : Int) (wr : Bool) (w : World) (h : MsR w v c) :
    Calls Try.prog 16 #[v, .int .i64 n, .int .i64 block, .int .i64 epoch, .bool wr] w fun e w' => e = .returned (.int .i64 (judgeM c n block epoch wr)) ∧ Below w.heap.size w w' := by
  have HV := hide h
  obtain ⟨v0, v1, v2, rfl, h⟩ := h
  obtain ⟨⟨a0, k0, rfl⟩, ⟨a1, k1, rfl⟩, ⟨a2, k2, rfl⟩⟩ := h.shapes
  have HA := hide h
  obtain ⟨Q, HQ⟩ : ∃ Q, Hid (judgeM c n block epoch wr = Q) := ⟨_, rfl⟩
  rw [HQ.out]
  have al := bal (Below.refl w.heap.size w) (.cells #[.int .i64 c.sl, .int .i64 c.sv, .int .i64 c.nx, .slice a0 c.ds.length k0, .slice a1 c.vs.length k1, .slice a2 c.es.length k2] 26)
  have A0 := hide (al1_0 w (.cells #[.int .i64 c.sl, .int .i64 c.sv, .int .i64 c.nx, .slice a0 c.ds.length k0, .slice a1 c.vs.length k1, .slice a2 c.es.length k2] 26))
  obtain ⟨ok, hok⟩ : ∃ ok, okMs c = ok := ⟨_, rfl⟩
  have HOK := hide hok
  have cO := fun V b => implMapOk_any _ c V (HV.out.keep b)
  rw [hok] at cO
  clear h hok
  go_enter Try.func16, Try.ntmps16
  go_upto_region 1 with fail
  generalize World.alloc _ _ = W0 at al A0 ⊢
  go_wp2_with (refine wpList_load_row rfl 26 (.tmp 5) rfl w.heap.size rfl _ #[.int .i64 c.sl, .int .i64 c.sv, .int .i64 c.nx, .slice a0 c.ds.length k0, .slice a1 c.vs.length k1, .slice a2 c.es.length k2] (0, 0) _ A0.out Try.underlying26 rfl infoMsI ?_)
  refine (cO W0 al).mono ?_
  rintro e W1 ⟨rfl, b1⟩
  have al1 := bAll al b1
  have A1 := hide (bKeeps b1 A0.out)
  clear A0 cO
  cases ok with
  | false =>
    have hq : Q = 1 := by rw [← HQ.out, judgeM, HOK.out]; rfl
    go_wp2
    go_ret
    exact ⟨by rw [hq]; rfl, al1⟩
  | true =>
  have cW := wrong_any w.heap.size c.sl c.sv c.nx _ _ _ c.ds n block epoch wr W1 A1.out (HA.out.keep al1).ds (Nat.le_trans (okMs_len HOK.out) (by omega)) (okMs_asc HOK.out) (okMs_fit HOK.out)
  obtain ⟨q, hq⟩ : ∃ q, wrongD c.ds n block epoch wr = q := ⟨_, rfl⟩
  have hqq : Q = q := by rw [← HQ.out, judgeM, HOK.out, if_pos rfl, hq]
  rw [hq] at cW
  have HQQ := hide hqq
  clear hq hqq
  go_wp2_with fail
  refine cW.mono ?_
  rintro e W2 ⟨rfl, b2⟩
  go_wp2
  go_ret
  exact ⟨by rw [HQQ.out]; rfl, bAll al1 b2⟩

set_option maxRecDepth 100000 in
set_option maxHeartbeats 8000000 in
theorem l31Disk_any (v : Value) (c : Ms) (n : Int) (w : World) (h : MsR w v c) :
    Calls Try.prog 44 #[v, .int .i64 n] w fun e w' => ∃ r : Int, e = .returned (.int .i64 r) ∧ ((r = -1 ∧ ∀ d ∈ c.ds, d.i ≠ n) ∨ ∃ (p : Nat) (d : Dk), r = (p : Int) ∧ c.ds[p]? = some d ∧ d.i = n ∧ ∀ j y, j < p → c.ds[j]? = some y → y.i ≠ n) ∧ Below w.heap.size w w' := by
  obtain ⟨v0, v1, v2, rfl, h⟩ := h
  obtain ⟨⟨a0, k0, rfl⟩, ⟨a1, k1, rfl⟩, ⟨a2, k2, rfl⟩⟩ := h.shapes
  have HA := hide h
  have hn := h.ds.small
  clear h
  have al := bal (Below.refl w.heap.size w) (.cells #[.int .i64 c.sl, .int .i64 c.sv, .int .i64 c.nx, .slice a0 c.ds.length k0, .slice a1 c.vs.length k1, .slice a2 c.es.length k2] 26)
  have A0 := hide (al1_0 w (.cells #[.int .i64 c.sl, .int .i64 c.sv, .int .i64 c.nx, .slice a0 c.ds.length k0, .slice a1 c.vs.length k1, .slice a2 c.es.length k2] 26))
  go_enter Try.func44, Try.ntmps44
  go_upto_region 1 with fail
  generalize World.alloc _ _ = W0 at al A0 ⊢
  have HA := hide (HA.out.keep al)
  go_wp2
  go_loopw [5] (fun i wr => ∃ k : Nat, k ≤ c.ds.length ∧ i = .int .i64 k ∧ (∀ j y, j < k → c.ds[j]? = some y → y.i ≠ n) ∧ Below W0.heap.size W0 wr) (fun i _ => c.ds.length - (intOf i).toNat)
  case atStart => exact ⟨0, Nat.zero_le _, rfl, fun j y hj => by omega, Below.refl _ _⟩
  case round =>
    obtain ⟨k, hk, rfl, hno, hbel⟩ := hrel
    have HG := hide hno
    clear hno
    have y3 : wr.cell? ⟨w.heap.size, 3, none⟩ = some (.slice a0 c.ds.length k0) := boxAt (bKeeps hbel A0.out) 3
    by_cases hlt : k < c.ds.length
    · have hi : (k : Int) < (c.ds.length : Int) := by omega
      obtain ⟨x, hx⟩ := getAt c.ds k hlt
      have HX := hide hx
      obtain ⟨-, b1, o1, ha0, cs, -, -, hc, he⟩ := (HA.out.keep hbel).ds.elem hx
      have hid : wr.cell? ⟨b1, o1 + k * 7, none⟩ = some (.int .i64 x.i) := hc 0 _ he.id
      subst ha0
      clear hc he hx
      by_cases hxn : x.i = n
      · have e1 : (x.i == n) = true := by simpa using hxn
        have HN := hide hxn
        clear hxn
        go_wp2
        go_ret
        exact ⟨(k : Int), rfl, .inr ⟨k, x, rfl, HX.out, HN.out, HG.out⟩, bAll al hbel⟩
      · have e1 : (x.i == n) = false := by simpa using hxn
        have HN := hide hxn
        clear hxn
        go_wp2
        go_roundw
        case rel =>
          refine ⟨k + 1, by omega, by go_num, fun j y hj hy => ?_, hbel⟩
          by_cases hjk : j = k
          · subst hjk
            rw [HX.out] at hy
            obtain rfl := Option.some.inj hy
            exact HN.out
          · exact HG.out j y (by omega) hy
        case measure => simp [intOf]; omega
    · have hi : ¬ (k : Int) < (c.ds.length : Int) := by omega
      go_wp2
      go_ret
      refine ⟨-1, rfl, .inl ⟨rfl, fun d hd => ?_⟩, bAll al hbel⟩
      obtain ⟨j, hj⟩ := List.getElem?_of_mem hd
      exact HG.out j d (by have := (List.getElem?_eq_some_iff.1 hj).1; omega) hj

set_option maxRecDepth 100000 in
set_option maxHeartbeats 8000000 in
theorem specMapJudge_any (v : Value) (c : Ms) (n block epoch : Int) (wr : Bool) (w : World) (h : MsR w v c) :
    Calls Try.prog 15 #[v, .int .i64 n, .int .i64 block, .int .i64 epoch, .bool wr] w fun e w' => e = .returned (.int .i64 (judgeM c n block epoch wr)) ∧ Below w.heap.size w w' := by
  have HV := hide h
  obtain ⟨v0, v1, v2, rfl, h⟩ := h
  obtain ⟨⟨a0, k0, rfl⟩, ⟨a1, k1, rfl⟩, ⟨a2, k2, rfl⟩⟩ := h.shapes
  have HA := hide h
  obtain ⟨Q, HQ⟩ : ∃ Q, Hid (judgeM c n block epoch wr = Q) := ⟨_, rfl⟩
  rw [HQ.out]
  have al := bal (Below.refl w.heap.size w) (.cells #[.int .i64 c.sl, .int .i64 c.sv, .int .i64 c.nx, .slice a0 c.ds.length k0, .slice a1 c.vs.length k1, .slice a2 c.es.length k2] 26)
  have A0 := hide (al1_0 w (.cells #[.int .i64 c.sl, .int .i64 c.sv, .int .i64 c.nx, .slice a0 c.ds.length k0, .slice a1 c.vs.length k1, .slice a2 c.es.length k2] 26))
  obtain ⟨ok, hok⟩ : ∃ ok, okMs c = ok := ⟨_, rfl⟩
  have HOK := hide hok
  have cO := fun V b => specMapOk_any _ c V (HV.out.keep b)
  have cD := fun V b => l31Disk_any _ c n V (HV.out.keep b)
  rw [hok] at cO
  clear h hok
  go_enter Try.func15, Try.ntmps15
  go_upto_region 1 with fail
  generalize World.alloc _ _ = W0 at al A0 ⊢
  go_wp2_with (refine wpList_load_row rfl 26 (.tmp 5) rfl w.heap.size rfl _ #[.int .i64 c.sl, .int .i64 c.sv, .int .i64 c.nx, .slice a0 c.ds.length k0, .slice a1 c.vs.length k1, .slice a2 c.es.length k2] (0, 0) _ A0.out Try.underlying26 rfl infoMsI ?_)
  refine (cO W0 al).mono ?_
  rintro e W1 ⟨rfl, b1⟩
  have al1 := bAll al b1
  have A1 := hide (bKeeps b1 A0.out)
  clear A0 cO
  cases ok with
  | false =>
    have hq : Q = 1 := by rw [← HQ.out, judgeM, HOK.out]; rfl
    go_wp2
    go_ret
    exact ⟨by rw [hq]; rfl, al1⟩
  | true =>
  have HQQ : Hid (Q = wrongD c.ds n block epoch wr) := by show _ = _; rw [← HQ.out, judgeM, HOK.out, if_pos rfl]
  go_wp2_with (refine wpList_load_row rfl 26 (.tmp 5) rfl w.heap.size rfl _ #[.int .i64 c.sl, .int .i64 c.sv, .int .i64 c.nx, .slice a0 c.ds.length k0, .slice a1 c.vs.length k1, .slice a2 c.es.length k2] (0, 0) _ A1.out Try.underlying26 rfl infoMsI ?_)
  refine (cD W1 al1).mono ?_
  rintro e W2 ⟨r, rfl, hr, b2⟩
  have al2 := bAll al1 b2
  have A2 := hide (bKeeps b2 A1.out)
  clear A1 cD
  rcases hr with ⟨rfl, hno⟩ | ⟨p, d, rfl, hd, hdn, hfirst⟩
  · have hq : Q = 1 := by rw [HQQ.out, wrongD, find_none' hno]
    clear hno
    go_wp2
    go_ret
    exact ⟨by rw [hq]; rfl, al2⟩
  have hqd : Hid (Q = if inI block 0 (d.z - 1) = false then 2 else if wr = false ∧ epoch ≠ 0 ∧ inI epoch 1 (d.ep - 1) = false then 3 else 0) := by show _ = _; rw [HQQ.out, wrongD, ← hdn, find_here (okMs_asc HOK.out) hd]
  obtain ⟨hz1, hz2, he1, he2⟩ := okMs_fit HOK.out d (List.mem_of_getElem? hd)
  have hpl := (List.getElem?_eq_some_iff.1 hd).1
  have hpi : (p : Int) < (c.ds.length : Int) := by omega
  have hp0 : ¬ (p : Int) < 0 := by omega
  obtain ⟨-, bb, oo, hao, cs, -, -, hc, hdr⟩ := (HA.out.keep al2).ds.elem hd
  subst hao
  obtain ⟨yo, yc, ecs, -, -⟩ := hdr
  injection ecs with ecs
  rw [ecs] at hc
  have f1 : W2.cell? ⟨bb, oo + p * 7 + 1, none⟩ = some (.int .i64 d.z) := hc 1 _ rfl
  have f2 : W2.cell? ⟨bb, oo + p * 7 + 2, none⟩ = some (.int .i64 d.ep) := hc 2 _ rfl
  have x3 : W2.cell? ⟨w.heap.size, 3, none⟩ = some (.slice (some ⟨bb, oo, none⟩) c.ds.length k0) := boxAt A2.out 3
  have hw1 : IntKind.i64.wrap (d.z - 1) = d.z - 1 := wrapI _ (by omega) (by omega)
  have hw2 : IntKind.i64.wrap (d.ep - 1) = d.ep - 1 := wrapI _ (by omega) (by omega)
  have c1 := fun w => l6In_inI block 0 (d.z - 1) w
  have c2 := fun w => l6In_inI epoch 1 (d.ep - 1) w
  obtain ⟨i1, h1⟩ : ∃ i, inI block 0 (d.z - 1) = i := ⟨_, rfl⟩
  obtain ⟨i2, h2⟩ : ∃ i, inI epoch 1 (d.ep - 1) = i := ⟨_, rfl⟩
  rw [h1] at c1
  rw [h2] at c2
  have K1 := hide h1
  have K2 := hide h2
  clear hd hfirst hc ecs hdn h1 h2 HOK HQ HQQ HA HV
  go_wp2_with fail
  refine (c1 _).mono ?_
  rintro e w' ⟨rfl, hw⟩
  rw [hw]
  clear hw w'
  cases i1 with
  | false =>
    have hq : Q = 2 := by rw [hqd.out, if_pos K1.out]
    go_wp2
    go_ret
    exact ⟨by rw [hq]; rfl, al2⟩
  | true =>
  cases wr with
  | true =>
    have hq : Q = 0 := by rw [hqd.out, K1.out]; simp
    go_wp2
    go_ret
    exact ⟨by rw [hq]; rfl, al2⟩
  | false =>
  by_cases he0 : epoch = 0
  · have e0 : (epoch != 0) = false := by simpa using he0
    have hq : Q = 0 := by rw [hqd.out, K1.out]; simp [he0]
    clear he0
    go_wp2
    go_ret
    exact ⟨by rw [hq]; rfl, al2⟩
  · have e0 : (epoch != 0) = true := by simpa using he0
    have HE := hide he0
    clear he0
    go_wp2_with fail
    refine (c2 _).mono ?_
    rintro e w' ⟨rfl, hw⟩
    rw [hw]
    clear hw w'
    cases i2 with
    | false =>
      have hq : Q = 3 := by rw [hqd.out, K1.out, K2.out]; simp [HE.out]
      go_wp2
      go_ret
      exact ⟨by rw [hq]; rfl, al2⟩
    | true =>
      have hq : Q = 0 := by rw [hqd.out, K1.out, K2.out]; simp
      go_wp2
      go_ret
      exact ⟨by rw [hq]; rfl, al2⟩

end Go.Proofs.Ythdnnmmaalgpaaa
