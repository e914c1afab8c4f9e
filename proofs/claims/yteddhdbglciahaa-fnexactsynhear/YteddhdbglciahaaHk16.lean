/- Contracts and plain facts that this claim leans on (texts OkLaw, ArgD, ArgP, ArgL, ArgW, ArgV, ArgI, ArgS); no statement of the seat is proved here. -/
import Derived.Test.YteddhdbglciahaaHk1
import Derived.ProofKit
import Derived.OpenShut
import Derived.ShutString
import Derived.ChangeOld
import Derived.Below
import Derived.Lib.SmallJoins
import Derived.Deep.Strs
import Derived.Deep.SlicePairs
import Derived.Deep.Slices
import Derived.Test.YteddhdbglciahaaHk8
import Derived.ChangeSlices
import Derived.Test.YteddhdbglciahaaHk9

/- What the law FnExactSecOk does: its walk; the statement itself is proved elsewhere. -/
namespace Go.Proofs.Yteddhdbglciahaa
open Go.RowKit

theorem DiskR.shape {w : World} {v : Value} {kept : List ByteArray} {wait : List (Int × ByteArray)} (h : DiskR w v kept wait) : ∃ ao ca ao' ca', v = .agg #[.slice ao kept.length ca, .slice ao' wait.length ca'] := by
  obtain ⟨vk, vw, rfl, ⟨ao, ca, rfl, -⟩, ⟨ao', ca', rfl, -⟩⟩ := h
  exact ⟨ao, ca, ao', ca', rfl⟩

end Go.Proofs.Yteddhdbglciahaa

/- How a disk that is an argument is opened; no statement of the seat is proved here. -/
namespace Go.Proofs.Yteddhdbglciahaa
open Go.ChangeShapes Go.WideShapes Go.ChangeAt Go.RowKit Go.Deep Go.Joins

theorem seat_own : ownKnob Try.prog.godebug = none := by kernel_rfl
theorem seat_laidOut : laidOutB Try.prog = true := by kernel_rfl

end Go.Proofs.Yteddhdbglciahaa

/- How an argument that is a slice of pieces is opened; no statement of the seat is proved here. -/
namespace Go.Proofs.Yteddhdbglciahaa
open Go.ChangeShapes Go.WideShapes Go.ChangeAt Go.RowKit Go.Deep Go.Joins

section
variable {H : Type} {enc : TypeId × Value → H} {P : Program} {w : World} {base : Nat} {spare : Nat → Bool} {held : Bool}

theorem rowR_of_pieces {t e : TypeId} {f0 f1 f2 f3 : Field} {fuel : Nat} {v : Value} {x : DataW H × List MemPlace} (ht : P.underlying t = some (.slice e)) (he : P.underlying e = some (.struct #[f0, f1, f2, f3]))
    (ce : P.cellsOf e = 4) (o0 : f0.offset = 0) (o1 : f1.offset = 1) (o2 : f2.offset = 2) (o3 : f3.offset = 3) (c0 : P.cellsOf f0.type = 1) (c1 : P.cellsOf f1.type = 1) (c2 : P.cellsOf f2.type = 1) (c3 : P.cellsOf f3.type = 1)
    (t0 : P.underlying f0.type = some (.int .i64)) (t1 : P.underlying f1.type = some (.int .i64)) (t2 : P.underlying f2.type = some (.int .i64)) (t3 : P.underlying f3.type = some (.int .i64))
    (h : DataW.trod enc P w base spare held fuel t [v] = some x) : ∃ (so : Option Addr) (sc : Nat) (xs : List Pc), v = .slice so xs.length sc ∧ xs.length ≤ sc ∧ RowR w 4 (.slice so xs.length sc) xs.length (pcells xs) := by
  rcases open_slice ht h with ⟨hcs, _⟩ | ⟨a, len, cap, m, n, D, Pl, hcs, _, hl, hm, hmm, _, hx⟩
  · obtain rfl : v = .slice none 0 0 := by simpa using hcs
    exact ⟨none, 0, [], rfl, Nat.le_refl _, RowR.nil _ _⟩
  · obtain rfl : v = .slice (some a) len cap := by simpa using hcs
    have hlm : len ≤ m := by rw [hmm]; split <;> omega
    unfold maxLen at hm
    have each : ∀ i, i < m → ∃ y : Pc, w.cell? (a.add (i * 4)) = some (.int .i64 y.1) ∧ w.cell? (a.add (i * 4 + 1)) = some (.int .i64 y.2.1) ∧ w.cell? (a.add (i * 4 + 2)) = some (.int .i64 y.2.2.1) ∧ w.cell? (a.add (i * 4 + 3)) = some (.int .i64 y.2.2.2) := fun i hi => by
      obtain ⟨cs', h1, h2⟩ := hx i hi
      rw [ce] at h1
      obtain ⟨_, hlen, hcell⟩ := World.cells?_some h1
      obtain ⟨y0, y1, y2, y3, k, _, _, q0, q1, q2, q3⟩ := trod_struct4 he h2
      rw [o0, c0] at q0
      rw [o1, c1] at q1
      rw [o2, c2] at q2
      rw [o3, c3] at q3
      match cs', hlen with
      | [v0, v1, v2, v3], _ =>
        obtain ⟨z0, e0, _, _⟩ := DataW.trod_int t0 q0
        obtain ⟨z1, e1, _, _⟩ := DataW.trod_int t1 q1
        obtain ⟨z2, e2, _, _⟩ := DataW.trod_int t2 q2
        obtain ⟨z3, e3, _, _⟩ := DataW.trod_int t3 q3
        simp at e0 e1 e2 e3
        subst e0 e1 e2 e3
        have g0 := hcell 0 (by omega)
        have g1 := hcell 1 (by omega)
        have g2 := hcell 2 (by omega)
        have g3 := hcell 3 (by omega)
        rw [Addr.add_add] at g0 g1 g2 g3
        exact ⟨(z0, z1, z2, z3), by simpa using g0, by simpa using g1, by simpa using g2, by simpa using g3⟩
    obtain ⟨Y, hY⟩ := choose_lt each
    have hlen : ((List.range len).map Y).length = len := by simp
    refine ⟨some a, cap, (List.range len).map Y, by rw [hlen], by rw [hlen]; exact hl, ⟨some a, cap, rfl, by omega, pcells_len _, fun h0 => ?_⟩⟩
    rw [hlen] at h0
    have h1 := (hY 0 (by omega)).1
    obtain ⟨b, off, spot⟩ := a
    have hspot : spot = none := by simpa [Addr.add] using World.cell?_spot h1
    subst hspot
    refine ⟨b, off, rfl, fun j u hj => ?_⟩
    have hj' : j < len * 4 := by have := (List.getElem?_eq_some_iff.1 hj).1; rw [pcells_len, hlen] at this; exact this
    have hw := fun i hi => fm_at pcell_len ((List.range len).map Y) (j / 4) (Y (j / 4)) i (by simp [show j / 4 < len by omega]) hi
    obtain ⟨q0, q1, q2, q3⟩ := hY (j / 4) (by omega)
    rw [Addr.add_lit] at q0 q1 q2 q3
    rcases (by omega : j = j / 4 * 4 ∨ j = j / 4 * 4 + 1 ∨ j = j / 4 * 4 + 2 ∨ j = j / 4 * 4 + 3) with e | e | e | e
    · have h2 := hw 0 (by omega)
      rw [Nat.add_zero, ← e] at h2
      rw [← e] at q0
      have h3 := h2.symm.trans hj
      rw [q0]
      exact h3
    · have h2 := hw 1 (by omega)
      rw [← e] at h2
      rw [← e] at q1
      have h3 := h2.symm.trans hj
      rw [q1]
      exact h3
    · have h2 := hw 2 (by omega)
      rw [← e] at h2
      rw [← e] at q2
      have h3 := h2.symm.trans hj
      rw [q2]
      exact h3
    · have h2 := hw 3 (by omega)
      rw [← e] at h2
      rw [← e] at q3
      have h3 := h2.symm.trans hj
      rw [q3]
      exact h3
end

end Go.Proofs.Yteddhdbglciahaa

/- How an argument that is a slice of lasts is opened; no statement of the seat is proved here. -/
namespace Go.Proofs.Yteddhdbglciahaa
open Go.ChangeShapes Go.WideShapes Go.ChangeAt Go.RowKit Go.Deep Go.Joins

section
variable {H : Type} {enc : TypeId × Value → H} {P : Program} {w : World} {base : Nat} {spare : Nat → Bool} {held : Bool}

theorem rowR_of_lasts {t e : TypeId} {f0 f1 : Field} {fuel : Nat} {v : Value} {x : DataW H × List MemPlace} (ht : P.underlying t = some (.slice e)) (he : P.underlying e = some (.struct #[f0, f1]))
    (ce : P.cellsOf e = 2) (o0 : f0.offset = 0) (o1 : f1.offset = 1) (c0 : P.cellsOf f0.type = 1) (c1 : P.cellsOf f1.type = 1)
    (t0 : P.underlying f0.type = some (.int .i64)) (t1 : P.underlying f1.type = some (.int .i64))
    (h : DataW.trod enc P w base spare held fuel t [v] = some x) : ∃ (so : Option Addr) (sc : Nat) (xs : List Lc), v = .slice so xs.length sc ∧ xs.length ≤ sc ∧ RowR w 2 (.slice so xs.length sc) xs.length (lcells xs) := by
  rcases open_slice ht h with ⟨hcs, _⟩ | ⟨a, len, cap, m, n, D, Pl, hcs, _, hl, hm, hmm, _, hx⟩
  · obtain rfl : v = .slice none 0 0 := by simpa using hcs
    exact ⟨none, 0, [], rfl, Nat.le_refl _, RowR.nil _ _⟩
  · obtain rfl : v = .slice (some a) len cap := by simpa using hcs
    have hlm : len ≤ m := by rw [hmm]; split <;> omega
    unfold maxLen at hm
    have each : ∀ i, i < m → ∃ y : Lc, w.cell? (a.add (i * 2)) = some (.int .i64 y.1) ∧ w.cell? (a.add (i * 2 + 1)) = some (.int .i64 y.2) := fun i hi => by
      obtain ⟨cs', h1, h2⟩ := hx i hi
      rw [ce] at h1
      obtain ⟨_, hlen, hcell⟩ := World.cells?_some h1
      obtain ⟨y0, y1, k, _, _, q0, q1⟩ := trod_struct2 he h2
      rw [o0, c0] at q0
      rw [o1, c1] at q1
      match cs', hlen with
      | [v0, v1], _ =>
        obtain ⟨z0, e0, _, _⟩ := DataW.trod_int t0 q0
        obtain ⟨z1, e1, _, _⟩ := DataW.trod_int t1 q1
        simp at e0 e1
        subst e0 e1
        have g0 := hcell 0 (by omega)
        have g1 := hcell 1 (by omega)
        rw [Addr.add_add] at g0 g1
        exact ⟨(z0, z1), by simpa using g0, by simpa using g1⟩
    obtain ⟨Y, hY⟩ := choose_lt each
    have hlen : ((List.range len).map Y).length = len := by simp
    refine ⟨some a, cap, (List.range len).map Y, by rw [hlen], by rw [hlen]; exact hl, ⟨some a, cap, rfl, by omega, lcells_len _, fun h0 => ?_⟩⟩
    rw [hlen] at h0
    have h1 := (hY 0 (by omega)).1
    obtain ⟨b, off, spot⟩ := a
    have hspot : spot = none := by simpa [Addr.add] using World.cell?_spot h1
    subst hspot
    refine ⟨b, off, rfl, fun j u hj => ?_⟩
    have hj' : j < len * 2 := by have := (List.getElem?_eq_some_iff.1 hj).1; rw [lcells_len, hlen] at this; exact this
    have hw := fun i hi => fm_at lcell_len ((List.range len).map Y) (j / 2) (Y (j / 2)) i (by simp [show j / 2 < len by omega]) hi
    obtain ⟨q0, q1⟩ := hY (j / 2) (by omega)
    rw [Addr.add_lit] at q0 q1
    rcases (by omega : j = j / 2 * 2 ∨ j = j / 2 * 2 + 1) with e | e
    · have h2 := hw 0 (by omega)
      rw [Nat.add_zero, ← e] at h2
      rw [← e] at q0
      have h3 := h2.symm.trans hj
      rw [q0]
      exact h3
    · have h2 := hw 1 (by omega)
      rw [← e] at h2
      rw [← e] at q1
      have h3 := h2.symm.trans hj
      rw [q1]
      exact h3
end

end Go.Proofs.Yteddhdbglciahaa

/- How a word that is an argument is opened; no statement of the seat is proved here. -/
namespace Go.Proofs.Yteddhdbglciahaa
open Go.ChangeShapes Go.WideShapes Go.ChangeAt Go.RowKit Go.Deep Go.Joins

theorem at_of {l : List Value} {o : Nat} {u : Value} (e : (l.drop o).take 1 = [u]) : l[o]? = some u := by
  have := congrArg (fun m => m[0]?) e
  simpa using this
theorem of_at {l : List Value} {o : Nat} {u : Value} (h : l[o]? = some u) : (l.drop o).take 1 = [u] := by
  obtain ⟨hl, e⟩ := List.getElem?_eq_some_iff.1 h
  rw [List.drop_eq_getElem_cons hl, e]
  rfl

section
variable {H : Type} {enc : TypeId × Value → H} {P : Program} {w : World} {base : Nat} {spare : Nat → Bool} {held : Bool}

theorem intAt {n o i : Nat} {t : TypeId} {l : List Value} {xs : List (DataW H × List MemPlace)} (ht : P.underlying t = some (.int .i64)) (hc : P.cellsOf t = 1)
    (hq : DataW.trod enc P w base spare held n t ((l.drop o).take (P.cellsOf t)) = xs[i]?) (hi : i < xs.length) : ∃ z : Int, l[o]? = some (.int .i64 z) := by
  rw [hc, List.getElem?_eq_getElem hi] at hq
  obtain ⟨z, e, _, _⟩ := DataW.trod_int ht hq
  exact ⟨z, at_of e⟩
end

set_option maxRecDepth 100000 in
set_option maxHeartbeats 4000000 in
theorem wdR_of {H : Type} {enc : TypeId × Value → H} {w : World} {base : Nat} {spare : Nat → Bool} {held : Bool} {r : Reach} {b0 : Nat} {v : Value} {d : DataW H} {p : List MemPlace}
    (hv : Value.okWide Try.prog w r b0 32 v) (h : DataW.Trod enc Try.prog w base spare held 32 v d p) : ∃ x, WdR w v x := by
  obtain ⟨cs, rfl, hsz⟩ := okWide_struct Try.underlying32 hv
  obtain ⟨fuel, hf⟩ := h
  have hc26 : Try.prog.cellsOf 32 = 26 := by kernel_rfl
  have hc10 : Try.prog.cellsOf 23 = 10 := by kernel_rfl
  have hc1 : Try.prog.cellsOf 3 = 1 := by kernel_rfl
  have hcp : Try.prog.cellsOf 29 = 1 := by kernel_rfl
  have hcl : Try.prog.cellsOf 30 = 1 := by kernel_rfl
  rw [hc26] at hsz
  obtain ⟨xs, n, -, -, -, hxl, hq⟩ := DataW.trod_struct Try.underlying32 hf
  have hxl' : xs.length = 17 := hxl
  clear hxl
  obtain ⟨a0, ha0⟩ := intAt (o := 0) (i := 0) Try.underlying3 hc1 (hq 0 _ rfl) (by omega)
  obtain ⟨a1, ha1⟩ := intAt (o := 1) (i := 1) Try.underlying3 hc1 (hq 1 _ rfl) (by omega)
  obtain ⟨a2, ha2⟩ := intAt (o := 2) (i := 2) Try.underlying3 hc1 (hq 2 _ rfl) (by omega)
  obtain ⟨a3, ha3⟩ := intAt (o := 3) (i := 3) Try.underlying3 hc1 (hq 3 _ rfl) (by omega)
  obtain ⟨a4, ha4⟩ := intAt (o := 4) (i := 4) Try.underlying3 hc1 (hq 4 _ rfl) (by omega)
  obtain ⟨a5, ha5⟩ := intAt (o := 5) (i := 5) Try.underlying3 hc1 (hq 5 _ rfl) (by omega)
  obtain ⟨b0, hb0⟩ := intAt (o := 16) (i := 7) Try.underlying3 hc1 (hq 7 _ rfl) (by omega)
  obtain ⟨b1, hb1⟩ := intAt (o := 17) (i := 8) Try.underlying3 hc1 (hq 8 _ rfl) (by omega)
  obtain ⟨b2, hb2⟩ := intAt (o := 18) (i := 9) Try.underlying3 hc1 (hq 9 _ rfl) (by omega)
  obtain ⟨b3, hb3⟩ := intAt (o := 19) (i := 10) Try.underlying3 hc1 (hq 10 _ rfl) (by omega)
  obtain ⟨b4, hb4⟩ := intAt (o := 20) (i := 11) Try.underlying3 hc1 (hq 11 _ rfl) (by omega)
  obtain ⟨b5, hb5⟩ := intAt (o := 21) (i := 12) Try.underlying3 hc1 (hq 12 _ rfl) (by omega)
  obtain ⟨b6, hb6⟩ := intAt (o := 22) (i := 13) Try.underlying3 hc1 (hq 13 _ rfl) (by omega)
  obtain ⟨b7, hb7⟩ := intAt (o := 23) (i := 14) Try.underlying3 hc1 (hq 14 _ rfl) (by omega)
  have q6 : DataW.trod enc Try.prog w base spare held n 23 ((cs.toList.drop 6).take (Try.prog.cellsOf 23)) = xs[6]? := hq 6 _ rfl
  obtain ⟨y6, hy6⟩ : ∃ y, xs[6]? = some y := ⟨xs[6]'(by omega), List.getElem?_eq_getElem _⟩
  rw [hc10, hy6] at q6
  obtain ⟨zs, n2, -, -, -, hzl, hz⟩ := DataW.trod_struct Try.underlying23 q6
  have hzl' : zs.length = 10 := hzl
  clear hzl
  have sub : ∀ k u, k < 10 → ((cs.toList.drop 6).take 10)[k]? = some u → cs.toList[6 + k]? = some u := by
    intro k u hk hu
    rw [List.getElem?_take_of_lt hk, List.getElem?_drop] at hu
    exact hu
  obtain ⟨c0, hc_0⟩ := intAt (o := 0) (i := 0) Try.underlying3 hc1 (hz 0 _ rfl) (by omega)
  obtain ⟨c1, hc_1⟩ := intAt (o := 1) (i := 1) Try.underlying3 hc1 (hz 1 _ rfl) (by omega)
  obtain ⟨c2, hc_2⟩ := intAt (o := 2) (i := 2) Try.underlying3 hc1 (hz 2 _ rfl) (by omega)
  obtain ⟨c3, hc_3⟩ := intAt (o := 3) (i := 3) Try.underlying3 hc1 (hz 3 _ rfl) (by omega)
  obtain ⟨c4, hc_4⟩ := intAt (o := 4) (i := 4) Try.underlying3 hc1 (hz 4 _ rfl) (by omega)
  obtain ⟨c5, hc_5⟩ := intAt (o := 5) (i := 5) Try.underlying3 hc1 (hz 5 _ rfl) (by omega)
  obtain ⟨c6, hc_6⟩ := intAt (o := 6) (i := 6) Try.underlying3 hc1 (hz 6 _ rfl) (by omega)
  obtain ⟨c7, hc_7⟩ := intAt (o := 7) (i := 7) Try.underlying3 hc1 (hz 7 _ rfl) (by omega)
  obtain ⟨c8, hc_8⟩ := intAt (o := 8) (i := 8) Try.underlying3 hc1 (hz 8 _ rfl) (by omega)
  obtain ⟨c9, hc_9⟩ := intAt (o := 9) (i := 9) Try.underlying3 hc1 (hz 9 _ rfl) (by omega)
  obtain ⟨vp, hvp⟩ : ∃ u, cs.toList[24]? = some u := ⟨cs.toList[24]'(by simp; omega), List.getElem?_eq_getElem _⟩
  obtain ⟨vl, hvl⟩ : ∃ u, cs.toList[25]? = some u := ⟨cs.toList[25]'(by simp; omega), List.getElem?_eq_getElem _⟩
  have qp := hq 15 _ rfl
  obtain ⟨yp, hyp⟩ : ∃ y, xs[15]? = some y := ⟨xs[15]'(by omega), List.getElem?_eq_getElem _⟩
  have ql := hq 16 _ rfl
  obtain ⟨yl, hyl⟩ : ∃ y, xs[16]? = some y := ⟨xs[16]'(by omega), List.getElem?_eq_getElem _⟩
  have qp' : DataW.trod enc Try.prog w base spare held n 29 ((cs.toList.drop 24).take (Try.prog.cellsOf 29)) = xs[15]? := qp
  have ql' : DataW.trod enc Try.prog w base spare held n 30 ((cs.toList.drop 25).take (Try.prog.cellsOf 30)) = xs[16]? := ql
  rw [hcp, of_at hvp, hyp] at qp'
  rw [hcl, of_at hvl, hyl] at ql'
  obtain ⟨po, pc, ps, rfl, -, hps⟩ := rowR_of_pieces Try.underlying29 Try.underlying154 (by kernel_rfl) rfl rfl rfl rfl (by kernel_rfl) (by kernel_rfl) (by kernel_rfl) (by kernel_rfl) Try.underlying3 Try.underlying3 Try.underlying3 Try.underlying3 qp'
  obtain ⟨lo, lc, ls, rfl, -, hls⟩ := rowR_of_lasts Try.underlying30 Try.underlying158 (by kernel_rfl) rfl rfl (by kernel_rfl) (by kernel_rfl) Try.underlying3 Try.underlying3 ql'
  refine ⟨⟨a0, a1, a2, a3, a4, a5, c0, c1, c2, c3, c4, c5, c6, c7, c8, c9, b0, b1, b2, b3, b4, b5, b6, b7, ps, ls⟩, po, pc, lo, lc, ?_, hps, hls⟩
  congr 1
  apply Array.ext_getElem?
  intro j
  rw [← Array.getElem?_toList]
  by_cases hj : j < 26
  · rcases (by omega : j = 0 ∨ j = 1 ∨ j = 2 ∨ j = 3 ∨ j = 4 ∨ j = 5 ∨ j = 6 ∨ j = 7 ∨ j = 8 ∨ j = 9 ∨ j = 10 ∨ j = 11 ∨ j = 12 ∨ j = 13 ∨ j = 14 ∨ j = 15 ∨ j = 16 ∨ j = 17 ∨ j = 18 ∨ j = 19 ∨ j = 20 ∨ j = 21 ∨ j = 22 ∨ j = 23 ∨ j = 24 ∨ j = 25) with rfl | rfl | rfl | rfl | rfl | rfl | rfl | rfl | rfl | rfl | rfl | rfl | rfl | rfl | rfl | rfl | rfl | rfl | rfl | rfl | rfl | rfl | rfl | rfl | rfl | rfl
    · exact ha0
    · exact ha1
    · exact ha2
    · exact ha3
    · exact ha4
    · exact ha5
    · exact sub 0 _ (by omega) hc_0
    · exact sub 1 _ (by omega) hc_1
    · exact sub 2 _ (by omega) hc_2
    · exact sub 3 _ (by omega) hc_3
    · exact sub 4 _ (by omega) hc_4
    · exact sub 5 _ (by omega) hc_5
    · exact sub 6 _ (by omega) hc_6
    · exact sub 7 _ (by omega) hc_7
    · exact sub 8 _ (by omega) hc_8
    · exact sub 9 _ (by omega) hc_9
    · exact hb0
    · exact hb1
    · exact hb2
    · exact hb3
    · exact hb4
    · exact hb5
    · exact hb6
    · exact hb7
    · exact hvp
    · exact hvl
  · rw [List.getElem?_eq_none (by simp; omega), Array.getElem?_eq_none (by show 26 ≤ j; omega)]

end Go.Proofs.Yteddhdbglciahaa

/- How a voter that is an argument is opened; no statement of the seat is proved here. -/
namespace Go.Proofs.Yteddhdbglciahaa
open Go.ChangeShapes Go.WideShapes Go.ChangeAt Go.RowKit Go.Deep Go.Joins

section
variable {H : Type} {enc : TypeId × Value → H} {w : World} {base : Nat} {spare : Nat → Bool} {held : Bool}

set_option maxRecDepth 100000 in
set_option maxHeartbeats 4000000 in
theorem paper_of {fuel : Nat} {l : List Value} {y : DataW H × List MemPlace} (hf : DataW.trod enc Try.prog w base spare held fuel 25 l = some y) (hl : l.length = 12) : ∃ p : Pp, l = ppcell p := by
  have hc10 : Try.prog.cellsOf 23 = 10 := by kernel_rfl
  have hc1 : Try.prog.cellsOf 3 = 1 := by kernel_rfl
  obtain ⟨xs, n, -, -, -, hxl, hq⟩ := DataW.trod_struct Try.underlying25 hf
  have hxl' : xs.length = 3 := hxl
  clear hxl
  obtain ⟨s, hs⟩ := intAt (o := 0) (i := 0) Try.underlying3 hc1 (hq 0 _ rfl) (by omega)
  obtain ⟨b, hb⟩ := intAt (o := 1) (i := 1) Try.underlying3 hc1 (hq 1 _ rfl) (by omega)
  have q6 : DataW.trod enc Try.prog w base spare held n 23 ((l.drop 2).take (Try.prog.cellsOf 23)) = xs[2]? := hq 2 _ rfl
  obtain ⟨y6, hy6⟩ : ∃ y, xs[2]? = some y := ⟨xs[2]'(by omega), List.getElem?_eq_getElem _⟩
  rw [hc10, hy6] at q6
  obtain ⟨zs, n2, -, -, -, hzl, hz⟩ := DataW.trod_struct Try.underlying23 q6
  have hzl' : zs.length = 10 := hzl
  clear hzl
  have sub : ∀ k u, k < 10 → ((l.drop 2).take 10)[k]? = some u → l[2 + k]? = some u := by
    intro k u hk hu
    rw [List.getElem?_take_of_lt hk, List.getElem?_drop] at hu
    exact hu
  obtain ⟨c0, hc_0⟩ := intAt (o := 0) (i := 0) Try.underlying3 hc1 (hz 0 _ rfl) (by omega)
  obtain ⟨c1, hc_1⟩ := intAt (o := 1) (i := 1) Try.underlying3 hc1 (hz 1 _ rfl) (by omega)
  obtain ⟨c2, hc_2⟩ := intAt (o := 2) (i := 2) Try.underlying3 hc1 (hz 2 _ rfl) (by omega)
  obtain ⟨c3, hc_3⟩ := intAt (o := 3) (i := 3) Try.underlying3 hc1 (hz 3 _ rfl) (by omega)
  obtain ⟨c4, hc_4⟩ := intAt (o := 4) (i := 4) Try.underlying3 hc1 (hz 4 _ rfl) (by omega)
  obtain ⟨c5, hc_5⟩ := intAt (o := 5) (i := 5) Try.underlying3 hc1 (hz 5 _ rfl) (by omega)
  obtain ⟨c6, hc_6⟩ := intAt (o := 6) (i := 6) Try.underlying3 hc1 (hz 6 _ rfl) (by omega)
  obtain ⟨c7, hc_7⟩ := intAt (o := 7) (i := 7) Try.underlying3 hc1 (hz 7 _ rfl) (by omega)
  obtain ⟨c8, hc_8⟩ := intAt (o := 8) (i := 8) Try.underlying3 hc1 (hz 8 _ rfl) (by omega)
  obtain ⟨c9, hc_9⟩ := intAt (o := 9) (i := 9) Try.underlying3 hc1 (hz 9 _ rfl) (by omega)
  refine ⟨(s, b, ⟨0, 0, 0, 0, 0, 0, c0, c1, c2, c3, c4, c5, c6, c7, c8, c9, 0, 0, 0, 0, 0, 0, 0, 0, [], []⟩), ?_⟩
  apply List.ext_getElem?
  intro j
  by_cases hj : j < 12
  · rcases (by omega : j = 0 ∨ j = 1 ∨ j = 2 ∨ j = 3 ∨ j = 4 ∨ j = 5 ∨ j = 6 ∨ j = 7 ∨ j = 8 ∨ j = 9 ∨ j = 10 ∨ j = 11) with rfl | rfl | rfl | rfl | rfl | rfl | rfl | rfl | rfl | rfl | rfl | rfl
    · exact hs
    · exact hb
    · exact sub 0 _ (by omega) hc_0
    · exact sub 1 _ (by omega) hc_1
    · exact sub 2 _ (by omega) hc_2
    · exact sub 3 _ (by omega) hc_3
    · exact sub 4 _ (by omega) hc_4
    · exact sub 5 _ (by omega) hc_5
    · exact sub 6 _ (by omega) hc_6
    · exact sub 7 _ (by omega) hc_7
    · exact sub 8 _ (by omega) hc_8
    · exact sub 9 _ (by omega) hc_9
  · rw [List.getElem?_eq_none (by omega), List.getElem?_eq_none (by rw [ppcell_len]; omega)]

end

end Go.Proofs.Yteddhdbglciahaa

/- How an argument that is a slice of numbers is opened; no statement of the seat is proved here. -/
namespace Go.Proofs.Yteddhdbglciahaa
open Go.ChangeShapes Go.WideShapes Go.ChangeAt Go.RowKit Go.Deep Go.Joins

section
variable {H : Type} {enc : TypeId × Value → H} {P : Program} {w : World} {base : Nat} {spare : Nat → Bool} {held : Bool}

theorem rowR_of_ints {t e : TypeId} {fuel : Nat} {v : Value} {x : DataW H × List MemPlace} (ht : P.underlying t = some (.slice e)) (he : P.underlying e = some (.int .i64)) (hc : P.cellsOf e = 1)
    (h : DataW.trod enc P w base spare held fuel t [v] = some x) : ∃ (ko : Option Addr) (kc : Nat) (ks : List Int), v = .slice ko ks.length kc ∧ RowR w 1 (.slice ko ks.length kc) ks.length (ks.map (Value.int .i64)) := by
  rcases open_ints ht he hc h with ⟨hcs, _⟩ | ⟨a, len, cap, zs, hcs, _, hl, hm, hmm, _, hx, _⟩
  · obtain rfl : v = .slice none 0 0 := by simpa using hcs
    exact ⟨none, 0, [], rfl, RowR.nil _ _⟩
  · obtain rfl : v = .slice (some a) len cap := by simpa using hcs
    have hlm : len ≤ zs.length := by rw [hmm]; split <;> omega
    unfold maxLen at hm
    have hlen : (zs.take len).length = len := by simp; omega
    refine ⟨some a, cap, zs.take len, by rw [hlen], some a, cap, rfl, by omega, by simp, fun h0 => ?_⟩
    have h1 := hx 0 (by omega)
    obtain ⟨b, off, spot⟩ := a
    have hspot : spot = none := by simpa [Addr.add] using World.cell?_spot h1
    subst hspot
    refine ⟨b, off, rfl, fun j u hj => ?_⟩
    have hj' : j < len := by have := (List.getElem?_eq_some_iff.1 hj).1; simp at this; omega
    have h2 := hx j (by omega)
    rw [Addr.add_lit] at h2
    rw [h2]
    rw [List.getElem?_map, List.getElem?_take_of_lt hj'] at hj
    simpa [List.getD, show j < zs.length by omega] using hj
end

end Go.Proofs.Yteddhdbglciahaa

/- How a seeker, and a command, that is an argument is opened; no statement of the seat is proved here. -/
namespace Go.Proofs.Yteddhdbglciahaa
open Go.ChangeShapes Go.WideShapes Go.ChangeAt Go.RowKit Go.Deep Go.Joins

section
variable {H : Type} {enc : TypeId × Value → H} {w : World} {base : Nat} {spare : Nat → Bool} {held : Bool}

set_option maxRecDepth 100000 in
set_option maxHeartbeats 4000000 in
theorem cmdL_of {fuel : Nat} {l : List Value} {y : DataW H × List MemPlace} (hf : DataW.trod enc Try.prog w base spare held fuel 23 l = some y) (hl : l.length = 10) : ∃ x : Wd, l = (#[.int .i64 x.c0, .int .i64 x.c1, .int .i64 x.c2, .int .i64 x.c3, .int .i64 x.c4, .int .i64 x.c5, .int .i64 x.c6, .int .i64 x.c7, .int .i64 x.c8, .int .i64 x.c9] : Array Value).toList := by
  have hc1 : Try.prog.cellsOf 3 = 1 := by kernel_rfl
  obtain ⟨zs, n2, -, -, -, hzl, hz⟩ := DataW.trod_struct Try.underlying23 hf
  have hzl' : zs.length = 10 := hzl
  clear hzl
  obtain ⟨c0, hc_0⟩ := intAt (o := 0) (i := 0) Try.underlying3 hc1 (hz 0 _ rfl) (by omega)
  obtain ⟨c1, hc_1⟩ := intAt (o := 1) (i := 1) Try.underlying3 hc1 (hz 1 _ rfl) (by omega)
  obtain ⟨c2, hc_2⟩ := intAt (o := 2) (i := 2) Try.underlying3 hc1 (hz 2 _ rfl) (by omega)
  obtain ⟨c3, hc_3⟩ := intAt (o := 3) (i := 3) Try.underlying3 hc1 (hz 3 _ rfl) (by omega)
  obtain ⟨c4, hc_4⟩ := intAt (o := 4) (i := 4) Try.underlying3 hc1 (hz 4 _ rfl) (by omega)
  obtain ⟨c5, hc_5⟩ := intAt (o := 5) (i := 5) Try.underlying3 hc1 (hz 5 _ rfl) (by omega)
  obtain ⟨c6, hc_6⟩ := intAt (o := 6) (i := 6) Try.underlying3 hc1 (hz 6 _ rfl) (by omega)
  obtain ⟨c7, hc_7⟩ := intAt (o := 7) (i := 7) Try.underlying3 hc1 (hz 7 _ rfl) (by omega)
  obtain ⟨c8, hc_8⟩ := intAt (o := 8) (i := 8) Try.underlying3 hc1 (hz 8 _ rfl) (by omega)
  obtain ⟨c9, hc_9⟩ := intAt (o := 9) (i := 9) Try.underlying3 hc1 (hz 9 _ rfl) (by omega)
  refine ⟨⟨0, 0, 0, 0, 0, 0, c0, c1, c2, c3, c4, c5, c6, c7, c8, c9, 0, 0, 0, 0, 0, 0, 0, 0, [], []⟩, ?_⟩
  apply List.ext_getElem?
  intro j
  by_cases hj : j < 10
  · rcases (by omega : j = 0 ∨ j = 1 ∨ j = 2 ∨ j = 3 ∨ j = 4 ∨ j = 5 ∨ j = 6 ∨ j = 7 ∨ j = 8 ∨ j = 9) with rfl | rfl | rfl | rfl | rfl | rfl | rfl | rfl | rfl | rfl
    · exact hc_0
    · exact hc_1
    · exact hc_2
    · exact hc_3
    · exact hc_4
    · exact hc_5
    · exact hc_6
    · exact hc_7
    · exact hc_8
    · exact hc_9
  · rw [List.getElem?_eq_none (by omega), List.getElem?_eq_none (by show 10 ≤ j; omega)]
end

set_option maxRecDepth 100000 in
set_option maxHeartbeats 4000000 in
theorem skR_of {H : Type} {enc : TypeId × Value → H} {w : World} {base : Nat} {spare : Nat → Bool} {held : Bool} {r : Reach} {b0 : Nat} {v : Value} {d : DataW H} {p : List MemPlace}
    (hv : Value.okWide Try.prog w r b0 28 v) (h : DataW.Trod enc Try.prog w base spare held 28 v d p) : ∃ k, SkR w v k := by
  obtain ⟨cs, rfl, hsz⟩ := okWide_struct Try.underlying28 hv
  obtain ⟨fuel, hf⟩ := h
  have hc26 : Try.prog.cellsOf 28 = 26 := by kernel_rfl
  have hc1 : Try.prog.cellsOf 3 = 1 := by kernel_rfl
  have hcm : Try.prog.cellsOf 23 = 10 := by kernel_rfl
  have hcp : Try.prog.cellsOf 25 = 12 := by kernel_rfl
  have hcy : Try.prog.cellsOf 26 = 1 := by kernel_rfl
  rw [hc26] at hsz
  obtain ⟨xs, n, -, -, -, hxl, hq⟩ := DataW.trod_struct Try.underlying28 hf
  have hxl' : xs.length = 6 := hxl
  clear hxl
  obtain ⟨s, hs⟩ := intAt (o := 0) (i := 0) Try.underlying3 hc1 (hq 0 _ rfl) (by omega)
  obtain ⟨b, hb⟩ := intAt (o := 1) (i := 1) Try.underlying3 hc1 (hq 1 _ rfl) (by omega)
  obtain ⟨ph, hph⟩ := intAt (o := 2) (i := 2) Try.underlying3 hc1 (hq 2 _ rfl) (by omega)
  have q3 : DataW.trod enc Try.prog w base spare held n 23 ((cs.toList.drop 3).take (Try.prog.cellsOf 23)) = xs[3]? := hq 3 _ rfl
  obtain ⟨y3, hy3⟩ : ∃ y, xs[3]? = some y := ⟨xs[3]'(by omega), List.getElem?_eq_getElem _⟩
  rw [hcm, hy3] at q3
  obtain ⟨m, hm⟩ := cmdL_of q3 (by simp; omega)
  have q4 : DataW.trod enc Try.prog w base spare held n 25 ((cs.toList.drop 13).take (Try.prog.cellsOf 25)) = xs[4]? := hq 4 _ rfl
  obtain ⟨y4, hy4⟩ : ∃ y, xs[4]? = some y := ⟨xs[4]'(by omega), List.getElem?_eq_getElem _⟩
  rw [hcp, hy4] at q4
  obtain ⟨pp, hpp⟩ := paper_of q4 (by simp; omega)
  obtain ⟨vy, hvy⟩ : ∃ u, cs.toList[25]? = some u := ⟨cs.toList[25]'(by simp; omega), List.getElem?_eq_getElem _⟩
  have q5 : DataW.trod enc Try.prog w base spare held n 26 ((cs.toList.drop 25).take (Try.prog.cellsOf 26)) = xs[5]? := hq 5 _ rfl
  obtain ⟨y5, hy5⟩ : ∃ y, xs[5]? = some y := ⟨xs[5]'(by omega), List.getElem?_eq_getElem _⟩
  rw [hcy, of_at hvy, hy5] at q5
  obtain ⟨yo, yc, ys, rfl, hys⟩ := rowR_of_ints Try.underlying26 Try.underlying3 hc1 q5
  refine ⟨⟨s, b, ph, m, pp, ys⟩, yo, yc, ?_, hys⟩
  have sub : ∀ (o k N : Nat) (u : Value), k < N → ((cs.toList.drop o).take N)[k]? = some u → cs.toList[o + k]? = some u := by
    intro o k N u hk hu
    rw [List.getElem?_take_of_lt hk, List.getElem?_drop] at hu
    exact hu
  congr 1
  apply Array.ext_getElem?
  intro j
  rw [← Array.getElem?_toList]
  by_cases hj : j < 26
  · by_cases h0 : j < 3
    · rcases (by omega : j = 0 ∨ j = 1 ∨ j = 2) with rfl | rfl | rfl
      · exact hs
      · exact hb
      · exact hph
    by_cases h1 : j < 13
    · obtain ⟨i, rfl⟩ : ∃ i, j = 3 + i := ⟨j - 3, by omega⟩
      obtain ⟨u, hu⟩ : ∃ u, ((#[.int .i64 m.c0, .int .i64 m.c1, .int .i64 m.c2, .int .i64 m.c3, .int .i64 m.c4, .int .i64 m.c5, .int .i64 m.c6, .int .i64 m.c7, .int .i64 m.c8, .int .i64 m.c9] : Array Value).toList)[i]? = some u := ⟨_, List.getElem?_eq_getElem (by show i < 10; omega)⟩
      rw [sub 3 i 10 u (by omega) (by rw [hm]; exact hu)]
      rcases (by omega : i = 0 ∨ i = 1 ∨ i = 2 ∨ i = 3 ∨ i = 4 ∨ i = 5 ∨ i = 6 ∨ i = 7 ∨ i = 8 ∨ i = 9) with rfl | rfl | rfl | rfl | rfl | rfl | rfl | rfl | rfl | rfl <;> exact hu.symm
    by_cases h2 : j < 25
    · obtain ⟨i, rfl⟩ : ∃ i, j = 13 + i := ⟨j - 13, by omega⟩
      obtain ⟨u, hu⟩ : ∃ u, (ppcell pp)[i]? = some u := ⟨_, List.getElem?_eq_getElem (by rw [ppcell_len]; omega)⟩
      rw [sub 13 i 12 u (by omega) (by rw [hpp]; exact hu)]
      rcases (by omega : i = 0 ∨ i = 1 ∨ i = 2 ∨ i = 3 ∨ i = 4 ∨ i = 5 ∨ i = 6 ∨ i = 7 ∨ i = 8 ∨ i = 9 ∨ i = 10 ∨ i = 11) with rfl | rfl | rfl | rfl | rfl | rfl | rfl | rfl | rfl | rfl | rfl | rfl <;> exact hu.symm
    · obtain rfl : j = 25 := by omega
      exact hvy
  · rw [List.getElem?_eq_none (by simp; omega), Array.getElem?_eq_none (by show 26 ≤ j; omega)]

end Go.Proofs.Yteddhdbglciahaa
