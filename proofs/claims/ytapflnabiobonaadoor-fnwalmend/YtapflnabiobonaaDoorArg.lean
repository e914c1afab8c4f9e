/- How an argument that is a slice of texts, or of pairs of a number and a text, is opened; no statement of the seat is proved here. -/
import Derived.Test.YtapflnabiobonaaDoorH
import Derived.ProofKit
import Derived.OpenShut
import Derived.ShutString
import Derived.ChangeOld
import Derived.Below
import Derived.Lib.SmallJoins
import Derived.Deep.Strs
import Derived.Deep.SlicePairs
namespace Go.Proofs.YtapflnabiobonaaDoor
open Go.ChangeShapes Go.WideShapes Go.ChangeAt Go.RowKit Go.Deep Go.Joins

section
variable {H : Type} {enc : TypeId × Value → H} {P : Program} {w : World} {base : Nat} {spare : Nat → Bool} {held : Bool}

theorem rowR_of_strs {t e : TypeId} {fuel : Nat} {v : Value} {x : DataW H × List MemPlace} (ht : P.underlying t = some (.slice e)) (he : P.underlying e = some .string) (hc : P.cellsOf e = 1)
    (h : DataW.trod enc P w base spare held fuel t [v] = some x) : ∃ ss : List ByteArray, RowR w 1 v ss.length (ss.map Value.string) ∧ ∀ s ∈ ss, s.size ≤ 9223372036854775807 := by
  rcases open_strs ht he hc h with ⟨hcs, _⟩ | ⟨a, len, cap, m, Sx, hcs, _, hl, hm, hmm, _, hx⟩
  · obtain rfl : v = .slice none 0 0 := by simpa using hcs
    exact ⟨[], RowR.nil _ _, by simp⟩
  · obtain rfl : v = .slice (some a) len cap := by simpa using hcs
    have hlm : len ≤ m := by rw [hmm]; split <;> omega
    unfold maxLen at hm hx
    refine ⟨(List.range len).map Sx, ⟨some a, cap, by simp, by simp; omega, by simp, fun h0 => ?_⟩, ?_⟩
    · simp only [List.length_map, List.length_range] at h0
      have h1 := (hx 0 (by omega)).1
      obtain ⟨b, off, spot⟩ := a
      have hspot : spot = none := by simpa [Addr.add] using World.cell?_spot h1
      subst hspot
      refine ⟨b, off, rfl, fun j u hj => ?_⟩
      have hj' : j < len := by have := (List.getElem?_eq_some_iff.1 hj).1; simpa using this
      have := (hx j (by omega)).1
      rw [Addr.add_lit] at this
      rw [this]
      simpa [hj'] using hj
    · intro s hs
      obtain ⟨i, hi, rfl⟩ := List.mem_map.1 hs
      have := List.mem_range.1 hi
      exact (hx i (by omega)).2

theorem rowR_of_pairs {t e : TypeId} {f0 f1 : Field} {fuel : Nat} {v : Value} {x : DataW H × List MemPlace} (ht : P.underlying t = some (.slice e)) (he : P.underlying e = some (.struct #[f0, f1]))
    (ce : P.cellsOf e = 2) (o0 : f0.offset = 0) (o1 : f1.offset = 1) (c0 : P.cellsOf f0.type = 1) (c1 : P.cellsOf f1.type = 1) (t0 : P.underlying f0.type = some (.int .i64)) (t1 : P.underlying f1.type = some .string)
    (h : DataW.trod enc P w base spare held fuel t [v] = some x) : ∃ xs : List (Int × ByteArray), RowR w 2 v xs.length (wcells xs) ∧ ∀ s ∈ xs, s.2.size ≤ 9223372036854775807 := by
  rcases open_slice_pairs ht he ce o0 o1 c0 c1 h with ⟨hcs, _⟩ | ⟨a, len, cap, m, n, V0, V1, D0, D1, P0, P1, hcs, _, hl, hm, hmm, _, hx⟩
  · obtain rfl : v = .slice none 0 0 := by simpa using hcs
    exact ⟨[], RowR.nil _ _, by simp⟩
  · obtain rfl : v = .slice (some a) len cap := by simpa using hcs
    have hlm : len ≤ m := by rw [hmm]; split <;> omega
    unfold maxLen at hm
    have each : ∀ i, i < m → ∃ y : Int × ByteArray, V0 i = .int .i64 y.1 ∧ V1 i = .string y.2 ∧ y.2.size ≤ 9223372036854775807 := fun i hi => by
      obtain ⟨_, _, h0, h1⟩ := hx i hi
      obtain ⟨q, e0, _, _⟩ := DataW.trod_int t0 h0
      obtain ⟨s, e1, _, hs⟩ := DataW.trod_string t1 h1
      unfold maxLen at hs
      exact ⟨(q, s), by simpa using e0, by simpa using e1, hs⟩
    obtain ⟨Y, hY⟩ := choose_lt each
    refine ⟨(List.range len).map Y, ⟨some a, cap, by simp, by simp; omega, by rw [wcells_len], fun h0 => ?_⟩, ?_⟩
    · simp only [List.length_map, List.length_range] at h0
      have h1 := (hx 0 (by omega)).1
      obtain ⟨b, off, spot⟩ := a
      have hspot : spot = none := by simpa [Addr.add] using World.cell?_spot h1
      subst hspot
      refine ⟨b, off, rfl, fun j u hj => ?_⟩
      have hj' : j < len * 2 := by have := (List.getElem?_eq_some_iff.1 hj).1; rw [wcells_len] at this; simpa using this
      have hw := wcells_at ((List.range len).map Y) (j / 2) (Y (j / 2)) (by simp [show j / 2 < len by omega])
      obtain ⟨q0, q1, _⟩ := hx (j / 2) (by omega)
      obtain ⟨y0, y1, _⟩ := hY (j / 2) (by omega)
      rw [Addr.add_lit] at q0 q1
      rcases Nat.mod_two_eq_zero_or_one j with ej | ej
      · rw [show 2 * (j / 2) = j by omega] at hw
        rw [show j / 2 * 2 = j by omega, y0] at q0
        rw [hw.1] at hj
        rw [q0]
        exact hj
      · rw [show 2 * (j / 2) + 1 = j by omega] at hw
        rw [show j / 2 * 2 + 1 = j by omega, y1] at q1
        rw [hw.2] at hj
        rw [q1]
        exact hj
    · intro s hs
      obtain ⟨i, hi, rfl⟩ := List.mem_map.1 hs
      have := List.mem_range.1 hi
      exact (hY i (by omega)).2.2
end

end Go.Proofs.YtapflnabiobonaaDoor
