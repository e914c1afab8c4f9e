/- How an argument that is a slice of steps is opened; no statement of the seat is proved here. -/
import Derived.Test.YtiffpgnmnahelabArgD
import Derived.Test.YtiffpgnmnahelabStep
import Derived.Deep.Slices
namespace Go.Proofs.Ytiffpgnmnahelab
open Go.ChangeShapes Go.WideShapes Go.ChangeAt Go.RowKit Go.Deep Go.Joins

section
variable {H : Type} {enc : TypeId × Value → H} {P : Program} {w : World} {base : Nat} {spare : Nat → Bool} {held : Bool}

theorem rowR_of_steps {t e : TypeId} {f0 f1 f2 : Field} {fuel : Nat} {v : Value} {x : DataW H × List MemPlace} (ht : P.underlying t = some (.slice e)) (he : P.underlying e = some (.struct #[f0, f1, f2]))
    (ce : P.cellsOf e = 3) (o0 : f0.offset = 0) (o1 : f1.offset = 1) (o2 : f2.offset = 2) (c0 : P.cellsOf f0.type = 1) (c1 : P.cellsOf f1.type = 1) (c2 : P.cellsOf f2.type = 1)
    (t0 : P.underlying f0.type = some .bool) (t1 : P.underlying f1.type = some (.int .i64)) (t2 : P.underlying f2.type = some .string)
    (h : DataW.trod enc P w base spare held fuel t [v] = some x) : ∃ (so : Option Addr) (sc : Nat) (xs : List Stp), v = .slice so xs.length sc ∧ xs.length ≤ sc ∧ RowR w 3 (.slice so xs.length sc) xs.length (scells xs) ∧ ∀ s ∈ xs, s.2.2.size ≤ 9223372036854775807 := by
  rcases open_slice ht h with ⟨hcs, _⟩ | ⟨a, len, cap, m, n, D, Pl, hcs, _, hl, hm, hmm, _, hx⟩
  · obtain rfl : v = .slice none 0 0 := by simpa using hcs
    exact ⟨none, 0, [], rfl, Nat.le_refl _, RowR.nil _ _, by simp⟩
  · obtain rfl : v = .slice (some a) len cap := by simpa using hcs
    have hlm : len ≤ m := by rw [hmm]; split <;> omega
    unfold maxLen at hm
    have each : ∀ i, i < m → ∃ y : Stp, w.cell? (a.add (i * 3)) = some (.bool y.1) ∧ w.cell? (a.add (i * 3 + 1)) = some (.int .i64 y.2.1) ∧ w.cell? (a.add (i * 3 + 2)) = some (.string y.2.2) ∧ y.2.2.size ≤ 9223372036854775807 := fun i hi => by
      obtain ⟨cs', h1, h2⟩ := hx i hi
      rw [ce] at h1
      obtain ⟨_, hlen, hcell⟩ := World.cells?_some h1
      obtain ⟨y0, y1, y2, k, _, _, q0, q1, q2⟩ := trod_struct3 he h2
      rw [o0, c0] at q0
      rw [o1, c1] at q1
      rw [o2, c2] at q2
      match cs', hlen with
      | [v0, v1, v2], _ =>
        obtain ⟨b, e0, _⟩ := DataW.trod_bool t0 q0
        obtain ⟨z, e1, _, _⟩ := DataW.trod_int t1 q1
        obtain ⟨s, e2, _, hs⟩ := DataW.trod_string t2 q2
        unfold maxLen at hs
        simp at e0 e1 e2
        subst e0 e1 e2
        have g0 := hcell 0 (by omega)
        have g1 := hcell 1 (by omega)
        have g2 := hcell 2 (by omega)
        rw [Addr.add_add] at g0 g1 g2
        exact ⟨(b, z, s), by simpa using g0, by simpa using g1, by simpa using g2, hs⟩
    obtain ⟨Y, hY⟩ := choose_lt each
    have hlen : ((List.range len).map Y).length = len := by simp
    refine ⟨some a, cap, (List.range len).map Y, by rw [hlen], by rw [hlen]; exact hl, ⟨some a, cap, rfl, by omega, scells_len _, fun h0 => ?_⟩, ?_⟩
    · rw [hlen] at h0
      have h1 := (hY 0 (by omega)).1
      obtain ⟨b, off, spot⟩ := a
      have hspot : spot = none := by simpa [Addr.add] using World.cell?_spot h1
      subst hspot
      refine ⟨b, off, rfl, fun j u hj => ?_⟩
      have hj' : j < len * 3 := by have := (List.getElem?_eq_some_iff.1 hj).1; rw [scells_len, hlen] at this; exact this
      have hw := scells_at ((List.range len).map Y) (j / 3) (Y (j / 3)) (by simp [show j / 3 < len by omega])
      obtain ⟨q0, q1, q2, _⟩ := hY (j / 3) (by omega)
      rw [Addr.add_lit] at q0 q1 q2
      rcases (by omega : j = 3 * (j / 3) ∨ j = 3 * (j / 3) + 1 ∨ j = 3 * (j / 3) + 2) with e | e | e
      · rw [← e] at hw
        rw [show j / 3 * 3 = j by omega] at q0
        rw [hw.1] at hj
        rw [q0]
        exact hj
      · rw [← e] at hw
        rw [show j / 3 * 3 + 1 = j by omega] at q1
        rw [hw.2.1] at hj
        rw [q1]
        exact hj
      · rw [← e] at hw
        rw [show j / 3 * 3 + 2 = j by omega] at q2
        rw [hw.2.2] at hj
        rw [q2]
        exact hj
    · intro s hs
      obtain ⟨i, hi, rfl⟩ := List.mem_map.1 hs
      have := List.mem_range.1 hi
      exact (hY i (by omega)).2.2.2
end

end Go.Proofs.Ytiffpgnmnahelab
