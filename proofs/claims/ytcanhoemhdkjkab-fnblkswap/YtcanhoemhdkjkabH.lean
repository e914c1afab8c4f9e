/- What the laws' own helpers do (marks, comparisons of slices): contracts; no statement of the seat is proved here. -/
import Derived.Test.YtcanhoemhdkjkabProg
import Derived.Test.YtcanhoemhdkjkabK
import Derived.Deep.RegionWith
namespace Go.Proofs.Ytcanhoemhdkjkab
open Go.RowKit

/-- The marks of n texts from k on. -/
def mkS (k n : Nat) : List ByteArray := (List.range n).map fun i => mtxt (k + i)

theorem mkS_get (k n i : Nat) (h : i < n) : (mkS k n)[i]? = some (mtxt (k + i)) := by simp [mkS, h]

theorem row_set {w : World} {e : TypeId} {g j : Nat} {cur : Array Value} (u : Value) (hg : w.heap[g]? = some (.cells cur e (0, 0))) :
    (w.setCell ⟨g, j, none⟩ u).heap[g]? = some (.cells (cur.setIfInBounds j u) e (0, 0)) := heap_setCell_same w g j cur e u hg

/-- The cells of writes. -/
def wcell (x : Int × ByteArray) : List Value := [.int .i64 x.1, .string x.2]
def wcells (xs : List (Int × ByteArray)) : List Value := xs.flatMap wcell
theorem wcells_len (xs : List (Int × ByteArray)) : (wcells xs).length = xs.length * 2 := by
  induction xs with
  | nil => rfl
  | cons x xs ih => simp only [wcells, List.flatMap_cons, List.length_append, wcell, List.length_cons, List.length_nil] at ih ⊢; omega
theorem wcells_at (xs : List (Int × ByteArray)) (i : Nat) (x : Int × ByteArray) (h : xs[i]? = some x) : (wcells xs)[2 * i]? = some (.int .i64 x.1) ∧ (wcells xs)[2 * i + 1]? = some (.string x.2) := by
  induction xs generalizing i with
  | nil => simp at h
  | cons y ys ih =>
    cases i with
    | zero => simp at h; subst h; simp [wcells, wcell]
    | succ i =>
      have := ih i (by simpa using h)
      simp only [wcells, List.flatMap_cons, wcell, List.cons_append, List.nil_append] at this ⊢
      rw [show 2 * (i + 1) = 2 * i + 1 + 1 by omega]
      simpa using this

end Go.Proofs.Ytcanhoemhdkjkab
