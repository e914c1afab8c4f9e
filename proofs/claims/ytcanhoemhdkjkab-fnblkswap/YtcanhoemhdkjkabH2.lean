/- What the laws' own helpers do with slices of writes and with disks: contracts; no statement of the seat is proved here. -/
import Derived.Test.YtcanhoemhdkjkabH
namespace Go.Proofs.Ytcanhoemhdkjkab
open Go.RowKit

/-- The marks of n writes from k on. -/
def mkW (k n : Nat) : List (Int × ByteArray) := (List.range n).map fun i => (((k + 2 * i : Nat) : Int), mtxt (k + 2 * i + 1))

theorem mkW_get (k n i : Nat) (h : i < n) : (mkW k n)[i]? = some (((k + 2 * i : Nat) : Int), mtxt (k + 2 * i + 1)) := by simp [mkW, h]
theorem mkW_len (k n : Nat) : (mkW k n).length = n := by simp [mkW]
theorem mkS_len (k n : Nat) : (mkS k n).length = n := by simp [mkS]

/-- A list of cells that holds the marks at every place is the marks' list. -/
theorem wcells_ext (k n : Nat) (cs : List Value) (hl : cs.length = n * 2) (h : ∀ j, j < n → cs[2 * j]? = some (.int .i64 (k + 2 * j : Nat)) ∧ cs[2 * j + 1]? = some (.string (mtxt (k + 2 * j + 1)))) : cs = wcells (mkW k n) := by
  apply List.ext_getElem?
  intro j
  by_cases hj : j < n * 2
  · have hh := h (j / 2) (by omega)
    have hw := wcells_at (mkW k n) (j / 2) _ (mkW_get k n (j / 2) (by omega))
    rcases Nat.mod_two_eq_zero_or_one j with e | e
    · rw [show 2 * (j / 2) = j by omega] at hh hw
      rw [hh.1, hw.1]
    · rw [show 2 * (j / 2) + 1 = j by omega] at hh hw
      rw [hh.2, hw.2]
  · rw [List.getElem?_eq_none (by omega), List.getElem?_eq_none (by rw [wcells_len, mkW_len]; omega)]

end Go.Proofs.Ytcanhoemhdkjkab
