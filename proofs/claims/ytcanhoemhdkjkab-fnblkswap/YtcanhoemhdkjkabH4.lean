/- What the laws' own helpers do with a disk that came in: its size, a copy of it; contracts; no statement of the seat is proved here. -/
import Derived.Test.YtcanhoemhdkjkabNew
namespace Go.Proofs.Ytcanhoemhdkjkab
open Go.RowKit

/-- How many bytes texts have together. -/
def bytesS (ss : List ByteArray) : Nat := (ss.map (·.size)).sum
def bytesW (xs : List (Int × ByteArray)) : Nat := (xs.map (·.2.size)).sum

theorem bytesS_take (ss : List ByteArray) (k : Nat) (h : k < ss.length) : bytesS (ss.take (k + 1)) = bytesS (ss.take k) + (ss[k]'h).size := by
  rw [List.take_succ_eq_append_getElem h]
  simp only [bytesS, List.map_append, List.sum_append, List.map_cons, List.map_nil, List.sum_cons, List.sum_nil, Nat.add_zero]
theorem bytesW_take (ss : List (Int × ByteArray)) (k : Nat) (h : k < ss.length) : bytesW (ss.take (k + 1)) = bytesW (ss.take k) + (ss[k]'h).2.size := by
  rw [List.take_succ_eq_append_getElem h]
  simp only [bytesW, List.map_append, List.sum_append, List.map_cons, List.map_nil, List.sum_cons, List.sum_nil, Nat.add_zero]

/-- What the measure of a size comes to: below 0, or what is left. -/
def Sized (left r : Int) (t : Nat) : Prop := r < 0 ∨ (r = left - t ∧ 0 ≤ r)

end Go.Proofs.Ytcanhoemhdkjkab
