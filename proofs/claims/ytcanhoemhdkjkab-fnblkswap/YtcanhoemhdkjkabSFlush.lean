/- What SecFlush of the specification does: a contract; no statement of the seat is proved here. -/
import Derived.Test.YtcanhoemhdkjkabSOk
import Derived.Test.YtcanhoemhdkjkabAp
namespace Go.Proofs.Ytcanhoemhdkjkab
open Go.RowKit

/-- The sectors behind writes. -/
def flushL (kept : List ByteArray) (wait : List (Int × ByteArray)) : List ByteArray := wait.foldl (fun k x => k.set x.1.toNat x.2) kept

theorem flushL_len (kept : List ByteArray) (wait : List (Int × ByteArray)) : (flushL kept wait).length = kept.length := by
  unfold flushL
  induction wait generalizing kept with
  | nil => rfl
  | cons x xs ih => simp [ih]

theorem flushL_snoc (kept : List ByteArray) (wait : List (Int × ByteArray)) (x : Int × ByteArray) : flushL kept (wait ++ [x]) = (flushL kept wait).set x.1.toNat x.2 := by simp [flushL]

theorem okB_parts {kept : List ByteArray} {wait : List (Int × ByteArray)} (h : okB kept wait = true) : kept.length ≤ 512 ∧ wait.length ≤ 600 ∧ (∀ s ∈ kept, s.size ≤ 16) ∧ ∀ x ∈ wait, 0 ≤ x.1 ∧ x.1 < kept.length ∧ x.2.size ≤ 16 := by
  simp only [okB, Bool.and_eq_true, decide_eq_true_eq, List.all_eq_true, writeOkB, inB] at h
  obtain ⟨⟨⟨h1, h2⟩, h3⟩, h4⟩ := h
  exact ⟨h1, h2, h3, fun x hx => by have := h4 x hx; omega⟩

/-- What is kept behind a flush. -/
def flushK (kept : List ByteArray) (wait : List (Int × ByteArray)) : List ByteArray := if okB kept wait = true then flushL kept wait else []

end Go.Proofs.Ytcanhoemhdkjkab
