/- What SecPut of the specification does: a contract; no statement of the seat is proved here. -/
import Derived.Test.YtcanhoemhdkjkabOwn
namespace Go.Proofs.Ytcanhoemhdkjkab
open Go.RowKit

/-- Whether a write may wait. -/
def putB (kept : List ByteArray) (wait : List (Int × ByteArray)) (a : Int) (s : ByteArray) : Bool := okB kept wait && (writeOkB kept.length (a, s) && decide (wait.length < 600))
/-- What is kept, and what waits, behind a write. -/
def putK (kept : List ByteArray) (wait : List (Int × ByteArray)) : List ByteArray := if okB kept wait = true then kept else []
def putW (kept : List ByteArray) (wait : List (Int × ByteArray)) (a : Int) (s : ByteArray) : List (Int × ByteArray) :=
  if okB kept wait = true then (if putB kept wait a s = true then wait ++ [(a, s)] else wait) else []

theorem wcells_snoc (xs : List (Int × ByteArray)) (a : Int) (s : ByteArray) : wcells (xs ++ [(a, s)]) = wcells xs ++ [.int .i64 a, .string s] := by simp [wcells, wcell]

theorem new_cells (w : World) (a : Int) (s : ByteArray) (e : TypeId) : ∀ j u, [Value.int .i64 a, .string s][j]? = some u → (w.alloc (.cells #[.int .i64 a, .string s] e)).cell? ((⟨w.heap.size, 0, none⟩ : Addr).add j) = some u := by
  intro j u h
  rw [Addr.add_lit, Nat.zero_add, cell_of_row _ _ j _ _ (0, 0) (al1_0 w _)]
  simpa using h

theorem new_one (a : Int) (s : ByteArray) : ∀ u ∈ [Value.int .i64 a, .string s], u.oneCell' = true := by
  intro u hu
  simp only [List.mem_cons, List.not_mem_nil, or_false] at hu
  rcases hu with rfl | rfl <;> rfl

theorem typed_box {w W : World} {S : Nat → Prop} {e t : TypeId} {B : Nat} {xs : Array Value} (h : w.heap[B]? = some (.cells xs t (0, 0))) (he : t ≠ e) (hW : W.heap[B]? = w.heap[B]?) : ¬ typed W S e B := by
  rintro ⟨_, c, hc⟩
  rw [hW, h] at hc
  simp at hc
  exact he hc.2

end Go.Proofs.Ytcanhoemhdkjkab
