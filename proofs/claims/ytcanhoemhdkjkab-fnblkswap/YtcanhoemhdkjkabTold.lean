/- The iterator over the writes that wait: its contract; no statement of the seat is proved here. -/
import Derived.RangeFuncNested
import Derived.RangeFuncBound
import Derived.RangeFuncCalls
import Derived.RangeFuncLeaves
import Derived.Shelf.Abstract
import Derived.OwnWalkIn
import Derived.TacticsInMore
import Derived.LoopNIn
import Derived.LoopIn
import Derived.Test.YtcanhoemhdkjkabSOk
namespace Go.Proofs.Ytcanhoemhdkjkab
open Go.RowKit Go.Shelf

attribute [local go_sem] Oper.semAt_some

/-- The write at a place. -/
def wAt (xs : List (Int × ByteArray)) (i : Nat) : Int × ByteArray := xs[i]?.getD (0, ⟨#[]⟩)
/-- What is handed to the loop's body at a place. -/
def wEnc (xs : List (Int × ByteArray)) (i : Nat) : Array Value := #[.int .i64 (i : Nat), .agg #[.int .i64 (wAt xs i).1, .string (wAt xs i).2]]
theorem wEnc_eq {xs : List (Int × ByteArray)} {i : Nat} {a : Int} {s : ByteArray} (h : wAt xs i = (a, s)) : wEnc xs i = #[.int .i64 (i : Nat), .agg #[.int .i64 a, .string s]] := by simp [wEnc, h]
theorem wAt_size {xs : List (Int × ByteArray)} (h : ∀ s ∈ xs, s.2.size ≤ 9223372036854775807) (i : Nat) : (wAt xs i).2.size ≤ 9223372036854775807 := by
  unfold wAt
  cases hx : xs[i]? with
  | none => show (0 : Nat) ≤ _; omega
  | some y => exact h y (List.mem_of_getElem? hx)
/-- A round keeps the row b. -/
def KpB (b : Nat) (W W' : World) : Prop := W'.heap[b]? = W.heap[b]?

theorem kpB_t {b : Nat} {A B C : World} (h : KpB b A B) (k : KpB b B C) : KpB b A C := Eq.trans k h
theorem kpB_b {b : Nat} {w : World} (hb : b < w.heap.size) (W : World) (l : Nat) (o o' : Obj) (hl : w.heap.size ≤ l) (_ : W.heap[l]? = some o) (_ : o.isCells = false) (_ : o.isWalk = false) : KpB b W (W.putObj l o') :=
  World.putObj_heap_other (by omega)

end Go.Proofs.Ytcanhoemhdkjkab
