/- What SecNew does, in the specification and in the program: contracts; no statement of the seat is proved here. -/
import Derived.Test.YtcanhoemhdkjkabH3
import Derived.Deep.OwnRows
namespace Go.Proofs.Ytcanhoemhdkjkab
open Go.RowKit

def inB (a b c : Int) : Bool := decide (b ≤ a) && decide (a ≤ c)

theorem l6In_any (a b c : Int) (w : World) :
    Calls Try.prog 30 #[.int .i64 a, .int .i64 b, .int .i64 c] w fun e w' => e = .returned (.bool (inB a b c)) ∧ w' = w := by
  by_cases h1 : b ≤ a
  · by_cases h2 : a ≤ c
    · go_enter Try.func30, Try.ntmps30
      go_wp2
      go_ret
      exact ⟨by simp [inB, h1, h2], rfl⟩
    · go_enter Try.func30, Try.ntmps30
      go_wp2
      go_ret
      exact ⟨by simp [inB]; omega, rfl⟩
  · go_enter Try.func30, Try.ntmps30
    go_wp2
    go_ret
    exact ⟨by simp [inB]; omega, rfl⟩

/-- The sectors of a new disk. -/
def newKept (a : Int) : List ByteArray := if inB a 0 512 = true then List.replicate a.toNat ⟨#[]⟩ else []

theorem infoStr : (Try.prog.info? 9).map (fun i => (i.zero, i.size, i.bytes)) = some (some (.string ⟨#[]⟩), 1, 16) := by kernel_rfl

/-- The row that make lays, as a row. -/
theorem Row.ofOwns {w : World} {base : Nat} {e : TypeId} {size : Nat} {v : Value} {n : Nat} {xs : List Value} (h : w.ownsRow base e size v n xs) (hn : n ≤ 9223372036854775807) : Row w e size (fun k => base ≤ k) v n xs := by
  obtain ⟨hl, h⟩ := h
  rcases h with ⟨rfl, rfl⟩ | ⟨g, cap, cur, rfl, hb, hg, _, _, _, ht⟩
  · exact ⟨none, 0, rfl, hn, hl, fun h => by omega⟩
  · exact ⟨_, cap, rfl, hn, hl, fun _ => ⟨g, cur, rfl, hb, hg, ht⟩⟩

/-- The row that make has just laid. -/
theorem Row.made (W : World) (e : TypeId) (z : Value) (n base : Nat) (hb : base ≤ W.heap.size) (hn : n ≤ 9223372036854775807) :
    Row (W.alloc (.cells (madeCells #[z] n) e)) e 1 (fun k => base ≤ k) (.slice (some ⟨W.heap.size, 0, none⟩) n n) n (List.replicate n z) := by
  refine ⟨_, n, rfl, hn, by simp, fun _ => ⟨_, _, rfl, hb, heap_alloc_new W _, ?_⟩⟩
  rw [toList_madeCells_one]
  exact List.take_of_length_le (by simp)

theorem newKept_len (a : Int) : (newKept a).length ≤ 512 := by
  unfold newKept
  split
  · rename_i h
    have hb : 0 ≤ a ∧ a ≤ 512 := by simpa [inB] using h
    simp
    omega
  · simp

/-- What a variable of two cells holds. -/
theorem box2 {w : World} {B : Nat} {x y : Value} {t : TypeId} (h : w.heap[B]? = some (.cells #[x, y] t (0, 0))) : w.cell? ⟨B, 0, none⟩ = some x ∧ w.cell? ⟨B, 1, none⟩ = some y ∧ B < w.heap.size :=
  ⟨(cell_of_row w B 0 _ _ (0, 0) h).trans rfl, (cell_of_row w B 1 _ _ (0, 0) h).trans rfl, heap_lt h⟩

theorem box2f {w : World} {B : Nat} {x y : Value} {t : TypeId} (h : w.heap[B]? = some (.cells #[x, y] t (0, 0))) : w.frozen? ⟨B, 0, none⟩ = false ∧ w.frozen? ⟨B, 1, none⟩ = false :=
  ⟨frozen_of_row w B 0 _ _ h, frozen_of_row w B 1 _ _ h⟩

end Go.Proofs.Ytcanhoemhdkjkab
