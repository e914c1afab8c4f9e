/- Disks that are drawn, also ones that are not ok: contracts; no statement of the seat is proved here. -/
import Derived.Test.YtapflnabiobonaaDoorDraw
import Derived.Test.YtapflnabiobonaaDoorPut
import Derived.Test.YtapflnabiobonaaDoorInts
namespace Go.Proofs.YtapflnabiobonaaDoor
open Go.RowKit

theorem Small.mono {d d' : Nat} {kept : List ByteArray} {wait : List (Int × ByteArray)} (h : Small d kept wait) (hd : d ≤ d') : Small d' kept wait := ⟨by have := h.kl; omega, h.ks, by have := h.wl; omega, h.ws⟩

theorem Small.snocW {d : Nat} {kept : List ByteArray} {wait : List (Int × ByteArray)} (h : Small d kept wait) (a : Int) (s : ByteArray) (hs : s.size ≤ 1000) : Small (d + 1) kept (wait ++ [(a, s)]) := by
  refine ⟨by have := h.kl; omega, h.ks, by have := h.wl; simp; omega, fun x hx => ?_⟩
  rcases List.mem_append.1 hx with hx | hx
  · exact h.ws x hx
  · rw [List.mem_singleton] at hx
    subst hx
    exact hs

theorem Small.snocK {d : Nat} {kept : List ByteArray} {wait : List (Int × ByteArray)} (h : Small d kept wait) (s : ByteArray) (hs : s.size ≤ 1000) : Small (d + 1) (kept ++ [s]) wait := by
  refine ⟨by have := h.kl; simp; omega, fun x hx => ?_, by have := h.wl; omega, h.ws⟩
  rcases List.mem_append.1 hx with hx | hx
  · exact h.ks x hx
  · rw [List.mem_singleton] at hx
    subst hx
    exact hs

theorem l6Many_at (s : ByteArray) (a : Int) (k B : Nat) (w : World) (ha : a = k) (hk : k ≤ 1000000) (hB : s.size * k ≤ B) (hB' : B ≤ 1000000) :
    Calls Tryd.prog 56 #[.string s, .int .i64 a] w fun e w' => ∃ t, e = .returned (.string t) ∧ t.size ≤ B ∧ w' = w := by
  subst ha
  exact l6Many_any s k B w hk hB hB'

theorem wrap16 (q : Nat) (h : q < 2) : IntKind.i64.wrap (16 + (q : Int)) = ((16 + q : Nat) : Int) := by
  rcases (by omega : q = 0 ∨ q = 1) with rfl | rfl <;> decide

theorem new_cell1 {W : World} {A : Nat} (s : ByteArray) (e : TypeId) (hA : A = W.heap.size) : ∀ j u, [Value.string s][j]? = some u → (W.alloc (.cells #[.string s] e)).cell? ((⟨A, 0, none⟩ : Addr).add j) = some u := by
  subst hA
  intro j u h
  rw [Addr.add_lit, Nat.zero_add, cell_of_row _ _ j _ _ (0, 0) (al1_0 W _)]
  simpa using h

theorem one_str (s : ByteArray) : ∀ u ∈ [Value.string s], u.oneCell' = true := by
  intro u hu
  rw [List.mem_singleton] at hu
  subst hu
  rfl

theorem two_cells (q : Nat) (hq : q < 2) (a b : Int) (t : TypeId) : ∃ x : Int, #[Value.int .i64 a, .int .i64 b][q]? = some (.int .i64 x) ∧ ∀ w : World, (w.alloc (.cells #[.int .i64 a, .int .i64 b] t)).cell? ⟨w.heap.size, q, none⟩ = some (.int .i64 x) := by
  rcases (by omega : q = 0 ∨ q = 1) with rfl | rfl
  · exact ⟨a, rfl, fun w => (cell_of_row _ _ 0 _ _ (0, 0) (al1_0 w _)).trans rfl⟩
  · exact ⟨b, rfl, fun w => (cell_of_row _ _ 1 _ _ (0, 0) (al1_0 w _)).trans rfl⟩

theorem two_kept {w3 w4 : World} {R q : Nat} {x a b : Int} {t : TypeId} (hu : Upd (fun j => j = R) (w3.alloc (.cells #[.int .i64 a, .int .i64 b] t)).drew w4) (hR : ¬ w3.heap.size = R)
    (hxw : ∀ w : World, (w.alloc (.cells #[.int .i64 a, .int .i64 b] t)).cell? ⟨w.heap.size, q, none⟩ = some (.int .i64 x)) : w4.cell? ⟨w3.heap.size, q, none⟩ = some (.int .i64 x) := by
  have h1 : w4.heap[w3.heap.size]? = (w3.alloc (.cells #[.int .i64 a, .int .i64 b] t)).heap[w3.heap.size]? := hu.block w3.heap.size (by show w3.heap.size < (w3.alloc (.cells #[.int .i64 a, .int .i64 b] t)).heap.size; simp) hR
  exact (World.cell?_of_block (a := ⟨w3.heap.size, q, none⟩) h1).trans (hxw w3)

theorem new_cells' {W : World} {A : Nat} (a : Int) (s : ByteArray) (e : TypeId) (hA : A = W.heap.size) : ∀ j u, [Value.int .i64 a, .string s][j]? = some u → (W.alloc (.cells #[.int .i64 a, .string s] e)).cell? ((⟨A, 0, none⟩ : Addr).add j) = some u := by
  subst hA
  exact new_cells W a s e

theorem bAlloc' {W w : World} (h : Below W.heap.size W w) (o : Obj) : Below W.heap.size W (w.alloc o) := h.alloc h.size o

end Go.Proofs.YtapflnabiobonaaDoor
