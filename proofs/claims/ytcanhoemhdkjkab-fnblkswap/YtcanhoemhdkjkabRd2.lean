/- The specification's reader of bytes: how it is opened, texts that are drawn; contracts; no statement of the seat is proved here. -/
import Derived.Test.YtcanhoemhdkjkabRd
namespace Go.Proofs.Ytcanhoemhdkjkab
open Go.RowKit

/-- Bytes that came in. -/
structure BytesIn (w : World) (bo : Option Addr) (n cap : Nat) (bs : List Nat) : Prop where
  reads : RowR w 1 (.slice bo n cap) n (bs.map fun b : Nat => Value.int .u8 (b : Int))
  small : ∀ b ∈ bs, b < 256
  room : n ≤ cap

theorem BytesIn.keep {w w' : World} {bo : Option Addr} {n cap : Nat} {bs : List Nat} (h : BytesIn w bo n cap bs) (hb : Below w.heap.size w w') : BytesIn w' bo n cap bs := ⟨h.reads.keep hb, h.small, h.room⟩

set_option maxHeartbeats 1000000 in
theorem l6Open_any (w : World) (bo : Option Addr) (n cap : Nat) (bs : List Nat) (h : BytesIn w bo n cap bs) (hn : n ≤ 1048576) :
    Calls Try.prog 25 #[.slice bo n cap] w fun e w' => e = .returned (.pointer (some ⟨w.heap.size, 0, none⟩)) ∧ Rd w w' w.heap.size 0 ∧ Below w.heap.size w w' := by
  obtain ⟨h1, h2, h3⟩ := h
  have hal := fun o : Obj => (Below.refl w.heap.size w).alloc (Nat.le_refl _) o
  by_cases hbig : (n : Int) > 2000
  · have hR : RowR w 1 (.slice bo 2000 cap) 2000 ((bs.take 2000).map fun b : Nat => Value.int .u8 (b : Int)) := by
      obtain ⟨ao, cap', e, _, hl, h⟩ := h1
      simp only [Value.slice.injEq, true_and] at e
      obtain ⟨rfl, rfl⟩ := e
      refine ⟨bo, cap, rfl, by omega, by simp at hl ⊢; omega, fun _ => ?_⟩
      obtain ⟨b, off, rfl, hc⟩ := h (by omega)
      refine ⟨b, off, rfl, fun j u hj => hc j u ?_⟩
      have hj' := (List.getElem?_eq_some_iff.1 hj).1
      simp at hj'
      rw [List.getElem?_map, List.getElem?_take_of_lt (by omega)] at hj
      rw [List.getElem?_map]
      exact hj
    have hS : Hid (∀ b ∈ bs.take 2000, b < 256) := fun b hb => h2 b (List.mem_of_mem_take hb)
    obtain ⟨b, off, rfl⟩ : ∃ b off, bo = some ⟨b, off, none⟩ := by
      obtain ⟨ao, cap', e, _, hl, h⟩ := h1
      simp only [Value.slice.injEq, true_and] at e
      obtain ⟨rfl, rfl⟩ := e
      obtain ⟨b, off, rfl, _⟩ := h (by omega)
      exact ⟨b, off, rfl⟩
    have HRR := hide hR
    clear hR h1 h2
    have hc : (2000 : Int) ≤ (cap : Int) := by omega
    go_enter Try.func25, Try.ntmps25
    go_wp2
    go_ret
    exact ⟨rfl, ⟨_, 2000, cap, bs.take 2000, by omega, HRR.out, hS.out, al1_0 w _, Nat.le_refl _, hal _⟩, hal _⟩
  · have H1 := hide h1
    have H2 := hide h2
    clear h1 h2
    go_enter Try.func25, Try.ntmps25
    go_wp2
    go_ret
    exact ⟨rfl, ⟨_, n, cap, bs, by omega, H1.out, H2.out, al1_0 w _, Nat.le_refl _, hal _⟩, hal _⟩

theorem four_cells (w : World) (a b c d : ByteArray) (t : TypeId) (ha : a.size ≤ 1) (hb : b.size ≤ 1) (hc : c.size ≤ 1) (hd : d.size ≤ 1) :
    ∀ j, j < 4 → ∃ s : ByteArray, s.size ≤ 1 ∧ (w.alloc (.cells #[.string a, .string b, .string c, .string d] t)).cell? ⟨w.heap.size, j, none⟩ = some (.string s) := by
  intro j hj
  have h := fun j => cell_of_row _ w.heap.size j _ _ (0, 0) (al1_0 w (.cells #[.string a, .string b, .string c, .string d] t))
  rcases (by omega : j = 0 ∨ j = 1 ∨ j = 2 ∨ j = 3) with rfl | rfl | rfl | rfl
  · exact ⟨a, ha, (h 0).trans rfl⟩
  · exact ⟨b, hb, (h 1).trans rfl⟩
  · exact ⟨c, hc, (h 2).trans rfl⟩
  · exact ⟨d, hd, (h 3).trans rfl⟩

end Go.Proofs.Ytcanhoemhdkjkab
