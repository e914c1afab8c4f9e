/- What SecLook does, in the specification and in the program: contracts; no statement of the seat is proved here. -/
import Derived.Test.YtcanhoemhdkjkabSFlush
import Derived.Test.YtcanhoemhdkjkabIOk
namespace Go.Proofs.Ytcanhoemhdkjkab
open Go.RowKit Go.Shelf

attribute [local go_sem] Oper.semAt_some

/-- What a sector reads. -/
def lookB (kept : List ByteArray) (wait : List (Int × ByteArray)) (a : Int) : ByteArray :=
  if okB kept wait = true ∧ inB a 0 ((kept.length : Int) - 1) = true then (flushL kept wait)[a.toNat]?.getD ⟨#[]⟩ else ⟨#[]⟩

/-- What a sector reads behind the writes at some places, in order. -/
def lookL (wait : List (Int × ByteArray)) (a : Nat) (t : ByteArray) (pre : List Nat) : ByteArray := pre.foldl (fun t j => if (wAt wait j).1 = (a : Int) then (wAt wait j).2 else t) t

theorem lookL_snoc (wait : List (Int × ByteArray)) (a : Nat) (t : ByteArray) (pre : List Nat) (x : Nat) : lookL wait a t (pre ++ [x]) = if (wAt wait x).1 = (a : Int) then (wAt wait x).2 else lookL wait a t pre := by simp [lookL]

theorem lookL_flush (kept : List ByteArray) (wait : List (Int × ByteArray)) (a : Nat) (t : ByteArray) (ht : kept[a]? = some t) (hw : ∀ x ∈ wait, 0 ≤ x.1 ∧ x.1 < kept.length) :
    ∀ k, k ≤ wait.length → (flushL kept (wait.take k))[a]? = some (lookL wait a t (List.range k)) := by
  intro k
  induction k with
  | zero => intro _; simpa [flushL, lookL] using ht
  | succ k ih =>
    intro hk
    obtain ⟨x, hx⟩ := getAt wait k (by omega)
    have hwx : wAt wait k = x := by simp [wAt, hx]
    have hb := hw x (List.mem_of_getElem? hx)
    rw [List.take_add_one, hx, Option.toList_some, flushL_snoc, List.range_succ, lookL_snoc, hwx]
    by_cases e : x.1 = (a : Int)
    · rw [if_pos e, show x.1.toNat = a by omega, List.getElem?_set_self (by rw [flushL_len]; omega)]
    · rw [if_neg e, List.getElem?_set_ne (by omega)]
      exact ih (by omega)

/-- Where the writes lie when their iterator has been made. -/
theorem told_prep {w Wb : World} (xs : List (Int × ByteArray)) (bo : Option Addr) (o : Obj) (hb : Below w.heap.size w Wb)
    (q : 0 < xs.length → ∃ b off, bo = some ⟨b, off, none⟩ ∧ ∀ j u, (wcells xs)[j]? = some u → w.cell? ⟨b, off + j, none⟩ = some u) :
    ∃ b off, b < (Wb.alloc o).heap.size ∧ (0 < xs.length ∧ b < w.heap.size ∨ b = Wb.heap.size) ∧ (0 < xs.length → b < w.heap.size ∧ bo = some ⟨b, off, none⟩) ∧ ∀ j u, (wcells xs)[j]? = some u → (Wb.alloc o).cell? ⟨b, off + j, none⟩ = some u := by
  by_cases h0 : 0 < xs.length
  · obtain ⟨b, off, e, hc⟩ := q h0
    obtain ⟨x, hx⟩ := getAt xs 0 h0
    have hl : b < w.heap.size := World.block_lt_of_cell? w _ (hc _ _ (wcells_at xs 0 x hx).1)
    have hbb := hb.alloc hb.size o
    exact ⟨b, off, by have := hbb.size; omega, .inl ⟨h0, hl⟩, fun _ => ⟨hl, e⟩, fun j u hj => (hbb.cell (p := ⟨b, off + j, none⟩) hl).trans (hc j u hj)⟩
  · refine ⟨Wb.heap.size, 0, by simp, .inr rfl, fun h => by omega, fun j u hj => ?_⟩
    have : xs = [] := List.eq_nil_of_length_eq_zero (by omega)
    subst this
    simp [wcells] at hj

end Go.Proofs.Ytcanhoemhdkjkab
