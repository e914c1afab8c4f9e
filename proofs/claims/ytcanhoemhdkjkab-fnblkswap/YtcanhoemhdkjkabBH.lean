/- Lists of elements of several cells in memory; what the laws' own helpers do with pieces: contracts; no statement of the seat is proved here. -/
import Derived.Test.YtcanhoemhdkjkabOwn
import Derived.Test.YtcanhoemhdkjkabH5
namespace Go.Proofs.Ytcanhoemhdkjkab
open Go.RowKit

section
variable {α : Type} {f : α → List Value} {c : Nat}

theorem fm_len (hf : ∀ x, (f x).length = c) (xs : List α) : (xs.flatMap f).length = xs.length * c := by
  induction xs with
  | nil => simp
  | cons x xs ih => rw [List.flatMap_cons, List.length_append, hf, ih, List.length_cons, Nat.add_mul, Nat.one_mul, Nat.add_comm]

theorem fm_at (hf : ∀ x, (f x).length = c) : ∀ (xs : List α) (i : Nat) (x : α) (j : Nat), xs[i]? = some x → j < c → (xs.flatMap f)[i * c + j]? = (f x)[j]?
  | [], i, x, j, h, _ => by simp at h
  | y :: ys, 0, x, j, h, hj => by
    simp at h
    subst h
    rw [List.flatMap_cons, Nat.zero_mul, Nat.zero_add, List.getElem?_append_left (by rw [hf]; exact hj)]
  | y :: ys, i + 1, x, j, h, hj => by
    have e : (i + 1) * c + j = c + (i * c + j) := by rw [Nat.add_mul]; omega
    rw [List.flatMap_cons, e, List.getElem?_append_right (by rw [hf]; omega), hf, Nat.add_sub_cancel_left]
    exact fm_at hf ys i x j (by simpa using h) hj

theorem fm_ext (hf : ∀ x, (f x).length = c) (hc : 0 < c) (xs : List α) (cs : List Value) (hl : cs.length = xs.length * c) (h : ∀ i x j, xs[i]? = some x → j < c → cs[i * c + j]? = (f x)[j]?) : cs = xs.flatMap f := by
  apply List.ext_getElem?
  intro k
  by_cases hk : k < xs.length * c
  · have hi : k / c < xs.length := (Nat.div_lt_iff_lt_mul hc).2 hk
    obtain ⟨x, hx⟩ := getAt xs (k / c) hi
    have h1 := h (k / c) x (k % c) hx (Nat.mod_lt _ hc)
    have h2 := fm_at hf xs (k / c) x (k % c) hx (Nat.mod_lt _ hc)
    have e : k / c * c + k % c = k := by rw [Nat.mul_comm]; exact Nat.div_add_mod k c
    rw [e] at h1 h2
    rw [h1, h2]
  · rw [List.getElem?_eq_none (by omega), List.getElem?_eq_none (by rw [fm_len hf]; omega)]

theorem fm_take (hf : ∀ x, (f x).length = c) : ∀ (xs : List α) (n : Nat), (xs.flatMap f).take (n * c) = (xs.take n).flatMap f
  | [], n => by simp
  | x :: xs, 0 => by simp
  | x :: xs, n + 1 => by
    rw [List.take_succ_cons, List.flatMap_cons, List.flatMap_cons, ← fm_take hf xs n, show (n + 1) * c = (f x).length + n * c by rw [hf, Nat.add_mul]; omega, List.take_length_add_append]

theorem fm_drop (hf : ∀ x, (f x).length = c) : ∀ (xs : List α) (n : Nat), (xs.flatMap f).drop (n * c) = (xs.drop n).flatMap f
  | [], n => by simp
  | x :: xs, 0 => by simp
  | x :: xs, n + 1 => by
    rw [List.drop_succ_cons, List.flatMap_cons, ← fm_drop hf xs n, show (n + 1) * c = (f x).length + n * c by rw [hf, Nat.add_mul]; omega, List.drop_length_add_append]

theorem fm_one (hf : ∀ x, ∀ u ∈ f x, u.oneCell' = true) (xs : List α) : ∀ u ∈ xs.flatMap f, u.oneCell' = true := by
  intro u hu
  obtain ⟨x, _, h⟩ := List.mem_flatMap.1 hu
  exact hf x u h

/-- The cells of an element, in a later world. -/
theorem el_cell (hf : ∀ x, (f x).length = c) {w wr : World} {b o k : Nat} {xs : List α} {x : α} (hc : ∀ j u, (xs.flatMap f)[j]? = some u → w.cell? ⟨b, o + j, none⟩ = some u) (h : xs[k]? = some x) (hb : Below w.heap.size w wr)
    (j : Nat) (u : Value) (hj : (f x)[j]? = some u) : wr.cell? ⟨b, o + k * c + j, none⟩ = some u ∧ b < w.heap.size := by
  have hjc : j < c := by have := (List.getElem?_eq_some_iff.1 hj).1; rwa [hf] at this
  have g := hc (k * c + j) u (by rw [fm_at hf xs k x j h hjc]; exact hj)
  rw [← Nat.add_assoc] at g
  have l : b < w.heap.size := World.block_lt_of_cell? w _ g
  exact ⟨(hb.cell (p := ⟨b, o + k * c + j, none⟩) l).trans g, l⟩
end

/-- A piece: disk, block, epoch, data. -/
abbrev Pc := Int × Int × Int × Int
def pcell (x : Pc) : List Value := [.int .i64 x.1, .int .i64 x.2.1, .int .i64 x.2.2.1, .int .i64 x.2.2.2]
def pcells (xs : List Pc) : List Value := xs.flatMap pcell
theorem pcell_len (x : Pc) : (pcell x).length = 4 := rfl
theorem pcells_len (xs : List Pc) : (pcells xs).length = xs.length * 4 := fm_len pcell_len xs
theorem pcell_one (x : Pc) : ∀ u ∈ pcell x, u.oneCell' = true := by
  intro u hu
  simp only [pcell, List.mem_cons, List.not_mem_nil, or_false] at hu
  rcases hu with rfl | rfl | rfl | rfl <;> rfl
theorem pcells_one (xs : List Pc) : ∀ u ∈ pcells xs, u.oneCell' = true := fm_one pcell_one xs
theorem pcells_snoc (xs : List Pc) (x : Pc) : pcells (xs ++ [x]) = pcells xs ++ pcell x := by simp [pcells]

theorem pc_cells {w wr : World} {b o k : Nat} {xs : List Pc} {x : Pc} (hc : ∀ j u, (pcells xs)[j]? = some u → w.cell? ⟨b, o + j, none⟩ = some u) (h : xs[k]? = some x) (hb : Below w.heap.size w wr) :
    wr.cell? ⟨b, o + k * 4, none⟩ = some (.int .i64 x.1) ∧ wr.cell? ⟨b, o + k * 4 + 1, none⟩ = some (.int .i64 x.2.1) ∧ wr.cell? ⟨b, o + k * 4 + 2, none⟩ = some (.int .i64 x.2.2.1) ∧ wr.cell? ⟨b, o + k * 4 + 3, none⟩ = some (.int .i64 x.2.2.2) ∧ b < w.heap.size := by
  have g := fun j u => el_cell pcell_len hc h hb j u
  exact ⟨(g 0 _ rfl).1, (g 1 _ rfl).1, (g 2 _ rfl).1, (g 3 _ rfl).1, (g 0 _ rfl).2⟩

theorem infoPc : (Try.prog.info? 31).map (fun i => (i.zero, i.size, i.bytes)) = some (some (.agg #[.int .i64 0, .int .i64 0, .int .i64 0, .int .i64 0]), 4, 32) := by kernel_rfl

/-- Four cells of a row, written one behind the other. -/
theorem set4 {cur : Array Value} {j k : Nat} (x y z t : Value) (hk : k * 4 + 3 < cur.size) :
    let c := (((cur.setIfInBounds (k * 4) x).setIfInBounds (k * 4 + 1) y).setIfInBounds (k * 4 + 2) z).setIfInBounds (k * 4 + 3) t
    (j = k → c[j * 4]? = some x ∧ c[j * 4 + 1]? = some y ∧ c[j * 4 + 2]? = some z ∧ c[j * 4 + 3]? = some t) ∧ (j ≠ k → c[j * 4]? = cur[j * 4]? ∧ c[j * 4 + 1]? = cur[j * 4 + 1]? ∧ c[j * 4 + 2]? = cur[j * 4 + 2]? ∧ c[j * 4 + 3]? = cur[j * 4 + 3]?) := by
  refine ⟨?_, fun h => ?_⟩
  · rintro rfl
    refine ⟨?_, ?_, ?_, ?_⟩
    · rw [Array.getElem?_setIfInBounds_ne (by omega), Array.getElem?_setIfInBounds_ne (by omega), Array.getElem?_setIfInBounds_ne (by omega), Array.getElem?_setIfInBounds_self_of_lt (by omega)]
    · rw [Array.getElem?_setIfInBounds_ne (by omega), Array.getElem?_setIfInBounds_ne (by omega), Array.getElem?_setIfInBounds_self_of_lt (by simp; omega)]
    · rw [Array.getElem?_setIfInBounds_ne (by omega), Array.getElem?_setIfInBounds_self_of_lt (by simp; omega)]
    · rw [Array.getElem?_setIfInBounds_self_of_lt (by simp; omega)]
  · refine ⟨?_, ?_, ?_, ?_⟩ <;> rw [Array.getElem?_setIfInBounds_ne (by omega), Array.getElem?_setIfInBounds_ne (by omega), Array.getElem?_setIfInBounds_ne (by omega), Array.getElem?_setIfInBounds_ne (by omega)]

/-- A list of cells that holds pieces at every place is theirs. -/
theorem pcells_ext (xs : List Pc) (cs : List Value) (hl : cs.length = xs.length * 4) (h : ∀ j x, xs[j]? = some x → cs[j * 4]? = some (.int .i64 x.1) ∧ cs[j * 4 + 1]? = some (.int .i64 x.2.1) ∧ cs[j * 4 + 2]? = some (.int .i64 x.2.2.1) ∧ cs[j * 4 + 3]? = some (.int .i64 x.2.2.2)) : cs = pcells xs := by
  refine fm_ext pcell_len (by omega) xs cs hl (fun i x j hx hj => ?_)
  obtain ⟨h0, h1, h2, h3⟩ := h i x hx
  rcases (by omega : j = 0 ∨ j = 1 ∨ j = 2 ∨ j = 3) with rfl | rfl | rfl | rfl
  · exact h0
  · exact h1
  · exact h2
  · exact h3

/-- The marks of n pieces from k on. -/
def mkP (k n : Nat) : List Pc := (List.range n).map fun i => ((k + i * 4 : Nat), (k + i * 4 + 1 : Nat), (k + i * 4 + 2 : Nat), (k + i * 4 + 3 : Nat))
theorem mkP_len (k n : Nat) : (mkP k n).length = n := by simp [mkP]
theorem mkP_get (k n i : Nat) (h : i < n) : (mkP k n)[i]? = some (((k + i * 4 : Nat) : Int), ((k + i * 4 + 1 : Nat) : Int), ((k + i * 4 + 2 : Nat) : Int), ((k + i * 4 + 3 : Nat) : Int)) := by simp [mkP, h]

end Go.Proofs.Ytcanhoemhdkjkab
