/- What the laws' own helpers do with steps: contracts; no statement of the seat is proved here. -/
import Derived.Test.YtapflnabiobonaaDoorH5
namespace Go.Proofs.YtapflnabiobonaaDoor
open Go.RowKit

/-- A step: a flush, or a write. -/
abbrev Stp := Bool × Int × ByteArray
/-- The cells of steps. -/
def scell (x : Stp) : List Value := [.bool x.1, .int .i64 x.2.1, .string x.2.2]
def scells (xs : List Stp) : List Value := xs.flatMap scell
theorem scells_len (xs : List Stp) : (scells xs).length = xs.length * 3 := by
  induction xs with
  | nil => rfl
  | cons x xs ih => simp only [scells, List.flatMap_cons, List.length_append, scell, List.length_cons, List.length_nil] at ih ⊢; omega
theorem scells_at (xs : List Stp) (i : Nat) (x : Stp) (h : xs[i]? = some x) : (scells xs)[3 * i]? = some (.bool x.1) ∧ (scells xs)[3 * i + 1]? = some (.int .i64 x.2.1) ∧ (scells xs)[3 * i + 2]? = some (.string x.2.2) := by
  induction xs generalizing i with
  | nil => simp at h
  | cons y ys ih =>
    cases i with
    | zero => simp at h; subst h; simp [scells, scell]
    | succ i =>
      have := ih i (by simpa using h)
      simp only [scells, List.flatMap_cons, scell, List.cons_append, List.nil_append] at this ⊢
      rw [show 3 * (i + 1) = 3 * i + 1 + 1 + 1 by omega]
      simpa using this

/-- The cells of the step at a place, in a later world. -/
theorem step_cells {w wr : World} {b o k : Nat} {xs : List Stp} {x : Stp} (hc : ∀ j u, (scells xs)[j]? = some u → w.cell? ⟨b, o + j, none⟩ = some u) (h : xs[k]? = some x) (hb : Below w.heap.size w wr) :
    wr.cell? ⟨b, o + k * 3, none⟩ = some (.bool x.1) ∧ wr.cell? ⟨b, o + k * 3 + 1, none⟩ = some (.int .i64 x.2.1) ∧ wr.cell? ⟨b, o + k * 3 + 2, none⟩ = some (.string x.2.2) ∧ b < w.heap.size := by
  obtain ⟨e0, e1, e2⟩ := scells_at xs k x h
  have g0 := hc _ _ e0
  have g1 := hc _ _ e1
  have g2 := hc _ _ e2
  have l1 : b < w.heap.size := World.block_lt_of_cell? w _ g0
  rw [Nat.mul_comm k 3]
  exact ⟨(hb.cell (p := ⟨b, o + 3 * k, none⟩) l1).trans g0, (hb.cell (p := ⟨b, o + (3 * k + 1), none⟩) l1).trans g1, (hb.cell (p := ⟨b, o + (3 * k + 2), none⟩) l1).trans g2, l1⟩

set_option maxHeartbeats 400000 in
theorem eqSecStep_true (x : Stp) (w : World) :
    Calls Tryd.prog 46 #[.agg #[.bool x.1, .int .i64 x.2.1, .string x.2.2], .agg #[.bool x.1, .int .i64 x.2.1, .string x.2.2]] w fun e w' => e = .returned (.bool true) ∧ Below w.heap.size w w' := by
  obtain ⟨f, a, s⟩ := x
  cases f
  all_goals
    go_enter Tryd.func46, Tryd.ntmps46
    go_wp2
    go_ret
    exact ⟨rfl, ((Below.refl _ _).alloc (Nat.le_refl _) _).alloc (by simp) _⟩

set_option maxHeartbeats 400000 in
theorem eqSecStepS_true (va vb : Value) (n : Nat) (xs : List Stp) (w : World) (ha : RowR w 3 va n (scells xs)) (hb : RowR w 3 vb n (scells xs)) :
    Calls Tryd.prog 20 #[va, vb] w fun e w' => e = .returned (.bool true) ∧ Below w.heap.size w w' := by
  obtain ⟨ao, ca, rfl, hn, hl, ha⟩ := ha
  obtain ⟨bo, cb, rfl, _, _, hb⟩ := hb
  rw [scells_len] at hl
  go_enter Tryd.func20, Tryd.ntmps20
  go_wp2
  go_loopw [5] (fun i wr => ∃ k : Nat, k ≤ n ∧ i = .int .i64 k ∧ Below w.heap.size w wr) (fun i _ => n - (intOf i).toNat)
  case atStart => exact ⟨0, Nat.zero_le _, rfl, Below.refl _ _⟩
  case round =>
    obtain ⟨k, hk, rfl, hbel⟩ := hrel
    by_cases hlt : k < n
    · obtain ⟨b1, o1, rfl, hc1⟩ := ha (by omega)
      obtain ⟨b2, o2, rfl, hc2⟩ := hb (by omega)
      obtain ⟨x, hx⟩ := getAt xs k (by omega)
      obtain ⟨f0, f1, f2, l1⟩ := step_cells hc1 hx hbel
      obtain ⟨g0, g1, g2, l2⟩ := step_cells hc2 hx hbel
      obtain ⟨f, a, s⟩ := x
      have hi : (k : Int) < (n : Int) := by omega
      clear ha hb hc1 hc2 hx hl
      go_wp2
      go_region_with (go_at_call 46; refine (eqSecStep_true (f, a, s) _).mono ?_; rintro e w1 ⟨rfl, hbm⟩; have hbm' : Below wr.heap.size wr w1 := bUndrew hbm)
      all_goals
        go_wp2
        go_roundw
        case rel => exact ⟨k + 1, by omega, by go_num, bAllTo hbel hbm'⟩
        case measure => simp [intOf]; omega
    · go_wp2
      go_ret
      exact ⟨rfl, hbel⟩

/-- How many bytes steps have together. -/
def bytesT (xs : List Stp) : Nat := (xs.map (·.2.2.size)).sum
theorem bytesT_take (ss : List Stp) (k : Nat) (h : k < ss.length) : bytesT (ss.take (k + 1)) = bytesT (ss.take k) + (ss[k]'h).2.2.size := by
  rw [List.take_succ_eq_append_getElem h]
  simp only [bytesT, List.map_append, List.sum_append, List.map_cons, List.map_nil, List.sum_cons, List.sum_nil, Nat.add_zero]

theorem infoSt : (Tryd.prog.info? 50).map (fun i => (i.zero, i.size, i.bytes)) = some (some (.agg #[.bool false, .int .i64 0, .string ⟨#[]⟩]), 3, 32) := by kernel_rfl

/-- Three cells of a row, written one behind the other. -/
theorem set3 {cur : Array Value} {j k : Nat} (x y z : Value) (hk : k * 3 + 2 < cur.size) :
    let c := ((cur.setIfInBounds (k * 3) x).setIfInBounds (k * 3 + 1) y).setIfInBounds (k * 3 + 2) z
    (j = k → c[3 * j]? = some x ∧ c[3 * j + 1]? = some y ∧ c[3 * j + 2]? = some z) ∧ (j ≠ k → c[3 * j]? = cur[3 * j]? ∧ c[3 * j + 1]? = cur[3 * j + 1]? ∧ c[3 * j + 2]? = cur[3 * j + 2]?) := by
  refine ⟨?_, fun h => ?_⟩
  · rintro rfl
    rw [Nat.mul_comm 3 j]
    refine ⟨?_, ?_, ?_⟩
    · rw [Array.getElem?_setIfInBounds_ne (by omega), Array.getElem?_setIfInBounds_ne (by omega), Array.getElem?_setIfInBounds_self_of_lt (by omega)]
    · rw [Array.getElem?_setIfInBounds_ne (by omega), Array.getElem?_setIfInBounds_self_of_lt (by simp; omega)]
    · rw [Array.getElem?_setIfInBounds_self_of_lt (by simp; omega)]
  · refine ⟨?_, ?_, ?_⟩ <;> rw [Array.getElem?_setIfInBounds_ne (by omega), Array.getElem?_setIfInBounds_ne (by omega), Array.getElem?_setIfInBounds_ne (by omega)]

/-- A list of cells that holds steps at every place is theirs. -/
theorem scells_ext (xs : List Stp) (cs : List Value) (hl : cs.length = xs.length * 3) (h : ∀ j x, xs[j]? = some x → cs[3 * j]? = some (.bool x.1) ∧ cs[3 * j + 1]? = some (.int .i64 x.2.1) ∧ cs[3 * j + 2]? = some (.string x.2.2)) : cs = scells xs := by
  apply List.ext_getElem?
  intro j
  by_cases hj : j < xs.length * 3
  · obtain ⟨x, hx⟩ := getAt xs (j / 3) (by omega)
    have h1 := h (j / 3) x hx
    have h2 := scells_at xs (j / 3) x hx
    rcases (by omega : j = 3 * (j / 3) ∨ j = 3 * (j / 3) + 1 ∨ j = 3 * (j / 3) + 2) with e | e | e
    · rw [← e] at h1 h2; rw [h1.1, h2.1]
    · rw [← e] at h1 h2; rw [h1.2.1, h2.2.1]
    · rw [← e] at h1 h2; rw [h1.2.2, h2.2.2]
  · rw [List.getElem?_eq_none (by omega), List.getElem?_eq_none (by rw [scells_len]; omega)]

end Go.Proofs.YtapflnabiobonaaDoor
