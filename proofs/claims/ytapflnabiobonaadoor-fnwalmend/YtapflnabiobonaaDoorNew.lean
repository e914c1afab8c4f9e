/- What SecNew does, in the specification and in the program: contracts; no statement of the seat is proved here. -/
import Derived.Test.YtapflnabiobonaaDoorH3
import Derived.Deep.OwnRows
namespace Go.Proofs.YtapflnabiobonaaDoor
open Go.RowKit

def inB (a b c : Int) : Bool := decide (b ≤ a) && decide (a ≤ c)

theorem l6In_any (a b c : Int) (w : World) :
    Calls Tryd.prog 76 #[.int .i64 a, .int .i64 b, .int .i64 c] w fun e w' => e = .returned (.bool (inB a b c)) ∧ w' = w := by
  by_cases h1 : b ≤ a
  · by_cases h2 : a ≤ c
    · go_enter Tryd.func76, Tryd.ntmps76
      go_wp2
      go_ret
      exact ⟨by simp [inB, h1, h2], rfl⟩
    · go_enter Tryd.func76, Tryd.ntmps76
      go_wp2
      go_ret
      exact ⟨by simp [inB]; omega, rfl⟩
  · go_enter Tryd.func76, Tryd.ntmps76
    go_wp2
    go_ret
    exact ⟨by simp [inB]; omega, rfl⟩

/-- The sectors of a new disk. -/
def newKept (a : Int) : List ByteArray := if inB a 0 512 = true then List.replicate a.toNat ⟨#[]⟩ else []

theorem infoStr : (Tryd.prog.info? 9).map (fun i => (i.zero, i.size, i.bytes)) = some (some (.string ⟨#[]⟩), 1, 16) := by kernel_rfl

/-- The row that make lays, as a row. -/
theorem Row.ofOwns {w : World} {base : Nat} {e : TypeId} {size : Nat} {v : Value} {n : Nat} {xs : List Value} (h : w.ownsRow base e size v n xs) (hn : n ≤ 9223372036854775807) : Row w e size (fun k => base ≤ k) v n xs := by
  obtain ⟨hl, h⟩ := h
  rcases h with ⟨rfl, rfl⟩ | ⟨g, cap, cur, rfl, hb, hg, _, _, _, ht⟩
  · exact ⟨none, 0, rfl, hn, hl, fun h => by omega⟩
  · exact ⟨_, cap, rfl, hn, hl, fun _ => ⟨g, cur, rfl, hb, hg, ht⟩⟩

/-- The row that make has just laid. -/
theorem Row.made (W : World) (e : TypeId) (z : Value) (n base : Nat) (hb : base ≤ W.heap.size) (hn : n ≤ 9223372036854775807) :
    Row (W.alloc (.cells (madeCells #[z] n) e)) e 1 (fun k => base ≤ k) (.slice (some ⟨W.heap.size, 0, none⟩) n n) n (List.replicate n z) := by
  refine ⟨_, n, rfl, hn, by simp, fun _ => ⟨_, _, rfl, hb, heap_alloc_new W _, ?_⟩⟩
  rw [toList_madeCells_one]
  exact List.take_of_length_le (by simp)

theorem newDisk (W : World) (base n : Nat) (hb : base ≤ W.heap.size) (hn : n ≤ 512) :
    DiskO (W.alloc (.cells (madeCells #[.string ⟨#[]⟩] n) 9)) (fun k => base ≤ k) (.agg #[.slice (some ⟨W.heap.size, 0, none⟩) n n, .slice none 0 0]) (List.replicate n ⟨#[]⟩) [] := by
  refine ⟨_, _, rfl, ?_, Row.nil _ _ _ _⟩
  simpa using Row.made W 9 (.string ⟨#[]⟩) n base hb (by omega)

set_option maxHeartbeats 400000 in
theorem specSecNew_any (a : Int) (w : World) :
    Calls Tryd.prog 98 #[.int .i64 a] w fun e w' => ∃ v, e = .returned v ∧ DiskO w' (fun k => w.heap.size ≤ k) v (newKept a) [] ∧ Below w.heap.size w w' := by
  by_cases h : inB a 0 512 = true
  · have hk : newKept a = List.replicate a.toNat ⟨#[]⟩ := by simp [newKept, h]
    rw [hk]
    clear hk
    have hb : 0 ≤ a ∧ a ≤ 512 := by simpa [inB] using h
    obtain ⟨n, rfl⟩ := Int.eq_ofNat_of_zero_le hb.1
    have hn : n ≤ 512 := by omega
    rw [Int.toNat_natCast]
    clear hb
    have hmk := run_make_row' (P := Tryd.prog) 22 9 (.string ⟨#[]⟩) 16 Tryd.underlying22 infoStr rfl .i64 .i64 n (by omega) (by omega)
    go_enter Tryd.func98, Tryd.ntmps98
    go_wp2_with (go_at_call 76; refine (l6In_any _ _ _ _).mono ?_; rintro e w' ⟨rfl, rfl⟩)
    refine bodyPost_ret (v := .agg #[.slice (some ⟨w.heap.size + 1, 0, none⟩) n n, .slice none 0 0]) (by simp [results, Tryd.results98, go_sem]) rfl ⟨_, rfl, ?_, ((Below.refl _ _).alloc (Nat.le_refl _) _).alloc (by simp) _⟩
    have := newDisk (w.alloc (.cells #[.slice (some ⟨w.heap.size + 1, 0, none⟩) n n, .slice none 0 0] 31)) w.heap.size n (by simp) hn
    rw [World.size_alloc] at this
    exact this
  · have h0 : inB a 0 512 = false := by simpa using h
    have hk : newKept a = [] := by simp [newKept, h0]
    rw [hk]
    clear hk h
    go_enter Tryd.func98, Tryd.ntmps98
    go_wp2_with (go_at_call 76; refine (l6In_any _ _ _ _).mono ?_; rintro e w' ⟨rfl, rfl⟩)
    exact bodyPost_ret (v := .agg #[.slice none 0 0, .slice none 0 0]) (by simp [results, Tryd.results98, go_sem]) rfl ⟨_, rfl, ⟨_, _, rfl, Row.nil _ _ _ _, Row.nil _ _ _ _⟩, (Below.refl _ _).alloc (Nat.le_refl _) _⟩

theorem newKept_len (a : Int) : (newKept a).length ≤ 512 := by
  unfold newKept
  split
  · rename_i h
    have hb : 0 ≤ a ∧ a ≤ 512 := by simpa [inB] using h
    simp
    omega
  · simp

/-- What a variable of two cells holds. -/
theorem box2 {w : World} {B : Nat} {x y : Value} {t : TypeId} (h : w.heap[B]? = some (.cells #[x, y] t (0, 0))) : w.cell? ⟨B, 0, none⟩ = some x ∧ w.cell? ⟨B, 1, none⟩ = some y ∧ B < w.heap.size :=
  ⟨(cell_of_row w B 0 _ _ (0, 0) h).trans rfl, (cell_of_row w B 1 _ _ (0, 0) h).trans rfl, heap_lt h⟩

theorem box2f {w : World} {B : Nat} {x y : Value} {t : TypeId} (h : w.heap[B]? = some (.cells #[x, y] t (0, 0))) : w.frozen? ⟨B, 0, none⟩ = false ∧ w.frozen? ⟨B, 1, none⟩ = false :=
  ⟨frozen_of_row w B 0 _ _ h, frozen_of_row w B 1 _ _ h⟩

theorem DiskO.shape {w : World} {S : Nat → Prop} {v : Value} {kept : List ByteArray} {wait : List (Int × ByteArray)} (h : DiskO w S v kept wait) : ∃ ao ca ao' ca', v = .agg #[.slice ao kept.length ca, .slice ao' wait.length ca'] := by
  obtain ⟨vk, vw, rfl, ⟨ao, ca, rfl, -⟩, ⟨ao', ca', rfl, -⟩⟩ := h
  exact ⟨ao, ca, ao', ca', rfl⟩

theorem DiskO.upto {w : World} {lo : Nat} {v : Value} {kept : List ByteArray} {wait : List (Int × ByteArray)} (h : DiskO w (fun k => lo ≤ k) v kept wait) : DiskO w (fun k => lo ≤ k ∧ k < w.heap.size) v kept wait :=
  h.mono fun _ hk h => ⟨h, hk⟩

end Go.Proofs.YtapflnabiobonaaDoor
