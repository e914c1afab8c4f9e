/- Contracts and plain facts that the claims of this seat lean on (texts K, H, H2, H3, New, H4, H5, SOk, Ap, SFlush, Told, R, IOk, Ap2); no statement of the seat is proved here. -/
import Derived.WalkKit
import Derived.WalkSpells
import Derived.WalkLawsBesides
import Derived.BigQuiet
import Derived.Deep.QuietTactic
import Derived.Test.YtllhifiklcdoiaaProg
import Derived.Deep.RegionWith
import Derived.Deep.OwnRows
import Derived.RangeFuncNested
import Derived.RangeFuncBound
import Derived.RangeFuncCalls
import Derived.RangeFuncLeaves
import Derived.Shelf.Abstract
import Derived.OwnWalkIn
import Derived.TacticsInMore
import Derived.LoopNIn
import Derived.LoopIn
import Derived.Deep.RegionLaw

/- Plain facts on worlds, slices in memory and texts of numbers, for the walks of this seat; no statement of the seat is proved here. -/
namespace Go.Proofs.Ytllhifiklcdoiaa
open Go.RowKit

theorem hide {p : Prop} (h : p) : Hid p := h
theorem unhide {p : Prop} (h : Hid p) : p := h

/-- Of the old blocks those in S alone may have turned. -/
structure Upd (S : Nat → Prop) (w w' : World) : Prop where
  os : w'.os = w.os
  tape : w'.tape = w.tape
  output : w'.output = w.output
  size : w.heap.size ≤ w'.heap.size
  block : ∀ k, k < w.heap.size → ¬ S k → w'.heap[k]? = w.heap[k]?

theorem Upd.refl (S : Nat → Prop) (w : World) : Upd S w w := ⟨rfl, rfl, rfl, Nat.le_refl _, fun _ _ _ => rfl⟩

theorem Upd.trans {S : Nat → Prop} {a b c : World} (h : Upd S a b) (k : Upd S b c) : Upd S a c :=
  ⟨k.os.trans h.os, k.tape.trans h.tape, k.output.trans h.output, Nat.le_trans h.size k.size,
    fun i hi hS => (k.block i (Nat.lt_of_lt_of_le hi h.size) hS).trans (h.block i hi hS)⟩

theorem Upd.mono {S T : Nat → Prop} {w w' : World} (h : Upd S w w') (hST : ∀ k, S k → T k) : Upd T w w' :=
  ⟨h.os, h.tape, h.output, h.size, fun k hk hT => h.block k hk (fun hs => hT (hST k hs))⟩

theorem Upd.ofBelow {S : Nat → Prop} {w w' : World} (h : Below w.heap.size w w') : Upd S w w' :=
  ⟨h.os, h.tape, h.output, h.size, fun k hk _ => h.block k hk⟩

theorem Upd.below {S : Nat → Prop} {w w' : World} (h : Upd S w w') {B : Nat} (hB : B ≤ w.heap.size) (hS : ∀ k, S k → B ≤ k) : Below B w w' :=
  ⟨h.os, h.tape, h.output, h.size, fun k hk => h.block k (by omega) (fun hs => by have := hS k hs; omega)⟩

theorem Upd.belowAll {S : Nat → Prop} {w w' : World} (h : Upd S w w') (hS : ∀ k, S k → w.heap.size ≤ k) : Below w.heap.size w w' :=
  h.below (Nat.le_refl _) hS

theorem Upd.setCell {S : Nat → Prop} (w : World) (g j : Nat) (u : Value) (hS : S g) : Upd S w (w.setCell ⟨g, j, none⟩ u) :=
  ⟨rfl, rfl, rfl, by simp, fun k _ hk => Below.heap_setCell _ _ _ _ (fun e => hk (by subst e; exact hS))⟩

theorem bAll {a b c : World} (h : Below a.heap.size a b) (k : Below b.heap.size b c) : Below a.heap.size a c :=
  h.trans (k.mono h.size)

theorem bCells {W w1 : World} (hb : Below W.heap.size W w1) : (∀ b o, b < W.heap.size → w1.cell? ⟨b, o, none⟩ = W.cell? ⟨b, o, none⟩) ∧ (∀ b o, b < W.heap.size → w1.frozen? ⟨b, o, none⟩ = W.frozen? ⟨b, o, none⟩) :=
  ⟨fun b o h => hb.cell (p := ⟨b, o, none⟩) h, fun b o h => hb.frozen (p := ⟨b, o, none⟩) h⟩

theorem bAllTo {a b c : World} (h : Below a.heap.size a b) (k : Below b.heap.size b c) : Below a.heap.size a c := bAll h k
theorem bUndrew {B : Nat} {w w' : World} (h : Below B w.drew w') : Below B w w' := ⟨h.os, h.tape, h.output, h.size, h.block⟩
theorem bUndrewN {B n : Nat} {w w' : World} (h : Below B (w.drewN n) w') : Below B w w' := ⟨h.os, h.tape, h.output, h.size, h.block⟩

theorem bKeeps {W w1 : World} (hb : Below W.heap.size W w1) {g : Nat} {o : Obj} (h : W.heap[g]? = some o) : w1.heap[g]? = some o :=
  (hb.block g (Array.getElem?_eq_some_iff.1 h).1).trans h

theorem Upd.keeps {S : Nat → Prop} {W w1 : World} (hb : Upd S W w1) {g : Nat} {o : Obj} (h : W.heap[g]? = some o) (hS : ¬ S g) : w1.heap[g]? = some o :=
  (hb.block g (Array.getElem?_eq_some_iff.1 h).1 hS).trans h

theorem heap_lt {w : World} {g : Nat} {o : Obj} (h : w.heap[g]? = some o) : g < w.heap.size := (Array.getElem?_eq_some_iff.1 h).1

theorem al1_0 (w : World) (a : Obj) : (w.alloc a).heap[w.heap.size]? = some a := heap_alloc_new w a
theorem al2_0 (w : World) (a b : Obj) : ((w.alloc a).alloc b).heap[w.heap.size]? = some a := (Below.heap_alloc _ _ _ (by simp)).trans (al1_0 w a)
theorem al2_1 (w : World) (a b : Obj) : ((w.alloc a).alloc b).heap[w.heap.size + 1]? = some b := by have := al1_0 (w.alloc a) b; rwa [World.size_alloc] at this
theorem al3_0 (w : World) (a b c : Obj) : (((w.alloc a).alloc b).alloc c).heap[w.heap.size]? = some a := (Below.heap_alloc _ _ _ (by simp; omega)).trans (al2_0 w a b)
theorem al3_1 (w : World) (a b c : Obj) : (((w.alloc a).alloc b).alloc c).heap[w.heap.size + 1]? = some b := (Below.heap_alloc _ _ _ (by simp)).trans (al2_1 w a b)
theorem al3_2 (w : World) (a b c : Obj) : (((w.alloc a).alloc b).alloc c).heap[w.heap.size + 1 + 1]? = some c := by have := al2_1 (w.alloc a) b c; rwa [World.size_alloc] at this

/-! ### Slices in memory -/

/-- What a slice reads: n elements of 'size' cells each, the cells cs. -/
def RowR (w : World) (size : Nat) (v : Value) (n : Nat) (cs : List Value) : Prop :=
  ∃ ao cap, v = .slice ao n cap ∧ n ≤ 9223372036854775807 ∧ cs.length = n * size ∧
    (0 < n → ∃ b off, ao = some ⟨b, off, none⟩ ∧ ∀ j u, cs[j]? = some u → w.cell? ⟨b, off + j, none⟩ = some u)

/-- A slice in a row of its own, whose block is in S. -/
def Row (w : World) (e : TypeId) (size : Nat) (S : Nat → Prop) (v : Value) (n : Nat) (cs : List Value) : Prop :=
  ∃ ao cap, v = .slice ao n cap ∧ n ≤ 9223372036854775807 ∧ cs.length = n * size ∧
    (0 < n → ∃ g cur, ao = some ⟨g, 0, none⟩ ∧ S g ∧ w.heap[g]? = some (.cells cur e (0, 0)) ∧ cur.toList.take (n * size) = cs)

theorem Row.reads {w : World} {e : TypeId} {size : Nat} {S : Nat → Prop} {v : Value} {n : Nat} {cs : List Value} (h : Row w e size S v n cs) : RowR w size v n cs := by
  obtain ⟨ao, cap, rfl, hn, hl, h⟩ := h
  refine ⟨ao, cap, rfl, hn, hl, fun h0 => ?_⟩
  obtain ⟨g, cur, rfl, _, hg, ht⟩ := h h0
  refine ⟨g, 0, rfl, fun j u hj => ?_⟩
  rw [Nat.zero_add, cell_of_row w g j cur e (0, 0) hg]
  subst ht
  have hj' := (List.getElem?_eq_some_iff.1 hj).1
  rw [List.getElem?_take_of_lt (by simp at hj'; omega)] at hj
  simpa using hj

theorem RowR.nil (w : World) (size : Nat) : RowR w size (.slice none 0 0) 0 [] := ⟨none, 0, rfl, by omega, by simp, fun h => by omega⟩
theorem Row.nil (w : World) (e : TypeId) (size : Nat) (S : Nat → Prop) : Row w e size S (.slice none 0 0) 0 [] := ⟨none, 0, rfl, by omega, by simp, fun h => by omega⟩

theorem RowR.keep {w w' : World} {size : Nat} {v : Value} {n : Nat} {cs : List Value} (h : RowR w size v n cs) (hb : Below w.heap.size w w') : RowR w' size v n cs := by
  obtain ⟨ao, cap, rfl, hn, hl, h⟩ := h
  refine ⟨ao, cap, rfl, hn, hl, fun h0 => ?_⟩
  obtain ⟨b, off, rfl, hc⟩ := h h0
  exact ⟨b, off, rfl, fun j u hj => (hb.cell (p := ⟨b, off + j, none⟩) (World.block_lt_of_cell? w _ (hc j u hj))).trans (hc j u hj)⟩

theorem Row.keep {w w' : World} {e : TypeId} {size : Nat} {S T : Nat → Prop} {v : Value} {n : Nat} {cs : List Value} (h : Row w e size S v n cs) (hb : Upd T w w') (hST : ∀ k, S k → ¬ T k) : Row w' e size S v n cs := by
  obtain ⟨ao, cap, rfl, hn, hl, h⟩ := h
  refine ⟨ao, cap, rfl, hn, hl, fun h0 => ?_⟩
  obtain ⟨g, cur, rfl, hS, hg, ht⟩ := h h0
  exact ⟨g, cur, rfl, hS, hb.keeps hg (hST g hS), ht⟩

theorem Row.keepB {w w' : World} {e : TypeId} {size : Nat} {S : Nat → Prop} {v : Value} {n : Nat} {cs : List Value} (h : Row w e size S v n cs) (hb : Below w.heap.size w w') : Row w' e size S v n cs :=
  h.keep (T := fun _ => False) (Upd.ofBelow hb) (fun _ _ h => h)

theorem Row.mono {w : World} {e : TypeId} {size : Nat} {S T : Nat → Prop} {v : Value} {n : Nat} {cs : List Value} (h : Row w e size S v n cs) (hST : ∀ k, k < w.heap.size → S k → T k) : Row w e size T v n cs := by
  obtain ⟨ao, cap, rfl, hn, hl, h⟩ := h
  refine ⟨ao, cap, rfl, hn, hl, fun h0 => ?_⟩
  obtain ⟨g, cur, rfl, hS, hg, ht⟩ := h h0
  exact ⟨g, cur, rfl, hST g (heap_lt hg) hS, hg, ht⟩

theorem Row.len {w : World} {e : TypeId} {size : Nat} {S : Nat → Prop} {v : Value} {n : Nat} {cs : List Value} (h : Row w e size S v n cs) : cs.length = n * size := by
  obtain ⟨_, _, _, _, hl, _⟩ := h; exact hl

/-! ### The texts of marks -/
def dgt (k : Nat) : UInt8 := 48 + UInt8.ofNat (k % 10)
def dg : Nat → Nat → ByteArray → ByteArray
  | 0, _, out => out
  | f + 1, k, out => if k = 0 then out else dg f (k / 10) (⟨#[dgt k]⟩ ++ out)
def mtxt (k : Nat) : ByteArray := ⟨#[109]⟩ ++ dg k k ⟨#[]⟩

theorem dg_irrel : ∀ (f g k : Nat) (out : ByteArray), k ≤ f → k ≤ g → dg f k out = dg g k out
  | 0, 0, _, _, _, _ => rfl
  | 0, g + 1, k, out, h, _ => by
    obtain rfl : k = 0 := by omega
    simp [dg]
  | f + 1, 0, k, out, _, h => by
    obtain rfl : k = 0 := by omega
    simp [dg]
  | f + 1, g + 1, k, out, h1, h2 => by
    simp only [dg]
    split
    · rfl
    · exact dg_irrel f g _ _ (by omega) (by omega)

theorem dg_step (k : Nat) (out : ByteArray) (h : 0 < k) : dg k k out = dg (k / 10) (k / 10) (⟨#[dgt k]⟩ ++ out) := by
  obtain ⟨j, rfl⟩ : ∃ j, k = j + 1 := ⟨k - 1, by omega⟩
  rw [dg, if_neg (by omega)]
  exact dg_irrel _ _ _ _ (by omega) (by omega)

theorem run_byte_string {P : Program} (src dst e : TypeId) (hs : P.underlying src = some (.slice e)) (he : P.underlying e = some (.int .u8)) (hd : P.underlying dst = some .string) (w : World) (n : Int) :
    (convert src dst (.slice (some ⟨w.heap.size, 0, none⟩) 1 1)).run P (w.alloc (.cells #[.int .u8 n] e)) = .ok (.string ⟨#[UInt8.ofNat n.toNat]⟩) (w.alloc (.cells #[.int .u8 n] e)) := by
  rw [run_convert_bytes_string _ _ _ e _ _ _ hs he hd, run_bytesToString _ _ _ _ [n]]
  · rfl
  · simp [loadCells, loadCellsFrom, go_sem]

theorem ret_int {k : IntKind} {a b : Int} (h : a = b) : Ending.returned (.int k a) = .returned (.int k b) := by rw [h]
theorem val_int {k : IntKind} {a b : Int} (h : a = b) : Value.int k a = Value.int k b := by rw [h]

end Go.Proofs.Ytllhifiklcdoiaa

/- What the laws' own helpers do (marks, comparisons of slices): contracts; no statement of the seat is proved here. -/
namespace Go.Proofs.Ytllhifiklcdoiaa
open Go.RowKit

/-- The marks of n texts from k on. -/
def mkS (k n : Nat) : List ByteArray := (List.range n).map fun i => mtxt (k + i)

theorem mkS_get (k n i : Nat) (h : i < n) : (mkS k n)[i]? = some (mtxt (k + i)) := by simp [mkS, h]

theorem row_set {w : World} {e : TypeId} {g j : Nat} {cur : Array Value} (u : Value) (hg : w.heap[g]? = some (.cells cur e (0, 0))) :
    (w.setCell ⟨g, j, none⟩ u).heap[g]? = some (.cells (cur.setIfInBounds j u) e (0, 0)) := heap_setCell_same w g j cur e u hg

/-- The cells of writes. -/
def wcell (x : Int × ByteArray) : List Value := [.int .i64 x.1, .string x.2]
def wcells (xs : List (Int × ByteArray)) : List Value := xs.flatMap wcell
theorem wcells_len (xs : List (Int × ByteArray)) : (wcells xs).length = xs.length * 2 := by
  induction xs with
  | nil => rfl
  | cons x xs ih => simp only [wcells, List.flatMap_cons, List.length_append, wcell, List.length_cons, List.length_nil] at ih ⊢; omega
theorem wcells_at (xs : List (Int × ByteArray)) (i : Nat) (x : Int × ByteArray) (h : xs[i]? = some x) : (wcells xs)[2 * i]? = some (.int .i64 x.1) ∧ (wcells xs)[2 * i + 1]? = some (.string x.2) := by
  induction xs generalizing i with
  | nil => simp at h
  | cons y ys ih =>
    cases i with
    | zero => simp at h; subst h; simp [wcells, wcell]
    | succ i =>
      have := ih i (by simpa using h)
      simp only [wcells, List.flatMap_cons, wcell, List.cons_append, List.nil_append] at this ⊢
      rw [show 2 * (i + 1) = 2 * i + 1 + 1 by omega]
      simpa using this

end Go.Proofs.Ytllhifiklcdoiaa

/- What the laws' own helpers do with slices of writes and with disks: contracts; no statement of the seat is proved here. -/
namespace Go.Proofs.Ytllhifiklcdoiaa
open Go.RowKit

/-- The marks of n writes from k on. -/
def mkW (k n : Nat) : List (Int × ByteArray) := (List.range n).map fun i => (((k + 2 * i : Nat) : Int), mtxt (k + 2 * i + 1))

theorem mkW_get (k n i : Nat) (h : i < n) : (mkW k n)[i]? = some (((k + 2 * i : Nat) : Int), mtxt (k + 2 * i + 1)) := by simp [mkW, h]
theorem mkW_len (k n : Nat) : (mkW k n).length = n := by simp [mkW]
theorem mkS_len (k n : Nat) : (mkS k n).length = n := by simp [mkS]

/-- A list of cells that holds the marks at every place is the marks' list. -/
theorem wcells_ext (k n : Nat) (cs : List Value) (hl : cs.length = n * 2) (h : ∀ j, j < n → cs[2 * j]? = some (.int .i64 (k + 2 * j : Nat)) ∧ cs[2 * j + 1]? = some (.string (mtxt (k + 2 * j + 1)))) : cs = wcells (mkW k n) := by
  apply List.ext_getElem?
  intro j
  by_cases hj : j < n * 2
  · have hh := h (j / 2) (by omega)
    have hw := wcells_at (mkW k n) (j / 2) _ (mkW_get k n (j / 2) (by omega))
    rcases Nat.mod_two_eq_zero_or_one j with e | e
    · rw [show 2 * (j / 2) = j by omega] at hh hw
      rw [hh.1, hw.1]
    · rw [show 2 * (j / 2) + 1 = j by omega] at hh hw
      rw [hh.2, hw.2]
  · rw [List.getElem?_eq_none (by omega), List.getElem?_eq_none (by rw [wcells_len, mkW_len]; omega)]

end Go.Proofs.Ytllhifiklcdoiaa

/- What the laws' own helpers do with disks: contracts; no statement of the seat is proved here. -/
namespace Go.Proofs.Ytllhifiklcdoiaa
open Go.RowKit

/-- A disk as it reads. -/
def DiskR (w : World) (v : Value) (kept : List ByteArray) (wait : List (Int × ByteArray)) : Prop :=
  ∃ vk vw, v = .agg #[vk, vw] ∧ RowR w 1 vk kept.length (kept.map Value.string) ∧ RowR w 2 vw wait.length (wcells wait)

theorem DiskR.keep {w w' : World} {v : Value} {kept : List ByteArray} {wait : List (Int × ByteArray)} (h : DiskR w v kept wait) (hb : Below w.heap.size w w') : DiskR w' v kept wait := by
  obtain ⟨vk, vw, rfl, h1, h2⟩ := h
  exact ⟨vk, vw, rfl, h1.keep hb, h2.keep hb⟩

/-- The blocks of S that are rows of a type. -/
def typed (w : World) (S : Nat → Prop) (e : TypeId) : Nat → Prop := fun k => S k ∧ ∃ cur, w.heap[k]? = some (.cells cur e (0, 0))

theorem typed_apart {w : World} {S T : Nat → Prop} {e f : TypeId} (h : e ≠ f) (k : Nat) (h1 : typed w S e k) : ¬ typed w T f k := by
  obtain ⟨_, c, hc⟩ := h1
  rintro ⟨_, c', hc'⟩
  rw [hc] at hc'
  simp at hc'
  exact h hc'.2

theorem Row.typed {w : World} {e : TypeId} {size : Nat} {S : Nat → Prop} {v : Value} {n : Nat} {cs : List Value} (h : Row w e size S v n cs) : Row w e size (typed w S e) v n cs := by
  obtain ⟨ao, cap, rfl, hn, hl, h⟩ := h
  refine ⟨ao, cap, rfl, hn, hl, fun h0 => ?_⟩
  obtain ⟨g, cur, rfl, hS, hg, ht⟩ := h h0
  exact ⟨g, cur, rfl, ⟨hS, cur, hg⟩, hg, ht⟩

end Go.Proofs.Ytllhifiklcdoiaa

/- What SecNew does, in the specification and in the program: contracts; no statement of the seat is proved here. -/
namespace Go.Proofs.Ytllhifiklcdoiaa
open Go.RowKit

def inB (a b c : Int) : Bool := decide (b ≤ a) && decide (a ≤ c)

theorem l6In_any (a b c : Int) (w : World) :
    Calls Try.prog 24 #[.int .i64 a, .int .i64 b, .int .i64 c] w fun e w' => e = .returned (.bool (inB a b c)) ∧ w' = w := by
  by_cases h1 : b ≤ a
  · by_cases h2 : a ≤ c
    · go_enter Try.func24, Try.ntmps24
      go_wp2
      go_ret
      exact ⟨by simp [inB, h1, h2], rfl⟩
    · go_enter Try.func24, Try.ntmps24
      go_wp2
      go_ret
      exact ⟨by simp [inB]; omega, rfl⟩
  · go_enter Try.func24, Try.ntmps24
    go_wp2
    go_ret
    exact ⟨by simp [inB]; omega, rfl⟩

/-- The sectors of a new disk. -/
def newKept (a : Int) : List ByteArray := if inB a 0 512 = true then List.replicate a.toNat ⟨#[]⟩ else []

theorem infoStr : (Try.prog.info? 9).map (fun i => (i.zero, i.size, i.bytes)) = some (some (.string ⟨#[]⟩), 1, 16) := by kernel_rfl

/-- The row that make lays, as a row. -/
theorem Row.ofOwns {w : World} {base : Nat} {e : TypeId} {size : Nat} {v : Value} {n : Nat} {xs : List Value} (h : w.ownsRow base e size v n xs) (hn : n ≤ 9223372036854775807) : Row w e size (fun k => base ≤ k) v n xs := by
  obtain ⟨hl, h⟩ := h
  rcases h with ⟨rfl, rfl⟩ | ⟨g, cap, cur, rfl, hb, hg, _, _, _, ht⟩
  · exact ⟨none, 0, rfl, hn, hl, fun h => by omega⟩
  · exact ⟨_, cap, rfl, hn, hl, fun _ => ⟨g, cur, rfl, hb, hg, ht⟩⟩

/-- The row that make has just laid. -/
theorem Row.made (W : World) (e : TypeId) (z : Value) (n base : Nat) (hb : base ≤ W.heap.size) (hn : n ≤ 9223372036854775807) :
    Row (W.alloc (.cells (madeCells #[z] n) e)) e 1 (fun k => base ≤ k) (.slice (some ⟨W.heap.size, 0, none⟩) n n) n (List.replicate n z) := by
  refine ⟨_, n, rfl, hn, by simp, fun _ => ⟨_, _, rfl, hb, heap_alloc_new W _, ?_⟩⟩
  rw [toList_madeCells_one]
  exact List.take_of_length_le (by simp)

theorem newKept_len (a : Int) : (newKept a).length ≤ 512 := by
  unfold newKept
  split
  · rename_i h
    have hb : 0 ≤ a ∧ a ≤ 512 := by simpa [inB] using h
    simp
    omega
  · simp

/-- What a variable of two cells holds. -/
theorem box2 {w : World} {B : Nat} {x y : Value} {t : TypeId} (h : w.heap[B]? = some (.cells #[x, y] t (0, 0))) : w.cell? ⟨B, 0, none⟩ = some x ∧ w.cell? ⟨B, 1, none⟩ = some y ∧ B < w.heap.size :=
  ⟨(cell_of_row w B 0 _ _ (0, 0) h).trans rfl, (cell_of_row w B 1 _ _ (0, 0) h).trans rfl, heap_lt h⟩

theorem box2f {w : World} {B : Nat} {x y : Value} {t : TypeId} (h : w.heap[B]? = some (.cells #[x, y] t (0, 0))) : w.frozen? ⟨B, 0, none⟩ = false ∧ w.frozen? ⟨B, 1, none⟩ = false :=
  ⟨frozen_of_row w B 0 _ _ h, frozen_of_row w B 1 _ _ h⟩

end Go.Proofs.Ytllhifiklcdoiaa

/- What the laws' own helpers do with a disk that came in: its size, a copy of it; contracts; no statement of the seat is proved here. -/
namespace Go.Proofs.Ytllhifiklcdoiaa
open Go.RowKit

/-- How many bytes texts have together. -/
def bytesS (ss : List ByteArray) : Nat := (ss.map (·.size)).sum
def bytesW (xs : List (Int × ByteArray)) : Nat := (xs.map (·.2.size)).sum

theorem bytesS_take (ss : List ByteArray) (k : Nat) (h : k < ss.length) : bytesS (ss.take (k + 1)) = bytesS (ss.take k) + (ss[k]'h).size := by
  rw [List.take_succ_eq_append_getElem h]
  simp only [bytesS, List.map_append, List.sum_append, List.map_cons, List.map_nil, List.sum_cons, List.sum_nil, Nat.add_zero]
theorem bytesW_take (ss : List (Int × ByteArray)) (k : Nat) (h : k < ss.length) : bytesW (ss.take (k + 1)) = bytesW (ss.take k) + (ss[k]'h).2.size := by
  rw [List.take_succ_eq_append_getElem h]
  simp only [bytesW, List.map_append, List.sum_append, List.map_cons, List.map_nil, List.sum_cons, List.sum_nil, Nat.add_zero]

/-- What the measure of a size comes to: below 0, or what is left. -/
def Sized (left r : Int) (t : Nat) : Prop := r < 0 ∨ (r = left - t ∧ 0 ≤ r)

end Go.Proofs.Ytllhifiklcdoiaa

/- What the laws' own helpers do with a disk that came in: a copy of it; contracts; no statement of the seat is proved here. -/
namespace Go.Proofs.Ytllhifiklcdoiaa
open Go.RowKit

theorem getAt {α : Type} (ss : List α) (k : Nat) (h : k < ss.length) : ∃ s, ss[k]? = some s := ⟨ss[k], by simp [h]⟩

theorem run_make_row2 {P : Program} (t e : TypeId) (z : Value) (size bytes : Nat) (ht : P.underlying t = some (.slice e)) (hinfo : (P.info? e).map (fun i => (i.zero, i.size, i.bytes)) = some (some z, size, bytes))
    (kl kc : IntKind) (n : Nat) (hbytes : bytes * n ≤ 281474976710656) (h63 : n ≤ 9223372036854775807) (w : World) :
    (Instr.makeSlice t (.int kl (n : Int)) (.int kc (n : Int))).run P w = .ok (.slice (some ⟨w.heap.size, 0, none⟩) n n) (w.alloc (.cells (madeCells z.cells (n * size)) e)) := by
  obtain ⟨i, hi, h1, rfl, rfl⟩ := info_parts hinfo
  have hb' : (i.bytes : Int) * (n : Int) ≤ 281474976710656 := by
    have h : ((i.bytes * n : Nat) : Int) ≤ 281474976710656 := by omega
    rwa [Int.natCast_mul] at h
  have hr := run_make (P := P) w t e i z ht hi h1 kl kc n n (by omega) (Int.le_refl _) hb' (by omega)
  simpa only [Int.toNat_natCast] using hr

end Go.Proofs.Ytllhifiklcdoiaa

/- What SecOk of the specification does: a contract; no statement of the seat is proved here. -/
namespace Go.Proofs.Ytllhifiklcdoiaa
open Go.RowKit

/-- Whether a write is ok on n sectors. -/
def writeOkB (n : Nat) (x : Int × ByteArray) : Bool := inB x.1 0 ((n : Int) - 1) && decide (x.2.size ≤ 16)
/-- Whether a disk is ok. -/
def okB (kept : List ByteArray) (wait : List (Int × ByteArray)) : Bool :=
  decide (kept.length ≤ 512) && decide (wait.length ≤ 600) && kept.all (fun s => decide (s.size ≤ 16)) && wait.all (writeOkB kept.length)

end Go.Proofs.Ytllhifiklcdoiaa

/- append of a slice in memory onto a row of the call's own, whatever the slice's address: a law off the library's; no statement of the seat is proved here. -/
namespace Go.Proofs.Ytllhifiklcdoiaa
open Go.RowKit

/-- A row of one-cell elements that has an element: where it lies. -/
theorem Row.at {w : World} {e : TypeId} {S : Nat → Prop} {v : Value} {n : Nat} {cs : List Value} (h : Row w e 1 S v n cs) (i : Nat) (hi : i < n) :
    ∃ g cap u, v = .slice (some ⟨g, 0, none⟩) n cap ∧ S g ∧ g < w.heap.size ∧ w.cell? ⟨g, i, none⟩ = some u ∧ cs[i]? = some u ∧ w.frozen? ⟨g, i, none⟩ = false ∧
      ∀ x, Row (w.setCell ⟨g, i, none⟩ x) e 1 S v n (cs.set i x) := by
  obtain ⟨ao, cap, rfl, hn, hl, h⟩ := h
  obtain ⟨g, cur, rfl, hS, hg, ht⟩ := h (by omega)
  have hcs : n ≤ cur.size := by
    have := congrArg List.length ht
    rw [hl] at this
    simp at this
    omega
  obtain ⟨u, hu⟩ : ∃ u, cur[i]? = some u := ⟨cur[i]'(by omega), by simp [show i < cur.size by omega]⟩
  refine ⟨g, cap, u, rfl, hS, heap_lt hg, (cell_of_row w g i cur e (0, 0) hg).trans hu, ?_, frozen_of_row w g i cur e hg, fun x => ?_⟩
  · rw [← ht, List.getElem?_take_of_lt (by omega)]
    simpa using hu
  · refine ⟨_, cap, rfl, hn, by simpa using hl, fun _ => ⟨g, _, rfl, hS, heap_setCell_same w g i cur e x hg, ?_⟩⟩
    rw [Array.toList_setIfInBounds, ← ht, List.take_set]

theorem Row.shape {w : World} {e : TypeId} {size : Nat} {S : Nat → Prop} {v : Value} {n : Nat} {cs : List Value} (h : Row w e size S v n cs) : ∃ ao cap, v = .slice ao n cap := by
  obtain ⟨ao, cap, h, -⟩ := h
  exact ⟨ao, cap, h⟩

theorem upd_set2 (w : World) (B i j : Nat) (x y : Value) : Upd (fun k => k = B) w ((w.setCell ⟨B, i, none⟩ x).setCell ⟨B, j, none⟩ y) :=
  (Upd.setCell (S := fun k => k = B) w B i x rfl).trans (Upd.setCell (S := fun k => k = B) _ B j y rfl)

theorem run_append_zero {P : Program} {w : World} (base : Nat) (t ty e : TypeId) (i : TypeInfo) (size : Nat) (ht : P.underlying t = some (.slice e)) (hi : P.info? e = some i)
    (v : Value) (n : Nat) (xs : List Value) (hown : w.ownsRow base e size v n xs) (ao : Option Addr) (c : Nat) :
    (Builtin.append_ #[t, t] ty #[v, .slice ao 0 c]).run P w = .ok v w := by
  rcases hown.2 with ⟨rfl, rfl⟩ | ⟨g, cap, cur, rfl, _, _, hnc, _⟩
  · cases ao <;> simp [Builtin.append_, run_underlying ht, sizeOf, typeInfo, hi, Builtin.lenOf, Builtin.firstCells, loadCells, loadCellsFrom]
  · cases ao <;> simp [Builtin.append_, run_underlying ht, sizeOf, typeInfo, hi, Builtin.lenOf, Builtin.firstCells, hnc, storeCells, loadCells, loadCellsFrom]

theorem wpList_append_row {P : Program} (w : World) {ops : Array Oper} {rest : List Oper} {o : Oper} {a : Act} {Q : Exit → Act → World → Prop} (hgd : o.guard = none) (s x : Operand) (t : TypeId)
    (ho : o.op = .call { callee := .builtin .append, args := #[s, x], argTypes := #[t, t] })
    (base : Nat) (e : TypeId) (i : TypeInfo) (z : Value) (size bytes : Nat) (ht : P.underlying t = some (.slice e)) (hi : P.info? e = some i) (hz : i.zero = some z)
    (hsize : i.size = size) (hby : i.bytes = bytes) (hzs : z.cells.size = size) (hsz : 0 < size)
    (v : Value) (n : Nat) (xs : List Value) (hs : a.eval s = v) (hown : w.ownsRow base e size v n xs)
    (vx : Value) (m : Nat) (news : List Value) (hx : a.eval x = vx) (hr : RowR w size vx m news) (h1 : ∀ u ∈ news, u.oneCell' = true)
    (h63 : n + m ≤ maxLen) (hbytes : (n + m) * bytes ≤ 140737488355328) (hbase : base ≤ w.heap.size)
    (h : ∀ v' w', w'.ownsRow base e size v' (n + m) (xs ++ news) → w.grownBy w' v.ownBlock → wpList P ops Q rest (a.put o.dst v') w') : wpList P ops Q (o :: rest) a w := by
  obtain ⟨ao, c, rfl, _, hl, hr⟩ := hr
  rcases Nat.eq_zero_or_pos m with rfl | hpos
  · obtain rfl : news = [] := List.eq_nil_of_length_eq_zero (by simpa using hl)
    refine wpList_plain hgd fun K hK => ?_
    have hrun := run_append_zero (P := P) (w := w) base t o.type e i size ht hi v n xs hown ao c
    unfold Oper.wp
    simp [execOp, ho, resolve, invoke, builtin, hs, hx, hrun, Result.andThen]
    exact hK _ _ (h v w (by simpa using hown) (World.grownBy.refl _ _))
  · obtain ⟨b, off, rfl, hc⟩ := hr hpos
    exact wpList_append_own w hgd s x t ho base e i z size bytes ht hi hz hsize hby hzs hsz v n xs hs hown ⟨b, off, none⟩ m c news hx hl (fun j u hj => by rw [Addr.add_lit]; exact hc j u hj) h1 h63 hbytes hbase
      fun v' w' h2 h3 _ => h v' w' h2 h3

theorem strs_one (ss : List ByteArray) : ∀ u ∈ ss.map Value.string, u.oneCell' = true := by
  intro u hu
  obtain ⟨_, _, rfl⟩ := List.mem_map.1 hu
  rfl

end Go.Proofs.Ytllhifiklcdoiaa

/- What SecFlush of the specification does: a contract; no statement of the seat is proved here. -/
namespace Go.Proofs.Ytllhifiklcdoiaa
open Go.RowKit

/-- The sectors behind writes. -/
def flushL (kept : List ByteArray) (wait : List (Int × ByteArray)) : List ByteArray := wait.foldl (fun k x => k.set x.1.toNat x.2) kept

theorem flushL_len (kept : List ByteArray) (wait : List (Int × ByteArray)) : (flushL kept wait).length = kept.length := by
  unfold flushL
  induction wait generalizing kept with
  | nil => rfl
  | cons x xs ih => simp [ih]

theorem flushL_snoc (kept : List ByteArray) (wait : List (Int × ByteArray)) (x : Int × ByteArray) : flushL kept (wait ++ [x]) = (flushL kept wait).set x.1.toNat x.2 := by simp [flushL]

theorem okB_parts {kept : List ByteArray} {wait : List (Int × ByteArray)} (h : okB kept wait = true) : kept.length ≤ 512 ∧ wait.length ≤ 600 ∧ (∀ s ∈ kept, s.size ≤ 16) ∧ ∀ x ∈ wait, 0 ≤ x.1 ∧ x.1 < kept.length ∧ x.2.size ≤ 16 := by
  simp only [okB, Bool.and_eq_true, decide_eq_true_eq, List.all_eq_true, writeOkB, inB] at h
  obtain ⟨⟨⟨h1, h2⟩, h3⟩, h4⟩ := h
  exact ⟨h1, h2, h3, fun x hx => by have := h4 x hx; omega⟩

/-- What is kept behind a flush. -/
def flushK (kept : List ByteArray) (wait : List (Int × ByteArray)) : List ByteArray := if okB kept wait = true then flushL kept wait else []

end Go.Proofs.Ytllhifiklcdoiaa

/- The iterator over the writes that wait: its contract; no statement of the seat is proved here. -/
namespace Go.Proofs.Ytllhifiklcdoiaa
open Go.RowKit Go.Shelf

attribute [local go_sem] Oper.semAt_some

/-- The write at a place. -/
def wAt (xs : List (Int × ByteArray)) (i : Nat) : Int × ByteArray := xs[i]?.getD (0, ⟨#[]⟩)
/-- What is handed to the loop's body at a place. -/
def wEnc (xs : List (Int × ByteArray)) (i : Nat) : Array Value := #[.int .i64 (i : Nat), .agg #[.int .i64 (wAt xs i).1, .string (wAt xs i).2]]
theorem wEnc_eq {xs : List (Int × ByteArray)} {i : Nat} {a : Int} {s : ByteArray} (h : wAt xs i = (a, s)) : wEnc xs i = #[.int .i64 (i : Nat), .agg #[.int .i64 a, .string s]] := by simp [wEnc, h]
theorem wAt_size {xs : List (Int × ByteArray)} (h : ∀ s ∈ xs, s.2.size ≤ 9223372036854775807) (i : Nat) : (wAt xs i).2.size ≤ 9223372036854775807 := by
  unfold wAt
  cases hx : xs[i]? with
  | none => show (0 : Nat) ≤ _; omega
  | some y => exact h y (List.mem_of_getElem? hx)
/-- A round keeps the row b. -/
def KpB (b : Nat) (W W' : World) : Prop := W'.heap[b]? = W.heap[b]?

theorem kpB_t {b : Nat} {A B C : World} (h : KpB b A B) (k : KpB b B C) : KpB b A C := Eq.trans k h
theorem kpB_b {b : Nat} {w : World} (hb : b < w.heap.size) (W : World) (l : Nat) (o o' : Obj) (hl : w.heap.size ≤ l) (_ : W.heap[l]? = some o) (_ : o.isCells = false) (_ : o.isWalk = false) : KpB b W (W.putObj l o') :=
  World.putObj_heap_other (by omega)

end Go.Proofs.Ytllhifiklcdoiaa

/- A range over an iterator whose second variable lies in a variable of its own each round: one law, off the library's; no statement of the seat is proved here. -/
namespace Go.Proofs.Ytllhifiklcdoiaa
open Go.RowKit Go.Shelf

/-- The frame of a round: what is handed over laid into its slots, and the pointer to the round's own variable. -/
def roundTmps (ps : Array Tmp) (vs : Array Value) (p : Tmp) (Bx : Nat) (t : Array Value) : Array Value :=
  ((ps.zip vs).foldl (fun t (p, v) => t.setIfInBounds p v) t).setIfInBounds p (.pointer (some ⟨Bx, 0, none⟩))

theorem roundTmps_two (p1 p2 p : Tmp) (v1 v2 : Value) (Bx : Nat) (t : Array Value) : roundTmps #[p1, p2] #[v1, v2] p Bx t = ((t.setIfInBounds p1 v1).setIfInBounds p2 v2).setIfInBounds p (.pointer (some ⟨Bx, 0, none⟩)) := by
  simp [roundTmps]

theorem range_boxed {F : Fence} {n : Nat} {P : Program} {α : Type} {g : Operand} {ps : Array Tmp} {assign body : Code} {Q : Exit → Act → World → Prop} {a : Act} {w : World}
    (hro : F.round = none) (h1 : 1 ≤ n) {gf : Nat} {lb : Array Value} (hg : a.eval g = .func (.func gf) #[] lb) (hFg : F.fn gf) (eg : ∀ args w, (callFunc gf args).run P w = .ok (.enter gf args) w)
    {encs : α → Array Value} {Kp : World → World → Prop} {S Sp : List α → Prop} {N : Nat} {w0 : World} (hseq : SeqStopsK F (n - 1) P gf lb encs Kp S Sp N w0)
    (hKt : ∀ {A B C : World}, Kp A B → Kp B C → Kp A C) (hKb : ∀ (W : World) (l : Nat) (o o' : Obj), w.heap.size ≤ l → W.heap[l]? = some o → o.isCells = false → o.isWalk = false → Kp W (W.putObj l o')) (hb0 : Below w0.heap.size w0 w) (hps : ∀ x, (encs x).size = ps.size)
    (I : List α → World → Prop) (Ix : Code → List α → World → Prop) (hI : OwnFrom w.heap.size I) (hIx : ∀ c, OwnFrom w.heap.size (Ix c)) (h0 : I [] w)
    (hIs : ∀ pre W, I pre W → w.heap.size ≤ W.heap.size) (hKa : ∀ pre W o, I pre W → Kp W (W.alloc o))
    (p : Tmp) (t : TypeId) (cs : α → Array Value)
    (hassign : ∀ (l : Nat) (pre : List α) (x : α) (W : World) (K : Act → World → Prop), I pre W → K { tmps := roundTmps ps (encs x) p W.heap.size a.tmps, defers := [] } (W.alloc (.cells (cs x) t)) →
      assign.wpIn (F.inRound l) (n - 1 - 1) P (Exit.then K (fun _ _ _ => False)) { tmps := (ps.zip (encs x)).foldl (fun t (p, v) => t.setIfInBounds p v) a.tmps, defers := [] } W)
    (hbody : ∀ (l : Nat) (pre : List α) (x : α) (Bx : Nat) (W : World), w.heap.size ≤ l → w.heap.size ≤ Bx → W.heap[Bx]? = some (.cells (cs x) t (0, 0)) → I pre W → pre.length < N →
      body.wpIn (F.inRound l) (n - 1 - 1) P (ownPostG w.heap.size Kp I Ix (pre ++ [x]) W) { tmps := roundTmps ps (encs x) p Bx a.tmps, defers := [] } W)
    (hdone : ∀ (D : Nat) (xs : List α) (W : World), w.heap.size ≤ D → S xs → I xs W → W.heap[D]? = some (.deferred (some [])) → Q .normal { a with defers := { target := .collected D, args := #[] } :: a.defers } W)
    (hstop : ∀ (D : Nat) (c : Code) (pre : List α) (W : World), w.heap.size ≤ D → Sp pre → Ix c pre W → W.heap[D]? = some (.deferred (some [])) → c.wpIn F n P Q { a with defers := { target := .collected D, args := #[] } :: a.defers } W) :
    (Code.rangeFunc g ps assign body).wpIn F n P Q a w := by
  refine wpIn_rangeFunc_ownH hro h1 hg hFg eg hseq (fun h k => hKt h k) hKb hb0 hps I Ix hI hIx h0
    (fun x a' W => ∃ Bx, w.heap.size ≤ Bx ∧ W.heap[Bx]? = some (.cells (cs x) t (0, 0)) ∧ a' = { tmps := roundTmps ps (encs x) p Bx a.tmps, defers := [] }) ?_ ?_ ?_ hdone hstop
  · rintro x a' _ X Y row ⟨Bx, hB, hx, e⟩ hgr hr
    refine ⟨Bx, hB, (hgr.block Bx (heap_lt hx) (fun er => ?_)).trans hx, e⟩
    obtain ⟨_, o, ho, hc⟩ := hr Bx er.symm
    rw [hx] at ho
    obtain rfl := Option.some.inj ho
    simp [Obj.isCells] at hc
  · intro l pre x W K hi hK
    exact hassign l pre x W K hi (hK _ _ ((KeepsOthers.alloc _ _).from _) (hKa pre W _ hi) (hI.alloc _ hi) ⟨W.heap.size, hIs pre W hi, heap_alloc_new W _, rfl⟩)
  · rintro l pre x a' W hl _ hi ⟨Bx, hB, hx, rfl⟩ hN
    exact hbody l pre x Bx W hl hB hx hi hN

theorem own_cells {β : Type} (B g : Nat) (c : β → Array Value) (t : TypeId) : OwnFrom B (fun (s : β) W => W.heap[g]? = some (.cells (c s) t (0, 0))) := by
  intro s W W' row hs hg hr
  refine (hg.block g (heap_lt hs) (fun e => ?_)).trans hs
  obtain ⟨_, o, ho, hc⟩ := hr g e.symm
  rw [hs] at ho
  obtain rfl := Option.some.inj ho
  simp [Obj.isCells] at hc
theorem own_pure {β : Type} (B : Nat) (P : β → Prop) : OwnFrom B (fun (s : β) _ => P s) := fun _ _ _ _ hs _ _ => hs
theorem own_size {β : Type} (B k : Nat) : OwnFrom B (fun (_ : β) W => k ≤ W.heap.size) := fun _ _ _ _ hs hg _ => Nat.le_trans hs hg.size

end Go.Proofs.Ytllhifiklcdoiaa

/- What SecOk of the program does: contracts; no statement of the seat is proved here. -/
namespace Go.Proofs.Ytllhifiklcdoiaa
open Go.RowKit Go.Shelf

attribute [local go_sem] Oper.semAt_some

end Go.Proofs.Ytllhifiklcdoiaa

/- append of a slice in memory onto an empty row of the call's own, as one step of a region that draws its order; what makes a disk anew; no statement of the seat is proved here. -/
namespace Go.Proofs.Ytllhifiklcdoiaa
open Go.RowKit

theorem step_copy {P : Program} {ops : Array Oper} {o : Oper} {a : Act} {w : World} {K : Act → World → Prop} {Q : Exit → Act → World → Prop} {E : Prop}
    (hg : o.guard = none) (s x : Operand) (t : TypeId) (hop : o.op = Op.call { callee := Callee.builtin Builtin.append, args := #[s, x], argTypes := #[t, t] })
    (base : Nat) (e : TypeId) (i : TypeInfo) (z : Value) (size bytes : Nat) (ht : P.underlying t = some (.slice e)) (hi : P.info? e = some i) (hz : i.zero = some z)
    (hsize : i.size = size) (hby : i.bytes = bytes) (hzs : z.cells.size = size) (hsz : 0 < size)
    (v : Value) (hs : a.eval s = v) (hown : w.ownsRow base e size v 0 [])
    (vx : Value) (m : Nat) (news : List Value) (hx : a.eval x = vx) (hr : RowR w size vx m news) (h1 : ∀ u ∈ news, u.oneCell' = true)
    (h63 : m ≤ 1048576) (hbytes : m * bytes ≤ 140737488355328) (hbase : base ≤ w.heap.size)
    (hK : ∀ v' w', Row w' e size (fun k => base ≤ k) v' m news → Below base w w' → K (a.put o.dst v') w') :
    if Region.wanted o (yielded ops a.tmps) = true then Oper.wp P o a w K Q else E := by
  have hw : Region.wanted o (yielded ops a.tmps) = true := by simp [Region.wanted, hg]
  rw [if_pos hw]
  obtain ⟨ao, c, rfl, _, hl, hr⟩ := hr
  rcases Nat.eq_zero_or_pos m with rfl | hpos
  · obtain rfl : news = [] := List.eq_nil_of_length_eq_zero (by simpa using hl)
    have hrun := run_append_zero (P := P) (w := w) base t o.type e i size ht hi v 0 [] hown ao c
    unfold Oper.wp
    simp [execOp, hop, resolve, invoke, builtin, hs, hx, hrun, Result.andThen]
    exact hK v w (Row.ofOwns hown (by omega)) (Below.refl _ _)
  · obtain ⟨b, off, rfl, hc⟩ := hr hpos
    obtain ⟨v', w', hrun, r1, r2, _⟩ := run_append_own (P := P) w base t o.type e i z size bytes ht hi hz hsize hby hzs hsz v 0 [] hown ⟨b, off, none⟩ m c news hl (fun j u hj => by rw [Addr.add_lit]; exact hc j u hj) h1 (by unfold maxLen; omega) (by rw [Nat.zero_add]; exact hbytes) hbase
    unfold Oper.wp
    simp [execOp, hop, resolve, invoke, builtin, hs, hx, hrun, Result.andThen]
    rw [Nat.zero_add, List.nil_append] at r1
    exact hK v' w' (Row.ofOwns r1 (by omega)) ((Below.refl _ _).grown r2 hbase (fun k e => (hown.lt k e).1))

theorem wcells_one (xs : List (Int × ByteArray)) : ∀ u ∈ wcells xs, u.oneCell' = true := by
  intro u hu
  simp only [wcells, List.mem_flatMap, wcell, List.mem_cons, List.not_mem_nil, or_false] at hu
  obtain ⟨x, _, rfl | rfl⟩ := hu <;> rfl

end Go.Proofs.Ytllhifiklcdoiaa
