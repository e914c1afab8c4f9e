/- Contracts and plain facts that this claim leans on (texts K, H, H3, New, H4, H5, SOk, Ap, Copy, Flush); no statement of the seat is proved here. -/
import Derived.WalkKit
import Derived.WalkSpells
import Derived.WalkLawsBesides
import Derived.BigQuiet
import Derived.Deep.QuietTactic
import Derived.Test.YtdnojnkcmncffaaProg
import Derived.Deep.RegionWith
import Derived.Deep.OwnRows
import Derived.RangeFuncNested
import Derived.RangeFuncBound
import Derived.RangeFuncCalls
import Derived.RangeFuncLeaves
import Derived.Shelf.Abstract
import Derived.OwnWalkIn
import Derived.TacticsInMore
import Derived.LoopNIn
import Derived.LoopIn
import Derived.Deep.RegionLaw
import Derived.Deep.RegionHeldLaw
import Derived.Deep.RegionLawGrows
import Derived.Shelf.RegionOpen

/- Plain facts on worlds, slices in memory and texts of numbers, for the walks of this seat; no statement of the seat is proved here. -/
namespace Go.Proofs.Ytdnojnkcmncffaa
open Go.RowKit

theorem hide {p : Prop} (h : p) : Hid p := h
/-- Of the old blocks those in S alone may have turned. -/
structure Upd (S : Nat → Prop) (w w' : World) : Prop where
  os : w'.os = w.os
  tape : w'.tape = w.tape
  output : w'.output = w.output
  size : w.heap.size ≤ w'.heap.size
  block : ∀ k, k < w.heap.size → ¬ S k → w'.heap[k]? = w.heap[k]?

theorem Upd.refl (S : Nat → Prop) (w : World) : Upd S w w := ⟨rfl, rfl, rfl, Nat.le_refl _, fun _ _ _ => rfl⟩

theorem Upd.trans {S : Nat → Prop} {a b c : World} (h : Upd S a b) (k : Upd S b c) : Upd S a c :=
  ⟨k.os.trans h.os, k.tape.trans h.tape, k.output.trans h.output, Nat.le_trans h.size k.size,
    fun i hi hS => (k.block i (Nat.lt_of_lt_of_le hi h.size) hS).trans (h.block i hi hS)⟩

theorem Upd.mono {S T : Nat → Prop} {w w' : World} (h : Upd S w w') (hST : ∀ k, S k → T k) : Upd T w w' :=
  ⟨h.os, h.tape, h.output, h.size, fun k hk hT => h.block k hk (fun hs => hT (hST k hs))⟩

theorem Upd.ofBelow {S : Nat → Prop} {w w' : World} (h : Below w.heap.size w w') : Upd S w w' :=
  ⟨h.os, h.tape, h.output, h.size, fun k hk _ => h.block k hk⟩

theorem Upd.below {S : Nat → Prop} {w w' : World} (h : Upd S w w') {B : Nat} (hB : B ≤ w.heap.size) (hS : ∀ k, S k → B ≤ k) : Below B w w' :=
  ⟨h.os, h.tape, h.output, h.size, fun k hk => h.block k (by omega) (fun hs => by have := hS k hs; omega)⟩

theorem Upd.setCell {S : Nat → Prop} (w : World) (g j : Nat) (u : Value) (hS : S g) : Upd S w (w.setCell ⟨g, j, none⟩ u) :=
  ⟨rfl, rfl, rfl, by simp, fun k _ hk => Below.heap_setCell _ _ _ _ (fun e => hk (by subst e; exact hS))⟩

theorem bAll {a b c : World} (h : Below a.heap.size a b) (k : Below b.heap.size b c) : Below a.heap.size a c :=
  h.trans (k.mono h.size)

theorem bAllTo {a b c : World} (h : Below a.heap.size a b) (k : Below b.heap.size b c) : Below a.heap.size a c := bAll h k
theorem bUndrew {B : Nat} {w w' : World} (h : Below B w.drew w') : Below B w w' := ⟨h.os, h.tape, h.output, h.size, h.block⟩
theorem bKeeps {W w1 : World} (hb : Below W.heap.size W w1) {g : Nat} {o : Obj} (h : W.heap[g]? = some o) : w1.heap[g]? = some o :=
  (hb.block g (Array.getElem?_eq_some_iff.1 h).1).trans h

theorem Upd.keeps {S : Nat → Prop} {W w1 : World} (hb : Upd S W w1) {g : Nat} {o : Obj} (h : W.heap[g]? = some o) (hS : ¬ S g) : w1.heap[g]? = some o :=
  (hb.block g (Array.getElem?_eq_some_iff.1 h).1 hS).trans h

theorem heap_lt {w : World} {g : Nat} {o : Obj} (h : w.heap[g]? = some o) : g < w.heap.size := (Array.getElem?_eq_some_iff.1 h).1

theorem al1_0 (w : World) (a : Obj) : (w.alloc a).heap[w.heap.size]? = some a := heap_alloc_new w a
theorem al2_0 (w : World) (a b : Obj) : ((w.alloc a).alloc b).heap[w.heap.size]? = some a := (Below.heap_alloc _ _ _ (by simp)).trans (al1_0 w a)
theorem al2_1 (w : World) (a b : Obj) : ((w.alloc a).alloc b).heap[w.heap.size + 1]? = some b := by have := al1_0 (w.alloc a) b; rwa [World.size_alloc] at this
theorem al3_0 (w : World) (a b c : Obj) : (((w.alloc a).alloc b).alloc c).heap[w.heap.size]? = some a := (Below.heap_alloc _ _ _ (by simp; omega)).trans (al2_0 w a b)
theorem al3_1 (w : World) (a b c : Obj) : (((w.alloc a).alloc b).alloc c).heap[w.heap.size + 1]? = some b := (Below.heap_alloc _ _ _ (by simp)).trans (al2_1 w a b)
theorem al3_2 (w : World) (a b c : Obj) : (((w.alloc a).alloc b).alloc c).heap[w.heap.size + 1 + 1]? = some c := by have := al2_1 (w.alloc a) b c; rwa [World.size_alloc] at this

/-! ### Slices in memory -/

/-- What a slice reads: n elements of 'size' cells each, the cells cs. -/
def RowR (w : World) (size : Nat) (v : Value) (n : Nat) (cs : List Value) : Prop :=
  ∃ ao cap, v = .slice ao n cap ∧ n ≤ 9223372036854775807 ∧ cs.length = n * size ∧
    (0 < n → ∃ b off, ao = some ⟨b, off, none⟩ ∧ ∀ j u, cs[j]? = some u → w.cell? ⟨b, off + j, none⟩ = some u)

/-- A slice in a row of its own, whose block is in S. -/
def Row (w : World) (e : TypeId) (size : Nat) (S : Nat → Prop) (v : Value) (n : Nat) (cs : List Value) : Prop :=
  ∃ ao cap, v = .slice ao n cap ∧ n ≤ 9223372036854775807 ∧ cs.length = n * size ∧
    (0 < n → ∃ g cur, ao = some ⟨g, 0, none⟩ ∧ S g ∧ w.heap[g]? = some (.cells cur e (0, 0)) ∧ cur.toList.take (n * size) = cs)

theorem Row.reads {w : World} {e : TypeId} {size : Nat} {S : Nat → Prop} {v : Value} {n : Nat} {cs : List Value} (h : Row w e size S v n cs) : RowR w size v n cs := by
  obtain ⟨ao, cap, rfl, hn, hl, h⟩ := h
  refine ⟨ao, cap, rfl, hn, hl, fun h0 => ?_⟩
  obtain ⟨g, cur, rfl, _, hg, ht⟩ := h h0
  refine ⟨g, 0, rfl, fun j u hj => ?_⟩
  rw [Nat.zero_add, cell_of_row w g j cur e (0, 0) hg]
  subst ht
  have hj' := (List.getElem?_eq_some_iff.1 hj).1
  rw [List.getElem?_take_of_lt (by simp at hj'; omega)] at hj
  simpa using hj

theorem RowR.nil (w : World) (size : Nat) : RowR w size (.slice none 0 0) 0 [] := ⟨none, 0, rfl, by omega, by simp, fun h => by omega⟩
theorem Row.nil (w : World) (e : TypeId) (size : Nat) (S : Nat → Prop) : Row w e size S (.slice none 0 0) 0 [] := ⟨none, 0, rfl, by omega, by simp, fun h => by omega⟩

theorem RowR.keep {w w' : World} {size : Nat} {v : Value} {n : Nat} {cs : List Value} (h : RowR w size v n cs) (hb : Below w.heap.size w w') : RowR w' size v n cs := by
  obtain ⟨ao, cap, rfl, hn, hl, h⟩ := h
  refine ⟨ao, cap, rfl, hn, hl, fun h0 => ?_⟩
  obtain ⟨b, off, rfl, hc⟩ := h h0
  exact ⟨b, off, rfl, fun j u hj => (hb.cell (p := ⟨b, off + j, none⟩) (World.block_lt_of_cell? w _ (hc j u hj))).trans (hc j u hj)⟩

theorem Row.keep {w w' : World} {e : TypeId} {size : Nat} {S T : Nat → Prop} {v : Value} {n : Nat} {cs : List Value} (h : Row w e size S v n cs) (hb : Upd T w w') (hST : ∀ k, S k → ¬ T k) : Row w' e size S v n cs := by
  obtain ⟨ao, cap, rfl, hn, hl, h⟩ := h
  refine ⟨ao, cap, rfl, hn, hl, fun h0 => ?_⟩
  obtain ⟨g, cur, rfl, hS, hg, ht⟩ := h h0
  exact ⟨g, cur, rfl, hS, hb.keeps hg (hST g hS), ht⟩

theorem Row.keepB {w w' : World} {e : TypeId} {size : Nat} {S : Nat → Prop} {v : Value} {n : Nat} {cs : List Value} (h : Row w e size S v n cs) (hb : Below w.heap.size w w') : Row w' e size S v n cs :=
  h.keep (T := fun _ => False) (Upd.ofBelow hb) (fun _ _ h => h)

theorem Row.mono {w : World} {e : TypeId} {size : Nat} {S T : Nat → Prop} {v : Value} {n : Nat} {cs : List Value} (h : Row w e size S v n cs) (hST : ∀ k, k < w.heap.size → S k → T k) : Row w e size T v n cs := by
  obtain ⟨ao, cap, rfl, hn, hl, h⟩ := h
  refine ⟨ao, cap, rfl, hn, hl, fun h0 => ?_⟩
  obtain ⟨g, cur, rfl, hS, hg, ht⟩ := h h0
  exact ⟨g, cur, rfl, hST g (heap_lt hg) hS, hg, ht⟩

theorem Row.len {w : World} {e : TypeId} {size : Nat} {S : Nat → Prop} {v : Value} {n : Nat} {cs : List Value} (h : Row w e size S v n cs) : cs.length = n * size := by
  obtain ⟨_, _, _, _, hl, _⟩ := h; exact hl

/-! ### The texts of marks -/
end Go.Proofs.Ytdnojnkcmncffaa

/- What the laws' own helpers do (marks, comparisons of slices): contracts; no statement of the seat is proved here. -/
namespace Go.Proofs.Ytdnojnkcmncffaa
open Go.RowKit

theorem row_set {w : World} {e : TypeId} {g j : Nat} {cur : Array Value} (u : Value) (hg : w.heap[g]? = some (.cells cur e (0, 0))) :
    (w.setCell ⟨g, j, none⟩ u).heap[g]? = some (.cells (cur.setIfInBounds j u) e (0, 0)) := heap_setCell_same w g j cur e u hg

/-- The cells of writes. -/
def wcell (x : Int × ByteArray) : List Value := [.int .i64 x.1, .string x.2]
def wcells (xs : List (Int × ByteArray)) : List Value := xs.flatMap wcell
end Go.Proofs.Ytdnojnkcmncffaa

/- What the laws' own helpers do with disks: contracts; no statement of the seat is proved here. -/
namespace Go.Proofs.Ytdnojnkcmncffaa
open Go.RowKit

/-- A disk as it reads. -/
def DiskR (w : World) (v : Value) (kept : List ByteArray) (wait : List (Int × ByteArray)) : Prop :=
  ∃ vk vw, v = .agg #[vk, vw] ∧ RowR w 1 vk kept.length (kept.map Value.string) ∧ RowR w 2 vw wait.length (wcells wait)

theorem DiskR.keep {w w' : World} {v : Value} {kept : List ByteArray} {wait : List (Int × ByteArray)} (h : DiskR w v kept wait) (hb : Below w.heap.size w w') : DiskR w' v kept wait := by
  obtain ⟨vk, vw, rfl, h1, h2⟩ := h
  exact ⟨vk, vw, rfl, h1.keep hb, h2.keep hb⟩

/-- The blocks of S that are rows of a type. -/
def typed (w : World) (S : Nat → Prop) (e : TypeId) : Nat → Prop := fun k => S k ∧ ∃ cur, w.heap[k]? = some (.cells cur e (0, 0))

theorem typed_apart {w : World} {S T : Nat → Prop} {e f : TypeId} (h : e ≠ f) (k : Nat) (h1 : typed w S e k) : ¬ typed w T f k := by
  obtain ⟨_, c, hc⟩ := h1
  rintro ⟨_, c', hc'⟩
  rw [hc] at hc'
  simp at hc'
  exact h hc'.2

theorem Row.typed {w : World} {e : TypeId} {size : Nat} {S : Nat → Prop} {v : Value} {n : Nat} {cs : List Value} (h : Row w e size S v n cs) : Row w e size (typed w S e) v n cs := by
  obtain ⟨ao, cap, rfl, hn, hl, h⟩ := h
  refine ⟨ao, cap, rfl, hn, hl, fun h0 => ?_⟩
  obtain ⟨g, cur, rfl, hS, hg, ht⟩ := h h0
  exact ⟨g, cur, rfl, ⟨hS, cur, hg⟩, hg, ht⟩

end Go.Proofs.Ytdnojnkcmncffaa

/- What SecNew does, in the specification and in the program: contracts; no statement of the seat is proved here. -/
namespace Go.Proofs.Ytdnojnkcmncffaa
open Go.RowKit

def inB (a b c : Int) : Bool := decide (b ≤ a) && decide (a ≤ c)

/-- The row that make lays, as a row. -/
theorem Row.ofOwns {w : World} {base : Nat} {e : TypeId} {size : Nat} {v : Value} {n : Nat} {xs : List Value} (h : w.ownsRow base e size v n xs) (hn : n ≤ 9223372036854775807) : Row w e size (fun k => base ≤ k) v n xs := by
  obtain ⟨hl, h⟩ := h
  rcases h with ⟨rfl, rfl⟩ | ⟨g, cap, cur, rfl, hb, hg, _, _, _, ht⟩
  · exact ⟨none, 0, rfl, hn, hl, fun h => by omega⟩
  · exact ⟨_, cap, rfl, hn, hl, fun _ => ⟨g, cur, rfl, hb, hg, ht⟩⟩

/-- What a variable of two cells holds. -/
theorem box2 {w : World} {B : Nat} {x y : Value} {t : TypeId} (h : w.heap[B]? = some (.cells #[x, y] t (0, 0))) : w.cell? ⟨B, 0, none⟩ = some x ∧ w.cell? ⟨B, 1, none⟩ = some y ∧ B < w.heap.size :=
  ⟨(cell_of_row w B 0 _ _ (0, 0) h).trans rfl, (cell_of_row w B 1 _ _ (0, 0) h).trans rfl, heap_lt h⟩

theorem box2f {w : World} {B : Nat} {x y : Value} {t : TypeId} (h : w.heap[B]? = some (.cells #[x, y] t (0, 0))) : w.frozen? ⟨B, 0, none⟩ = false ∧ w.frozen? ⟨B, 1, none⟩ = false :=
  ⟨frozen_of_row w B 0 _ _ h, frozen_of_row w B 1 _ _ h⟩

end Go.Proofs.Ytdnojnkcmncffaa

/- What the laws' own helpers do with a disk that came in: its size, a copy of it; contracts; no statement of the seat is proved here. -/
namespace Go.Proofs.Ytdnojnkcmncffaa
open Go.RowKit

/-- What the measure of a size comes to: below 0, or what is left. -/
def Sized (left r : Int) (t : Nat) : Prop := r < 0 ∨ (r = left - t ∧ 0 ≤ r)

end Go.Proofs.Ytdnojnkcmncffaa

/- What the laws' own helpers do with a disk that came in: a copy of it; contracts; no statement of the seat is proved here. -/
namespace Go.Proofs.Ytdnojnkcmncffaa
open Go.RowKit

theorem getAt {α : Type} (ss : List α) (k : Nat) (h : k < ss.length) : ∃ s, ss[k]? = some s := ⟨ss[k], by simp [h]⟩

theorem run_make_row2 {P : Program} (t e : TypeId) (z : Value) (size bytes : Nat) (ht : P.underlying t = some (.slice e)) (hinfo : (P.info? e).map (fun i => (i.zero, i.size, i.bytes)) = some (some z, size, bytes))
    (kl kc : IntKind) (n : Nat) (hbytes : bytes * n ≤ 281474976710656) (h63 : n ≤ 9223372036854775807) (w : World) :
    (Instr.makeSlice t (.int kl (n : Int)) (.int kc (n : Int))).run P w = .ok (.slice (some ⟨w.heap.size, 0, none⟩) n n) (w.alloc (.cells (madeCells z.cells (n * size)) e)) := by
  obtain ⟨i, hi, h1, rfl, rfl⟩ := info_parts hinfo
  have hb' : (i.bytes : Int) * (n : Int) ≤ 281474976710656 := by
    have h : ((i.bytes * n : Nat) : Int) ≤ 281474976710656 := by omega
    rwa [Int.natCast_mul] at h
  have hr := run_make (P := P) w t e i z ht hi h1 kl kc n n (by omega) (Int.le_refl _) hb' (by omega)
  simpa only [Int.toNat_natCast] using hr

end Go.Proofs.Ytdnojnkcmncffaa

/- What SecOk of the specification does: a contract; no statement of the seat is proved here. -/
namespace Go.Proofs.Ytdnojnkcmncffaa
open Go.RowKit

/-- Whether a write is ok on n sectors. -/
def writeOkB (n : Nat) (x : Int × ByteArray) : Bool := inB x.1 0 ((n : Int) - 1) && decide (x.2.size ≤ 16)
/-- Whether a disk is ok. -/
def okB (kept : List ByteArray) (wait : List (Int × ByteArray)) : Bool :=
  decide (kept.length ≤ 512) && decide (wait.length ≤ 600) && kept.all (fun s => decide (s.size ≤ 16)) && wait.all (writeOkB kept.length)

end Go.Proofs.Ytdnojnkcmncffaa

/- append of a slice in memory onto a row of the call's own, whatever the slice's address: a law off the library's; no statement of the seat is proved here. -/
namespace Go.Proofs.Ytdnojnkcmncffaa
open Go.RowKit

/-- A row of one-cell elements that has an element: where it lies. -/
theorem Row.at {w : World} {e : TypeId} {S : Nat → Prop} {v : Value} {n : Nat} {cs : List Value} (h : Row w e 1 S v n cs) (i : Nat) (hi : i < n) :
    ∃ g cap u, v = .slice (some ⟨g, 0, none⟩) n cap ∧ S g ∧ g < w.heap.size ∧ w.cell? ⟨g, i, none⟩ = some u ∧ cs[i]? = some u ∧ w.frozen? ⟨g, i, none⟩ = false ∧
      ∀ x, Row (w.setCell ⟨g, i, none⟩ x) e 1 S v n (cs.set i x) := by
  obtain ⟨ao, cap, rfl, hn, hl, h⟩ := h
  obtain ⟨g, cur, rfl, hS, hg, ht⟩ := h (by omega)
  have hcs : n ≤ cur.size := by
    have := congrArg List.length ht
    rw [hl] at this
    simp at this
    omega
  obtain ⟨u, hu⟩ : ∃ u, cur[i]? = some u := ⟨cur[i]'(by omega), by simp [show i < cur.size by omega]⟩
  refine ⟨g, cap, u, rfl, hS, heap_lt hg, (cell_of_row w g i cur e (0, 0) hg).trans hu, ?_, frozen_of_row w g i cur e hg, fun x => ?_⟩
  · rw [← ht, List.getElem?_take_of_lt (by omega)]
    simpa using hu
  · refine ⟨_, cap, rfl, hn, by simpa using hl, fun _ => ⟨g, _, rfl, hS, heap_setCell_same w g i cur e x hg, ?_⟩⟩
    rw [Array.toList_setIfInBounds, ← ht, List.take_set]

theorem Row.shape {w : World} {e : TypeId} {size : Nat} {S : Nat → Prop} {v : Value} {n : Nat} {cs : List Value} (h : Row w e size S v n cs) : ∃ ao cap, v = .slice ao n cap := by
  obtain ⟨ao, cap, h, -⟩ := h
  exact ⟨ao, cap, h⟩

end Go.Proofs.Ytdnojnkcmncffaa

/- What a copy of a disk in the specification is: a contract; no statement of the seat is proved here. -/
namespace Go.Proofs.Ytdnojnkcmncffaa
open Go.RowKit

theorem bAlloc {W w : World} (h : Below W.heap.size W w) (o : Obj) : Below W.heap.size W (w.alloc o) := h.alloc h.size o

end Go.Proofs.Ytdnojnkcmncffaa

/- What SecFlush of the program does: contracts; no statement of the seat is proved here. -/
namespace Go.Proofs.Ytdnojnkcmncffaa
open Go.RowKit Go.Shelf

attribute [local go_sem] Oper.semAt_some

theorem Upd.drew {S : Nat → Prop} {w w' : World} (h : Upd S w w') : Upd S w w'.drew := ⟨h.os, h.tape, h.output, h.size, h.block⟩

end Go.Proofs.Ytdnojnkcmncffaa
