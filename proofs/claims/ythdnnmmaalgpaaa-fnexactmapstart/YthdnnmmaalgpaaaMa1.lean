/- Contracts and plain facts that this claim leans on (texts K, H, H3, New, H4, H5, Ap, Flush, Own, BH, BHL, BM, XM, XH, XI, BS, BS3, BS6, BS7, XS, XL, RA, RE, Ints, INT1, MD1); no statement of the seat is proved here. -/
import Derived.WalkKit
import Derived.WalkSpells
import Derived.WalkLawsBesides
import Derived.BigQuiet
import Derived.Deep.QuietTactic
import Derived.Test.YthdnnmmaalgpaaaProg
import Derived.Deep.RegionWith
import Derived.Deep.OwnRows
import Derived.RangeFuncNested
import Derived.RangeFuncBound
import Derived.RangeFuncCalls
import Derived.RangeFuncLeaves
import Derived.Shelf.Abstract
import Derived.OwnWalkIn
import Derived.TacticsInMore
import Derived.LoopNIn
import Derived.LoopIn
import Derived.Deep.RegionLaw
import Derived.Deep.RegionHeldLaw
import Derived.Deep.RegionLawGrows
import Derived.Shelf.RegionOpen
import Derived.Deep.RegionHeld3
import Derived.Deep.WholeRow
import Derived.Laws.CopyRow
import Derived.Deep.DeepCutAuto

/- Plain facts on worlds, slices in memory and texts of numbers, for the walks of this seat; no statement of the seat is proved here. -/
namespace Go.Proofs.Ythdnnmmaalgpaaa
open Go.RowKit

theorem hide {p : Prop} (h : p) : Hid p := h
/-- Of the old blocks those in S alone may have turned. -/
structure Upd (S : Nat → Prop) (w w' : World) : Prop where
  os : w'.os = w.os
  tape : w'.tape = w.tape
  output : w'.output = w.output
  size : w.heap.size ≤ w'.heap.size
  block : ∀ k, k < w.heap.size → ¬ S k → w'.heap[k]? = w.heap[k]?

theorem Upd.refl (S : Nat → Prop) (w : World) : Upd S w w := ⟨rfl, rfl, rfl, Nat.le_refl _, fun _ _ _ => rfl⟩

theorem Upd.trans {S : Nat → Prop} {a b c : World} (h : Upd S a b) (k : Upd S b c) : Upd S a c :=
  ⟨k.os.trans h.os, k.tape.trans h.tape, k.output.trans h.output, Nat.le_trans h.size k.size,
    fun i hi hS => (k.block i (Nat.lt_of_lt_of_le hi h.size) hS).trans (h.block i hi hS)⟩

theorem Upd.mono {S T : Nat → Prop} {w w' : World} (h : Upd S w w') (hST : ∀ k, S k → T k) : Upd T w w' :=
  ⟨h.os, h.tape, h.output, h.size, fun k hk hT => h.block k hk (fun hs => hT (hST k hs))⟩

theorem Upd.ofBelow {S : Nat → Prop} {w w' : World} (h : Below w.heap.size w w') : Upd S w w' :=
  ⟨h.os, h.tape, h.output, h.size, fun k hk _ => h.block k hk⟩

theorem Upd.below {S : Nat → Prop} {w w' : World} (h : Upd S w w') {B : Nat} (hB : B ≤ w.heap.size) (hS : ∀ k, S k → B ≤ k) : Below B w w' :=
  ⟨h.os, h.tape, h.output, h.size, fun k hk => h.block k (by omega) (fun hs => by have := hS k hs; omega)⟩

theorem Upd.setCell {S : Nat → Prop} (w : World) (g j : Nat) (u : Value) (hS : S g) : Upd S w (w.setCell ⟨g, j, none⟩ u) :=
  ⟨rfl, rfl, rfl, by simp, fun k _ hk => Below.heap_setCell _ _ _ _ (fun e => hk (by subst e; exact hS))⟩

theorem bAll {a b c : World} (h : Below a.heap.size a b) (k : Below b.heap.size b c) : Below a.heap.size a c :=
  h.trans (k.mono h.size)

theorem bAllTo {a b c : World} (h : Below a.heap.size a b) (k : Below b.heap.size b c) : Below a.heap.size a c := bAll h k
theorem bUndrew {B : Nat} {w w' : World} (h : Below B w.drew w') : Below B w w' := ⟨h.os, h.tape, h.output, h.size, h.block⟩
theorem bKeeps {W w1 : World} (hb : Below W.heap.size W w1) {g : Nat} {o : Obj} (h : W.heap[g]? = some o) : w1.heap[g]? = some o :=
  (hb.block g (Array.getElem?_eq_some_iff.1 h).1).trans h

theorem Upd.keeps {S : Nat → Prop} {W w1 : World} (hb : Upd S W w1) {g : Nat} {o : Obj} (h : W.heap[g]? = some o) (hS : ¬ S g) : w1.heap[g]? = some o :=
  (hb.block g (Array.getElem?_eq_some_iff.1 h).1 hS).trans h

theorem heap_lt {w : World} {g : Nat} {o : Obj} (h : w.heap[g]? = some o) : g < w.heap.size := (Array.getElem?_eq_some_iff.1 h).1

theorem al1_0 (w : World) (a : Obj) : (w.alloc a).heap[w.heap.size]? = some a := heap_alloc_new w a
theorem al2_0 (w : World) (a b : Obj) : ((w.alloc a).alloc b).heap[w.heap.size]? = some a := (Below.heap_alloc _ _ _ (by simp)).trans (al1_0 w a)
theorem al2_1 (w : World) (a b : Obj) : ((w.alloc a).alloc b).heap[w.heap.size + 1]? = some b := by have := al1_0 (w.alloc a) b; rwa [World.size_alloc] at this
theorem al3_0 (w : World) (a b c : Obj) : (((w.alloc a).alloc b).alloc c).heap[w.heap.size]? = some a := (Below.heap_alloc _ _ _ (by simp; omega)).trans (al2_0 w a b)
theorem al3_1 (w : World) (a b c : Obj) : (((w.alloc a).alloc b).alloc c).heap[w.heap.size + 1]? = some b := (Below.heap_alloc _ _ _ (by simp)).trans (al2_1 w a b)
theorem al3_2 (w : World) (a b c : Obj) : (((w.alloc a).alloc b).alloc c).heap[w.heap.size + 1 + 1]? = some c := by have := al2_1 (w.alloc a) b c; rwa [World.size_alloc] at this

/-! ### Slices in memory -/

/-- What a slice reads: n elements of 'size' cells each, the cells cs. -/
def RowR (w : World) (size : Nat) (v : Value) (n : Nat) (cs : List Value) : Prop :=
  ∃ ao cap, v = .slice ao n cap ∧ n ≤ 9223372036854775807 ∧ cs.length = n * size ∧
    (0 < n → ∃ b off, ao = some ⟨b, off, none⟩ ∧ ∀ j u, cs[j]? = some u → w.cell? ⟨b, off + j, none⟩ = some u)

/-- A slice in a row of its own, whose block is in S. -/
def Row (w : World) (e : TypeId) (size : Nat) (S : Nat → Prop) (v : Value) (n : Nat) (cs : List Value) : Prop :=
  ∃ ao cap, v = .slice ao n cap ∧ n ≤ 9223372036854775807 ∧ cs.length = n * size ∧
    (0 < n → ∃ g cur, ao = some ⟨g, 0, none⟩ ∧ S g ∧ w.heap[g]? = some (.cells cur e (0, 0)) ∧ cur.toList.take (n * size) = cs)

theorem Row.reads {w : World} {e : TypeId} {size : Nat} {S : Nat → Prop} {v : Value} {n : Nat} {cs : List Value} (h : Row w e size S v n cs) : RowR w size v n cs := by
  obtain ⟨ao, cap, rfl, hn, hl, h⟩ := h
  refine ⟨ao, cap, rfl, hn, hl, fun h0 => ?_⟩
  obtain ⟨g, cur, rfl, _, hg, ht⟩ := h h0
  refine ⟨g, 0, rfl, fun j u hj => ?_⟩
  rw [Nat.zero_add, cell_of_row w g j cur e (0, 0) hg]
  subst ht
  have hj' := (List.getElem?_eq_some_iff.1 hj).1
  rw [List.getElem?_take_of_lt (by simp at hj'; omega)] at hj
  simpa using hj

theorem RowR.nil (w : World) (size : Nat) : RowR w size (.slice none 0 0) 0 [] := ⟨none, 0, rfl, by omega, by simp, fun h => by omega⟩
theorem Row.nil (w : World) (e : TypeId) (size : Nat) (S : Nat → Prop) : Row w e size S (.slice none 0 0) 0 [] := ⟨none, 0, rfl, by omega, by simp, fun h => by omega⟩

theorem RowR.keep {w w' : World} {size : Nat} {v : Value} {n : Nat} {cs : List Value} (h : RowR w size v n cs) (hb : Below w.heap.size w w') : RowR w' size v n cs := by
  obtain ⟨ao, cap, rfl, hn, hl, h⟩ := h
  refine ⟨ao, cap, rfl, hn, hl, fun h0 => ?_⟩
  obtain ⟨b, off, rfl, hc⟩ := h h0
  exact ⟨b, off, rfl, fun j u hj => (hb.cell (p := ⟨b, off + j, none⟩) (World.block_lt_of_cell? w _ (hc j u hj))).trans (hc j u hj)⟩

theorem Row.keep {w w' : World} {e : TypeId} {size : Nat} {S T : Nat → Prop} {v : Value} {n : Nat} {cs : List Value} (h : Row w e size S v n cs) (hb : Upd T w w') (hST : ∀ k, S k → ¬ T k) : Row w' e size S v n cs := by
  obtain ⟨ao, cap, rfl, hn, hl, h⟩ := h
  refine ⟨ao, cap, rfl, hn, hl, fun h0 => ?_⟩
  obtain ⟨g, cur, rfl, hS, hg, ht⟩ := h h0
  exact ⟨g, cur, rfl, hS, hb.keeps hg (hST g hS), ht⟩

theorem Row.keepB {w w' : World} {e : TypeId} {size : Nat} {S : Nat → Prop} {v : Value} {n : Nat} {cs : List Value} (h : Row w e size S v n cs) (hb : Below w.heap.size w w') : Row w' e size S v n cs :=
  h.keep (T := fun _ => False) (Upd.ofBelow hb) (fun _ _ h => h)

theorem Row.mono {w : World} {e : TypeId} {size : Nat} {S T : Nat → Prop} {v : Value} {n : Nat} {cs : List Value} (h : Row w e size S v n cs) (hST : ∀ k, k < w.heap.size → S k → T k) : Row w e size T v n cs := by
  obtain ⟨ao, cap, rfl, hn, hl, h⟩ := h
  refine ⟨ao, cap, rfl, hn, hl, fun h0 => ?_⟩
  obtain ⟨g, cur, rfl, hS, hg, ht⟩ := h h0
  exact ⟨g, cur, rfl, hST g (heap_lt hg) hS, hg, ht⟩

theorem Row.len {w : World} {e : TypeId} {size : Nat} {S : Nat → Prop} {v : Value} {n : Nat} {cs : List Value} (h : Row w e size S v n cs) : cs.length = n * size := by
  obtain ⟨_, _, _, _, hl, _⟩ := h; exact hl

/-! ### The texts of marks -/
end Go.Proofs.Ythdnnmmaalgpaaa

/- What the laws' own helpers do (marks, comparisons of slices): contracts; no statement of the seat is proved here. -/
namespace Go.Proofs.Ythdnnmmaalgpaaa
open Go.RowKit

theorem row_set {w : World} {e : TypeId} {g j : Nat} {cur : Array Value} (u : Value) (hg : w.heap[g]? = some (.cells cur e (0, 0))) :
    (w.setCell ⟨g, j, none⟩ u).heap[g]? = some (.cells (cur.setIfInBounds j u) e (0, 0)) := heap_setCell_same w g j cur e u hg

/-- The cells of writes. -/
def wcell (x : Int × ByteArray) : List Value := [.int .i64 x.1, .string x.2]
def wcells (xs : List (Int × ByteArray)) : List Value := xs.flatMap wcell
end Go.Proofs.Ythdnnmmaalgpaaa

/- What the laws' own helpers do with disks: contracts; no statement of the seat is proved here. -/
namespace Go.Proofs.Ythdnnmmaalgpaaa
open Go.RowKit

/-- A disk as it reads. -/
def DiskR (w : World) (v : Value) (kept : List ByteArray) (wait : List (Int × ByteArray)) : Prop :=
  ∃ vk vw, v = .agg #[vk, vw] ∧ RowR w 1 vk kept.length (kept.map Value.string) ∧ RowR w 2 vw wait.length (wcells wait)

theorem DiskR.keep {w w' : World} {v : Value} {kept : List ByteArray} {wait : List (Int × ByteArray)} (h : DiskR w v kept wait) (hb : Below w.heap.size w w') : DiskR w' v kept wait := by
  obtain ⟨vk, vw, rfl, h1, h2⟩ := h
  exact ⟨vk, vw, rfl, h1.keep hb, h2.keep hb⟩

/-- The blocks of S that are rows of a type. -/
def typed (w : World) (S : Nat → Prop) (e : TypeId) : Nat → Prop := fun k => S k ∧ ∃ cur, w.heap[k]? = some (.cells cur e (0, 0))

theorem Row.typed {w : World} {e : TypeId} {size : Nat} {S : Nat → Prop} {v : Value} {n : Nat} {cs : List Value} (h : Row w e size S v n cs) : Row w e size (typed w S e) v n cs := by
  obtain ⟨ao, cap, rfl, hn, hl, h⟩ := h
  refine ⟨ao, cap, rfl, hn, hl, fun h0 => ?_⟩
  obtain ⟨g, cur, rfl, hS, hg, ht⟩ := h h0
  exact ⟨g, cur, rfl, ⟨hS, cur, hg⟩, hg, ht⟩

end Go.Proofs.Ythdnnmmaalgpaaa

/- What SecNew does, in the specification and in the program: contracts; no statement of the seat is proved here. -/
namespace Go.Proofs.Ythdnnmmaalgpaaa
open Go.RowKit

/-- The row that make lays, as a row. -/
theorem Row.ofOwns {w : World} {base : Nat} {e : TypeId} {size : Nat} {v : Value} {n : Nat} {xs : List Value} (h : w.ownsRow base e size v n xs) (hn : n ≤ 9223372036854775807) : Row w e size (fun k => base ≤ k) v n xs := by
  obtain ⟨hl, h⟩ := h
  rcases h with ⟨rfl, rfl⟩ | ⟨g, cap, cur, rfl, hb, hg, _, _, _, ht⟩
  · exact ⟨none, 0, rfl, hn, hl, fun h => by omega⟩
  · exact ⟨_, cap, rfl, hn, hl, fun _ => ⟨g, cur, rfl, hb, hg, ht⟩⟩

end Go.Proofs.Ythdnnmmaalgpaaa

/- What the laws' own helpers do with a disk that came in: its size, a copy of it; contracts; no statement of the seat is proved here. -/
namespace Go.Proofs.Ythdnnmmaalgpaaa
open Go.RowKit

/-- What the measure of a size comes to: below 0, or what is left. -/
def Sized (left r : Int) (t : Nat) : Prop := r < 0 ∨ (r = left - t ∧ 0 ≤ r)

end Go.Proofs.Ythdnnmmaalgpaaa

/- What the laws' own helpers do with a disk that came in: a copy of it; contracts; no statement of the seat is proved here. -/
namespace Go.Proofs.Ythdnnmmaalgpaaa
open Go.RowKit

theorem getAt {α : Type} (ss : List α) (k : Nat) (h : k < ss.length) : ∃ s, ss[k]? = some s := ⟨ss[k], by simp [h]⟩

theorem run_make_row2 {P : Program} (t e : TypeId) (z : Value) (size bytes : Nat) (ht : P.underlying t = some (.slice e)) (hinfo : (P.info? e).map (fun i => (i.zero, i.size, i.bytes)) = some (some z, size, bytes))
    (kl kc : IntKind) (n : Nat) (hbytes : bytes * n ≤ 281474976710656) (h63 : n ≤ 9223372036854775807) (w : World) :
    (Instr.makeSlice t (.int kl (n : Int)) (.int kc (n : Int))).run P w = .ok (.slice (some ⟨w.heap.size, 0, none⟩) n n) (w.alloc (.cells (madeCells z.cells (n * size)) e)) := by
  obtain ⟨i, hi, h1, rfl, rfl⟩ := info_parts hinfo
  have hb' : (i.bytes : Int) * (n : Int) ≤ 281474976710656 := by
    have h : ((i.bytes * n : Nat) : Int) ≤ 281474976710656 := by omega
    rwa [Int.natCast_mul] at h
  have hr := run_make (P := P) w t e i z ht hi h1 kl kc n n (by omega) (Int.le_refl _) hb' (by omega)
  simpa only [Int.toNat_natCast] using hr

end Go.Proofs.Ythdnnmmaalgpaaa

/- append of a slice in memory onto a row of the call's own, whatever the slice's address: a law off the library's; no statement of the seat is proved here. -/
namespace Go.Proofs.Ythdnnmmaalgpaaa
open Go.RowKit

/-- A row of one-cell elements that has an element: where it lies. -/
theorem Row.at {w : World} {e : TypeId} {S : Nat → Prop} {v : Value} {n : Nat} {cs : List Value} (h : Row w e 1 S v n cs) (i : Nat) (hi : i < n) :
    ∃ g cap u, v = .slice (some ⟨g, 0, none⟩) n cap ∧ S g ∧ g < w.heap.size ∧ w.cell? ⟨g, i, none⟩ = some u ∧ cs[i]? = some u ∧ w.frozen? ⟨g, i, none⟩ = false ∧
      ∀ x, Row (w.setCell ⟨g, i, none⟩ x) e 1 S v n (cs.set i x) := by
  obtain ⟨ao, cap, rfl, hn, hl, h⟩ := h
  obtain ⟨g, cur, rfl, hS, hg, ht⟩ := h (by omega)
  have hcs : n ≤ cur.size := by
    have := congrArg List.length ht
    rw [hl] at this
    simp at this
    omega
  obtain ⟨u, hu⟩ : ∃ u, cur[i]? = some u := ⟨cur[i]'(by omega), by simp [show i < cur.size by omega]⟩
  refine ⟨g, cap, u, rfl, hS, heap_lt hg, (cell_of_row w g i cur e (0, 0) hg).trans hu, ?_, frozen_of_row w g i cur e hg, fun x => ?_⟩
  · rw [← ht, List.getElem?_take_of_lt (by omega)]
    simpa using hu
  · refine ⟨_, cap, rfl, hn, by simpa using hl, fun _ => ⟨g, _, rfl, hS, heap_setCell_same w g i cur e x hg, ?_⟩⟩
    rw [Array.toList_setIfInBounds, ← ht, List.take_set]

theorem Row.shape {w : World} {e : TypeId} {size : Nat} {S : Nat → Prop} {v : Value} {n : Nat} {cs : List Value} (h : Row w e size S v n cs) : ∃ ao cap, v = .slice ao n cap := by
  obtain ⟨ao, cap, h, -⟩ := h
  exact ⟨ao, cap, h⟩

end Go.Proofs.Ythdnnmmaalgpaaa

/- What SecFlush of the program does: contracts; no statement of the seat is proved here. -/
namespace Go.Proofs.Ythdnnmmaalgpaaa
open Go.RowKit Go.Shelf

attribute [local go_sem] Oper.semAt_some

theorem Upd.drew {S : Nat → Prop} {w w' : World} (h : Upd S w w') : Upd S w w'.drew := ⟨h.os, h.tape, h.output, h.size, h.block⟩

end Go.Proofs.Ythdnnmmaalgpaaa

/- Rows that may be appended to; copies of a disk whose writes are such a row: contracts; no statement of the seat is proved here. -/
namespace Go.Proofs.Ythdnnmmaalgpaaa
open Go.RowKit

/-- A slice that append may be given: a row of one's own, or one with no room at all. -/
def RowA (w : World) (base : Nat) (e : TypeId) (size : Nat) (v : Value) (n : Nat) (cs : List Value) : Prop :=
  w.ownsRow base e size v n cs ∨ (n = 0 ∧ cs = [] ∧ ∃ ao, v = .slice ao 0 0)

theorem RowA.row {w : World} {base : Nat} {e : TypeId} {size : Nat} {v : Value} {n : Nat} {cs : List Value} (h : RowA w base e size v n cs) (hn : n ≤ 9223372036854775807) : Row w e size (fun k => base ≤ k) v n cs := by
  rcases h with h | ⟨rfl, rfl, ao, rfl⟩
  · exact Row.ofOwns h hn
  · exact ⟨ao, 0, rfl, hn, by simp, fun h => by omega⟩

theorem RowA.keep {w w' : World} {base : Nat} {e : TypeId} {size : Nat} {T : Nat → Prop} {v : Value} {n : Nat} {cs : List Value} (h : RowA w base e size v n cs) (hb : Upd T w w') (hT : ∀ k, base ≤ k → ¬ T k) : RowA w' base e size v n cs := by
  rcases h with ⟨hl, h⟩ | h
  · refine .inl ⟨hl, ?_⟩
    rcases h with h | ⟨g, cap, cur, rfl, hg, hh, h1, h2, h3, h4⟩
    · exact .inl h
    · exact .inr ⟨g, cap, cur, rfl, hg, hb.keeps hh (hT g hg), h1, h2, h3, h4⟩
  · exact .inr h

theorem RowA.keepB {w w' : World} {base : Nat} {e : TypeId} {size : Nat} {v : Value} {n : Nat} {cs : List Value} (h : RowA w base e size v n cs) (hb : Below w.heap.size w w') : RowA w' base e size v n cs :=
  h.keep (T := fun _ => False) (Upd.ofBelow hb) (fun _ _ h => h)

theorem RowA.mono {w : World} {base base' : Nat} {e : TypeId} {size : Nat} {v : Value} {n : Nat} {cs : List Value} (h : RowA w base e size v n cs) (hb : base' ≤ base) : RowA w base' e size v n cs := by
  rcases h with ⟨hl, h⟩ | h
  · refine .inl ⟨hl, ?_⟩
    rcases h with h | ⟨g, cap, cur, h0, hg, h'⟩
    · exact .inl h
    · exact .inr ⟨g, cap, cur, h0, by omega, h'⟩
  · exact .inr h

theorem RowA.shape {w : World} {base : Nat} {e : TypeId} {size : Nat} {v : Value} {n : Nat} {cs : List Value} (h : RowA w base e size v n cs) : ∃ ao cap, v = .slice ao n cap := by
  rcases h with ⟨_, ⟨rfl, rfl⟩ | ⟨g, cap, cur, rfl, _⟩⟩ | ⟨rfl, _, ao, rfl⟩ <;> exact ⟨_, _, rfl⟩

theorem run_appendA {P : Program} {w : World} (base : Nat) (t ty e : TypeId) (i : TypeInfo) (z : Value) (size bytes : Nat) (ht : P.underlying t = some (.slice e)) (hi : P.info? e = some i) (hz : i.zero = some z)
    (hsize : i.size = size) (hby : i.bytes = bytes) (hzs : z.cells.size = size) (hsz : 0 < size)
    (v : Value) (n : Nat) (xs : List Value) (hown : RowA w base e size v n xs)
    (a : Addr) (m c : Nat) (news : List Value) (hl : news.length = m * size) (hnews : ∀ j u, news[j]? = some u → w.cell? (a.add j) = some u) (h1 : ∀ u ∈ news, u.oneCell' = true)
    (hm : 0 < m) (h63 : n + m ≤ maxLen) (hbytes : (n + m) * bytes ≤ 140737488355328) (hbase : base ≤ w.heap.size) :
    ∃ v' w', (Builtin.append_ #[t, t] ty #[v, .slice (some a) m c]).run P w = .ok v' w' ∧ w'.ownsRow base e size v' (n + m) (xs ++ news) ∧ Upd (typed w (fun k => base ≤ k) e) w w' := by
  rcases hown with hown | ⟨rfl, rfl, ao, rfl⟩
  · obtain ⟨v', w', hrun, r1, r2, _⟩ := run_append_own (P := P) w base t ty e i z size bytes ht hi hz hsize hby hzs hsz v n xs hown a m c news hl hnews h1 h63 hbytes hbase
    refine ⟨v', w', hrun, r1, r2.os, r2.tape, r2.output, r2.size, fun k hk hT => r2.block k hk (fun e => hT ?_)⟩
    rcases hown.2 with ⟨rfl, _⟩ | ⟨g, cap, cur, rfl, hg, hh, _⟩
    · simp [Value.ownBlock] at e
    · simp only [Value.ownBlock, Option.some.injEq] at e
      subst e
      exact ⟨hg, cur, hh⟩
  · cases ao with
    | none =>
      obtain ⟨v', w', hrun, r1, r2, _⟩ := run_append_own (P := P) w base t ty e i z size bytes ht hi hz hsize hby hzs hsz _ 0 [] (World.ownsRow_nil w base e size) a m c news hl hnews h1 h63 hbytes hbase
      exact ⟨v', w', hrun, r1, r2.os, r2.tape, r2.output, r2.size, fun k hk hT => r2.block k hk (fun e => by simp [Value.ownBlock] at e)⟩
    | some b =>
      obtain ⟨v', w', hrun, r1, r2⟩ := run_append_arg_grows (P := P) w t ty e i z size bytes ht hi hz hsize hby hzs hsz b 0 0 [] (by simp) (fun j u h => by simp at h) a m c news hl hnews (by omega) h63 hbytes
      refine ⟨v', w', hrun, ?_, r2.os, r2.tape, r2.output, r2.size, fun k hk hT => r2.block k hk (fun e => by cases e)⟩
      obtain ⟨q1, q2⟩ := r1
      refine ⟨q1, ?_⟩
      rcases q2 with h | ⟨g, cap, cur, h0, hg, h'⟩
      · exact .inl h
      · exact .inr ⟨g, cap, cur, h0, by omega, h'⟩

theorem wpList_appendA {P : Program} (w : World) {ops : Array Oper} {rest : List Oper} {o : Oper} {a : Act} {Q : Exit → Act → World → Prop} (hgd : o.guard = none) (s x : Operand) (t : TypeId)
    (ho : o.op = .call { callee := .builtin .append, args := #[s, x], argTypes := #[t, t] })
    (base : Nat) (e : TypeId) (i : TypeInfo) (z : Value) (size bytes : Nat) (ht : P.underlying t = some (.slice e)) (hi : P.info? e = some i) (hz : i.zero = some z)
    (hsize : i.size = size) (hby : i.bytes = bytes) (hzs : z.cells.size = size) (hsz : 0 < size)
    (v : Value) (n : Nat) (xs : List Value) (hs : a.eval s = v) (hown : RowA w base e size v n xs)
    (ad : Addr) (m c : Nat) (news : List Value) (hx : a.eval x = .slice (some ad) m c) (hl : news.length = m * size) (hnews : ∀ j u, news[j]? = some u → w.cell? (ad.add j) = some u) (h1 : ∀ u ∈ news, u.oneCell' = true)
    (hm : 0 < m) (h63 : n + m ≤ maxLen) (hbytes : (n + m) * bytes ≤ 140737488355328) (hbase : base ≤ w.heap.size)
    (h : ∀ v' w', w'.ownsRow base e size v' (n + m) (xs ++ news) → Upd (typed w (fun k => base ≤ k) e) w w' → wpList P ops Q rest (a.put o.dst v') w') : wpList P ops Q (o :: rest) a w := by
  obtain ⟨v', w', hrun, r1, r2⟩ := run_appendA (P := P) (w := w) base t o.type e i z size bytes ht hi hz hsize hby hzs hsz v n xs hown ad m c news hl hnews h1 hm h63 hbytes hbase
  refine wpList_plain hgd fun K hK => ?_
  unfold Oper.wp
  simp [execOp, ho, resolve, invoke, builtin, hs, hx, hrun, Result.andThen]
  exact hK _ _ (h v' w' r1 r2)

end Go.Proofs.Ythdnnmmaalgpaaa

/- Lists of elements of several cells in memory; what the laws' own helpers do with pieces: contracts; no statement of the seat is proved here. -/
namespace Go.Proofs.Ythdnnmmaalgpaaa
open Go.RowKit

section
variable {α : Type} {f : α → List Value} {c : Nat}

theorem fm_len (hf : ∀ x, (f x).length = c) (xs : List α) : (xs.flatMap f).length = xs.length * c := by
  induction xs with
  | nil => simp
  | cons x xs ih => rw [List.flatMap_cons, List.length_append, hf, ih, List.length_cons, Nat.add_mul, Nat.one_mul, Nat.add_comm]

theorem fm_at (hf : ∀ x, (f x).length = c) : ∀ (xs : List α) (i : Nat) (x : α) (j : Nat), xs[i]? = some x → j < c → (xs.flatMap f)[i * c + j]? = (f x)[j]?
  | [], i, x, j, h, _ => by simp at h
  | y :: ys, 0, x, j, h, hj => by
    simp at h
    subst h
    rw [List.flatMap_cons, Nat.zero_mul, Nat.zero_add, List.getElem?_append_left (by rw [hf]; exact hj)]
  | y :: ys, i + 1, x, j, h, hj => by
    have e : (i + 1) * c + j = c + (i * c + j) := by rw [Nat.add_mul]; omega
    rw [List.flatMap_cons, e, List.getElem?_append_right (by rw [hf]; omega), hf, Nat.add_sub_cancel_left]
    exact fm_at hf ys i x j (by simpa using h) hj

theorem fm_ext (hf : ∀ x, (f x).length = c) (hc : 0 < c) (xs : List α) (cs : List Value) (hl : cs.length = xs.length * c) (h : ∀ i x j, xs[i]? = some x → j < c → cs[i * c + j]? = (f x)[j]?) : cs = xs.flatMap f := by
  apply List.ext_getElem?
  intro k
  by_cases hk : k < xs.length * c
  · have hi : k / c < xs.length := (Nat.div_lt_iff_lt_mul hc).2 hk
    obtain ⟨x, hx⟩ := getAt xs (k / c) hi
    have h1 := h (k / c) x (k % c) hx (Nat.mod_lt _ hc)
    have h2 := fm_at hf xs (k / c) x (k % c) hx (Nat.mod_lt _ hc)
    have e : k / c * c + k % c = k := by rw [Nat.mul_comm]; exact Nat.div_add_mod k c
    rw [e] at h1 h2
    rw [h1, h2]
  · rw [List.getElem?_eq_none (by omega), List.getElem?_eq_none (by rw [fm_len hf]; omega)]

/-- The cells of an element, in a later world. -/
theorem el_cell (hf : ∀ x, (f x).length = c) {w wr : World} {b o k : Nat} {xs : List α} {x : α} (hc : ∀ j u, (xs.flatMap f)[j]? = some u → w.cell? ⟨b, o + j, none⟩ = some u) (h : xs[k]? = some x) (hb : Below w.heap.size w wr)
    (j : Nat) (u : Value) (hj : (f x)[j]? = some u) : wr.cell? ⟨b, o + k * c + j, none⟩ = some u ∧ b < w.heap.size := by
  have hjc : j < c := by have := (List.getElem?_eq_some_iff.1 hj).1; rwa [hf] at this
  have g := hc (k * c + j) u (by rw [fm_at hf xs k x j h hjc]; exact hj)
  rw [← Nat.add_assoc] at g
  have l : b < w.heap.size := World.block_lt_of_cell? w _ g
  exact ⟨(hb.cell (p := ⟨b, o + k * c + j, none⟩) l).trans g, l⟩
end

/-- A piece: disk, block, epoch, data. -/
abbrev Pc := Int × Int × Int × Int
def pcell (x : Pc) : List Value := [.int .i64 x.1, .int .i64 x.2.1, .int .i64 x.2.2.1, .int .i64 x.2.2.2]
def pcells (xs : List Pc) : List Value := xs.flatMap pcell
end Go.Proofs.Ythdnnmmaalgpaaa

/- What the laws' own helpers do with slices of BlkLast: contracts; no statement of the seat is proved here. -/
namespace Go.Proofs.Ythdnnmmaalgpaaa
open Go.RowKit

abbrev Lc := Int × Int
def lcell (x : Lc) : List Value := [.int .i64 x.1, .int .i64 x.2]
def lcells (xs : List Lc) : List Value := xs.flatMap lcell
end Go.Proofs.Ythdnnmmaalgpaaa

/- Plain facts on ascending lists, places in them and what is put into them; no statement of the seat is proved here. -/
namespace Go.Proofs.Ythdnnmmaalgpaaa

/-- How two numbers compare. -/
def cmpI (a b : Int) : Int := if a < b then -1 else if b < a then 1 else 0
theorem cmpI_neg {a b : Int} : cmpI a b < 0 ↔ a < b := by unfold cmpI; split <;> (try split) <;> omega
theorem cmpI_zero {a b : Int} : cmpI a b = 0 ↔ a = b := by unfold cmpI; split <;> (try split) <;> omega
theorem cmpI_pos {a b : Int} : 0 < cmpI a b ↔ b < a := by unfold cmpI; split <;> (try split) <;> omega
/-- What an order keeps to. -/
structure OrdOk {α : Type} (ord : α → α → Int) : Prop where
  trans : ∀ a b c, ord a b < 0 → ord b c < 0 → ord a c < 0
  eqL : ∀ a b c, ord a b = 0 → ord b c < 0 → ord a c < 0
  flip : ∀ a b, 0 < ord b a ↔ ord a b < 0
  refl : ∀ a, ord a a = 0

section
variable {α : Type} {ord : α → α → Int}

theorem OrdOk.symm (h : OrdOk ord) {a b : α} (e : ord a b = 0) : ord b a = 0 := by
  have h1 := h.flip a b
  have h2 := h.flip b a
  omega
/-- Behind one that is not below, what is above it is above. -/
theorem OrdOk.above (h : OrdOk ord) {x a b : α} (h1 : 0 ≤ ord a x) (h2 : ord a b < 0) : 0 < ord b x := by
  rw [h.flip x b]
  rcases (by omega : ord a x = 0 ∨ 0 < ord a x) with e | e
  · exact h.eqL x a b (h.symm e) h2
  · exact h.trans x a b ((h.flip x a).1 e) h2

/-- Each is above the one ahead of it. -/
def Asc (ord : α → α → Int) (xs : List α) : Prop := xs.Pairwise (fun a b => ord a b < 0)

/-- Whether the element at a place fits, and is above the one ahead of it. -/
def goodAt (fit : α → Bool) (ord : α → α → Int) (xs : List α) (i : Nat) : Bool :=
  match xs[i]? with
  | some x => fit x && (match i with
    | 0 => true
    | j + 1 => match xs[j]? with
      | some y => decide (ord y x < 0)
      | none => true)
  | none => true
/-- Whether a list is in form. -/
def okL (m : Nat) (fit : α → Bool) (ord : α → α → Int) (xs : List α) : Bool := decide (xs.length ≤ m) && (List.range xs.length).all (goodAt fit ord xs)

theorem okL_iff {m : Nat} {fit : α → Bool} {xs : List α} : okL m fit ord xs = true ↔ xs.length ≤ m ∧ ∀ i, i < xs.length → goodAt fit ord xs i = true := by
  simp [okL]
theorem goodAt_zero {fit : α → Bool} {xs : List α} {x : α} (h : xs[0]? = some x) : goodAt fit ord xs 0 = fit x := by simp [goodAt, h]
theorem goodAt_succ {fit : α → Bool} {xs : List α} {x y : α} {j : Nat} (h : xs[j + 1]? = some x) (hy : xs[j]? = some y) : goodAt fit ord xs (j + 1) = (fit x && decide (ord y x < 0)) := by simp [goodAt, h, hy]

theorem ok_len {m : Nat} {fit : α → Bool} {xs : List α} (h : okL m fit ord xs = true) : xs.length ≤ m := (okL_iff.1 h).1
theorem ok_fit {m : Nat} {fit : α → Bool} {xs : List α} (h : okL m fit ord xs = true) : ∀ x ∈ xs, fit x = true := by
  intro x hx
  obtain ⟨i, hi, rfl⟩ := List.mem_iff_getElem.1 hx
  have hg := (okL_iff.1 h).2 i hi
  cases i with
  | zero => rwa [goodAt_zero (List.getElem?_eq_getElem hi)] at hg
  | succ j =>
    rw [goodAt_succ (List.getElem?_eq_getElem hi) (List.getElem?_eq_getElem (by omega)), Bool.and_eq_true] at hg
    exact hg.1

theorem asc_of_next (ho : OrdOk ord) {xs : List α} (h : ∀ j y z, xs[j]? = some y → xs[j + 1]? = some z → ord y z < 0) : Asc ord xs := by
  rw [Asc, List.pairwise_iff_getElem]
  intro i j hi hj hij
  obtain ⟨d, rfl⟩ : ∃ d, j = i + 1 + d := ⟨j - (i + 1), by omega⟩
  induction d with
  | zero => exact h i _ _ (List.getElem?_eq_getElem hi) (List.getElem?_eq_getElem hj)
  | succ d ih => exact ho.trans _ _ _ (ih (by omega) (by omega)) (h (i + 1 + d) _ _ (List.getElem?_eq_getElem (by omega)) (List.getElem?_eq_getElem hj))

theorem ok_asc (ho : OrdOk ord) {m : Nat} {fit : α → Bool} {xs : List α} (h : okL m fit ord xs = true) : Asc ord xs := by
  refine asc_of_next ho (fun j y z hy hz => ?_)
  have hg := (okL_iff.1 h).2 (j + 1) (List.getElem?_eq_some_iff.1 hz).1
  rw [goodAt_succ hz hy, Bool.and_eq_true, decide_eq_true_eq] at hg
  exact hg.2

/-- Where an element stands, or would stand. -/
structure IsAt (ord : α → α → Int) (xs : List α) (x : α) (p : Nat) (there : Bool) : Prop where
  le : p ≤ xs.length
  lo : ∀ y ∈ xs.take p, ord y x < 0
  hi : ∀ y ∈ xs.drop p, 0 ≤ ord y x
  th : there = true ↔ ∃ y, xs[p]? = some y ∧ ord y x = 0

theorem isAt_of {xs : List α} {x : α} {p : Nat} {there : Bool} (le : p ≤ xs.length) (lo : ∀ i y, i < p → xs[i]? = some y → ord y x < 0) (hi : ∀ i y, p ≤ i → xs[i]? = some y → 0 ≤ ord y x) (th : there = true ↔ ∃ y, xs[p]? = some y ∧ ord y x = 0) : IsAt ord xs x p there := by
  refine ⟨le, fun y hy => ?_, fun y hy => ?_, th⟩
  · obtain ⟨i, hi', rfl⟩ := List.mem_iff_getElem.1 hy
    rw [List.length_take] at hi'
    exact lo i _ (by omega) (by rw [List.getElem_take]; exact List.getElem?_eq_getElem (by omega))
  · obtain ⟨i, hi', rfl⟩ := List.mem_iff_getElem.1 hy
    rw [List.length_drop] at hi'
    exact hi (p + i) _ (by omega) (by rw [List.getElem_drop]; exact List.getElem?_eq_getElem (by omega))

theorem asc_tail_above (ho : OrdOk ord) {y x : α} {r : List α} (h : Asc ord (y :: r)) (hy : 0 ≤ ord y x) : ∀ z ∈ r, 0 < ord z x := by
  intro z hz
  exact ho.above hy ((List.pairwise_cons.1 h).1 z hz)

end

/-- Whether a number is within bounds. -/
def inI (n lo hi : Int) : Bool := decide (lo ≤ n) && decide (n ≤ hi)
end Go.Proofs.Ythdnnmmaalgpaaa

/- Words as plain values: which are ok, and their bytes; no statement of the seat is proved here. -/
namespace Go.Proofs.Ythdnnmmaalgpaaa

/-- A word: its 24 numbers in the order of their bytes, its pieces, its last calls. -/
structure Wd where
  a0 : Int
  a1 : Int
  a2 : Int
  a3 : Int
  a4 : Int
  a5 : Int
  c0 : Int
  c1 : Int
  c2 : Int
  c3 : Int
  c4 : Int
  c5 : Int
  c6 : Int
  c7 : Int
  c8 : Int
  c9 : Int
  b0 : Int
  b1 : Int
  b2 : Int
  b3 : Int
  b4 : Int
  b5 : Int
  b6 : Int
  b7 : Int
  ps : List Pc
  ls : List Lc

def numI (n : Int) : Bool := inI n (-1) 99999
/-- The bytes of a number, one more than what they stand for. -/
def encN (n : Nat) : List Nat := if n < 128 then [n] else (128 + n % 128) :: encN (n / 128)
  termination_by n
  decreasing_by omega

def encI (a : Int) : List Nat := encN (a + 1).toNat
def enc (xs : List Int) : List Nat := xs.flatMap encI
end Go.Proofs.Ythdnnmmaalgpaaa

/- What the laws' own helpers do with words: contracts; no statement of the seat is proved here. -/
namespace Go.Proofs.Ythdnnmmaalgpaaa
open Go.RowKit

/-- A word that lies so: its value, and its lists in memory. -/
def WdR (w : World) (v : Value) (x : Wd) : Prop :=
  ∃ po pc lo lc, v = .agg #[.int .i64 x.a0, .int .i64 x.a1, .int .i64 x.a2, .int .i64 x.a3, .int .i64 x.a4, .int .i64 x.a5, .int .i64 x.c0, .int .i64 x.c1, .int .i64 x.c2, .int .i64 x.c3, .int .i64 x.c4, .int .i64 x.c5, .int .i64 x.c6, .int .i64 x.c7, .int .i64 x.c8, .int .i64 x.c9, .int .i64 x.b0, .int .i64 x.b1, .int .i64 x.b2, .int .i64 x.b3, .int .i64 x.b4, .int .i64 x.b5, .int .i64 x.b6, .int .i64 x.b7, .slice po x.ps.length pc, .slice lo x.ls.length lc] ∧ RowR w 4 (.slice po x.ps.length pc) x.ps.length (pcells x.ps) ∧ RowR w 2 (.slice lo x.ls.length lc) x.ls.length (lcells x.ls)
theorem WdR.keep {w w' : World} {v : Value} {x : Wd} (h : WdR w v x) (hb : Below w.heap.size w w') : WdR w' v x := by
  obtain ⟨po, pc, lo, lc, e, h1, h2⟩ := h
  exact ⟨po, pc, lo, lc, e, h1.keep hb, h2.keep hb⟩
theorem bal {W w : World} (h : Below W.heap.size W w) (o : Obj) : Below W.heap.size W (w.alloc o) := h.alloc h.size o
theorem boxAt {w : World} {g : Nat} {cur : Array Value} {e : TypeId} (h : w.heap[g]? = some (.cells cur e (0, 0))) : ∀ j, w.cell? ⟨g, j, none⟩ = cur[j]? := fun j => cell_of_row w g j cur e (0, 0) h
theorem boxFz {w : World} {g : Nat} {cur : Array Value} {e : TypeId} (h : w.heap[g]? = some (.cells cur e (0, 0))) : ∀ j, w.frozen? ⟨g, j, none⟩ = false := fun j => frozen_of_row w g j cur e h

theorem wd_one (x : Wd) (po lo : Option Addr) (pn pc ln lc : Nat) : ∀ v ∈ (#[.int .i64 x.a0, .int .i64 x.a1, .int .i64 x.a2, .int .i64 x.a3, .int .i64 x.a4, .int .i64 x.a5, .int .i64 x.c0, .int .i64 x.c1, .int .i64 x.c2, .int .i64 x.c3, .int .i64 x.c4, .int .i64 x.c5, .int .i64 x.c6, .int .i64 x.c7, .int .i64 x.c8, .int .i64 x.c9, .int .i64 x.b0, .int .i64 x.b1, .int .i64 x.b2, .int .i64 x.b3, .int .i64 x.b4, .int .i64 x.b5, .int .i64 x.b6, .int .i64 x.b7, .slice po pn pc, .slice lo ln lc] : Array Value).toList, v.oneCell' = true := by
  have : (#[.int .i64 x.a0, .int .i64 x.a1, .int .i64 x.a2, .int .i64 x.a3, .int .i64 x.a4, .int .i64 x.a5, .int .i64 x.c0, .int .i64 x.c1, .int .i64 x.c2, .int .i64 x.c3, .int .i64 x.c4, .int .i64 x.c5, .int .i64 x.c6, .int .i64 x.c7, .int .i64 x.c8, .int .i64 x.c9, .int .i64 x.b0, .int .i64 x.b1, .int .i64 x.b2, .int .i64 x.b3, .int .i64 x.b4, .int .i64 x.b5, .int .i64 x.b6, .int .i64 x.b7, .slice po pn pc, .slice lo ln lc] : Array Value).toList.all (·.oneCell') = true := rfl
  exact List.all_eq_true.1 this
end Go.Proofs.Ythdnnmmaalgpaaa

/- Where the numbers of a word stand, in the program: contracts; no statement of the seat is proved here. -/
namespace Go.Proofs.Ythdnnmmaalgpaaa
open Go.RowKit

theorem bDrewB {B : Nat} {w w' : World} (h : Below B w w') : Below B w w'.drew := ⟨h.os, h.tape, h.output, h.size, h.block⟩

/-- A row of n pointers to the cells of block b from o on. -/
def Ptrs (ps : Array Value) (b o n : Nat) : Prop := ps.size = n ∧ ∀ k, k < n → ps[k]? = some (.pointer (some ⟨b, o + k, none⟩))
theorem Ptrs.one {ps : Array Value} {b o n : Nat} (h : Ptrs ps b o n) : ps.all (·.oneCell') = true := by
  refine Array.all_eq_true_iff_forall_mem.2 (fun v hv => ?_)
  obtain ⟨i, hi, e⟩ := Array.getElem_of_mem hv
  have := h.2 i (by rw [← h.1]; exact hi)
  rw [Array.getElem?_eq_getElem hi, e] at this
  rw [Option.some.inj this]
  rfl
theorem all_of_list {cs : Array Value} (h : cs.toList.all (·.oneCell') = true) : cs.all (·.oneCell') = true :=
  Array.all_eq_true_iff_forall_mem.2 (fun v hv => List.all_eq_true.1 h v (by simpa using hv))
end Go.Proofs.Ythdnnmmaalgpaaa

/- What the specification's and the program's small functions on pieces do: contracts; no statement of the seat is proved here. -/
namespace Go.Proofs.Ythdnnmmaalgpaaa
open Go.RowKit

set_option maxHeartbeats 400000 in
theorem l6In_inI (n lo hi : Int) (w : World) :
    Calls Try.prog 29 #[.int .i64 n, .int .i64 lo, .int .i64 hi] w fun e w' => e = .returned (.bool (inI n lo hi)) ∧ w' = w := by
  by_cases h1 : lo ≤ n
  · by_cases h2 : n ≤ hi
    · have H : inI n lo hi = true := by simp [inI, h1, h2]
      go_enter Try.func29, Try.ntmps29
      go_wp2
      go_ret
      exact ⟨by first | rfl | (rw [H]; rfl), rfl⟩
    · have H : inI n lo hi = false := by simp [inI, h2]
      go_enter Try.func29, Try.ntmps29
      go_wp2
      go_ret
      exact ⟨by first | rfl | (rw [H]; rfl), rfl⟩
  · have H : inI n lo hi = false := by simp [inI, h1]
    go_enter Try.func29, Try.ntmps29
    go_wp2
    go_ret
    exact ⟨by first | rfl | (rw [H]; rfl), rfl⟩

set_option maxHeartbeats 400000 in
theorem blkWithin_any (n lo hi : Int) (w : World) :
    Calls Try.prog 35 #[.int .i64 n, .int .i64 lo, .int .i64 hi] w fun e w' => e = .returned (.bool (inI n lo hi)) ∧ w' = w := by
  by_cases h1 : lo ≤ n
  · by_cases h2 : n ≤ hi
    · have H : inI n lo hi = true := by simp [inI, h1, h2]
      go_enter Try.func35, Try.ntmps35
      go_wp2
      go_ret
      exact ⟨by first | rfl | (rw [H]; rfl), rfl⟩
    · have H : inI n lo hi = false := by simp [inI, h2]
      go_enter Try.func35, Try.ntmps35
      go_wp2
      go_ret
      exact ⟨by first | rfl | (rw [H]; rfl), rfl⟩
  · have H : inI n lo hi = false := by simp [inI, h1]
    go_enter Try.func35, Try.ntmps35
    go_wp2
    go_ret
    exact ⟨by first | rfl | (rw [H]; rfl), rfl⟩

theorem isNaN_any (n : Int) (w : World) :
    Calls Try.prog 64 #[.int .i64 n] w fun e w' => e = .returned (.bool false) ∧ w' = w := by
  go_enter Try.func64, Try.ntmps64
  go_wp2
  go_ret
  exact ⟨rfl, rfl⟩

set_option maxHeartbeats 400000 in
theorem compare_any (a b : Int) (w : World) :
    Calls Try.prog 57 #[.int .i64 a, .int .i64 b] w fun e w' => e = .returned (.int .i64 (cmpI a b)) ∧ w' = w := by
  go_enter Try.func57, Try.ntmps57
  go_wp2_with fail
  refine (isNaN_any _ _).mono ?_
  rintro e w' ⟨rfl, rfl⟩
  go_wp2_with fail
  refine (isNaN_any _ _).mono ?_
  rintro e w' ⟨rfl, rfl⟩
  by_cases h1 : a < b
  · have H : cmpI a b = -1 := by simp [cmpI, h1]
    go_wp2
    go_ret
    exact ⟨by first | rfl | (rw [H]; rfl), rfl⟩
  · by_cases h2 : b < a
    · have H : cmpI a b = 1 := by simp [cmpI, h1, h2]
      go_wp2
      go_ret
      exact ⟨by first | rfl | (rw [H]; rfl), rfl⟩
    · have H : cmpI a b = 0 := by simp [cmpI, h1, h2]
      go_wp2
      go_ret
      exact ⟨by first | rfl | (rw [H]; rfl), rfl⟩

end Go.Proofs.Ythdnnmmaalgpaaa

/- Whether pieces are in order, by the program and by the specification: contracts; no statement of the seat is proved here. -/
namespace Go.Proofs.Ythdnnmmaalgpaaa
open Go.RowKit

theorem wrapN (m : Nat) (h : (m : Int) ≤ 9223372036854775807) : IntKind.i64.wrap (m : Int) = (m : Int) := by
  simp [IntKind.wrap, IntKind.bits, IntKind.signed]
  omega
theorem lt_succ {P : Nat → Prop} {m : Nat} (h : ∀ j, j < m → P j) (hm : P m) : ∀ j, j < m + 1 → P j := by
  intro j hj
  rcases (by omega : j < m ∨ j = m) with h1 | rfl
  · exact h j h1
  · exact hm
theorem bDrew1 (w : World) : Below w.heap.size w w.drew := (Below.refl _ _).drew

end Go.Proofs.Ythdnnmmaalgpaaa

/- Copies of pieces, and pieces with one put into its place: contracts; no statement of the seat is proved here. -/
namespace Go.Proofs.Ythdnnmmaalgpaaa
open Go.RowKit

/-- A part of a slice. -/
theorem RowR.drop {w : World} {size n k : Nat} {b off cap c' : Nat} {cs : List Value} (h : RowR w size (.slice (some ⟨b, off, none⟩) n cap) n cs) (hk : k ≤ n) : RowR w size (.slice (some ⟨b, off + k * size, none⟩) (n - k) c') (n - k) (cs.drop (k * size)) := by
  obtain ⟨ao, ca, e, hn, hl, h⟩ := h
  injection e with e1 e2 e3
  subst e1
  refine ⟨_, _, rfl, by omega, by rw [List.length_drop, hl, Nat.sub_mul], fun h0 => ⟨b, off + k * size, rfl, fun j u hj => ?_⟩⟩
  obtain ⟨b', off', e, hc⟩ := h (by omega)
  injection e with e
  injection e with e1 e2
  subst e1 e2
  rw [List.getElem?_drop] at hj
  rw [Nat.add_assoc]
  exact hc _ u hj
theorem RowR.take {w : World} {size n k : Nat} {ao : Option Addr} {cap c' : Nat} {cs : List Value} (h : RowR w size (.slice ao n cap) n cs) (hk : k ≤ n) : RowR w size (.slice ao k c') k (cs.take (k * size)) := by
  obtain ⟨ao', ca, e, hn, hl, h⟩ := h
  injection e with e1 e2 e3
  subst e1
  refine ⟨_, _, rfl, by omega, by rw [List.length_take, hl, Nat.min_eq_left (Nat.mul_le_mul_right _ hk)], fun h0 => ?_⟩
  obtain ⟨b', off', rfl, hc⟩ := h (by omega)
  refine ⟨b', off', rfl, fun j u hj => hc j u ?_⟩
  have := (List.getElem?_eq_some_iff.1 hj).1
  rw [List.length_take] at this
  rwa [List.getElem?_take_of_lt (by omega)] at hj

theorem RowR.zero {w : World} {size c : Nat} {ao : Option Addr} : RowR w size (.slice ao 0 c) 0 [] := ⟨ao, c, rfl, by omega, by simp, fun h => by omega⟩

end Go.Proofs.Ythdnnmmaalgpaaa

/- BlkPut, BlkGet and BlkDrop of the program: contracts; no statement of the seat is proved here. -/
namespace Go.Proofs.Ythdnnmmaalgpaaa
open Go.RowKit

theorem owns_shape {w : World} {base : Nat} {e : TypeId} {size : Nat} {v : Value} {n : Nat} {cs : List Value} (h : w.ownsRow base e size v n cs) : ∃ ao ca, v = .slice ao n ca ∧ n ≤ ca := by
  rcases h.2 with ⟨rfl, rfl⟩ | ⟨g, cap, cur, rfl, _, _, hnc, _⟩
  · exact ⟨none, 0, rfl, Nat.le_refl _⟩
  · exact ⟨_, cap, rfl, hnc⟩
end Go.Proofs.Ythdnnmmaalgpaaa

/- WordOk of the specification: contracts; no statement of the seat is proved here. -/
namespace Go.Proofs.Ythdnnmmaalgpaaa
open Go.RowKit

set_option maxHeartbeats 400000 in
theorem l11Num_any (n : Int) (w : World) :
    Calls Try.prog 31 #[.int .i64 n] w fun e w' => e = .returned (.bool (numI n)) ∧ w' = w := by
  go_enter Try.func31, Try.ntmps31
  go_wp2_with fail
  refine (l6In_inI n (-1) 99999 _).mono ?_
  rintro e w1 ⟨rfl, rfl⟩
  go_wp2
  go_ret
  exact ⟨rfl, rfl⟩

end Go.Proofs.Ythdnnmmaalgpaaa

/- What the laws of words have in common: contracts; no statement of the seat is proved here. -/
namespace Go.Proofs.Ythdnnmmaalgpaaa
open Go.RowKit

theorem WdR.agg {w : World} {v : Value} {x : Wd} (h : WdR w v x) : ∃ cs : Array Value, v = .agg cs ∧ cs.size = 26 ∧ cs.all (·.oneCell') = true := by
  obtain ⟨po, pc, lo, lc, rfl, -, -⟩ := h
  exact ⟨_, rfl, rfl, all_of_list (List.all_eq_true.2 (wd_one x po lo _ pc _ lc))⟩
/-- A whole block is loaded, in a region that draws its order. -/
theorem yields_row {P : Program} {ops : Array Oper} {S : World → Prop} {op : Oper} {a : Act} (hw : Region.wanted op (yielded ops a.tmps) = true) (ty : TypeId) (x : Operand) (ho : op.op = .load ty x)
    (g : Nat) (hx : a.eval x = .pointer (some ⟨g, 0, none⟩)) (t : TypeId) (cs : Array Value) (d : TypeDesc) (hS : ∀ w, S w → w.heap[g]? = some (.cells cs t (0, 0)))
    (hu : P.underlying ty = some d) (hd : (match d with | .struct _ | .array _ _ => true | _ => false) = true) (hi : (P.info? ty).map (·.size) = some cs.size) : YieldsIf P ops S op (.agg cs) a :=
  .inl ⟨hw, fun w hw' => by
    unfold execOp
    simp only [ho, hx, Instr.loadAt, Instr.sureAddr, Sem.run_bind, Sem.run_pure, Result.andThen_ok, run_loadVar_row w g t ty cs (0, 0) d (hS w hw') hu hd hi]⟩

theorem infoAt {t : TypeId} {n m : Nat} (h : (Try.prog.info? t).map (·.size) = some n) (hm : m = n) : (Try.prog.info? t).map (·.size) = some m := by rw [hm]; exact h
end Go.Proofs.Ythdnnmmaalgpaaa

/- A struct in a row of others, loaded and stored whole: laws; no statement of the seat is proved here. -/
namespace Go.Proofs.Ythdnnmmaalgpaaa
open Go.RowKit

theorem run_loadVar_at {P : Program} (w : World) (g off : Nat) (ty : TypeId) (cs : Array Value) (d : TypeDesc) (hc : ∀ j u, cs[j]? = some u → w.cell? ⟨g, off + j, none⟩ = some u)
    (hu : P.underlying ty = some d) (hd : (match d with | .struct _ | .array _ _ => true | _ => false) = true) (hi : (P.info? ty).map (·.size) = some cs.size) :
    (loadVar ty ⟨g, off, none⟩).run P w = .ok (.agg cs) w := by
  have hl : (loadCells ⟨g, off, none⟩ cs.toList.length).run P w = .ok cs.toList.toArray w :=
    run_loadCells_list (P := P) w ⟨g, off, none⟩ cs.toList (fun j v hv => by
      rw [Addr.add_lit]
      exact hc j v (by simpa using hv))
  cases hq : P.info? ty with
  | none => simp [hq] at hi
  | some i =>
    have hs : i.size = cs.size := by simpa [hq] using hi
    have hagg : (isAgg ty).run P w = .ok true w := by
      unfold isAgg
      rw [Sem.run_bind, run_underlying hu w]
      cases d <;> simp_all
    simp only [Array.length_toList, Array.toArray_toList] at hl
    simp [loadVar, Sem.run_bind, hagg, sizeOf, typeInfo, hq, hs, hl]

theorem wp_load_at {P : Program} {o : Oper} {a : Act} {w : World} {K : Act → World → Prop} {Q : Exit → Act → World → Prop} (ty : TypeId) (x : Operand) (ho : o.op = .load ty x)
    (g off : Nat) (hx : a.eval x = .pointer (some ⟨g, off, none⟩)) (cs : Array Value) (d : TypeDesc) (hc : ∀ j u, cs[j]? = some u → w.cell? ⟨g, off + j, none⟩ = some u)
    (hu : P.underlying ty = some d) (hd : (match d with | .struct _ | .array _ _ => true | _ => false) = true) (hi : (P.info? ty).map (·.size) = some cs.size)
    (h : K (a.put o.dst (.agg cs)) w) : o.wp P a w K Q := by
  unfold Oper.wp execOp
  simp only [ho, hx, Instr.loadAt, Instr.sureAddr, Sem.run_bind, Sem.run_pure, Result.andThen_ok, run_loadVar_at w g off ty cs d hc hu hd hi]
  exact h

theorem wpList_load_at {P : Program} {ops : Array Oper} {rest : List Oper} {o : Oper} {a : Act} {w : World} {Q : Exit → Act → World → Prop} (hgd : Region.wanted o (yielded ops a.tmps) = true) (ty : TypeId) (x : Operand) (ho : o.op = .load ty x)
    (g off : Nat) (hx : a.eval x = .pointer (some ⟨g, off, none⟩)) (cs : Array Value) (d : TypeDesc) (hc : ∀ j u, cs[j]? = some u → w.cell? ⟨g, off + j, none⟩ = some u)
    (hu : P.underlying ty = some d) (hd : (match d with | .struct _ | .array _ _ => true | _ => false) = true) (hi : (P.info? ty).map (·.size) = some cs.size)
    (h : wpList P ops Q rest (a.put o.dst (.agg cs)) w) : wpList P ops Q (o :: rest) a w :=
  wpList_step fun _ hK => by rw [if_pos hgd]; exact wp_load_at ty x ho g off hx cs d hc hu hd hi (hK _ _ h)

theorem yields_at {P : Program} {ops : Array Oper} {S : World → Prop} {op : Oper} {a : Act} (hw : Region.wanted op (yielded ops a.tmps) = true) (ty : TypeId) (x : Operand) (ho : op.op = .load ty x)
    (g off : Nat) (hx : a.eval x = .pointer (some ⟨g, off, none⟩)) (cs : Array Value) (d : TypeDesc) (hS : ∀ w, S w → ∀ j u, cs[j]? = some u → w.cell? ⟨g, off + j, none⟩ = some u)
    (hu : P.underlying ty = some d) (hd : (match d with | .struct _ | .array _ _ => true | _ => false) = true) (hi : (P.info? ty).map (·.size) = some cs.size) : YieldsIf P ops S op (.agg cs) a :=
  .inl ⟨hw, fun w hw' => by
    unfold execOp
    simp only [ho, hx, Instr.loadAt, Instr.sureAddr, Sem.run_bind, Sem.run_pure, Result.andThen_ok, run_loadVar_at w g off ty cs d (hS w hw') hu hd hi]⟩

/-- Cells written into a row, from a place on. -/
def putAt (cur : Array Value) (off : Nat) (cs : Array Value) : Array Value := (cur.toList.take off ++ cs.toList ++ cur.toList.drop (off + cs.size)).toArray

theorem putAt_size {cur cs : Array Value} {off : Nat} (h : off + cs.size ≤ cur.size) : (putAt cur off cs).size = cur.size := by
  simp [putAt]
  omega
theorem putAt_in {cur cs : Array Value} {off j : Nat} {u : Value} (h : off + cs.size ≤ cur.size) (hj : cs[j]? = some u) : (putAt cur off cs)[off + j]? = some u := by
  have hjl : j < cs.size := (Array.getElem?_eq_some_iff.1 hj).1
  unfold putAt
  rw [List.getElem?_toArray, List.append_assoc, List.getElem?_append_right (by simp; omega), List.getElem?_append_left (by simp; omega)]
  simp only [List.length_take, Array.length_toList]
  rw [show off + j - min off cur.size = j by omega]
  simpa using hj
theorem putAt_out {cur cs : Array Value} {off j : Nat} (h : off + cs.size ≤ cur.size) (hj : j < off ∨ off + cs.size ≤ j) : (putAt cur off cs)[j]? = cur[j]? := by
  unfold putAt
  rw [List.getElem?_toArray]
  rcases hj with hj | hj
  · rw [List.append_assoc, List.getElem?_append_left (by simp; omega), List.getElem?_take_of_lt hj]
    simp
  · rw [List.getElem?_append_right (by simp; omega)]
    simp only [List.length_append, List.length_take, Array.length_toList]
    rw [List.getElem?_drop, show off + cs.size + (j - (min off cur.size + cs.size)) = j by omega]
    simp

theorem run_storeVar_at {P : Program} (w : World) (g off : Nat) (t ty : TypeId) (old cells : Array Value) (hg : w.heap[g]? = some (.cells old t (0, 0))) (hi : (P.info? ty).map (·.size) = some cells.size)
    (ho : off + cells.size ≤ old.size) (h1 : cells.all (·.oneCell') = true) :
    (storeVar ty ⟨g, off, none⟩ (.agg cells)).run P w = .ok () (w.setRow g (putAt old off cells)) := by
  have := run_storeCells_at (P := P) g off t cells.toList 0 old w hg (by simp; omega) (fun v hv => (Array.all_eq_true_iff_forall_mem.1 h1) v (by simpa using hv))
  cases hq : P.info? ty with
  | none => simp [hq] at hi
  | some i =>
    have hs : cells.size = i.size := by simp [hq] at hi; omega
    simp [storeVar, sizeOf, typeInfo, hq, Value.cells, hs, this, putAt]

theorem wpList_store_at {P : Program} {ops : Array Oper} {rest : List Oper} {o : Oper} {a : Act} {w : World} {Q : Exit → Act → World → Prop} (hgd : o.guard = none) (ty : TypeId) (x y : Operand) (ho : o.op = .store ty x y)
    (g off : Nat) (cells : Array Value) (hx : a.eval x = .pointer (some ⟨g, off, none⟩)) (hy : a.eval y = .agg cells)
    (t : TypeId) (old : Array Value) (hg : w.heap[g]? = some (.cells old t (0, 0))) (hi : (P.info? ty).map (·.size) = some cells.size)
    (hold : off + cells.size ≤ old.size) (h1 : cells.all (·.oneCell') = true)
    (h : wpList P ops Q rest (a.put o.dst undef) (w.setRow g (putAt old off cells))) : wpList P ops Q (o :: rest) a w :=
  wpList_plain hgd fun _ hK => by
    unfold Oper.wp execOp
    simp only [ho, hx, hy, Instr.storeAt, Instr.sureAddr, Sem.run_bind, Sem.run_pure, Result.andThen_ok, run_storeVar_at w g off t ty old cells hg hi hold h1]
    exact hK _ _ h

end Go.Proofs.Ythdnnmmaalgpaaa

/- Rows of elements that hold rows of their own: plain facts; no statement of the seat is proved here. -/
namespace Go.Proofs.Ythdnnmmaalgpaaa
open Go.RowKit

/-- What a slice reads whose elements are read by E: each of 'size' cells. -/
def RowE {α : Type} (w : World) (size : Nat) (E : World → Value → α → Prop) (v : Value) (xs : List α) : Prop :=
  ∃ ao cap, v = .slice ao xs.length cap ∧ xs.length ≤ 9223372036854775807 ∧
    (0 < xs.length → ∃ b off, ao = some ⟨b, off, none⟩ ∧ ∀ j x, xs[j]? = some x → ∃ cs : Array Value, cs.size = size ∧ cs.all (·.oneCell') = true ∧ (∀ i u, cs[i]? = some u → w.cell? ⟨b, off + j * size + i, none⟩ = some u) ∧ E w (.agg cs) x)

theorem RowE.keep {α : Type} {w w' : World} {size : Nat} {E : World → Value → α → Prop} (hE : ∀ v x, E w v x → E w' v x) {v : Value} {xs : List α} (h : RowE w size E v xs) (hb : Below w.heap.size w w') : RowE w' size E v xs := by
  obtain ⟨ao, cap, e, hn, h⟩ := h
  refine ⟨ao, cap, e, hn, fun h0 => ?_⟩
  obtain ⟨b, off, e', h⟩ := h h0
  refine ⟨b, off, e', fun j x hj => ?_⟩
  obtain ⟨cs, h1, h2, h3, h4⟩ := h j x hj
  exact ⟨cs, h1, h2, fun i u hi => (hb.cell (p := ⟨b, off + j * size + i, none⟩) (World.block_lt_of_cell? w _ (h3 i u hi))).trans (h3 i u hi), hE _ _ h4⟩
theorem RowE.shape {α : Type} {w : World} {size : Nat} {E : World → Value → α → Prop} {v : Value} {xs : List α} (h : RowE w size E v xs) : ∃ ao cap, v = .slice ao xs.length cap := by
  obtain ⟨ao, cap, e, -⟩ := h
  exact ⟨ao, cap, e⟩
theorem RowE.small {α : Type} {w : World} {size : Nat} {E : World → Value → α → Prop} {v : Value} {xs : List α} (h : RowE w size E v xs) : xs.length ≤ 9223372036854775807 := by
  obtain ⟨ao, cap, e, hn, -⟩ := h
  exact hn
/-- One of the elements. -/
theorem RowE.elem {α : Type} {w : World} {size : Nat} {E : World → Value → α → Prop} {ao : Option Addr} {n cap : Nat} {xs : List α} (h : RowE w size E (.slice ao n cap) xs) {j : Nat} {x : α} (hj : xs[j]? = some x) :
    n = xs.length ∧ ∃ b off, ao = some ⟨b, off, none⟩ ∧ ∃ cs : Array Value, cs.size = size ∧ cs.all (·.oneCell') = true ∧ (∀ i u, cs[i]? = some u → w.cell? ⟨b, off + j * size + i, none⟩ = some u) ∧ E w (.agg cs) x := by
  obtain ⟨ao', cap', e, hn, h⟩ := h
  injection e with e1 e2 e3
  subst e1 e2
  have hlt := (List.getElem?_eq_some_iff.1 hj).1
  obtain ⟨b, off, e', h⟩ := h (by omega)
  exact ⟨rfl, b, off, e', h j x hj⟩
theorem cellsKeep {w w' : World} {b o : Nat} {cs : Array Value} (h : ∀ i u, cs[i]? = some u → w.cell? ⟨b, o + i, none⟩ = some u) (hb : Below w.heap.size w w') : ∀ i u, cs[i]? = some u → w'.cell? ⟨b, o + i, none⟩ = some u :=
  fun i u hi => (hb.cell (p := ⟨b, o + i, none⟩) (World.block_lt_of_cell? w _ (h i u hi))).trans (h i u hi)

/-- A slice in a row of its own, whose elements hold rows of their own, no two the same: all blocks are in S. -/
def RowO {α : Type} (w : World) (e : TypeId) (size : Nat) (S : Nat → Prop) (EO : World → (Nat → Prop) → Value → α → Prop) (v : Value) (xs : List α) : Prop :=
  ∃ ao cap, v = .slice ao xs.length cap ∧ xs.length ≤ 9223372036854775807 ∧
    (0 < xs.length → ∃ g cur, ao = some ⟨g, 0, none⟩ ∧ S g ∧ w.heap[g]? = some (.cells cur e (0, 0)) ∧
      ∃ T : Nat → Nat → Prop, (∀ j b, T j b → S b ∧ b ≠ g) ∧ (∀ i j b, T i b → T j b → i = j) ∧
        ∀ j x, xs[j]? = some x → ∃ cs : Array Value, cs.size = size ∧ cs.all (·.oneCell') = true ∧ (∀ r u, cs[r]? = some u → cur[j * size + r]? = some u) ∧ EO w (T j) (.agg cs) x)
theorem RowO.reads {α : Type} {w : World} {e : TypeId} {size : Nat} {S : Nat → Prop} {EO : World → (Nat → Prop) → Value → α → Prop} {E : World → Value → α → Prop} (hE : ∀ T v x, EO w T v x → E w v x) {v : Value} {xs : List α} (h : RowO w e size S EO v xs) : RowE w size E v xs := by
  obtain ⟨ao, cap, rfl, hn, h⟩ := h
  refine ⟨ao, cap, rfl, hn, fun h0 => ?_⟩
  obtain ⟨g, cur, rfl, -, hg, T, -, -, h⟩ := h h0
  refine ⟨g, 0, rfl, fun j x hj => ?_⟩
  obtain ⟨cs, h1, h2, h3, h4⟩ := h j x hj
  exact ⟨cs, h1, h2, fun i u hi => by rw [Nat.zero_add, boxAt hg]; exact h3 i u hi, hE _ _ _ h4⟩
theorem RowO.keep {α : Type} {w w' : World} {e : TypeId} {size : Nat} {S R : Nat → Prop} {EO : World → (Nat → Prop) → Value → α → Prop} (hE : ∀ T v x, (∀ b, T b → ¬ R b) → EO w T v x → EO w' T v x) {v : Value} {xs : List α} (h : RowO w e size S EO v xs) (u : Upd R w w') (hR : ∀ b, S b → ¬ R b) : RowO w' e size S EO v xs := by
  obtain ⟨ao, cap, rfl, hn, h⟩ := h
  refine ⟨ao, cap, rfl, hn, fun h0 => ?_⟩
  obtain ⟨g, cur, rfl, hS, hg, T, hT, hT2, h⟩ := h h0
  refine ⟨g, cur, rfl, hS, u.keeps hg (hR g hS), T, hT, hT2, fun j x hj => ?_⟩
  obtain ⟨cs, h1, h2, h3, h4⟩ := h j x hj
  exact ⟨cs, h1, h2, h3, hE _ _ _ (fun b hb => hR b (hT j b hb).1) h4⟩
theorem RowO.mono {α : Type} {w : World} {e : TypeId} {size : Nat} {S S' : Nat → Prop} {EO : World → (Nat → Prop) → Value → α → Prop} {v : Value} {xs : List α} (h : RowO w e size S EO v xs) (hS : ∀ b, S b → S' b) : RowO w e size S' EO v xs := by
  obtain ⟨ao, cap, rfl, hn, h⟩ := h
  refine ⟨ao, cap, rfl, hn, fun h0 => ?_⟩
  obtain ⟨g, cur, rfl, hg0, hg, T, hT, hT2, h⟩ := h h0
  exact ⟨g, cur, rfl, hS g hg0, hg, T, fun j b hb => ⟨hS b (hT j b hb).1, (hT j b hb).2⟩, hT2, h⟩
theorem RowO.shape {α : Type} {w : World} {e : TypeId} {size : Nat} {S : Nat → Prop} {EO : World → (Nat → Prop) → Value → α → Prop} {v : Value} {xs : List α} (h : RowO w e size S EO v xs) : ∃ ao cap, v = .slice ao xs.length cap := by
  obtain ⟨ao, cap, e, -⟩ := h
  exact ⟨ao, cap, e⟩
theorem RowO.inside {α : Type} {w : World} {e : TypeId} {size : Nat} {S : Nat → Prop} {EO : World → (Nat → Prop) → Value → α → Prop} (hE : ∀ T v x, EO w T v x → EO w (fun b => T b ∧ b < w.heap.size) v x) {v : Value} {xs : List α} (h : RowO w e size S EO v xs) : RowO w e size (fun b => S b ∧ b < w.heap.size) EO v xs := by
  obtain ⟨ao, cap, rfl, hn, h⟩ := h
  refine ⟨ao, cap, rfl, hn, fun h0 => ?_⟩
  obtain ⟨g, cur, rfl, hg0, hg, T, hT, hT2, h⟩ := h h0
  refine ⟨g, cur, rfl, ⟨hg0, heap_lt hg⟩, hg, fun j b => T j b ∧ b < w.heap.size, fun j b hb => ⟨⟨(hT j b hb.1).1, hb.2⟩, (hT j b hb.1).2⟩, fun i j b h1 h2 => hT2 i j b h1.1 h2.1, fun j x hj => ?_⟩
  obtain ⟨cs, h1, h2, h3, h4⟩ := h j x hj
  exact ⟨cs, h1, h2, h3, hE _ _ _ h4⟩
/-- A row of marks of places that grows by one. -/
def stepB (B : Nat → Nat) (k top : Nat) : Nat → Nat := fun j => if j ≤ k then B j else top
theorem stepB_le {B : Nat → Nat} {k top j : Nat} (h : j ≤ k) : stepB B k top j = B j := by simp [stepB, h]
theorem stepB_gt {B : Nat → Nat} {k top j : Nat} (h : k < j) : stepB B k top j = top := by simp [stepB, show ¬ j ≤ k by omega]
theorem asc_places {B : Nat → Nat} {k : Nat} (h : ∀ j, j < k → B j ≤ B (j + 1)) : ∀ i j, i ≤ j → j ≤ k → B i ≤ B j := by
  intro i j hij
  induction j with
  | zero => intro _; have : i = 0 := by omega
            subst this; exact Nat.le_refl _
  | succ j ih =>
    intro hj
    rcases Nat.lt_or_ge i (j + 1) with h1 | h1
    · exact Nat.le_trans (ih (by omega) (by omega)) (h j (by omega))
    · have : i = j + 1 := by omega
      subst this; exact Nat.le_refl _

end Go.Proofs.Ythdnnmmaalgpaaa

/- What the laws' own helpers do with numbers: contracts; no statement of the seat is proved here. -/
namespace Go.Proofs.Ythdnnmmaalgpaaa
open Go.RowKit

theorem infoInt : (Try.prog.info? 3).map (fun i => (i.zero, i.size, i.bytes)) = some (some (.int .i64 0), 1, 8) := by kernel_rfl

set_option maxHeartbeats 1000000 in
theorem toIntS_cap (v : Value) (n : Nat) (ss : List Int) (w : World) (hr : RowR w 1 v n (ss.map (Value.int .i64))) (hn : n ≤ 1048576) :
    Calls Try.prog 62 #[v] w fun e w' => ∃ so', e = .returned (.slice so' n n) ∧ Row w' 3 1 (fun k => w.heap.size ≤ k) (.slice so' n n) n (ss.map (Value.int .i64)) ∧ Below w.heap.size w w' := by
  obtain ⟨ao, cap, rfl, hn', hl, hr⟩ := hr
  simp only [List.length_map, Nat.mul_one] at hl
  have Hl := hide hl
  clear hl
  have hmk := run_make_row' (P := Try.prog) 55 3 (.int .i64 0) 8 Try.underlying55 infoInt rfl .i64 .i64 n (by omega) (by omega)
  go_enter Try.func62, Try.ntmps62
  go_wp2
  clear hmk
  go_loopw [4] (fun i wr => ∃ (k : Nat) (cur : Array Value), k ≤ n ∧ i = .int .i64 k ∧ wr.heap[w.heap.size]? = some (.cells cur 3 (0, 0)) ∧ cur.size = n ∧ (∀ j s, j < k → ss[j]? = some s → cur[j]? = some (.int .i64 s)) ∧ Below w.heap.size w wr) (fun i _ => n - (intOf i).toNat)
  case atStart => exact ⟨0, _, Nat.zero_le _, rfl, heap_alloc_new w _, size_madeCells _ _, fun j s hj => by omega, (Below.refl _ _).alloc (Nat.le_refl _) _⟩
  case round =>
    obtain ⟨k, cur, hk, rfl, hg, hcs, hmk, hbel⟩ := hrel
    have HM := hide hmk
    have HC := hide hcs
    have hcs' : n ≤ cur.size := by omega
    clear hmk hcs
    by_cases hlt : k < n
    · obtain ⟨b1, o1, rfl, hc1⟩ := hr (by omega)
      obtain ⟨s, hs⟩ := getAt ss k (by have := Hl.out; omega)
      have Hs := hide hs
      have g1 := hc1 k (.int .i64 s) (by simp [hs])
      have f1 : wr.cell? ⟨b1, o1 + k, none⟩ = some (.int .i64 s) := (hbel.cell (p := ⟨b1, o1 + k, none⟩) (World.block_lt_of_cell? w _ g1)).trans g1
      have hi : (k : Int) < (n : Int) := by omega
      obtain ⟨u, hu⟩ : ∃ u, cur[k]? = some u := ⟨cur[k]'(by omega), by simp [show k < cur.size by omega]⟩
      have hcw : wr.cell? ⟨w.heap.size, k, none⟩ = some u := (cell_of_row wr _ k cur _ (0, 0) hg).trans hu
      have hfw : wr.frozen? ⟨w.heap.size, k, none⟩ = false := frozen_of_row wr _ k cur _ hg
      have Hg := hide hg
      clear hr hc1 g1 hs hg
      go_wp2
      go_roundw
      case rel =>
        refine ⟨k + 1, _, by omega, by go_num, row_set _ Hg.out, by simpa using HC.out, fun j t hj ht => ?_, hbel.setCell (p := ⟨w.heap.size, k, none⟩) (Nat.le_refl _) _⟩
        by_cases hjk : j = k
        · subst hjk
          rw [Hs.out] at ht
          rw [Array.getElem?_setIfInBounds_self_of_lt (by omega)]
          rw [Option.some.inj ht]
        · rw [Array.getElem?_setIfInBounds_ne (by omega)]
          exact HM.out j t (by omega) ht
      case measure => simp [intOf]; omega
    · go_wp2
      go_ret
      obtain rfl : k = n := by omega
      refine ⟨_, rfl, ⟨_, _, rfl, hn', by simp [Hl.out], fun _ => ⟨_, cur, rfl, Nat.le_refl _, hg, ?_⟩⟩, hbel⟩
      apply List.ext_getElem?
      intro j
      have hl := Hl.out
      by_cases hj : j < k
      · rw [List.getElem?_take_of_lt (by omega)]
        obtain ⟨s, hs⟩ := getAt ss j (by omega)
        simpa [hs] using HM.out j s hj hs
      · rw [List.getElem?_eq_none (by simp; omega), List.getElem?_eq_none (by simp; omega)]

set_option maxHeartbeats 400000 in
theorem eqIntS_true (va vb : Value) (n : Nat) (ss : List Int) (w : World) (ha : RowR w 1 va n (ss.map (Value.int .i64))) (hb : RowR w 1 vb n (ss.map (Value.int .i64))) :
    Calls Try.prog 60 #[va, vb] w fun e w' => e = .returned (.bool true) ∧ Below w.heap.size w w' := by
  obtain ⟨ao, ca, rfl, hn, hl, ha⟩ := ha
  obtain ⟨bo, cb, rfl, _, _, hb⟩ := hb
  go_enter Try.func60, Try.ntmps60
  go_wp2
  go_loopw [5] (fun i wr => ∃ k : Nat, k ≤ n ∧ i = .int .i64 k ∧ Below w.heap.size w wr) (fun i _ => n - (intOf i).toNat)
  case atStart => exact ⟨0, Nat.zero_le _, rfl, Below.refl _ _⟩
  case round =>
    obtain ⟨k, hk, rfl, hbel⟩ := hrel
    by_cases hlt : k < n
    · obtain ⟨b1, o1, rfl, hc1⟩ := ha (by omega)
      obtain ⟨b2, o2, rfl, hc2⟩ := hb (by omega)
      obtain ⟨s, hs⟩ : ∃ s, (ss.map (Value.int .i64))[k]? = some (.int .i64 s) := by
        simp only [List.length_map, Nat.mul_one] at hl
        exact ⟨ss[k]'(by omega), by simp [show k < ss.length by omega]⟩
      have g1 := hc1 k _ hs
      have g2 := hc2 k _ hs
      have f1 : wr.cell? ⟨b1, o1 + k, none⟩ = some (.int .i64 s) := (hbel.cell (p := ⟨b1, o1 + k, none⟩) (World.block_lt_of_cell? w _ g1)).trans g1
      have f2 : wr.cell? ⟨b2, o2 + k, none⟩ = some (.int .i64 s) := (hbel.cell (p := ⟨b2, o2 + k, none⟩) (World.block_lt_of_cell? w _ g2)).trans g2
      have hi : (k : Int) < (n : Int) := by omega
      clear ha hb hc1 hc2 hs g1 g2 hl
      go_wp2
      go_quiet (fail)
      go_wp2
      go_roundw
      case rel => exact ⟨k + 1, by omega, by go_num, below_drewN hbel _⟩
      case measure => simp [intOf]; omega
    · go_wp2
      go_ret
      exact ⟨rfl, hbel⟩

end Go.Proofs.Ythdnnmmaalgpaaa

/- Rows of numbers, and what they count: a contract; no statement of the seat is proved here. -/
namespace Go.Proofs.Ythdnnmmaalgpaaa
open Go.RowKit

def ints (xs : List Int) : List Value := xs.map (Value.int .i64)

set_option maxHeartbeats 400000 in
theorem szIntS_any (so : Option Addr) (n sc : Nat) (left : Int) (w : World) (hn : n ≤ 9223372036854775807) (h1 : 0 ≤ left) (h2 : left ≤ 1048576) :
    Calls Try.prog 61 #[.slice so n sc, .int .i64 left] w fun e w' => ∃ r, e = .returned (.int .i64 r) ∧ Sized left r n ∧ Below w.heap.size w w' := by
  by_cases hneg : left - n < 0
  · go_enter Try.func61, Try.ntmps61
    go_wp2
    go_ret
    exact ⟨_, rfl, .inl (by omega), Below.refl _ _⟩
  · have hge : 0 ≤ left - n := by omega
    clear hneg
    go_enter Try.func61, Try.ntmps61
    go_wp2
    go_ret
    exact ⟨_, rfl, .inr ⟨rfl, hge⟩, Below.refl _ _⟩

theorem upd_late {S T : Nat → Prop} {a b c : World} (h : Upd S a b) (k : Upd T b c) (hT : ∀ j, T j → a.heap.size ≤ j) : Upd S a c :=
  ⟨k.os.trans h.os, k.tape.trans h.tape, k.output.trans h.output, Nat.le_trans h.size k.size,
    fun i hi hS => (k.block i (Nat.lt_of_lt_of_le hi h.size) (fun ht => by have := hT i ht; omega)).trans (h.block i hi hS)⟩

end Go.Proofs.Ythdnnmmaalgpaaa

/- Disks of the map: what they read, and what the laws' own helpers do with one: contracts; no statement of the seat is proved here. (Written by wip/tools/mkmd.py.) -/
namespace Go.Proofs.Ythdnnmmaalgpaaa
open Go.RowKit

/-- A disk: its number, size, epoch, why it is frozen, the freeze's client and call, who has stopped. -/
structure Dk where
  i : Int
  z : Int
  ep : Int
  fr : Int
  cl : Int
  ca : Int
  ks : List Int
/-- What a disk reads. -/
def DkR (w : World) (v : Value) (d : Dk) : Prop := ∃ yo yc, v = .agg #[.int .i64 d.i, .int .i64 d.z, .int .i64 d.ep, .int .i64 d.fr, .int .i64 d.cl, .int .i64 d.ca, .slice yo d.ks.length yc] ∧ d.ks.length ≤ yc ∧ RowR w 1 (.slice yo d.ks.length yc) d.ks.length (ints d.ks)
def DkO (w : World) (S : Nat → Prop) (v : Value) (d : Dk) : Prop := ∃ yo yc, v = .agg #[.int .i64 d.i, .int .i64 d.z, .int .i64 d.ep, .int .i64 d.fr, .int .i64 d.cl, .int .i64 d.ca, .slice yo d.ks.length yc] ∧ d.ks.length ≤ yc ∧ Row w 3 1 S (.slice yo d.ks.length yc) d.ks.length (ints d.ks)
theorem DkR.keep {w w' : World} {v : Value} {d : Dk} (h : DkR w v d) (hb : Below w.heap.size w w') : DkR w' v d := by
  obtain ⟨yo, yc, e, hc, h⟩ := h
  exact ⟨yo, yc, e, hc, h.keep hb⟩
theorem DkO.reads {w : World} {S : Nat → Prop} {v : Value} {d : Dk} (h : DkO w S v d) : DkR w v d := by
  obtain ⟨yo, yc, e, hc, h⟩ := h
  exact ⟨yo, yc, e, hc, h.reads⟩
theorem DkO.keep {w w' : World} {S T : Nat → Prop} {v : Value} {d : Dk} (h : DkO w S v d) (u : Upd T w w') (hT : ∀ j, S j → ¬ T j) : DkO w' S v d := by
  obtain ⟨yo, yc, e, hc, h⟩ := h
  exact ⟨yo, yc, e, hc, h.keep u hT⟩
theorem DkO.keepB {w w' : World} {S : Nat → Prop} {v : Value} {d : Dk} (h : DkO w S v d) (b : Below w.heap.size w w') : DkO w' S v d := by
  obtain ⟨yo, yc, e, hc, h⟩ := h
  exact ⟨yo, yc, e, hc, h.keepB b⟩
theorem DkO.mono {w : World} {S T : Nat → Prop} {v : Value} {d : Dk} (h : DkO w S v d) (hST : ∀ j, j < w.heap.size → S j → T j) : DkO w T v d := by
  obtain ⟨yo, yc, e, hc, h⟩ := h
  exact ⟨yo, yc, e, hc, h.mono hST⟩
theorem rowInD {w : World} {e : TypeId} {size : Nat} {S : Nat → Prop} {v : Value} {n : Nat} {cs : List Value} (h : Row w e size S v n cs) : Row w e size (fun k => S k ∧ k < w.heap.size) v n cs := by
  obtain ⟨ao, cap, rfl, hn, hl, h⟩ := h
  refine ⟨ao, cap, rfl, hn, hl, fun hp => ?_⟩
  obtain ⟨g, cur, e, hS, hg, ht⟩ := h hp
  exact ⟨g, cur, e, ⟨hS, heap_lt hg⟩, hg, ht⟩
theorem dkIn {w : World} {S : Nat → Prop} {v : Value} {d : Dk} (h : DkO w S v d) : DkO w (fun j => S j ∧ j < w.heap.size) v d := by
  obtain ⟨yo, yc, e, hc, h⟩ := h
  exact ⟨yo, yc, e, hc, rowInD h⟩
theorem DkR.agg {w : World} {v : Value} {d : Dk} (h : DkR w v d) : ∃ cs : Array Value, v = .agg cs ∧ cs.size = 7 ∧ cs.all (·.oneCell') = true := by
  obtain ⟨yo, yc, rfl, -⟩ := h
  exact ⟨_, rfl, rfl, all_of_list rfl⟩
theorem infoDk : (Try.prog.info? 57).map (·.size) = some 7 := by kernel_rfl
theorem infoLd : (Try.prog.info? 78).map (·.size) = some 7 := by kernel_rfl
def DkS (d : Dk) : Prop := d.ks.length ≤ 1048576

set_option maxRecDepth 100000 in
set_option maxHeartbeats 4000000 in
theorem szDkx (v : Value) (d : Dk) (left : Int) (w : World) (h : DkR w v d) (h1 : 0 ≤ left) (h2 : left ≤ 1048576) :
    Calls Try.prog 51 #[v, .int .i64 left] w fun e w' => ∃ r, e = .returned (.int .i64 r) ∧ (r < 0 ∨ (0 ≤ r ∧ r ≤ left ∧ DkS d)) ∧ Below w.heap.size w w' := by
  obtain ⟨yo, yc, rfl, -, hr⟩ := h
  have hn : d.ks.length ≤ 9223372036854775807 := by obtain ⟨_, _, _, h, _⟩ := hr; exact h
  have al := bal (Below.refl w.heap.size w) (.cells #[.int .i64 d.i, .int .i64 d.z, .int .i64 d.ep, .int .i64 d.fr, .int .i64 d.cl, .int .i64 d.ca, .slice yo d.ks.length yc] 78)
  have B0 := hide (heap_alloc_new w (.cells #[.int .i64 d.i, .int .i64 d.z, .int .i64 d.ep, .int .i64 d.fr, .int .i64 d.cl, .int .i64 d.ca, .slice yo d.ks.length yc] 78))
  go_enter Try.func51, Try.ntmps51
  go_upto_region 1 with fail
  generalize World.alloc _ _ = W at al B0 ⊢
  have g : W.cell? ⟨w.heap.size, 6, none⟩ = some (.slice yo d.ks.length yc) := boxAt B0.out 6
  go_wp2_with fail
  refine (szIntS_any _ _ _ left _ hn h1 h2).mono ?_
  rintro e w1 ⟨r, rfl, hs, b1⟩
  rcases hs with hneg | ⟨hr2, hp⟩
  · go_wp2
    go_ret
    exact ⟨_, rfl, .inl (by omega), bAll al b1⟩
  · have hge : ¬ r < 0 := by omega
    have HR2 := hide hr2
    clear hr2
    go_wp2
    go_ret
    exact ⟨_, rfl, .inr ⟨by have := HR2.out; omega, by have := HR2.out; omega, by have := HR2.out; unfold DkS; omega⟩, bAll al b1⟩

set_option maxRecDepth 100000 in
set_option maxHeartbeats 4000000 in
theorem eqDkx (va vb : Value) (d : Dk) (w : World) (ha : DkR w va d) (hb : DkR w vb d) :
    Calls Try.prog 46 #[va, vb] w fun e w' => e = .returned (.bool true) ∧ Below w.heap.size w w' := by
  obtain ⟨ao, ca, rfl, -, ha⟩ := ha
  obtain ⟨bo, cb, rfl, -, hb⟩ := hb
  have al := bal (bal (Below.refl w.heap.size w) (.cells #[.int .i64 d.i, .int .i64 d.z, .int .i64 d.ep, .int .i64 d.fr, .int .i64 d.cl, .int .i64 d.ca, .slice ao d.ks.length ca] 57)) (.cells #[.int .i64 d.i, .int .i64 d.z, .int .i64 d.ep, .int .i64 d.fr, .int .i64 d.cl, .int .i64 d.ca, .slice bo d.ks.length cb] 57)
  have A0 := hide (al2_0 w (.cells #[.int .i64 d.i, .int .i64 d.z, .int .i64 d.ep, .int .i64 d.fr, .int .i64 d.cl, .int .i64 d.ca, .slice ao d.ks.length ca] 57) (.cells #[.int .i64 d.i, .int .i64 d.z, .int .i64 d.ep, .int .i64 d.fr, .int .i64 d.cl, .int .i64 d.ca, .slice bo d.ks.length cb] 57))
  have B0 := hide (al2_1 w (.cells #[.int .i64 d.i, .int .i64 d.z, .int .i64 d.ep, .int .i64 d.fr, .int .i64 d.cl, .int .i64 d.ca, .slice ao d.ks.length ca] 57) (.cells #[.int .i64 d.i, .int .i64 d.z, .int .i64 d.ep, .int .i64 d.fr, .int .i64 d.cl, .int .i64 d.ca, .slice bo d.ks.length cb] 57))
  have HA := hide (ha.keep al)
  have HB := hide (hb.keep al)
  clear ha hb
  go_enter Try.func46, Try.ntmps46
  go_upto_region 1 with fail
  generalize World.alloc _ _ = W at al A0 B0 HA HB ⊢
  have x0 : W.cell? ⟨w.heap.size, 0, none⟩ = some (.int .i64 d.i) := boxAt A0.out 0
  have y0 : W.cell? ⟨w.heap.size + 1, 0, none⟩ = some (.int .i64 d.i) := boxAt B0.out 0
  have x1 : W.cell? ⟨w.heap.size, 1, none⟩ = some (.int .i64 d.z) := boxAt A0.out 1
  have y1 : W.cell? ⟨w.heap.size + 1, 1, none⟩ = some (.int .i64 d.z) := boxAt B0.out 1
  have x2 : W.cell? ⟨w.heap.size, 2, none⟩ = some (.int .i64 d.ep) := boxAt A0.out 2
  have y2 : W.cell? ⟨w.heap.size + 1, 2, none⟩ = some (.int .i64 d.ep) := boxAt B0.out 2
  have x3 : W.cell? ⟨w.heap.size, 3, none⟩ = some (.int .i64 d.fr) := boxAt A0.out 3
  have y3 : W.cell? ⟨w.heap.size + 1, 3, none⟩ = some (.int .i64 d.fr) := boxAt B0.out 3
  have x4 : W.cell? ⟨w.heap.size, 4, none⟩ = some (.int .i64 d.cl) := boxAt A0.out 4
  have y4 : W.cell? ⟨w.heap.size + 1, 4, none⟩ = some (.int .i64 d.cl) := boxAt B0.out 4
  have x5 : W.cell? ⟨w.heap.size, 5, none⟩ = some (.int .i64 d.ca) := boxAt A0.out 5
  have y5 : W.cell? ⟨w.heap.size + 1, 5, none⟩ = some (.int .i64 d.ca) := boxAt B0.out 5
  have x6 : W.cell? ⟨w.heap.size, 6, none⟩ = some (.slice ao d.ks.length ca) := boxAt A0.out 6
  have y6 : W.cell? ⟨w.heap.size + 1, 6, none⟩ = some (.slice bo d.ks.length cb) := boxAt B0.out 6
  go_wp2_with fail
  refine (eqIntS_true _ _ _ d.ks _ HA.out HB.out).mono ?_
  rintro e w3 ⟨rfl, b3⟩
  go_wp2
  go_ret
  exact ⟨rfl, bAll al b3⟩

theorem updRowD (w : World) (g : Nat) (cs : Array Value) : Upd (fun j => j = g) w (w.setRow g cs) := ⟨rfl, rfl, rfl, by simp, fun _ _ h => setRow_other _ _ _ _ h⟩

set_option maxRecDepth 100000 in
set_option maxHeartbeats 8000000 in
theorem toDkx (v : Value) (d : Dk) (w : World) (h : DkR w v d) (hn : DkS d) :
    Calls Try.prog 53 #[v] w fun e w' => ∃ v', e = .returned v' ∧ DkO w' (fun j => w.heap.size ≤ j) v' d ∧ Below w.heap.size w w' := by
  obtain ⟨yo, yc, rfl, -, hr⟩ := h
  have HR0 := hide hr
  clear hr
  go_enter Try.func53, Try.ntmps53
  go_upto_region 2 with fail
  generalize hW : World.alloc _ _ = W
  have al : Below w.heap.size w W := by rw [← hW]; exact bal (bal (bal (Below.refl _ _) _) _) _
  have A0 : Hid (W.heap[w.heap.size]? = some (.cells #[.int .i64 d.i, .int .i64 d.z, .int .i64 d.ep, .int .i64 d.fr, .int .i64 d.cl, .int .i64 d.ca, .slice yo d.ks.length yc] 78 (0, 0))) := by show _ = _; rw [← hW]; exact al3_0 w _ _ _
  have A1 : Hid (W.heap[w.heap.size + 1]? = some (.cells #[.int .i64 0, .int .i64 0, .int .i64 0, .int .i64 0, .int .i64 0, .int .i64 0, .slice none 0 0] 57 (0, 0))) := by show _ = _; rw [← hW]; exact al3_1 w _ _ _
  have A2 : Hid (W.heap[w.heap.size + 1 + 1]? = some (.cells #[.int .i64 0, .int .i64 0, .int .i64 0, .int .i64 0, .int .i64 0, .int .i64 0, .slice none 0 0] 57 (0, 0))) := by show _ = _; rw [← hW]; exact al3_2 w _ _ _
  have ZW : Hid (W.heap.size = w.heap.size + 1 + 1 + 1) := by show _ = _; rw [← hW]; simp
  clear hW
  have x0 : W.cell? ⟨w.heap.size, 0, none⟩ = some (.int .i64 d.i) := boxAt A0.out 0
  have x1 : W.cell? ⟨w.heap.size, 1, none⟩ = some (.int .i64 d.z) := boxAt A0.out 1
  have x2 : W.cell? ⟨w.heap.size, 2, none⟩ = some (.int .i64 d.ep) := boxAt A0.out 2
  have x3 : W.cell? ⟨w.heap.size, 3, none⟩ = some (.int .i64 d.fr) := boxAt A0.out 3
  have x4 : W.cell? ⟨w.heap.size, 4, none⟩ = some (.int .i64 d.cl) := boxAt A0.out 4
  have x5 : W.cell? ⟨w.heap.size, 5, none⟩ = some (.int .i64 d.ca) := boxAt A0.out 5
  have x6 : W.cell? ⟨w.heap.size, 6, none⟩ = some (.slice yo d.ks.length yc) := boxAt A0.out 6
  have o0 : W.cell? ⟨w.heap.size + 1 + 1, 0, none⟩ = some (.int .i64 0) := boxAt A2.out 0
  have f0 := boxFz A2.out 0
  have o1 : W.cell? ⟨w.heap.size + 1 + 1, 1, none⟩ = some (.int .i64 0) := boxAt A2.out 1
  have f1 := boxFz A2.out 1
  have o2 : W.cell? ⟨w.heap.size + 1 + 1, 2, none⟩ = some (.int .i64 0) := boxAt A2.out 2
  have f2 := boxFz A2.out 2
  have o3 : W.cell? ⟨w.heap.size + 1 + 1, 3, none⟩ = some (.int .i64 0) := boxAt A2.out 3
  have f3 := boxFz A2.out 3
  have o4 : W.cell? ⟨w.heap.size + 1 + 1, 4, none⟩ = some (.int .i64 0) := boxAt A2.out 4
  have f4 := boxFz A2.out 4
  have o5 : W.cell? ⟨w.heap.size + 1 + 1, 5, none⟩ = some (.int .i64 0) := boxAt A2.out 5
  have f5 := boxFz A2.out 5
  go_upto_region 8 with fail
  have u3 : Upd (fun j => j = w.heap.size + 1 + 1) W ((((((W.setCell ⟨w.heap.size + 1 + 1, 0, none⟩ (.int .i64 d.i)).setCell ⟨w.heap.size + 1 + 1, 1, none⟩ (.int .i64 d.z)).setCell ⟨w.heap.size + 1 + 1, 2, none⟩ (.int .i64 d.ep)).setCell ⟨w.heap.size + 1 + 1, 3, none⟩ (.int .i64 d.fr)).setCell ⟨w.heap.size + 1 + 1, 4, none⟩ (.int .i64 d.cl)).setCell ⟨w.heap.size + 1 + 1, 5, none⟩ (.int .i64 d.ca)) := ((((((Upd.setCell (S := fun j => j = w.heap.size + 1 + 1) _ _ _ _ rfl).trans (Upd.setCell _ _ _ _ rfl)).trans (Upd.setCell _ _ _ _ rfl)).trans (Upd.setCell _ _ _ _ rfl)).trans (Upd.setCell _ _ _ _ rfl)).trans (Upd.setCell _ _ _ _ rfl))
  have C2 : Hid (((((((W.setCell ⟨w.heap.size + 1 + 1, 0, none⟩ (.int .i64 d.i)).setCell ⟨w.heap.size + 1 + 1, 1, none⟩ (.int .i64 d.z)).setCell ⟨w.heap.size + 1 + 1, 2, none⟩ (.int .i64 d.ep)).setCell ⟨w.heap.size + 1 + 1, 3, none⟩ (.int .i64 d.fr)).setCell ⟨w.heap.size + 1 + 1, 4, none⟩ (.int .i64 d.cl)).setCell ⟨w.heap.size + 1 + 1, 5, none⟩ (.int .i64 d.ca)).heap[w.heap.size + 1 + 1]? = some (.cells #[.int .i64 d.i, .int .i64 d.z, .int .i64 d.ep, .int .i64 d.fr, .int .i64 d.cl, .int .i64 d.ca, .slice none 0 0] 57 (0, 0))) := (row_set _ (row_set _ (row_set _ (row_set _ (row_set _ (row_set _ A2.out))))))
  have C0 := hide (u3.keeps A0.out (by omega))
  have C1 := hide (u3.keeps A1.out (by omega))
  generalize ((((((W.setCell ⟨w.heap.size + 1 + 1, 0, none⟩ (.int .i64 d.i)).setCell ⟨w.heap.size + 1 + 1, 1, none⟩ (.int .i64 d.z)).setCell ⟨w.heap.size + 1 + 1, 2, none⟩ (.int .i64 d.ep)).setCell ⟨w.heap.size + 1 + 1, 3, none⟩ (.int .i64 d.fr)).setCell ⟨w.heap.size + 1 + 1, 4, none⟩ (.int .i64 d.cl)).setCell ⟨w.heap.size + 1 + 1, 5, none⟩ (.int .i64 d.ca)) = V at u3 C2 C0 C1 ⊢
  have zV := u3.size
  have zW := ZW.out
  clear x0 x1 x2 x3 x4 x5 x6 o0 f0 o1 f1 o2 f2 o3 f3 o4 f4 o5 f5
  have xy : V.cell? ⟨w.heap.size, 6, none⟩ = some (.slice yo d.ks.length yc) := boxAt C0.out 6
  have cw5 := al.trans (u3.below al.size (fun j h => by omega))
  have HRV := HR0.out.keep cw5
  go_wp2_with fail
  refine (toIntS_cap _ _ d.ks _ HRV hn).mono ?_
  rintro e w3 ⟨so3, rfl, r3, b3⟩
  clear xy HRV
  have R3 := hide r3
  clear r3
  have z3 := b3.size
  have J1 := hide (bKeeps b3 C1.out)
  have J2 := hide (bKeeps b3 C2.out)
  have q1 : w3.cell? ⟨w.heap.size + 1 + 1, 6, none⟩ = some (.slice none 0 0) := boxAt J2.out 6
  have q2 := boxFz J2.out 6
  have u6 := Upd.setCell (S := fun j => j = w.heap.size + 1 + 1) w3 (w.heap.size + 1 + 1) 6 (.slice so3 d.ks.length d.ks.length) rfl
  have K2 : Hid ((w3.setCell ⟨w.heap.size + 1 + 1, 6, none⟩ (.slice so3 d.ks.length d.ks.length)).heap[w.heap.size + 1 + 1]? = some (.cells #[.int .i64 d.i, .int .i64 d.z, .int .i64 d.ep, .int .i64 d.fr, .int .i64 d.cl, .int .i64 d.ca, .slice so3 d.ks.length d.ks.length] 57 (0, 0))) := row_set _ J2.out
  have K1 := hide (u6.keeps J1.out (by omega))
  have K3 := hide (R3.out.keep u6 (fun j h1 h2 => by omega))
  have u7 := updRowD (w3.setCell ⟨w.heap.size + 1 + 1, 6, none⟩ (.slice so3 d.ks.length d.ks.length)) (w.heap.size + 1) #[.int .i64 d.i, .int .i64 d.z, .int .i64 d.ep, .int .i64 d.fr, .int .i64 d.cl, .int .i64 d.ca, .slice so3 d.ks.length d.ks.length]
  have z6 := u6.size
  have cw6 := (cw5.trans (b3.mono (by have := cw5.size; omega))).trans (u6.below (by have := cw5.size; omega) (fun j h => by omega))
  clear C0 C1 C2 b3
  go_wp2_with (first
    | (refine wpList_load_row rfl 57 (.tmp 3) rfl (w.heap.size + 1 + 1) rfl _ #[.int .i64 d.i, .int .i64 d.z, .int .i64 d.ep, .int .i64 d.fr, .int .i64 d.cl, .int .i64 d.ca, .slice so3 d.ks.length d.ks.length] (0, 0) _ K2.out Try.underlying57 rfl infoDk ?_)
    | (refine wpList_store_row rfl 57 (.tmp 2) (.tmp 26) rfl (w.heap.size + 1) #[.int .i64 d.i, .int .i64 d.z, .int .i64 d.ep, .int .i64 d.fr, .int .i64 d.cl, .int .i64 d.ca, .slice so3 d.ks.length d.ks.length] rfl rfl _ _ K1.out infoDk (show (7 : Nat) = 7 from rfl) (all_of_list rfl) ?_))
  refine bodyPost_ret (v := .agg #[.int .i64 d.i, .int .i64 d.z, .int .i64 d.ep, .int .i64 d.fr, .int .i64 d.cl, .int .i64 d.ca, .slice so3 d.ks.length d.ks.length]) (results_cell_row Try.results53 _ _ (w.heap.size + 1) _ _ (0, 0) _ rfl (setRow_heap _ _ _ _ _ _ K1.out) Try.underlying57 rfl infoDk) rfl ?_
  exact ⟨_, rfl, ⟨so3, _, rfl, Nat.le_refl _, (K3.out.keep u7 (fun j h1 h2 => by omega)).mono (fun j _ h => by omega)⟩, cw6.trans (u7.below (by have := cw6.size; omega) (fun j h => by omega))⟩

end Go.Proofs.Ythdnnmmaalgpaaa
