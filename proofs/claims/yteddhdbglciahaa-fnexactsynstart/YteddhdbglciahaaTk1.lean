/- Contracts and plain facts that this claim leans on (texts K, H, H3, New, H5, Ap, Flush, Own, BH, BHL, BM, XM, XH, XI, BS6, BS7, XH3, XL, RA, VP, VP2, XA, VR); no statement of the seat is proved here. -/
import Derived.WalkKit
import Derived.WalkSpells
import Derived.WalkLawsBesides
import Derived.BigQuiet
import Derived.Deep.QuietTactic
import Derived.Test.YteddhdbglciahaaProg
import Derived.Deep.RegionWith
import Derived.Deep.OwnRows
import Derived.RangeFuncNested
import Derived.RangeFuncBound
import Derived.RangeFuncCalls
import Derived.RangeFuncLeaves
import Derived.Shelf.Abstract
import Derived.OwnWalkIn
import Derived.TacticsInMore
import Derived.LoopNIn
import Derived.LoopIn
import Derived.Deep.RegionLaw
import Derived.Deep.RegionHeldLaw
import Derived.Deep.RegionLawGrows
import Derived.Shelf.RegionOpen
import Derived.Deep.RegionHeld3
import Derived.Deep.WholeRow
import Derived.Laws.CopyRow
import Derived.Laws.ResultCell
import Derived.Deep.DeepCutAuto

/- Plain facts on worlds, slices in memory and texts of numbers, for the walks of this seat; no statement of the seat is proved here. -/
namespace Go.Proofs.Yteddhdbglciahaa
open Go.RowKit

theorem hide {p : Prop} (h : p) : Hid p := h
/-- Of the old blocks those in S alone may have turned. -/
structure Upd (S : Nat → Prop) (w w' : World) : Prop where
  os : w'.os = w.os
  tape : w'.tape = w.tape
  output : w'.output = w.output
  size : w.heap.size ≤ w'.heap.size
  block : ∀ k, k < w.heap.size → ¬ S k → w'.heap[k]? = w.heap[k]?

theorem Upd.refl (S : Nat → Prop) (w : World) : Upd S w w := ⟨rfl, rfl, rfl, Nat.le_refl _, fun _ _ _ => rfl⟩

theorem Upd.trans {S : Nat → Prop} {a b c : World} (h : Upd S a b) (k : Upd S b c) : Upd S a c :=
  ⟨k.os.trans h.os, k.tape.trans h.tape, k.output.trans h.output, Nat.le_trans h.size k.size,
    fun i hi hS => (k.block i (Nat.lt_of_lt_of_le hi h.size) hS).trans (h.block i hi hS)⟩

theorem Upd.mono {S T : Nat → Prop} {w w' : World} (h : Upd S w w') (hST : ∀ k, S k → T k) : Upd T w w' :=
  ⟨h.os, h.tape, h.output, h.size, fun k hk hT => h.block k hk (fun hs => hT (hST k hs))⟩

theorem Upd.ofBelow {S : Nat → Prop} {w w' : World} (h : Below w.heap.size w w') : Upd S w w' :=
  ⟨h.os, h.tape, h.output, h.size, fun k hk _ => h.block k hk⟩

theorem Upd.below {S : Nat → Prop} {w w' : World} (h : Upd S w w') {B : Nat} (hB : B ≤ w.heap.size) (hS : ∀ k, S k → B ≤ k) : Below B w w' :=
  ⟨h.os, h.tape, h.output, h.size, fun k hk => h.block k (by omega) (fun hs => by have := hS k hs; omega)⟩

theorem Upd.setCell {S : Nat → Prop} (w : World) (g j : Nat) (u : Value) (hS : S g) : Upd S w (w.setCell ⟨g, j, none⟩ u) :=
  ⟨rfl, rfl, rfl, by simp, fun k _ hk => Below.heap_setCell _ _ _ _ (fun e => hk (by subst e; exact hS))⟩

theorem bAll {a b c : World} (h : Below a.heap.size a b) (k : Below b.heap.size b c) : Below a.heap.size a c :=
  h.trans (k.mono h.size)

theorem bAllTo {a b c : World} (h : Below a.heap.size a b) (k : Below b.heap.size b c) : Below a.heap.size a c := bAll h k
theorem bUndrew {B : Nat} {w w' : World} (h : Below B w.drew w') : Below B w w' := ⟨h.os, h.tape, h.output, h.size, h.block⟩
theorem bKeeps {W w1 : World} (hb : Below W.heap.size W w1) {g : Nat} {o : Obj} (h : W.heap[g]? = some o) : w1.heap[g]? = some o :=
  (hb.block g (Array.getElem?_eq_some_iff.1 h).1).trans h

theorem Upd.keeps {S : Nat → Prop} {W w1 : World} (hb : Upd S W w1) {g : Nat} {o : Obj} (h : W.heap[g]? = some o) (hS : ¬ S g) : w1.heap[g]? = some o :=
  (hb.block g (Array.getElem?_eq_some_iff.1 h).1 hS).trans h

theorem heap_lt {w : World} {g : Nat} {o : Obj} (h : w.heap[g]? = some o) : g < w.heap.size := (Array.getElem?_eq_some_iff.1 h).1

theorem al1_0 (w : World) (a : Obj) : (w.alloc a).heap[w.heap.size]? = some a := heap_alloc_new w a
theorem al2_0 (w : World) (a b : Obj) : ((w.alloc a).alloc b).heap[w.heap.size]? = some a := (Below.heap_alloc _ _ _ (by simp)).trans (al1_0 w a)
theorem al2_1 (w : World) (a b : Obj) : ((w.alloc a).alloc b).heap[w.heap.size + 1]? = some b := by have := al1_0 (w.alloc a) b; rwa [World.size_alloc] at this
theorem al3_0 (w : World) (a b c : Obj) : (((w.alloc a).alloc b).alloc c).heap[w.heap.size]? = some a := (Below.heap_alloc _ _ _ (by simp; omega)).trans (al2_0 w a b)
theorem al3_2 (w : World) (a b c : Obj) : (((w.alloc a).alloc b).alloc c).heap[w.heap.size + 1 + 1]? = some c := by have := al2_1 (w.alloc a) b c; rwa [World.size_alloc] at this

/-! ### Slices in memory -/

/-- What a slice reads: n elements of 'size' cells each, the cells cs. -/
def RowR (w : World) (size : Nat) (v : Value) (n : Nat) (cs : List Value) : Prop :=
  ∃ ao cap, v = .slice ao n cap ∧ n ≤ 9223372036854775807 ∧ cs.length = n * size ∧
    (0 < n → ∃ b off, ao = some ⟨b, off, none⟩ ∧ ∀ j u, cs[j]? = some u → w.cell? ⟨b, off + j, none⟩ = some u)

/-- A slice in a row of its own, whose block is in S. -/
def Row (w : World) (e : TypeId) (size : Nat) (S : Nat → Prop) (v : Value) (n : Nat) (cs : List Value) : Prop :=
  ∃ ao cap, v = .slice ao n cap ∧ n ≤ 9223372036854775807 ∧ cs.length = n * size ∧
    (0 < n → ∃ g cur, ao = some ⟨g, 0, none⟩ ∧ S g ∧ w.heap[g]? = some (.cells cur e (0, 0)) ∧ cur.toList.take (n * size) = cs)

theorem Row.reads {w : World} {e : TypeId} {size : Nat} {S : Nat → Prop} {v : Value} {n : Nat} {cs : List Value} (h : Row w e size S v n cs) : RowR w size v n cs := by
  obtain ⟨ao, cap, rfl, hn, hl, h⟩ := h
  refine ⟨ao, cap, rfl, hn, hl, fun h0 => ?_⟩
  obtain ⟨g, cur, rfl, _, hg, ht⟩ := h h0
  refine ⟨g, 0, rfl, fun j u hj => ?_⟩
  rw [Nat.zero_add, cell_of_row w g j cur e (0, 0) hg]
  subst ht
  have hj' := (List.getElem?_eq_some_iff.1 hj).1
  rw [List.getElem?_take_of_lt (by simp at hj'; omega)] at hj
  simpa using hj

theorem RowR.nil (w : World) (size : Nat) : RowR w size (.slice none 0 0) 0 [] := ⟨none, 0, rfl, by omega, by simp, fun h => by omega⟩
theorem Row.nil (w : World) (e : TypeId) (size : Nat) (S : Nat → Prop) : Row w e size S (.slice none 0 0) 0 [] := ⟨none, 0, rfl, by omega, by simp, fun h => by omega⟩

theorem RowR.keep {w w' : World} {size : Nat} {v : Value} {n : Nat} {cs : List Value} (h : RowR w size v n cs) (hb : Below w.heap.size w w') : RowR w' size v n cs := by
  obtain ⟨ao, cap, rfl, hn, hl, h⟩ := h
  refine ⟨ao, cap, rfl, hn, hl, fun h0 => ?_⟩
  obtain ⟨b, off, rfl, hc⟩ := h h0
  exact ⟨b, off, rfl, fun j u hj => (hb.cell (p := ⟨b, off + j, none⟩) (World.block_lt_of_cell? w _ (hc j u hj))).trans (hc j u hj)⟩

theorem Row.keep {w w' : World} {e : TypeId} {size : Nat} {S T : Nat → Prop} {v : Value} {n : Nat} {cs : List Value} (h : Row w e size S v n cs) (hb : Upd T w w') (hST : ∀ k, S k → ¬ T k) : Row w' e size S v n cs := by
  obtain ⟨ao, cap, rfl, hn, hl, h⟩ := h
  refine ⟨ao, cap, rfl, hn, hl, fun h0 => ?_⟩
  obtain ⟨g, cur, rfl, hS, hg, ht⟩ := h h0
  exact ⟨g, cur, rfl, hS, hb.keeps hg (hST g hS), ht⟩

theorem Row.keepB {w w' : World} {e : TypeId} {size : Nat} {S : Nat → Prop} {v : Value} {n : Nat} {cs : List Value} (h : Row w e size S v n cs) (hb : Below w.heap.size w w') : Row w' e size S v n cs :=
  h.keep (T := fun _ => False) (Upd.ofBelow hb) (fun _ _ h => h)

theorem Row.mono {w : World} {e : TypeId} {size : Nat} {S T : Nat → Prop} {v : Value} {n : Nat} {cs : List Value} (h : Row w e size S v n cs) (hST : ∀ k, k < w.heap.size → S k → T k) : Row w e size T v n cs := by
  obtain ⟨ao, cap, rfl, hn, hl, h⟩ := h
  refine ⟨ao, cap, rfl, hn, hl, fun h0 => ?_⟩
  obtain ⟨g, cur, rfl, hS, hg, ht⟩ := h h0
  exact ⟨g, cur, rfl, hST g (heap_lt hg) hS, hg, ht⟩

end Go.Proofs.Yteddhdbglciahaa

/- What the laws' own helpers do (marks, comparisons of slices): contracts; no statement of the seat is proved here. -/
namespace Go.Proofs.Yteddhdbglciahaa
open Go.RowKit

theorem row_set {w : World} {e : TypeId} {g j : Nat} {cur : Array Value} (u : Value) (hg : w.heap[g]? = some (.cells cur e (0, 0))) :
    (w.setCell ⟨g, j, none⟩ u).heap[g]? = some (.cells (cur.setIfInBounds j u) e (0, 0)) := heap_setCell_same w g j cur e u hg

/-- The cells of writes. -/
def wcell (x : Int × ByteArray) : List Value := [.int .i64 x.1, .string x.2]
def wcells (xs : List (Int × ByteArray)) : List Value := xs.flatMap wcell
end Go.Proofs.Yteddhdbglciahaa

/- What the laws' own helpers do with disks: contracts; no statement of the seat is proved here. -/
namespace Go.Proofs.Yteddhdbglciahaa
open Go.RowKit

/-- A disk as it reads. -/
def DiskR (w : World) (v : Value) (kept : List ByteArray) (wait : List (Int × ByteArray)) : Prop :=
  ∃ vk vw, v = .agg #[vk, vw] ∧ RowR w 1 vk kept.length (kept.map Value.string) ∧ RowR w 2 vw wait.length (wcells wait)

theorem DiskR.keep {w w' : World} {v : Value} {kept : List ByteArray} {wait : List (Int × ByteArray)} (h : DiskR w v kept wait) (hb : Below w.heap.size w w') : DiskR w' v kept wait := by
  obtain ⟨vk, vw, rfl, h1, h2⟩ := h
  exact ⟨vk, vw, rfl, h1.keep hb, h2.keep hb⟩

/-- The blocks of S that are rows of a type. -/
def typed (w : World) (S : Nat → Prop) (e : TypeId) : Nat → Prop := fun k => S k ∧ ∃ cur, w.heap[k]? = some (.cells cur e (0, 0))

theorem typed_apart {w : World} {S T : Nat → Prop} {e f : TypeId} (h : e ≠ f) (k : Nat) (h1 : typed w S e k) : ¬ typed w T f k := by
  obtain ⟨_, c, hc⟩ := h1
  rintro ⟨_, c', hc'⟩
  rw [hc] at hc'
  simp at hc'
  exact h hc'.2

theorem Row.typed {w : World} {e : TypeId} {size : Nat} {S : Nat → Prop} {v : Value} {n : Nat} {cs : List Value} (h : Row w e size S v n cs) : Row w e size (typed w S e) v n cs := by
  obtain ⟨ao, cap, rfl, hn, hl, h⟩ := h
  refine ⟨ao, cap, rfl, hn, hl, fun h0 => ?_⟩
  obtain ⟨g, cur, rfl, hS, hg, ht⟩ := h h0
  exact ⟨g, cur, rfl, ⟨hS, cur, hg⟩, hg, ht⟩

end Go.Proofs.Yteddhdbglciahaa

/- What SecNew does, in the specification and in the program: contracts; no statement of the seat is proved here. -/
namespace Go.Proofs.Yteddhdbglciahaa
open Go.RowKit

/-- The row that make lays, as a row. -/
theorem Row.ofOwns {w : World} {base : Nat} {e : TypeId} {size : Nat} {v : Value} {n : Nat} {xs : List Value} (h : w.ownsRow base e size v n xs) (hn : n ≤ 9223372036854775807) : Row w e size (fun k => base ≤ k) v n xs := by
  obtain ⟨hl, h⟩ := h
  rcases h with ⟨rfl, rfl⟩ | ⟨g, cap, cur, rfl, hb, hg, _, _, _, ht⟩
  · exact ⟨none, 0, rfl, hn, hl, fun h => by omega⟩
  · exact ⟨_, cap, rfl, hn, hl, fun _ => ⟨g, cur, rfl, hb, hg, ht⟩⟩

end Go.Proofs.Yteddhdbglciahaa

/- What the laws' own helpers do with a disk that came in: a copy of it; contracts; no statement of the seat is proved here. -/
namespace Go.Proofs.Yteddhdbglciahaa
open Go.RowKit

theorem getAt {α : Type} (ss : List α) (k : Nat) (h : k < ss.length) : ∃ s, ss[k]? = some s := ⟨ss[k], by simp [h]⟩

end Go.Proofs.Yteddhdbglciahaa

/- append of a slice in memory onto a row of the call's own, whatever the slice's address: a law off the library's; no statement of the seat is proved here. -/
namespace Go.Proofs.Yteddhdbglciahaa
open Go.RowKit

/-- A row of one-cell elements that has an element: where it lies. -/
theorem Row.at {w : World} {e : TypeId} {S : Nat → Prop} {v : Value} {n : Nat} {cs : List Value} (h : Row w e 1 S v n cs) (i : Nat) (hi : i < n) :
    ∃ g cap u, v = .slice (some ⟨g, 0, none⟩) n cap ∧ S g ∧ g < w.heap.size ∧ w.cell? ⟨g, i, none⟩ = some u ∧ cs[i]? = some u ∧ w.frozen? ⟨g, i, none⟩ = false ∧
      ∀ x, Row (w.setCell ⟨g, i, none⟩ x) e 1 S v n (cs.set i x) := by
  obtain ⟨ao, cap, rfl, hn, hl, h⟩ := h
  obtain ⟨g, cur, rfl, hS, hg, ht⟩ := h (by omega)
  have hcs : n ≤ cur.size := by
    have := congrArg List.length ht
    rw [hl] at this
    simp at this
    omega
  obtain ⟨u, hu⟩ : ∃ u, cur[i]? = some u := ⟨cur[i]'(by omega), by simp [show i < cur.size by omega]⟩
  refine ⟨g, cap, u, rfl, hS, heap_lt hg, (cell_of_row w g i cur e (0, 0) hg).trans hu, ?_, frozen_of_row w g i cur e hg, fun x => ?_⟩
  · rw [← ht, List.getElem?_take_of_lt (by omega)]
    simpa using hu
  · refine ⟨_, cap, rfl, hn, by simpa using hl, fun _ => ⟨g, _, rfl, hS, heap_setCell_same w g i cur e x hg, ?_⟩⟩
    rw [Array.toList_setIfInBounds, ← ht, List.take_set]

theorem Row.shape {w : World} {e : TypeId} {size : Nat} {S : Nat → Prop} {v : Value} {n : Nat} {cs : List Value} (h : Row w e size S v n cs) : ∃ ao cap, v = .slice ao n cap := by
  obtain ⟨ao, cap, h, -⟩ := h
  exact ⟨ao, cap, h⟩

end Go.Proofs.Yteddhdbglciahaa

/- What SecFlush of the program does: contracts; no statement of the seat is proved here. -/
namespace Go.Proofs.Yteddhdbglciahaa
open Go.RowKit Go.Shelf

attribute [local go_sem] Oper.semAt_some

theorem Upd.drew {S : Nat → Prop} {w w' : World} (h : Upd S w w') : Upd S w w'.drew := ⟨h.os, h.tape, h.output, h.size, h.block⟩

end Go.Proofs.Yteddhdbglciahaa

/- Rows that may be appended to; copies of a disk whose writes are such a row: contracts; no statement of the seat is proved here. -/
namespace Go.Proofs.Yteddhdbglciahaa
open Go.RowKit

/-- A slice that append may be given: a row of one's own, or one with no room at all. -/
def RowA (w : World) (base : Nat) (e : TypeId) (size : Nat) (v : Value) (n : Nat) (cs : List Value) : Prop :=
  w.ownsRow base e size v n cs ∨ (n = 0 ∧ cs = [] ∧ ∃ ao, v = .slice ao 0 0)

theorem RowA.row {w : World} {base : Nat} {e : TypeId} {size : Nat} {v : Value} {n : Nat} {cs : List Value} (h : RowA w base e size v n cs) (hn : n ≤ 9223372036854775807) : Row w e size (fun k => base ≤ k) v n cs := by
  rcases h with h | ⟨rfl, rfl, ao, rfl⟩
  · exact Row.ofOwns h hn
  · exact ⟨ao, 0, rfl, hn, by simp, fun h => by omega⟩

theorem RowA.keep {w w' : World} {base : Nat} {e : TypeId} {size : Nat} {T : Nat → Prop} {v : Value} {n : Nat} {cs : List Value} (h : RowA w base e size v n cs) (hb : Upd T w w') (hT : ∀ k, base ≤ k → ¬ T k) : RowA w' base e size v n cs := by
  rcases h with ⟨hl, h⟩ | h
  · refine .inl ⟨hl, ?_⟩
    rcases h with h | ⟨g, cap, cur, rfl, hg, hh, h1, h2, h3, h4⟩
    · exact .inl h
    · exact .inr ⟨g, cap, cur, rfl, hg, hb.keeps hh (hT g hg), h1, h2, h3, h4⟩
  · exact .inr h

theorem RowA.keepB {w w' : World} {base : Nat} {e : TypeId} {size : Nat} {v : Value} {n : Nat} {cs : List Value} (h : RowA w base e size v n cs) (hb : Below w.heap.size w w') : RowA w' base e size v n cs :=
  h.keep (T := fun _ => False) (Upd.ofBelow hb) (fun _ _ h => h)

theorem RowA.mono {w : World} {base base' : Nat} {e : TypeId} {size : Nat} {v : Value} {n : Nat} {cs : List Value} (h : RowA w base e size v n cs) (hb : base' ≤ base) : RowA w base' e size v n cs := by
  rcases h with ⟨hl, h⟩ | h
  · refine .inl ⟨hl, ?_⟩
    rcases h with h | ⟨g, cap, cur, h0, hg, h'⟩
    · exact .inl h
    · exact .inr ⟨g, cap, cur, h0, by omega, h'⟩
  · exact .inr h

theorem RowA.shape {w : World} {base : Nat} {e : TypeId} {size : Nat} {v : Value} {n : Nat} {cs : List Value} (h : RowA w base e size v n cs) : ∃ ao cap, v = .slice ao n cap := by
  rcases h with ⟨_, ⟨rfl, rfl⟩ | ⟨g, cap, cur, rfl, _⟩⟩ | ⟨rfl, _, ao, rfl⟩ <;> exact ⟨_, _, rfl⟩

theorem run_appendA {P : Program} {w : World} (base : Nat) (t ty e : TypeId) (i : TypeInfo) (z : Value) (size bytes : Nat) (ht : P.underlying t = some (.slice e)) (hi : P.info? e = some i) (hz : i.zero = some z)
    (hsize : i.size = size) (hby : i.bytes = bytes) (hzs : z.cells.size = size) (hsz : 0 < size)
    (v : Value) (n : Nat) (xs : List Value) (hown : RowA w base e size v n xs)
    (a : Addr) (m c : Nat) (news : List Value) (hl : news.length = m * size) (hnews : ∀ j u, news[j]? = some u → w.cell? (a.add j) = some u) (h1 : ∀ u ∈ news, u.oneCell' = true)
    (hm : 0 < m) (h63 : n + m ≤ maxLen) (hbytes : (n + m) * bytes ≤ 140737488355328) (hbase : base ≤ w.heap.size) :
    ∃ v' w', (Builtin.append_ #[t, t] ty #[v, .slice (some a) m c]).run P w = .ok v' w' ∧ w'.ownsRow base e size v' (n + m) (xs ++ news) ∧ Upd (typed w (fun k => base ≤ k) e) w w' := by
  rcases hown with hown | ⟨rfl, rfl, ao, rfl⟩
  · obtain ⟨v', w', hrun, r1, r2, _⟩ := run_append_own (P := P) w base t ty e i z size bytes ht hi hz hsize hby hzs hsz v n xs hown a m c news hl hnews h1 h63 hbytes hbase
    refine ⟨v', w', hrun, r1, r2.os, r2.tape, r2.output, r2.size, fun k hk hT => r2.block k hk (fun e => hT ?_)⟩
    rcases hown.2 with ⟨rfl, _⟩ | ⟨g, cap, cur, rfl, hg, hh, _⟩
    · simp [Value.ownBlock] at e
    · simp only [Value.ownBlock, Option.some.injEq] at e
      subst e
      exact ⟨hg, cur, hh⟩
  · cases ao with
    | none =>
      obtain ⟨v', w', hrun, r1, r2, _⟩ := run_append_own (P := P) w base t ty e i z size bytes ht hi hz hsize hby hzs hsz _ 0 [] (World.ownsRow_nil w base e size) a m c news hl hnews h1 h63 hbytes hbase
      exact ⟨v', w', hrun, r1, r2.os, r2.tape, r2.output, r2.size, fun k hk hT => r2.block k hk (fun e => by simp [Value.ownBlock] at e)⟩
    | some b =>
      obtain ⟨v', w', hrun, r1, r2⟩ := run_append_arg_grows (P := P) w t ty e i z size bytes ht hi hz hsize hby hzs hsz b 0 0 [] (by simp) (fun j u h => by simp at h) a m c news hl hnews (by omega) h63 hbytes
      refine ⟨v', w', hrun, ?_, r2.os, r2.tape, r2.output, r2.size, fun k hk hT => r2.block k hk (fun e => by cases e)⟩
      obtain ⟨q1, q2⟩ := r1
      refine ⟨q1, ?_⟩
      rcases q2 with h | ⟨g, cap, cur, h0, hg, h'⟩
      · exact .inl h
      · exact .inr ⟨g, cap, cur, h0, by omega, h'⟩

theorem wpList_appendA {P : Program} (w : World) {ops : Array Oper} {rest : List Oper} {o : Oper} {a : Act} {Q : Exit → Act → World → Prop} (hgd : o.guard = none) (s x : Operand) (t : TypeId)
    (ho : o.op = .call { callee := .builtin .append, args := #[s, x], argTypes := #[t, t] })
    (base : Nat) (e : TypeId) (i : TypeInfo) (z : Value) (size bytes : Nat) (ht : P.underlying t = some (.slice e)) (hi : P.info? e = some i) (hz : i.zero = some z)
    (hsize : i.size = size) (hby : i.bytes = bytes) (hzs : z.cells.size = size) (hsz : 0 < size)
    (v : Value) (n : Nat) (xs : List Value) (hs : a.eval s = v) (hown : RowA w base e size v n xs)
    (ad : Addr) (m c : Nat) (news : List Value) (hx : a.eval x = .slice (some ad) m c) (hl : news.length = m * size) (hnews : ∀ j u, news[j]? = some u → w.cell? (ad.add j) = some u) (h1 : ∀ u ∈ news, u.oneCell' = true)
    (hm : 0 < m) (h63 : n + m ≤ maxLen) (hbytes : (n + m) * bytes ≤ 140737488355328) (hbase : base ≤ w.heap.size)
    (h : ∀ v' w', w'.ownsRow base e size v' (n + m) (xs ++ news) → Upd (typed w (fun k => base ≤ k) e) w w' → wpList P ops Q rest (a.put o.dst v') w') : wpList P ops Q (o :: rest) a w := by
  obtain ⟨v', w', hrun, r1, r2⟩ := run_appendA (P := P) (w := w) base t o.type e i z size bytes ht hi hz hsize hby hzs hsz v n xs hown ad m c news hl hnews h1 hm h63 hbytes hbase
  refine wpList_plain hgd fun K hK => ?_
  unfold Oper.wp
  simp [execOp, ho, resolve, invoke, builtin, hs, hx, hrun, Result.andThen]
  exact hK _ _ (h v' w' r1 r2)

end Go.Proofs.Yteddhdbglciahaa

/- Lists of elements of several cells in memory; what the laws' own helpers do with pieces: contracts; no statement of the seat is proved here. -/
namespace Go.Proofs.Yteddhdbglciahaa
open Go.RowKit

section
variable {α : Type} {f : α → List Value} {c : Nat}

theorem fm_len (hf : ∀ x, (f x).length = c) (xs : List α) : (xs.flatMap f).length = xs.length * c := by
  induction xs with
  | nil => simp
  | cons x xs ih => rw [List.flatMap_cons, List.length_append, hf, ih, List.length_cons, Nat.add_mul, Nat.one_mul, Nat.add_comm]

theorem fm_at (hf : ∀ x, (f x).length = c) : ∀ (xs : List α) (i : Nat) (x : α) (j : Nat), xs[i]? = some x → j < c → (xs.flatMap f)[i * c + j]? = (f x)[j]?
  | [], i, x, j, h, _ => by simp at h
  | y :: ys, 0, x, j, h, hj => by
    simp at h
    subst h
    rw [List.flatMap_cons, Nat.zero_mul, Nat.zero_add, List.getElem?_append_left (by rw [hf]; exact hj)]
  | y :: ys, i + 1, x, j, h, hj => by
    have e : (i + 1) * c + j = c + (i * c + j) := by rw [Nat.add_mul]; omega
    rw [List.flatMap_cons, e, List.getElem?_append_right (by rw [hf]; omega), hf, Nat.add_sub_cancel_left]
    exact fm_at hf ys i x j (by simpa using h) hj

theorem fm_ext (hf : ∀ x, (f x).length = c) (hc : 0 < c) (xs : List α) (cs : List Value) (hl : cs.length = xs.length * c) (h : ∀ i x j, xs[i]? = some x → j < c → cs[i * c + j]? = (f x)[j]?) : cs = xs.flatMap f := by
  apply List.ext_getElem?
  intro k
  by_cases hk : k < xs.length * c
  · have hi : k / c < xs.length := (Nat.div_lt_iff_lt_mul hc).2 hk
    obtain ⟨x, hx⟩ := getAt xs (k / c) hi
    have h1 := h (k / c) x (k % c) hx (Nat.mod_lt _ hc)
    have h2 := fm_at hf xs (k / c) x (k % c) hx (Nat.mod_lt _ hc)
    have e : k / c * c + k % c = k := by rw [Nat.mul_comm]; exact Nat.div_add_mod k c
    rw [e] at h1 h2
    rw [h1, h2]
  · rw [List.getElem?_eq_none (by omega), List.getElem?_eq_none (by rw [fm_len hf]; omega)]

/-- The cells of an element, in a later world. -/
theorem el_cell (hf : ∀ x, (f x).length = c) {w wr : World} {b o k : Nat} {xs : List α} {x : α} (hc : ∀ j u, (xs.flatMap f)[j]? = some u → w.cell? ⟨b, o + j, none⟩ = some u) (h : xs[k]? = some x) (hb : Below w.heap.size w wr)
    (j : Nat) (u : Value) (hj : (f x)[j]? = some u) : wr.cell? ⟨b, o + k * c + j, none⟩ = some u ∧ b < w.heap.size := by
  have hjc : j < c := by have := (List.getElem?_eq_some_iff.1 hj).1; rwa [hf] at this
  have g := hc (k * c + j) u (by rw [fm_at hf xs k x j h hjc]; exact hj)
  rw [← Nat.add_assoc] at g
  have l : b < w.heap.size := World.block_lt_of_cell? w _ g
  exact ⟨(hb.cell (p := ⟨b, o + k * c + j, none⟩) l).trans g, l⟩
end

/-- A piece: disk, block, epoch, data. -/
abbrev Pc := Int × Int × Int × Int
def pcell (x : Pc) : List Value := [.int .i64 x.1, .int .i64 x.2.1, .int .i64 x.2.2.1, .int .i64 x.2.2.2]
def pcells (xs : List Pc) : List Value := xs.flatMap pcell
theorem pcell_len (x : Pc) : (pcell x).length = 4 := rfl
theorem pcells_len (xs : List Pc) : (pcells xs).length = xs.length * 4 := fm_len pcell_len xs
theorem pc_cells {w wr : World} {b o k : Nat} {xs : List Pc} {x : Pc} (hc : ∀ j u, (pcells xs)[j]? = some u → w.cell? ⟨b, o + j, none⟩ = some u) (h : xs[k]? = some x) (hb : Below w.heap.size w wr) :
    wr.cell? ⟨b, o + k * 4, none⟩ = some (.int .i64 x.1) ∧ wr.cell? ⟨b, o + k * 4 + 1, none⟩ = some (.int .i64 x.2.1) ∧ wr.cell? ⟨b, o + k * 4 + 2, none⟩ = some (.int .i64 x.2.2.1) ∧ wr.cell? ⟨b, o + k * 4 + 3, none⟩ = some (.int .i64 x.2.2.2) ∧ b < w.heap.size := by
  have g := fun j u => el_cell pcell_len hc h hb j u
  exact ⟨(g 0 _ rfl).1, (g 1 _ rfl).1, (g 2 _ rfl).1, (g 3 _ rfl).1, (g 0 _ rfl).2⟩

/-- Four cells of a row, written one behind the other. -/
theorem set4 {cur : Array Value} {j k : Nat} (x y z t : Value) (hk : k * 4 + 3 < cur.size) :
    let c := (((cur.setIfInBounds (k * 4) x).setIfInBounds (k * 4 + 1) y).setIfInBounds (k * 4 + 2) z).setIfInBounds (k * 4 + 3) t
    (j = k → c[j * 4]? = some x ∧ c[j * 4 + 1]? = some y ∧ c[j * 4 + 2]? = some z ∧ c[j * 4 + 3]? = some t) ∧ (j ≠ k → c[j * 4]? = cur[j * 4]? ∧ c[j * 4 + 1]? = cur[j * 4 + 1]? ∧ c[j * 4 + 2]? = cur[j * 4 + 2]? ∧ c[j * 4 + 3]? = cur[j * 4 + 3]?) := by
  refine ⟨?_, fun h => ?_⟩
  · rintro rfl
    refine ⟨?_, ?_, ?_, ?_⟩
    · rw [Array.getElem?_setIfInBounds_ne (by omega), Array.getElem?_setIfInBounds_ne (by omega), Array.getElem?_setIfInBounds_ne (by omega), Array.getElem?_setIfInBounds_self_of_lt (by omega)]
    · rw [Array.getElem?_setIfInBounds_ne (by omega), Array.getElem?_setIfInBounds_ne (by omega), Array.getElem?_setIfInBounds_self_of_lt (by simp; omega)]
    · rw [Array.getElem?_setIfInBounds_ne (by omega), Array.getElem?_setIfInBounds_self_of_lt (by simp; omega)]
    · rw [Array.getElem?_setIfInBounds_self_of_lt (by simp; omega)]
  · refine ⟨?_, ?_, ?_, ?_⟩ <;> rw [Array.getElem?_setIfInBounds_ne (by omega), Array.getElem?_setIfInBounds_ne (by omega), Array.getElem?_setIfInBounds_ne (by omega), Array.getElem?_setIfInBounds_ne (by omega)]

/-- A list of cells that holds pieces at every place is theirs. -/
theorem pcells_ext (xs : List Pc) (cs : List Value) (hl : cs.length = xs.length * 4) (h : ∀ j x, xs[j]? = some x → cs[j * 4]? = some (.int .i64 x.1) ∧ cs[j * 4 + 1]? = some (.int .i64 x.2.1) ∧ cs[j * 4 + 2]? = some (.int .i64 x.2.2.1) ∧ cs[j * 4 + 3]? = some (.int .i64 x.2.2.2)) : cs = pcells xs := by
  refine fm_ext pcell_len (by omega) xs cs hl (fun i x j hx hj => ?_)
  obtain ⟨h0, h1, h2, h3⟩ := h i x hx
  rcases (by omega : j = 0 ∨ j = 1 ∨ j = 2 ∨ j = 3) with rfl | rfl | rfl | rfl
  · exact h0
  · exact h1
  · exact h2
  · exact h3

set_option maxHeartbeats 400000 in
theorem eqBlkPiece_true (x : Pc) (w : World) :
    Calls Try.prog 114 #[.agg #[.int .i64 x.1, .int .i64 x.2.1, .int .i64 x.2.2.1, .int .i64 x.2.2.2], .agg #[.int .i64 x.1, .int .i64 x.2.1, .int .i64 x.2.2.1, .int .i64 x.2.2.2]] w fun e w' => e = .returned (.bool true) ∧ Below w.heap.size w w' := by
  obtain ⟨d, b, p, t⟩ := x
  go_enter Try.func114, Try.ntmps114
  go_wp2
  go_ret
  exact ⟨rfl, ((Below.refl _ _).alloc (Nat.le_refl _) _).alloc (by simp) _⟩

set_option maxHeartbeats 400000 in
theorem eqBlkPieceS_true (va vb : Value) (n : Nat) (xs : List Pc) (w : World) (ha : RowR w 4 va n (pcells xs)) (hb : RowR w 4 vb n (pcells xs)) :
    Calls Try.prog 57 #[va, vb] w fun e w' => e = .returned (.bool true) ∧ Below w.heap.size w w' := by
  obtain ⟨ao, ca, rfl, hn, hl, ha⟩ := ha
  obtain ⟨bo, cb, rfl, _, _, hb⟩ := hb
  rw [pcells_len] at hl
  go_enter Try.func57, Try.ntmps57
  go_wp2
  go_loopw [5] (fun i wr => ∃ k : Nat, k ≤ n ∧ i = .int .i64 k ∧ Below w.heap.size w wr) (fun i _ => n - (intOf i).toNat)
  case atStart => exact ⟨0, Nat.zero_le _, rfl, Below.refl _ _⟩
  case round =>
    obtain ⟨k, hk, rfl, hbel⟩ := hrel
    by_cases hlt : k < n
    · obtain ⟨b1, o1, rfl, hc1⟩ := ha (by omega)
      obtain ⟨b2, o2, rfl, hc2⟩ := hb (by omega)
      obtain ⟨x, hx⟩ := getAt xs k (by omega)
      obtain ⟨f0, f1, f2, f3, l1⟩ := pc_cells hc1 hx hbel
      obtain ⟨g0, g1, g2, g3, l2⟩ := pc_cells hc2 hx hbel
      obtain ⟨d, b, p, t⟩ := x
      have hi : (k : Int) < (n : Int) := by omega
      clear ha hb hc1 hc2 hx hl
      go_wp2
      go_region_with (go_at_call 114; refine (eqBlkPiece_true (d, b, p, t) _).mono ?_; rintro e w1 ⟨rfl, hbm⟩; have hbm' : Below wr.heap.size wr w1 := bUndrew hbm)
      all_goals
        go_wp2
        go_roundw
        case rel => exact ⟨k + 1, by omega, by go_num, bAllTo hbel hbm'⟩
        case measure => simp [intOf]; omega
    · go_wp2
      go_ret
      exact ⟨rfl, hbel⟩

/-- The marks of n pieces from k on. -/
def mkP (k n : Nat) : List Pc := (List.range n).map fun i => ((k + i * 4 : Nat), (k + i * 4 + 1 : Nat), (k + i * 4 + 2 : Nat), (k + i * 4 + 3 : Nat))
theorem mkP_len (k n : Nat) : (mkP k n).length = n := by simp [mkP]
theorem mkP_get (k n i : Nat) (h : i < n) : (mkP k n)[i]? = some (((k + i * 4 : Nat) : Int), ((k + i * 4 + 1 : Nat) : Int), ((k + i * 4 + 2 : Nat) : Int), ((k + i * 4 + 3 : Nat) : Int)) := by simp [mkP, h]

set_option maxHeartbeats 2000000 in
theorem markBlkPieceS_any (S : Nat → Prop) (v : Value) (n : Nat) (cs : List Value) (k0 : Nat) (w : World) (hr : Row w 152 4 S v n cs) (h1 : 1 ≤ k0) (h2 : k0 + n * 4 ≤ 1099511627776) :
    Calls Try.prog 60 #[v, .int .i64 k0] w fun e w' => e = .returned (.int .i64 (k0 + n * 4 : Nat)) ∧ Row w' 152 4 S v n (pcells (mkP k0 n)) ∧ Upd S w w' := by
  obtain ⟨ao, cap, rfl, hn, hl, hr⟩ := hr
  rcases Nat.eq_zero_or_pos n with rfl | hpos
  · go_enter Try.func60, Try.ntmps60
    go_wp2
    refine wp_loop_rounds 1 ?_
    rw [rounds_succ]
    go_wp2
    go_ret
    exact ⟨rfl, ⟨ao, cap, rfl, hn, by simp [mkP, pcells], fun h => by omega⟩, Upd.refl _ _⟩
  · obtain ⟨g, cur, rfl, hS, hg, ht⟩ := hr hpos
    have hcs : n * 4 ≤ cur.size := by
      have := congrArg List.length ht
      simp [hl] at this
      omega
    clear hr ht hl
    go_enter Try.func60, Try.ntmps60
    go_wp2
    go_loopw [1, 5] (fun kv i wr => ∃ (k m : Nat) (cur' : Array Value), k ≤ n ∧ m = k0 + k * 4 ∧ i = .int .i64 k ∧ kv = .int .i64 (m : Nat) ∧ wr.heap[g]? = some (.cells cur' 152 (0, 0)) ∧ cur'.size = cur.size ∧ (∀ j, j < k → cur'[j * 4]? = some (.int .i64 (k0 + j * 4 : Nat)) ∧ cur'[j * 4 + 1]? = some (.int .i64 (k0 + j * 4 + 1 : Nat)) ∧ cur'[j * 4 + 2]? = some (.int .i64 (k0 + j * 4 + 2 : Nat)) ∧ cur'[j * 4 + 3]? = some (.int .i64 (k0 + j * 4 + 3 : Nat))) ∧ Upd S w wr) (fun _ i _ => n - (intOf i).toNat)
    case atStart => exact ⟨0, k0, cur, Nat.zero_le _, rfl, rfl, rfl, hg, rfl, fun j hj => by omega, Upd.refl _ _⟩
    case round =>
      obtain ⟨k, m, cur', hk, hm, rfl, rfl, hgr, hsz, hmk, hup⟩ := hrel
      have Hm := hide hm
      have hm2 : (m : Int) ≤ 1099511627776 := by omega
      clear hm
      have HM := hide hmk
      have HZ := hide hsz
      have hsz' : n * 4 ≤ cur'.size := by omega
      clear hmk hsz
      by_cases hlt : k < n
      · have hi : (k : Int) < (n : Int) := by omega
        have hk3 : k * 4 + 3 < cur'.size := by omega
        obtain ⟨u, hu⟩ : ∃ u, cur'[k * 4]? = some u := ⟨cur'[k * 4]'(by omega), by simp [show k * 4 < cur'.size by omega]⟩
        obtain ⟨u2, hu2⟩ : ∃ u, cur'[k * 4 + 1]? = some u := ⟨cur'[k * 4 + 1]'(by omega), by simp [show k * 4 + 1 < cur'.size by omega]⟩
        obtain ⟨u3, hu3⟩ : ∃ u, cur'[k * 4 + 2]? = some u := ⟨cur'[k * 4 + 2]'(by omega), by simp [show k * 4 + 2 < cur'.size by omega]⟩
        obtain ⟨u4, hu4⟩ : ∃ u, cur'[k * 4 + 3]? = some u := ⟨cur'[k * 4 + 3]'(by omega), by simp [show k * 4 + 3 < cur'.size by omega]⟩
        have hcw : wr.cell? ⟨g, k * 4, none⟩ = some u := (cell_of_row wr _ _ cur' _ (0, 0) hgr).trans hu
        have hcw2 : wr.cell? ⟨g, k * 4 + 1, none⟩ = some u2 := (cell_of_row wr _ _ cur' _ (0, 0) hgr).trans hu2
        have hcw3 : wr.cell? ⟨g, k * 4 + 2, none⟩ = some u3 := (cell_of_row wr _ _ cur' _ (0, 0) hgr).trans hu3
        have hcw4 : wr.cell? ⟨g, k * 4 + 3, none⟩ = some u4 := (cell_of_row wr _ _ cur' _ (0, 0) hgr).trans hu4
        have hfw : wr.frozen? ⟨g, k * 4, none⟩ = false := frozen_of_row wr _ _ cur' _ hgr
        have hfw2 : wr.frozen? ⟨g, k * 4 + 1, none⟩ = false := frozen_of_row wr _ _ cur' _ hgr
        have hfw3 : wr.frozen? ⟨g, k * 4 + 2, none⟩ = false := frozen_of_row wr _ _ cur' _ hgr
        have hfw4 : wr.frozen? ⟨g, k * 4 + 3, none⟩ = false := frozen_of_row wr _ _ cur' _ hgr
        have Hg := hide hgr
        clear hgr hu hu2 hu3 hu4
        go_wp2
        go_roundw
        case rel =>
          refine ⟨k + 1, m + 4, _, by omega, by rw [Hm.out]; omega, by go_num, by go_num, row_set _ (row_set _ (row_set _ (row_set _ Hg.out))), by simpa using HZ.out, fun j hj => ?_, (((hup.trans (Upd.setCell _ _ _ _ hS)).trans (Upd.setCell _ _ _ _ hS)).trans (Upd.setCell _ _ _ _ hS)).trans (Upd.setCell _ _ _ _ hS)⟩
          have h3 := set4 (cur := cur') (j := j) (k := k) (.int .i64 m) (.int .i64 (m + 1)) (.int .i64 (m + 1 + 1)) (.int .i64 (m + 1 + 1 + 1)) hk3
          by_cases hjk : j = k
          · have h4 := h3.1 hjk
            subst hjk
            have := Hm.out
            subst this
            refine ⟨h4.1.trans ?_, h4.2.1.trans ?_, h4.2.2.1.trans ?_, h4.2.2.2.trans ?_⟩ <;> (congr 2 <;> omega)
          · have h4 := h3.2 hjk
            have h5 := HM.out j (by omega)
            exact ⟨h4.1.trans h5.1, h4.2.1.trans h5.2.1, h4.2.2.1.trans h5.2.2.1, h4.2.2.2.trans h5.2.2.2⟩
        case measure => simp [intOf]; omega
      · go_wp2
        go_ret
        obtain rfl : k = n := by omega
        refine ⟨by rw [Hm.out]; rfl, ⟨_, cap, rfl, hn, by rw [pcells_len, mkP_len], fun _ => ⟨g, cur', rfl, hS, hgr, ?_⟩⟩, hup⟩
        have hz := HZ.out
        refine pcells_ext _ _ (by rw [mkP_len]; simp; omega) (fun j x hx => ?_)
        have hj := (List.getElem?_eq_some_iff.1 hx).1
        rw [mkP_len] at hj
        rw [mkP_get _ _ _ hj] at hx
        obtain rfl := Option.some.inj hx
        rw [List.getElem?_take_of_lt (by omega), List.getElem?_take_of_lt (by omega), List.getElem?_take_of_lt (by omega), List.getElem?_take_of_lt (by omega)]
        simpa using HM.out j hj

set_option maxHeartbeats 2000000 in
theorem heldBlkPieceS_ok (v : Value) (n k0 : Nat) (w : World) (hr : RowR w 4 v n (pcells (mkP k0 n))) (h1 : 1 ≤ k0) (h2 : k0 + n * 4 ≤ 1099511627776) :
    Calls Try.prog 63 #[v, .int .i64 k0] w fun e w' => e = .returned (.int .i64 (k0 + n * 4 : Nat)) ∧ Below w.heap.size w w' := by
  obtain ⟨ao, cap, rfl, hn, hl, hr⟩ := hr
  clear hl
  go_enter Try.func63, Try.ntmps63
  go_wp2
  go_loopw [1, 5] (fun kv i wr => ∃ k m : Nat, k ≤ n ∧ m = k0 + k * 4 ∧ i = .int .i64 k ∧ kv = .int .i64 (m : Nat) ∧ Below w.heap.size w wr) (fun _ i _ => n - (intOf i).toNat)
  case atStart => exact ⟨0, k0, Nat.zero_le _, rfl, rfl, rfl, Below.refl _ _⟩
  case round =>
    obtain ⟨k, m, hk, hm, rfl, rfl, hbel⟩ := hrel
    have Hm : Hid (m = k0 + k * 4) := hm
    have hm2 : (m : Int) ≤ 1099511627776 := by omega
    clear hm
    by_cases hlt : k < n
    · obtain ⟨b1, o1, rfl, hc1⟩ := hr (by omega)
      obtain ⟨f0, f1, f2, f3, l1⟩ := pc_cells hc1 (mkP_get k0 n k hlt) hbel
      rw [← Hm.out] at f0 f1 f2 f3
      simp only [Int.natCast_add, Int.natCast_one] at f1 f2 f3
      have hi : (k : Int) < (n : Int) := by omega
      have e2 : ((m : Int) + ((2 : Nat) : Int)) = (m : Int) + 1 + 1 := by omega
      have e3 : ((m : Int) + ((3 : Nat) : Int)) = (m : Int) + 1 + 1 + 1 := by omega
      rw [e2] at f2
      rw [e3] at f3
      clear hr hc1 e2 e3
      go_wp2
      go_roundw
      case rel => exact ⟨k + 1, m + 4, by omega, by rw [Hm.out]; omega, by go_num, by go_num, hbel⟩
      case measure => simp [intOf]; omega
    · go_wp2
      go_ret
      obtain rfl : k = n := by omega
      exact ⟨by rw [Hm.out]; rfl, hbel⟩

end Go.Proofs.Yteddhdbglciahaa

/- What the laws' own helpers do with slices of BlkLast: contracts; no statement of the seat is proved here. -/
namespace Go.Proofs.Yteddhdbglciahaa
open Go.RowKit

abbrev Lc := Int × Int
def lcell (x : Lc) : List Value := [.int .i64 x.1, .int .i64 x.2]
def lcells (xs : List Lc) : List Value := xs.flatMap lcell
theorem lcell_len (x : Lc) : (lcell x).length = 2 := rfl
theorem lcells_len (xs : List Lc) : (lcells xs).length = xs.length * 2 := fm_len lcell_len xs
theorem lc_cells {w wr : World} {b o k : Nat} {xs : List Lc} {x : Lc} (hc : ∀ j u, (lcells xs)[j]? = some u → w.cell? ⟨b, o + j, none⟩ = some u) (h : xs[k]? = some x) (hb : Below w.heap.size w wr) :
    wr.cell? ⟨b, o + k * 2, none⟩ = some (.int .i64 x.1) ∧ wr.cell? ⟨b, o + k * 2 + 1, none⟩ = some (.int .i64 x.2) ∧ b < w.heap.size := by
  have g := fun j u => el_cell lcell_len hc h hb j u
  exact ⟨(g 0 _ rfl).1, (g 1 _ rfl).1, (g 0 _ rfl).2⟩

theorem lset {cur : Array Value} {j k : Nat} (a0 a1 : Value) (hk : k * 2 + 1 < cur.size) :
    let c := ((cur.setIfInBounds (k * 2) a0).setIfInBounds (k * 2 + 1) a1)
    (j = k → c[j * 2]? = some a0 ∧ c[j * 2 + 1]? = some a1) ∧ (j ≠ k → c[j * 2]? = cur[j * 2]? ∧ c[j * 2 + 1]? = cur[j * 2 + 1]?) := by
  refine ⟨?_, fun h => ?_⟩
  · rintro rfl
    refine ⟨?_, ?_⟩
    · rw [Array.getElem?_setIfInBounds_ne (by omega), Array.getElem?_setIfInBounds_self_of_lt (by omega)]
    · rw [Array.getElem?_setIfInBounds_self_of_lt (by simp; omega)]
  · refine ⟨?_, ?_⟩ <;> rw [Array.getElem?_setIfInBounds_ne (by omega), Array.getElem?_setIfInBounds_ne (by omega)]

theorem lcells_ext (xs : List Lc) (cs : List Value) (hl : cs.length = xs.length * 2) (h : ∀ j x, xs[j]? = some x → cs[j * 2]? = some (.int .i64 x.1) ∧ cs[j * 2 + 1]? = some (.int .i64 x.2)) : cs = lcells xs := by
  refine fm_ext lcell_len (by omega) xs cs hl (fun i x j hx hj => ?_)
  obtain ⟨h0, h1⟩ := h i x hx
  rcases (by omega : j = 0 ∨ j = 1) with rfl | rfl
  · exact h0
  · exact h1

set_option maxHeartbeats 400000 in
theorem eqBlkLast_true (x : Lc) (w : World) :
    Calls Try.prog 115 #[.agg #[.int .i64 x.1, .int .i64 x.2], .agg #[.int .i64 x.1, .int .i64 x.2]] w fun e w' => e = .returned (.bool true) ∧ Below w.heap.size w w' := by
  obtain ⟨a0, a1⟩ := x
  go_enter Try.func115, Try.ntmps115
  go_wp2
  go_ret
  exact ⟨rfl, ((Below.refl _ _).alloc (Nat.le_refl _) _).alloc (by simp) _⟩

set_option maxHeartbeats 400000 in
theorem eqBlkLastS_true (va vb : Value) (n : Nat) (xs : List Lc) (w : World) (ha : RowR w 2 va n (lcells xs)) (hb : RowR w 2 vb n (lcells xs)) :
    Calls Try.prog 58 #[va, vb] w fun e w' => e = .returned (.bool true) ∧ Below w.heap.size w w' := by
  obtain ⟨ao, ca, rfl, hn, hl, ha⟩ := ha
  obtain ⟨bo, cb, rfl, _, _, hb⟩ := hb
  rw [lcells_len] at hl
  go_enter Try.func58, Try.ntmps58
  go_wp2
  go_loopw [5] (fun i wr => ∃ k : Nat, k ≤ n ∧ i = .int .i64 k ∧ Below w.heap.size w wr) (fun i _ => n - (intOf i).toNat)
  case atStart => exact ⟨0, Nat.zero_le _, rfl, Below.refl _ _⟩
  case round =>
    obtain ⟨k, hk, rfl, hbel⟩ := hrel
    by_cases hlt : k < n
    · obtain ⟨b1, o1, rfl, hc1⟩ := ha (by omega)
      obtain ⟨b2, o2, rfl, hc2⟩ := hb (by omega)
      obtain ⟨x, hx⟩ := getAt xs k (by omega)
      obtain ⟨f0, f1, l1⟩ := lc_cells hc1 hx hbel
      obtain ⟨g0, g1, l2⟩ := lc_cells hc2 hx hbel
      obtain ⟨a0, a1⟩ := x
      have hi : (k : Int) < (n : Int) := by omega
      clear ha hb hc1 hc2 hx hl
      go_wp2
      go_region_with (go_at_call 115; refine (eqBlkLast_true (a0, a1) _).mono ?_; rintro e w1 ⟨rfl, hbm⟩; have hbm' : Below wr.heap.size wr w1 := bUndrew hbm)
      all_goals
        go_wp2
        go_roundw
        case rel => exact ⟨k + 1, by omega, by go_num, bAllTo hbel hbm'⟩
        case measure => simp [intOf]; omega
    · go_wp2
      go_ret
      exact ⟨rfl, hbel⟩

/-- The marks of n elements from k on. -/
def mkL (k n : Nat) : List Lc := (List.range n).map fun i => ((k + i * 2 : Nat), (k + i * 2 + 1 : Nat))
theorem mkL_len (k n : Nat) : (mkL k n).length = n := by simp [mkL]
theorem mkL_get (k n i : Nat) (h : i < n) : (mkL k n)[i]? = some (((k + i * 2 : Nat) : Int), ((k + i * 2 + 1 : Nat) : Int)) := by simp [mkL, h]

set_option maxHeartbeats 4000000 in
theorem markBlkLastS_any (S : Nat → Prop) (v : Value) (n : Nat) (cs : List Value) (k0 : Nat) (w : World) (hr : Row w 156 2 S v n cs) (h1 : 1 ≤ k0) (h2 : k0 + n * 2 ≤ 1099511627776) :
    Calls Try.prog 61 #[v, .int .i64 k0] w fun e w' => e = .returned (.int .i64 (k0 + n * 2 : Nat)) ∧ Row w' 156 2 S v n (lcells (mkL k0 n)) ∧ Upd S w w' := by
  obtain ⟨ao, cap, rfl, hn, hl, hr⟩ := hr
  rcases Nat.eq_zero_or_pos n with rfl | hpos
  · go_enter Try.func61, Try.ntmps61
    go_wp2
    refine wp_loop_rounds 1 ?_
    rw [rounds_succ]
    go_wp2
    go_ret
    exact ⟨rfl, ⟨ao, cap, rfl, hn, by simp [mkL, lcells], fun h => by omega⟩, Upd.refl _ _⟩
  · obtain ⟨g, cur, rfl, hS, hg, ht⟩ := hr hpos
    have hcs : n * 2 ≤ cur.size := by
      have := congrArg List.length ht
      simp [hl] at this
      omega
    clear hr ht hl
    go_enter Try.func61, Try.ntmps61
    go_wp2
    go_loopw [1, 5] (fun kv i wr => ∃ (k m : Nat) (cur' : Array Value), k ≤ n ∧ m = k0 + k * 2 ∧ i = .int .i64 k ∧ kv = .int .i64 (m : Nat) ∧ wr.heap[g]? = some (.cells cur' 156 (0, 0)) ∧ cur'.size = cur.size ∧ (∀ j, j < k → cur'[j * 2]? = some (.int .i64 (k0 + j * 2 : Nat)) ∧ cur'[j * 2 + 1]? = some (.int .i64 (k0 + j * 2 + 1 : Nat))) ∧ Upd S w wr) (fun _ i _ => n - (intOf i).toNat)
    case atStart => exact ⟨0, k0, cur, Nat.zero_le _, rfl, rfl, rfl, hg, rfl, fun j hj => by omega, Upd.refl _ _⟩
    case round =>
      obtain ⟨k, m, cur', hk, hm, rfl, rfl, hgr, hsz, hmk, hup⟩ := hrel
      have Hm := hide hm
      have hm2 : (m : Int) ≤ 1099511627776 := by omega
      clear hm
      have HM := hide hmk
      have HZ := hide hsz
      have hsz' : n * 2 ≤ cur'.size := by omega
      clear hmk hsz
      by_cases hlt : k < n
      · have hi : (k : Int) < (n : Int) := by omega
        have hk3 : k * 2 + 1 < cur'.size := by omega
        obtain ⟨u0, hu0⟩ : ∃ u, cur'[k * 2]? = some u := ⟨cur'[k * 2]'(by omega), by simp [show k * 2 < cur'.size by omega]⟩
        obtain ⟨u1, hu1⟩ : ∃ u, cur'[k * 2 + 1]? = some u := ⟨cur'[k * 2 + 1]'(by omega), by simp [show k * 2 + 1 < cur'.size by omega]⟩
        have hcw0 : wr.cell? ⟨g, k * 2, none⟩ = some u0 := (cell_of_row wr _ _ cur' _ (0, 0) hgr).trans hu0
        have hcw1 : wr.cell? ⟨g, k * 2 + 1, none⟩ = some u1 := (cell_of_row wr _ _ cur' _ (0, 0) hgr).trans hu1
        have hfw0 : wr.frozen? ⟨g, k * 2, none⟩ = false := frozen_of_row wr _ _ cur' _ hgr
        have hfw1 : wr.frozen? ⟨g, k * 2 + 1, none⟩ = false := frozen_of_row wr _ _ cur' _ hgr
        have Hg := hide hgr
        clear hgr hu0 hu1
        go_wp2
        go_roundw
        case rel =>
          refine ⟨k + 1, m + 2, _, by omega, by rw [Hm.out]; omega, by go_num, by go_num, (row_set _ (row_set _ Hg.out)), by simpa using HZ.out, fun j hj => ?_, ((hup.trans (Upd.setCell _ _ _ _ hS)).trans (Upd.setCell _ _ _ _ hS))⟩
          have h3 := lset (cur := cur') (j := j) (k := k) (.int .i64 m) (.int .i64 (m + 1)) hk3
          by_cases hjk : j = k
          · have h4 := h3.1 hjk
            subst hjk
            have := Hm.out
            subst this
            refine ⟨h4.1.trans ?_, h4.2.trans ?_⟩ <;> (congr 2 <;> omega)
          · have h4 := h3.2 hjk
            have h5 := HM.out j (by omega)
            exact ⟨h4.1.trans h5.1, h4.2.trans h5.2⟩
        case measure => simp [intOf]; omega
      · go_wp2
        go_ret
        obtain rfl : k = n := by omega
        refine ⟨by rw [Hm.out]; rfl, ⟨_, cap, rfl, hn, by rw [lcells_len, mkL_len], fun _ => ⟨g, cur', rfl, hS, hgr, ?_⟩⟩, hup⟩
        have hz := HZ.out
        refine lcells_ext _ _ (by rw [mkL_len]; simp; omega) (fun j x hx => ?_)
        have hj := (List.getElem?_eq_some_iff.1 hx).1
        rw [mkL_len] at hj
        rw [mkL_get _ _ _ hj] at hx
        obtain rfl := Option.some.inj hx
        rw [List.getElem?_take_of_lt (by omega), List.getElem?_take_of_lt (by omega)]
        simpa using HM.out j hj

set_option maxHeartbeats 4000000 in
theorem heldBlkLastS_ok (v : Value) (n k0 : Nat) (w : World) (hr : RowR w 2 v n (lcells (mkL k0 n))) (h1 : 1 ≤ k0) (h2 : k0 + n * 2 ≤ 1099511627776) :
    Calls Try.prog 64 #[v, .int .i64 k0] w fun e w' => e = .returned (.int .i64 (k0 + n * 2 : Nat)) ∧ Below w.heap.size w w' := by
  obtain ⟨ao, cap, rfl, hn, hl, hr⟩ := hr
  clear hl
  go_enter Try.func64, Try.ntmps64
  go_wp2
  go_loopw [1, 5] (fun kv i wr => ∃ k m : Nat, k ≤ n ∧ m = k0 + k * 2 ∧ i = .int .i64 k ∧ kv = .int .i64 (m : Nat) ∧ Below w.heap.size w wr) (fun _ i _ => n - (intOf i).toNat)
  case atStart => exact ⟨0, k0, Nat.zero_le _, rfl, rfl, rfl, Below.refl _ _⟩
  case round =>
    obtain ⟨k, m, hk, hm, rfl, rfl, hbel⟩ := hrel
    have Hm : Hid (m = k0 + k * 2) := hm
    have hm2 : (m : Int) ≤ 1099511627776 := by omega
    clear hm
    by_cases hlt : k < n
    · obtain ⟨b1, o1, rfl, hc1⟩ := hr (by omega)
      obtain ⟨f0, f1, l1⟩ := lc_cells hc1 (mkL_get k0 n k hlt) hbel
      rw [← Hm.out] at f0 f1
      simp only [Int.natCast_add, Int.natCast_one] at f1
      have hi : (k : Int) < (n : Int) := by omega
      clear hr hc1
      go_wp2
      go_roundw
      case rel => exact ⟨k + 1, m + 2, by omega, by rw [Hm.out]; omega, by go_num, by go_num, hbel⟩
      case measure => simp [intOf]; omega
    · go_wp2
      go_ret
      obtain rfl : k = n := by omega
      exact ⟨by rw [Hm.out]; rfl, hbel⟩

end Go.Proofs.Yteddhdbglciahaa

/- Plain facts on ascending lists, places in them and what is put into them; no statement of the seat is proved here. -/
namespace Go.Proofs.Yteddhdbglciahaa

/-- What an order keeps to. -/
structure OrdOk {α : Type} (ord : α → α → Int) : Prop where
  trans : ∀ a b c, ord a b < 0 → ord b c < 0 → ord a c < 0
  eqL : ∀ a b c, ord a b = 0 → ord b c < 0 → ord a c < 0
  flip : ∀ a b, 0 < ord b a ↔ ord a b < 0
  refl : ∀ a, ord a a = 0

section
variable {α : Type} {ord : α → α → Int}

theorem OrdOk.symm (h : OrdOk ord) {a b : α} (e : ord a b = 0) : ord b a = 0 := by
  have h1 := h.flip a b
  have h2 := h.flip b a
  omega
end

end Go.Proofs.Yteddhdbglciahaa

/- Words as plain values: which are ok, and their bytes; no statement of the seat is proved here. -/
namespace Go.Proofs.Yteddhdbglciahaa

/-- A word: its 24 numbers in the order of their bytes, its pieces, its last calls. -/
structure Wd where
  a0 : Int
  a1 : Int
  a2 : Int
  a3 : Int
  a4 : Int
  a5 : Int
  c0 : Int
  c1 : Int
  c2 : Int
  c3 : Int
  c4 : Int
  c5 : Int
  c6 : Int
  c7 : Int
  c8 : Int
  c9 : Int
  b0 : Int
  b1 : Int
  b2 : Int
  b3 : Int
  b4 : Int
  b5 : Int
  b6 : Int
  b7 : Int
  ps : List Pc
  ls : List Lc

def zeroW : Wd := ⟨0, 0, 0, 0, 0, 0, 0, 0, 0, 0, 0, 0, 0, 0, 0, 0, 0, 0, 0, 0, 0, 0, 0, 0, [], []⟩

/-- The bytes of a number, one more than what they stand for. -/
def encN (n : Nat) : List Nat := if n < 128 then [n] else (128 + n % 128) :: encN (n / 128)
  termination_by n
  decreasing_by omega

def encI (a : Int) : List Nat := encN (a + 1).toNat
def enc (xs : List Int) : List Nat := xs.flatMap encI
end Go.Proofs.Yteddhdbglciahaa

/- What the laws' own helpers do with words: contracts; no statement of the seat is proved here. -/
namespace Go.Proofs.Yteddhdbglciahaa
open Go.RowKit

/-- A word that lies so: its value, and its lists in memory. -/
def WdR (w : World) (v : Value) (x : Wd) : Prop :=
  ∃ po pc lo lc, v = .agg #[.int .i64 x.a0, .int .i64 x.a1, .int .i64 x.a2, .int .i64 x.a3, .int .i64 x.a4, .int .i64 x.a5, .int .i64 x.c0, .int .i64 x.c1, .int .i64 x.c2, .int .i64 x.c3, .int .i64 x.c4, .int .i64 x.c5, .int .i64 x.c6, .int .i64 x.c7, .int .i64 x.c8, .int .i64 x.c9, .int .i64 x.b0, .int .i64 x.b1, .int .i64 x.b2, .int .i64 x.b3, .int .i64 x.b4, .int .i64 x.b5, .int .i64 x.b6, .int .i64 x.b7, .slice po x.ps.length pc, .slice lo x.ls.length lc] ∧ RowR w 4 (.slice po x.ps.length pc) x.ps.length (pcells x.ps) ∧ RowR w 2 (.slice lo x.ls.length lc) x.ls.length (lcells x.ls)
def WdO (w : World) (S : Nat → Prop) (v : Value) (x : Wd) : Prop :=
  ∃ po pc lo lc, v = .agg #[.int .i64 x.a0, .int .i64 x.a1, .int .i64 x.a2, .int .i64 x.a3, .int .i64 x.a4, .int .i64 x.a5, .int .i64 x.c0, .int .i64 x.c1, .int .i64 x.c2, .int .i64 x.c3, .int .i64 x.c4, .int .i64 x.c5, .int .i64 x.c6, .int .i64 x.c7, .int .i64 x.c8, .int .i64 x.c9, .int .i64 x.b0, .int .i64 x.b1, .int .i64 x.b2, .int .i64 x.b3, .int .i64 x.b4, .int .i64 x.b5, .int .i64 x.b6, .int .i64 x.b7, .slice po x.ps.length pc, .slice lo x.ls.length lc] ∧ Row w 152 4 S (.slice po x.ps.length pc) x.ps.length (pcells x.ps) ∧ Row w 156 2 S (.slice lo x.ls.length lc) x.ls.length (lcells x.ls)

theorem WdO.reads {w : World} {S : Nat → Prop} {v : Value} {x : Wd} (h : WdO w S v x) : WdR w v x := by
  obtain ⟨po, pc, lo, lc, e, h1, h2⟩ := h
  exact ⟨po, pc, lo, lc, e, h1.reads, h2.reads⟩
theorem WdR.keep {w w' : World} {v : Value} {x : Wd} (h : WdR w v x) (hb : Below w.heap.size w w') : WdR w' v x := by
  obtain ⟨po, pc, lo, lc, e, h1, h2⟩ := h
  exact ⟨po, pc, lo, lc, e, h1.keep hb, h2.keep hb⟩
theorem WdO.keep {w w' : World} {S T : Nat → Prop} {v : Value} {x : Wd} (h : WdO w S v x) (hb : Upd T w w') (hST : ∀ k, S k → ¬ T k) : WdO w' S v x := by
  obtain ⟨po, pc, lo, lc, e, h1, h2⟩ := h
  exact ⟨po, pc, lo, lc, e, h1.keep hb hST, h2.keep hb hST⟩
theorem WdO.keepB {w w' : World} {S : Nat → Prop} {v : Value} {x : Wd} (h : WdO w S v x) (hb : Below w.heap.size w w') : WdO w' S v x := by
  obtain ⟨po, pc, lo, lc, e, h1, h2⟩ := h
  exact ⟨po, pc, lo, lc, e, h1.keepB hb, h2.keepB hb⟩
theorem WdO.mono {w : World} {S T : Nat → Prop} {v : Value} {x : Wd} (h : WdO w S v x) (hST : ∀ k, k < w.heap.size → S k → T k) : WdO w T v x := by
  obtain ⟨po, pc, lo, lc, e, h1, h2⟩ := h
  exact ⟨po, pc, lo, lc, e, h1.mono hST, h2.mono hST⟩

theorem bal {W w : World} (h : Below W.heap.size W w) (o : Obj) : Below W.heap.size W (w.alloc o) := h.alloc h.size o
theorem boxAt {w : World} {g : Nat} {cur : Array Value} {e : TypeId} (h : w.heap[g]? = some (.cells cur e (0, 0))) : ∀ j, w.cell? ⟨g, j, none⟩ = cur[j]? := fun j => cell_of_row w g j cur e (0, 0) h
theorem boxFz {w : World} {g : Nat} {cur : Array Value} {e : TypeId} (h : w.heap[g]? = some (.cells cur e (0, 0))) : ∀ j, w.frozen? ⟨g, j, none⟩ = false := fun j => frozen_of_row w g j cur e h

theorem wd_one (x : Wd) (po lo : Option Addr) (pn pc ln lc : Nat) : ∀ v ∈ (#[.int .i64 x.a0, .int .i64 x.a1, .int .i64 x.a2, .int .i64 x.a3, .int .i64 x.a4, .int .i64 x.a5, .int .i64 x.c0, .int .i64 x.c1, .int .i64 x.c2, .int .i64 x.c3, .int .i64 x.c4, .int .i64 x.c5, .int .i64 x.c6, .int .i64 x.c7, .int .i64 x.c8, .int .i64 x.c9, .int .i64 x.b0, .int .i64 x.b1, .int .i64 x.b2, .int .i64 x.b3, .int .i64 x.b4, .int .i64 x.b5, .int .i64 x.b6, .int .i64 x.b7, .slice po pn pc, .slice lo ln lc] : Array Value).toList, v.oneCell' = true := by
  have : (#[.int .i64 x.a0, .int .i64 x.a1, .int .i64 x.a2, .int .i64 x.a3, .int .i64 x.a4, .int .i64 x.a5, .int .i64 x.c0, .int .i64 x.c1, .int .i64 x.c2, .int .i64 x.c3, .int .i64 x.c4, .int .i64 x.c5, .int .i64 x.c6, .int .i64 x.c7, .int .i64 x.c8, .int .i64 x.c9, .int .i64 x.b0, .int .i64 x.b1, .int .i64 x.b2, .int .i64 x.b3, .int .i64 x.b4, .int .i64 x.b5, .int .i64 x.b6, .int .i64 x.b7, .slice po pn pc, .slice lo ln lc] : Array Value).toList.all (·.oneCell') = true := rfl
  exact List.all_eq_true.1 this
theorem infoWd : (Try.prog.info? 47).map (·.size) = some 26 := by kernel_rfl

end Go.Proofs.Yteddhdbglciahaa

/- Where the numbers of a word stand, in the program: contracts; no statement of the seat is proved here. -/
namespace Go.Proofs.Yteddhdbglciahaa
open Go.RowKit

theorem bDrewB {B : Nat} {w w' : World} (h : Below B w w') : Below B w w'.drew := ⟨h.os, h.tape, h.output, h.size, h.block⟩

/-- A row of n pointers to the cells of block b from o on. -/
def Ptrs (ps : Array Value) (b o n : Nat) : Prop := ps.size = n ∧ ∀ k, k < n → ps[k]? = some (.pointer (some ⟨b, o + k, none⟩))
theorem Ptrs.one {ps : Array Value} {b o n : Nat} (h : Ptrs ps b o n) : ps.all (·.oneCell') = true := by
  refine Array.all_eq_true_iff_forall_mem.2 (fun v hv => ?_)
  obtain ⟨i, hi, e⟩ := Array.getElem_of_mem hv
  have := h.2 i (by rw [← h.1]; exact hi)
  rw [Array.getElem?_eq_getElem hi, e] at this
  rw [Option.some.inj this]
  rfl
theorem all_of_list {cs : Array Value} (h : cs.toList.all (·.oneCell') = true) : cs.all (·.oneCell') = true :=
  Array.all_eq_true_iff_forall_mem.2 (fun v hv => List.all_eq_true.1 h v (by simpa using hv))
end Go.Proofs.Yteddhdbglciahaa

/- Copies of pieces, and pieces with one put into its place: contracts; no statement of the seat is proved here. -/
namespace Go.Proofs.Yteddhdbglciahaa
open Go.RowKit

/-- A part of a slice. -/
theorem RowR.drop {w : World} {size n k : Nat} {b off cap c' : Nat} {cs : List Value} (h : RowR w size (.slice (some ⟨b, off, none⟩) n cap) n cs) (hk : k ≤ n) : RowR w size (.slice (some ⟨b, off + k * size, none⟩) (n - k) c') (n - k) (cs.drop (k * size)) := by
  obtain ⟨ao, ca, e, hn, hl, h⟩ := h
  injection e with e1 e2 e3
  subst e1
  refine ⟨_, _, rfl, by omega, by rw [List.length_drop, hl, Nat.sub_mul], fun h0 => ⟨b, off + k * size, rfl, fun j u hj => ?_⟩⟩
  obtain ⟨b', off', e, hc⟩ := h (by omega)
  injection e with e
  injection e with e1 e2
  subst e1 e2
  rw [List.getElem?_drop] at hj
  rw [Nat.add_assoc]
  exact hc _ u hj
theorem RowR.take {w : World} {size n k : Nat} {ao : Option Addr} {cap c' : Nat} {cs : List Value} (h : RowR w size (.slice ao n cap) n cs) (hk : k ≤ n) : RowR w size (.slice ao k c') k (cs.take (k * size)) := by
  obtain ⟨ao', ca, e, hn, hl, h⟩ := h
  injection e with e1 e2 e3
  subst e1
  refine ⟨_, _, rfl, by omega, by rw [List.length_take, hl, Nat.min_eq_left (Nat.mul_le_mul_right _ hk)], fun h0 => ?_⟩
  obtain ⟨b', off', rfl, hc⟩ := h (by omega)
  refine ⟨b', off', rfl, fun j u hj => hc j u ?_⟩
  have := (List.getElem?_eq_some_iff.1 hj).1
  rw [List.length_take] at this
  rwa [List.getElem?_take_of_lt (by omega)] at hj

theorem RowR.zero {w : World} {size c : Nat} {ao : Option Addr} : RowR w size (.slice ao 0 c) 0 [] := ⟨ao, c, rfl, by omega, by simp, fun h => by omega⟩

end Go.Proofs.Yteddhdbglciahaa

/- BlkPut, BlkGet and BlkDrop of the program: contracts; no statement of the seat is proved here. -/
namespace Go.Proofs.Yteddhdbglciahaa
open Go.RowKit

theorem owns_shape {w : World} {base : Nat} {e : TypeId} {size : Nat} {v : Value} {n : Nat} {cs : List Value} (h : w.ownsRow base e size v n cs) : ∃ ao ca, v = .slice ao n ca ∧ n ≤ ca := by
  rcases h.2 with ⟨rfl, rfl⟩ | ⟨g, cap, cur, rfl, _, _, hnc, _⟩
  · exact ⟨none, 0, rfl, Nat.le_refl _⟩
  · exact ⟨_, cap, rfl, hnc⟩
end Go.Proofs.Yteddhdbglciahaa

/- Words held against each other, marked, and looked at for their marks: contracts; no statement of the seat is proved here. -/
namespace Go.Proofs.Yteddhdbglciahaa
open Go.RowKit

set_option maxHeartbeats 4000000 in
theorem eqCmd_true (x : Wd) (w : World) :
    Calls Try.prog 54 #[ .agg #[.int .i64 x.c0, .int .i64 x.c1, .int .i64 x.c2, .int .i64 x.c3, .int .i64 x.c4, .int .i64 x.c5, .int .i64 x.c6, .int .i64 x.c7, .int .i64 x.c8, .int .i64 x.c9], .agg #[.int .i64 x.c0, .int .i64 x.c1, .int .i64 x.c2, .int .i64 x.c3, .int .i64 x.c4, .int .i64 x.c5, .int .i64 x.c6, .int .i64 x.c7, .int .i64 x.c8, .int .i64 x.c9] ] w fun e w' => e = .returned (.bool true) ∧ Below w.heap.size w w' := by
  go_enter Try.func54, Try.ntmps54
  go_wp2
  go_ret
  exact ⟨rfl, bal (bal (Below.refl _ _) _) _⟩

set_option maxRecDepth 100000 in
set_option maxHeartbeats 8000000 in
theorem eqWord_true (va vb : Value) (x : Wd) (w : World) (ha : WdR w va x) (hb : WdR w vb x) :
    Calls Try.prog 15 #[va, vb] w fun e w' => e = .returned (.bool true) ∧ Below w.heap.size w w' := by
  obtain ⟨po, pc, lo, lc, rfl, a1, a2⟩ := ha
  obtain ⟨po', pc', lo', lc', rfl, d1, d2⟩ := hb
  go_enter Try.func15, Try.ntmps15
  go_wp2_with fail
  generalize hW : World.alloc _ _ = W
  have hal : Below w.heap.size w W := by rw [← hW]; exact bal (bal (Below.refl _ _) _) _
  have B0 : W.heap[w.heap.size]? = some (.cells (#[.int .i64 x.a0, .int .i64 x.a1, .int .i64 x.a2, .int .i64 x.a3, .int .i64 x.a4, .int .i64 x.a5, .int .i64 x.c0, .int .i64 x.c1, .int .i64 x.c2, .int .i64 x.c3, .int .i64 x.c4, .int .i64 x.c5, .int .i64 x.c6, .int .i64 x.c7, .int .i64 x.c8, .int .i64 x.c9, .int .i64 x.b0, .int .i64 x.b1, .int .i64 x.b2, .int .i64 x.b3, .int .i64 x.b4, .int .i64 x.b5, .int .i64 x.b6, .int .i64 x.b7, .slice po x.ps.length pc, .slice lo x.ls.length lc] : Array Value) 47 (0, 0)) := by rw [← hW]; exact al2_0 w _ _
  have B1 : W.heap[w.heap.size + 1]? = some (.cells (#[.int .i64 x.a0, .int .i64 x.a1, .int .i64 x.a2, .int .i64 x.a3, .int .i64 x.a4, .int .i64 x.a5, .int .i64 x.c0, .int .i64 x.c1, .int .i64 x.c2, .int .i64 x.c3, .int .i64 x.c4, .int .i64 x.c5, .int .i64 x.c6, .int .i64 x.c7, .int .i64 x.c8, .int .i64 x.c9, .int .i64 x.b0, .int .i64 x.b1, .int .i64 x.b2, .int .i64 x.b3, .int .i64 x.b4, .int .i64 x.b5, .int .i64 x.b6, .int .i64 x.b7, .slice po' x.ps.length pc', .slice lo' x.ls.length lc'] : Array Value) 47 (0, 0)) := by rw [← hW]; exact al2_1 w _ _
  clear hW
  refine (eqCmd_true x _).mono ?_
  rintro e w1 ⟨rfl, b1⟩
  have C0 := bKeeps b1 B0
  have C1 := bKeeps b1 B1
  have hc0 := boxAt C0
  have hc1 := boxAt C1
  have H0 := hide C0
  have H1 := hide C1
  have c1 := bAll hal b1
  clear B0 B1 C0 C1
  go_wp2_with fail
  clear hc0 hc1
  refine (eqBlkPieceS_true _ _ _ x.ps _ (a1.keep c1) (d1.keep c1)).mono ?_
  rintro e w2 ⟨rfl, b2⟩
  have hc0 := boxAt (bKeeps b2 H0.out)
  have hc1 := boxAt (bKeeps b2 H1.out)
  have c2 := bAll c1 b2
  go_wp2_with fail
  refine (eqBlkLastS_true _ _ _ x.ls _ (a2.keep c2) (d2.keep c2)).mono ?_
  rintro e w3 ⟨rfl, b3⟩
  go_wp2
  go_ret
  exact ⟨rfl, bAll c2 b3⟩

end Go.Proofs.Yteddhdbglciahaa

/- What the laws of words have in common: contracts; no statement of the seat is proved here. -/
namespace Go.Proofs.Yteddhdbglciahaa
open Go.RowKit

theorem WdR.agg {w : World} {v : Value} {x : Wd} (h : WdR w v x) : ∃ cs : Array Value, v = .agg cs ∧ cs.size = 26 ∧ cs.all (·.oneCell') = true := by
  obtain ⟨po, pc, lo, lc, rfl, -, -⟩ := h
  exact ⟨_, rfl, rfl, all_of_list (List.all_eq_true.2 (wd_one x po lo _ pc _ lc))⟩
theorem infoAt {t : TypeId} {n m : Nat} (h : (Try.prog.info? t).map (·.size) = some n) (hm : m = n) : (Try.prog.info? t).map (·.size) = some m := by rw [hm]; exact h
end Go.Proofs.Yteddhdbglciahaa

/- A struct in a row of others, loaded and stored whole: laws; no statement of the seat is proved here. -/
namespace Go.Proofs.Yteddhdbglciahaa
open Go.RowKit

theorem run_loadVar_at {P : Program} (w : World) (g off : Nat) (ty : TypeId) (cs : Array Value) (d : TypeDesc) (hc : ∀ j u, cs[j]? = some u → w.cell? ⟨g, off + j, none⟩ = some u)
    (hu : P.underlying ty = some d) (hd : (match d with | .struct _ | .array _ _ => true | _ => false) = true) (hi : (P.info? ty).map (·.size) = some cs.size) :
    (loadVar ty ⟨g, off, none⟩).run P w = .ok (.agg cs) w := by
  have hl : (loadCells ⟨g, off, none⟩ cs.toList.length).run P w = .ok cs.toList.toArray w :=
    run_loadCells_list (P := P) w ⟨g, off, none⟩ cs.toList (fun j v hv => by
      rw [Addr.add_lit]
      exact hc j v (by simpa using hv))
  cases hq : P.info? ty with
  | none => simp [hq] at hi
  | some i =>
    have hs : i.size = cs.size := by simpa [hq] using hi
    have hagg : (isAgg ty).run P w = .ok true w := by
      unfold isAgg
      rw [Sem.run_bind, run_underlying hu w]
      cases d <;> simp_all
    simp only [Array.length_toList, Array.toArray_toList] at hl
    simp [loadVar, Sem.run_bind, hagg, sizeOf, typeInfo, hq, hs, hl]

theorem wp_load_at {P : Program} {o : Oper} {a : Act} {w : World} {K : Act → World → Prop} {Q : Exit → Act → World → Prop} (ty : TypeId) (x : Operand) (ho : o.op = .load ty x)
    (g off : Nat) (hx : a.eval x = .pointer (some ⟨g, off, none⟩)) (cs : Array Value) (d : TypeDesc) (hc : ∀ j u, cs[j]? = some u → w.cell? ⟨g, off + j, none⟩ = some u)
    (hu : P.underlying ty = some d) (hd : (match d with | .struct _ | .array _ _ => true | _ => false) = true) (hi : (P.info? ty).map (·.size) = some cs.size)
    (h : K (a.put o.dst (.agg cs)) w) : o.wp P a w K Q := by
  unfold Oper.wp execOp
  simp only [ho, hx, Instr.loadAt, Instr.sureAddr, Sem.run_bind, Sem.run_pure, Result.andThen_ok, run_loadVar_at w g off ty cs d hc hu hd hi]
  exact h

theorem wpList_load_at {P : Program} {ops : Array Oper} {rest : List Oper} {o : Oper} {a : Act} {w : World} {Q : Exit → Act → World → Prop} (hgd : Region.wanted o (yielded ops a.tmps) = true) (ty : TypeId) (x : Operand) (ho : o.op = .load ty x)
    (g off : Nat) (hx : a.eval x = .pointer (some ⟨g, off, none⟩)) (cs : Array Value) (d : TypeDesc) (hc : ∀ j u, cs[j]? = some u → w.cell? ⟨g, off + j, none⟩ = some u)
    (hu : P.underlying ty = some d) (hd : (match d with | .struct _ | .array _ _ => true | _ => false) = true) (hi : (P.info? ty).map (·.size) = some cs.size)
    (h : wpList P ops Q rest (a.put o.dst (.agg cs)) w) : wpList P ops Q (o :: rest) a w :=
  wpList_step fun _ hK => by rw [if_pos hgd]; exact wp_load_at ty x ho g off hx cs d hc hu hd hi (hK _ _ h)

theorem yields_at {P : Program} {ops : Array Oper} {S : World → Prop} {op : Oper} {a : Act} (hw : Region.wanted op (yielded ops a.tmps) = true) (ty : TypeId) (x : Operand) (ho : op.op = .load ty x)
    (g off : Nat) (hx : a.eval x = .pointer (some ⟨g, off, none⟩)) (cs : Array Value) (d : TypeDesc) (hS : ∀ w, S w → ∀ j u, cs[j]? = some u → w.cell? ⟨g, off + j, none⟩ = some u)
    (hu : P.underlying ty = some d) (hd : (match d with | .struct _ | .array _ _ => true | _ => false) = true) (hi : (P.info? ty).map (·.size) = some cs.size) : YieldsIf P ops S op (.agg cs) a :=
  .inl ⟨hw, fun w hw' => by
    unfold execOp
    simp only [ho, hx, Instr.loadAt, Instr.sureAddr, Sem.run_bind, Sem.run_pure, Result.andThen_ok, run_loadVar_at w g off ty cs d (hS w hw') hu hd hi]⟩

end Go.Proofs.Yteddhdbglciahaa

/- What the laws' own helpers do with papers and voters: contracts; no statement of the seat is proved here. -/
namespace Go.Proofs.Yteddhdbglciahaa
open Go.RowKit

/-- A paper: its slot, its ballot, and its command (that of a word). -/
abbrev Pp := Int × Int × Wd
def pparr (p : Pp) : Array Value := (#[.int .i64 p.1, .int .i64 p.2.1, .int .i64 p.2.2.c0, .int .i64 p.2.2.c1, .int .i64 p.2.2.c2, .int .i64 p.2.2.c3, .int .i64 p.2.2.c4, .int .i64 p.2.2.c5, .int .i64 p.2.2.c6, .int .i64 p.2.2.c7, .int .i64 p.2.2.c8, .int .i64 p.2.2.c9] : Array Value)
def ppcell (p : Pp) : List Value := (pparr p).toList
def ppcells (xs : List Pp) : List Value := xs.flatMap ppcell
theorem ppcell_len (p : Pp) : (ppcell p).length = 12 := rfl
theorem ppcells_len (xs : List Pp) : (ppcells xs).length = xs.length * 12 := fm_len ppcell_len xs
theorem pp_at {w wr : World} {b o k : Nat} {xs : List Pp} {p : Pp} (hc : ∀ j u, (ppcells xs)[j]? = some u → w.cell? ⟨b, o + j, none⟩ = some u) (h : xs[k]? = some p) (hb : Below w.heap.size w wr) :
    ∀ j u, (pparr p)[j]? = some u → wr.cell? ⟨b, o + k * 12 + j, none⟩ = some u :=
  fun j u hj => (el_cell ppcell_len hc h hb j u (by simpa [ppcell] using hj)).1
theorem infoPpS : (Try.prog.info? 37).map (·.size) = some 12 := by kernel_rfl
theorem infoCm10 : (Try.prog.info? 35).map (·.size) = some 10 := by kernel_rfl

theorem ppcells_ext (xs : List Pp) (cs : List Value) (hl : cs.length = xs.length * 12) (h : ∀ j p, xs[j]? = some p → ∀ r u, (pparr p)[r]? = some u → cs[j * 12 + r]? = some u) : cs = ppcells xs := by
  apply List.ext_getElem?
  intro i
  by_cases hi : i < xs.length * 12
  · have hj : i / 12 < xs.length := by omega
    obtain ⟨p, hp⟩ := getAt xs (i / 12) hj
    have hr : i % 12 < (pparr p).size := by show _ < 12; omega
    have g := h (i / 12) p hp (i % 12) _ (Array.getElem?_eq_getElem hr)
    have e : i / 12 * 12 + i % 12 = i := by omega
    rw [e] at g
    rw [g]
    have g2 := fm_at ppcell_len xs (i / 12) p (i % 12) hp (by omega)
    rw [e] at g2
    show _ = (xs.flatMap ppcell)[i]?
    rw [g2]
    simp [ppcell, Array.getElem?_eq_getElem hr]
  · rw [List.getElem?_eq_none (by omega), List.getElem?_eq_none (by rw [ppcells_len]; omega)]

end Go.Proofs.Yteddhdbglciahaa

/- What the laws' own helpers do with papers and voters: contracts; no statement of the seat is proved here. -/
namespace Go.Proofs.Yteddhdbglciahaa
open Go.RowKit

/-- What a voter reads: what it promised, its papers. -/
def VtR (w : World) (v : Value) (P : Int) (xs : List Pp) : Prop := ∃ ao cap, v = .agg #[.int .i64 P, .slice ao xs.length cap] ∧ RowR w 12 (.slice ao xs.length cap) xs.length (ppcells xs)
theorem VtR.keep {w w' : World} {v : Value} {P : Int} {xs : List Pp} (h : VtR w v P xs) (hb : Below w.heap.size w w') : VtR w' v P xs := by
  obtain ⟨ao, cap, e, h⟩ := h
  exact ⟨ao, cap, e, h.keep hb⟩
/-- A voter in a row of its own. -/
def VtO (w : World) (S : Nat → Prop) (v : Value) (P : Int) (xs : List Pp) : Prop := ∃ ao cap, v = .agg #[.int .i64 P, .slice ao xs.length cap] ∧ xs.length ≤ cap ∧ Row w 37 12 S (.slice ao xs.length cap) xs.length (ppcells xs)
theorem VtO.reads {w : World} {S : Nat → Prop} {v : Value} {P : Int} {xs : List Pp} (h : VtO w S v P xs) : VtR w v P xs := by
  obtain ⟨ao, cap, e, -, h⟩ := h
  exact ⟨ao, cap, e, h.reads⟩

set_option maxRecDepth 100000 in
set_option maxHeartbeats 4000000 in
theorem eqSynPaper_true (s b : Int) (x : Wd) (w : World) :
    Calls Try.prog 55 #[.agg (#[.int .i64 s, .int .i64 b, .int .i64 x.c0, .int .i64 x.c1, .int .i64 x.c2, .int .i64 x.c3, .int .i64 x.c4, .int .i64 x.c5, .int .i64 x.c6, .int .i64 x.c7, .int .i64 x.c8, .int .i64 x.c9] : Array Value), .agg (#[.int .i64 s, .int .i64 b, .int .i64 x.c0, .int .i64 x.c1, .int .i64 x.c2, .int .i64 x.c3, .int .i64 x.c4, .int .i64 x.c5, .int .i64 x.c6, .int .i64 x.c7, .int .i64 x.c8, .int .i64 x.c9] : Array Value) ] w fun e w' => e = .returned (.bool true) ∧ Below w.heap.size w w' := by
  have al := bal (bal (Below.refl w.heap.size w) (.cells (#[.int .i64 s, .int .i64 b, .int .i64 x.c0, .int .i64 x.c1, .int .i64 x.c2, .int .i64 x.c3, .int .i64 x.c4, .int .i64 x.c5, .int .i64 x.c6, .int .i64 x.c7, .int .i64 x.c8, .int .i64 x.c9] : Array Value) 37)) (.cells (#[.int .i64 s, .int .i64 b, .int .i64 x.c0, .int .i64 x.c1, .int .i64 x.c2, .int .i64 x.c3, .int .i64 x.c4, .int .i64 x.c5, .int .i64 x.c6, .int .i64 x.c7, .int .i64 x.c8, .int .i64 x.c9] : Array Value) 37)
  go_enter Try.func55, Try.ntmps55
  go_wp2_with fail
  refine (eqCmd_true x _).mono ?_
  rintro e w1 ⟨rfl, b1⟩
  go_wp2
  go_ret
  exact ⟨rfl, bAll al b1⟩

set_option maxRecDepth 100000 in
set_option maxHeartbeats 4000000 in
theorem eqSynPaperS_true (va vb : Value) (n : Nat) (xs : List Pp) (w : World) (ha : RowR w 12 va n (ppcells xs)) (hb : RowR w 12 vb n (ppcells xs)) :
    Calls Try.prog 79 #[va, vb] w fun e w' => e = .returned (.bool true) ∧ Below w.heap.size w w' := by
  obtain ⟨ao, ca, rfl, hn, hl, ha⟩ := ha
  obtain ⟨bo, cb, rfl, _, _, hb⟩ := hb
  rw [ppcells_len] at hl
  have Hl := hide hl
  clear hl
  go_enter Try.func79, Try.ntmps79
  go_wp2
  go_loopw [5] (fun i wr => ∃ k : Nat, k ≤ n ∧ i = .int .i64 k ∧ Below w.heap.size w wr) (fun i _ => n - (intOf i).toNat)
  case atStart => exact ⟨0, Nat.zero_le _, rfl, Below.refl _ _⟩
  case round =>
    obtain ⟨k, hk, rfl, hbel⟩ := hrel
    by_cases hlt : k < n
    · obtain ⟨b1, o1, rfl, hc1⟩ := ha (by omega)
      obtain ⟨b2, o2, rfl, hc2⟩ := hb (by omega)
      obtain ⟨⟨s, b, x⟩, hs⟩ := getAt xs k (by have := Hl.out; omega)
      have K1 := hide (fun W (hW : Below w.heap.size w W) => pp_at hc1 hs hW)
      have K2 := hide (fun W (hW : Below w.heap.size w W) => pp_at hc2 hs hW)
      have hi : (k : Int) < (n : Int) := by omega
      clear ha hb hc1 hc2 hs
      have d1 := bDrewB hbel
      go_wp2
      refine wp_region_noPanic ?_
      refine wp_region_held_drew (S := (fun w' => (∀ j u, (pparr (s, b, x))[j]? = some u → w'.cell? ⟨b1, o1 + k * 12 + j, none⟩ = some u) ∧ (∀ j u, (pparr (s, b, x))[j]? = some u → w'.cell? ⟨b2, o2 + k * 12 + j, none⟩ = some u))) (by kernel_rfl) ?_ (fun hHeld => ?_)
      · exact ⟨K1.out _ d1, K2.out _ d1⟩
      refine wpAnyH_take (i := 0) (v := ?v1) rfl (by kernel_rfl) (by kernel_rfl) (by kernel_rfl) (fun _ _ _ h => h) (Or.inl ⟨by rfl, ?hy1⟩) (by assumption) ?rest1
      case hy1 => ((intro w hSw; (try dsimp only at hSw); (try simp only [List.getElem_toArray, List.getElem_cons_zero]); go_simp; first | done | (with_reducible rfl)))
      simp only [Act.put, List.getElem_toArray, List.getElem_cons_zero, List.setIfInBounds_toArray, List.set_cons_zero, List.set_cons_succ]
      refine wpAnyH_take (i := 1) (v := ?v2) rfl (by kernel_rfl) (by kernel_rfl) (by kernel_rfl) (fun _ _ _ h => h) (Or.inl ⟨by rfl, ?hy2⟩) (by assumption) ?rest2
      case hy2 => ((intro w hSw; (try dsimp only at hSw); (try simp only [List.getElem_toArray, List.getElem_cons_zero, List.getElem_cons_succ]); go_simp; first | done | (with_reducible rfl)))
      simp only [Act.put, List.getElem_toArray, List.getElem_cons_zero, List.getElem_cons_succ, List.setIfInBounds_toArray, List.set_cons_zero, List.set_cons_succ]
      refine wpAnyH_take (i := 2) (v := ?v3) rfl (by kernel_rfl) (by kernel_rfl) (by kernel_rfl) (fun _ _ _ h => h) (Or.inl ⟨by rfl, ?hy3⟩) (by assumption) ?rest3
      case hy3 => ((intro w hSw; (try dsimp only at hSw); (try simp only [List.getElem_toArray, List.getElem_cons_zero, List.getElem_cons_succ]); go_simp; first | done | (with_reducible rfl)))
      simp only [Act.put, List.getElem_toArray, List.getElem_cons_zero, List.getElem_cons_succ, List.setIfInBounds_toArray, List.set_cons_zero, List.set_cons_succ]
      refine wpAnyH_take (i := 3) (v := .agg (pparr (s, b, x))) rfl (by kernel_rfl) (by kernel_rfl) (by kernel_rfl) (fun _ _ _ h => h) (yields_at rfl 37 (.tmp 19) rfl (b1) (o1 + k * 12) rfl (pparr (s, b, x)) _ (fun _ h => h.1) Try.underlying37 rfl infoPpS) (by assumption) ?_
      simp only [Act.put, List.getElem_toArray, List.getElem_cons_zero, List.getElem_cons_succ, List.setIfInBounds_toArray, List.set_cons_zero, List.set_cons_succ]
      refine wpAnyH_take (i := 4) (v := ?v4) rfl (by kernel_rfl) (by kernel_rfl) (by kernel_rfl) (fun _ _ _ h => h) (Or.inl ⟨by rfl, ?hy4⟩) (by assumption) ?rest4
      case hy4 => ((intro w hSw; (try dsimp only at hSw); (try simp only [List.getElem_toArray, List.getElem_cons_zero, List.getElem_cons_succ]); go_simp; first | done | (with_reducible rfl)))
      simp only [Act.put, List.getElem_toArray, List.getElem_cons_zero, List.getElem_cons_succ, List.setIfInBounds_toArray, List.set_cons_zero, List.set_cons_succ]
      refine wpAnyH_take (i := 5) (v := ?v5) rfl (by kernel_rfl) (by kernel_rfl) (by kernel_rfl) (fun _ _ _ h => h) (Or.inl ⟨by rfl, ?hy5⟩) (by assumption) ?rest5
      case hy5 => ((intro w hSw; (try dsimp only at hSw); (try simp only [List.getElem_toArray, List.getElem_cons_zero, List.getElem_cons_succ]); go_simp; first | done | (with_reducible rfl)))
      simp only [Act.put, List.getElem_toArray, List.getElem_cons_zero, List.getElem_cons_succ, List.setIfInBounds_toArray, List.set_cons_zero, List.set_cons_succ]
      refine wpAnyH_take (i := 6) (v := ?v6) rfl (by kernel_rfl) (by kernel_rfl) (by kernel_rfl) (fun _ _ _ h => h) (Or.inl ⟨by rfl, ?hy6⟩) (by assumption) ?rest6
      case hy6 => ((intro w hSw; (try dsimp only at hSw); (try simp only [List.getElem_toArray, List.getElem_cons_zero, List.getElem_cons_succ]); go_simp; first | done | (with_reducible rfl)))
      simp only [Act.put, List.getElem_toArray, List.getElem_cons_zero, List.getElem_cons_succ, List.setIfInBounds_toArray, List.set_cons_zero, List.set_cons_succ]
      refine wpAnyH_take (i := 7) (v := .agg (pparr (s, b, x))) rfl (by kernel_rfl) (by kernel_rfl) (by kernel_rfl) (fun _ _ _ h => h) (yields_at rfl 37 (.tmp 23) rfl (b2) (o2 + k * 12) rfl (pparr (s, b, x)) _ (fun _ h => h.2) Try.underlying37 rfl infoPpS) (by assumption) ?_
      simp only [Act.put, List.getElem_toArray, List.getElem_cons_zero, List.getElem_cons_succ, List.setIfInBounds_toArray, List.set_cons_zero, List.set_cons_succ]
      refine wpAnyH_ready (rs := [8]) (by kernel_rfl) (by simp) ?_
      refine AllReadyH.cons rfl (fun K hK => ?_) AllReadyH.nil
      go_simp
      (go_at_call 55; refine (eqSynPaper_true s b x _).mono ?_; rintro e w1 ⟨rfl, b1'⟩; have c1 := bAll hbel (bUndrew b1'))
      refine hK.out _ _ ?_ (fun hHeld => ?_)
      · exact ⟨K1.out _ c1, K2.out _ c1⟩
      clear hK K
      refine wpAnyH_take (i := 9) (v := ?v7) rfl (by kernel_rfl) (by kernel_rfl) (by kernel_rfl) (fun _ _ _ h => h) (Or.inl ⟨by rfl, ?hy7⟩) (by assumption) ?rest7
      case hy7 => ((intro w hSw; (try dsimp only at hSw); (try simp only [List.getElem_toArray, List.getElem_cons_zero, List.getElem_cons_succ]); go_simp; first | done | (with_reducible rfl)))
      simp only [Act.put, List.getElem_toArray, List.getElem_cons_zero, List.getElem_cons_succ, List.setIfInBounds_toArray, List.set_cons_zero, List.set_cons_succ]
      refine wpAnyH_done (by kernel_rfl) ?_ _
      refine NoPanic.normal ?_
      go_wp2
      go_roundw
      case rel => exact ⟨k + 1, by omega, by go_num, c1⟩
      case measure => simp [intOf]; omega
    · go_wp2
      go_ret
      exact ⟨rfl, hbel⟩

set_option maxRecDepth 100000 in
theorem eqSynVoter_true (va vb : Value) (P : Int) (xs : List Pp) (w : World) (ha : VtR w va P xs) (hb : VtR w vb P xs) :
    Calls Try.prog 125 #[va, vb] w fun e w' => e = .returned (.bool true) ∧ Below w.heap.size w w' := by
  obtain ⟨ao, ca, rfl, ha⟩ := ha
  obtain ⟨bo, cb, rfl, hb⟩ := hb
  have al := bal (bal (Below.refl w.heap.size w) (.cells #[.int .i64 P, .slice ao xs.length ca] 120)) (.cells #[.int .i64 P, .slice bo xs.length cb] 120)
  have A1 := hide (ha.keep al)
  have A2 := hide (hb.keep al)
  clear ha hb
  go_enter Try.func125, Try.ntmps125
  go_wp2_with fail
  refine (eqSynPaperS_true _ _ _ xs _ A1.out A2.out).mono ?_
  rintro e w1 ⟨rfl, b1⟩
  go_wp2
  go_ret
  exact ⟨rfl, bAll al b1⟩

end Go.Proofs.Yteddhdbglciahaa

/- All numbers of a word, as the specification lists them: a contract; no statement of the seat is proved here. -/
namespace Go.Proofs.Yteddhdbglciahaa
open Go.RowKit

theorem RowA.base {w : World} {b b' : Nat} {e : TypeId} {size : Nat} {v : Value} {n : Nat} {cs : List Value} (h : RowA w b e size v n cs) (hb : b' ≤ b) : RowA w b' e size v n cs := by
  rcases h with h | h
  · exact .inl ⟨h.1, h.2.imp id (fun ⟨g, cap, cur, e, hg, rest⟩ => ⟨g, cap, cur, e, Nat.le_trans hb hg, rest⟩)⟩
  · exact .inr h
end Go.Proofs.Yteddhdbglciahaa

/- Laws for functions that give two structs and a truth; what a voter's answer is; no statement of the seat is proved here. -/
namespace Go.Proofs.Yteddhdbglciahaa
open Go.RowKit

theorem updRow (w : World) (g : Nat) (cs : Array Value) : Upd (fun j => j = g) w (w.setRow g cs) := ⟨rfl, rfl, rfl, by simp, fun _ _ h => setRow_other _ _ _ _ h⟩

theorem infoSv2 : (Try.prog.info? 120).map (·.size) = some 2 := by kernel_rfl

/-- What is read of a word, of its numbers and its command. -/
theorem WdR.cells {w : World} {cs : Array Value} {x : Wd} (h : WdR w (.agg cs) x) : cs[0]? = some (.int .i64 x.a0) ∧ cs[1]? = some (.int .i64 x.a1) ∧ cs[3]? = some (.int .i64 x.a3) ∧ cs[4]? = some (.int .i64 x.a4) ∧ cs[5]? = some (.int .i64 x.a5) ∧ ∀ j z, (#[.int .i64 x.c0, .int .i64 x.c1, .int .i64 x.c2, .int .i64 x.c3, .int .i64 x.c4, .int .i64 x.c5, .int .i64 x.c6, .int .i64 x.c7, .int .i64 x.c8, .int .i64 x.c9] : Array Value)[j]? = some z → cs[6 + j]? = some z := by
  obtain ⟨po, pc, lo, lc, e, -, -⟩ := h
  injection e with e
  subst e
  refine ⟨rfl, rfl, rfl, rfl, rfl, fun j z hj => ?_⟩
  have hj' : j < 10 := (Array.getElem?_eq_some_iff.1 hj).1
  rcases (by omega : j = 0 ∨ j = 1 ∨ j = 2 ∨ j = 3 ∨ j = 4 ∨ j = 5 ∨ j = 6 ∨ j = 7 ∨ j = 8 ∨ j = 9) with rfl | rfl | rfl | rfl | rfl | rfl | rfl | rfl | rfl | rfl <;> exact hj

theorem typed_keeps {V V' : World} {S : Nat → Prop} {e f : TypeId} {g : Nat} {c : Array Value} (hne : e ≠ f) (hu : Upd (typed V S e) V V') (h : V.heap[g]? = some (.cells c f (0, 0))) : V'.heap[g]? = some (.cells c f (0, 0)) :=
  hu.keeps h (fun ⟨_, c', hc⟩ => by rw [h] at hc; simp at hc; exact hne hc.2.symm)
end Go.Proofs.Yteddhdbglciahaa
