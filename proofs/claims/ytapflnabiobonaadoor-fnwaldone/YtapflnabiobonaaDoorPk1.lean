/- Contracts and plain facts that the claims of this seat lean on (texts K, H, H2, H3, New, H4, H5, SOk, Ap, SFlush, Told, R, IOk, Ap2); no statement of the seat is proved here. -/
import Derived.WalkKit
import Derived.WalkSpells
import Derived.WalkLawsBesides
import Derived.BigQuiet
import Derived.Deep.QuietTactic
import Derived.Test.YtapflnabiobonaaDoorProg
import Derived.Deep.RegionWith
import Derived.Deep.OwnRows
import Derived.RangeFuncNested
import Derived.RangeFuncBound
import Derived.RangeFuncCalls
import Derived.RangeFuncLeaves
import Derived.Shelf.Abstract
import Derived.OwnWalkIn
import Derived.TacticsInMore
import Derived.LoopNIn
import Derived.LoopIn
import Derived.Deep.RegionLaw

/- Plain facts on worlds, slices in memory and texts of numbers, for the walks of this seat; no statement of the seat is proved here. -/
namespace Go.Proofs.YtapflnabiobonaaDoor
open Go.RowKit

theorem hide {p : Prop} (h : p) : Hid p := h
theorem unhide {p : Prop} (h : Hid p) : p := h

/-- Of the old blocks those in S alone may have turned. -/
structure Upd (S : Nat → Prop) (w w' : World) : Prop where
  os : w'.os = w.os
  tape : w'.tape = w.tape
  output : w'.output = w.output
  size : w.heap.size ≤ w'.heap.size
  block : ∀ k, k < w.heap.size → ¬ S k → w'.heap[k]? = w.heap[k]?

theorem Upd.refl (S : Nat → Prop) (w : World) : Upd S w w := ⟨rfl, rfl, rfl, Nat.le_refl _, fun _ _ _ => rfl⟩

theorem Upd.trans {S : Nat → Prop} {a b c : World} (h : Upd S a b) (k : Upd S b c) : Upd S a c :=
  ⟨k.os.trans h.os, k.tape.trans h.tape, k.output.trans h.output, Nat.le_trans h.size k.size,
    fun i hi hS => (k.block i (Nat.lt_of_lt_of_le hi h.size) hS).trans (h.block i hi hS)⟩

theorem Upd.mono {S T : Nat → Prop} {w w' : World} (h : Upd S w w') (hST : ∀ k, S k → T k) : Upd T w w' :=
  ⟨h.os, h.tape, h.output, h.size, fun k hk hT => h.block k hk (fun hs => hT (hST k hs))⟩

theorem Upd.ofBelow {S : Nat → Prop} {w w' : World} (h : Below w.heap.size w w') : Upd S w w' :=
  ⟨h.os, h.tape, h.output, h.size, fun k hk _ => h.block k hk⟩

theorem Upd.below {S : Nat → Prop} {w w' : World} (h : Upd S w w') {B : Nat} (hB : B ≤ w.heap.size) (hS : ∀ k, S k → B ≤ k) : Below B w w' :=
  ⟨h.os, h.tape, h.output, h.size, fun k hk => h.block k (by omega) (fun hs => by have := hS k hs; omega)⟩

theorem Upd.belowAll {S : Nat → Prop} {w w' : World} (h : Upd S w w') (hS : ∀ k, S k → w.heap.size ≤ k) : Below w.heap.size w w' :=
  h.below (Nat.le_refl _) hS

theorem Upd.setCell {S : Nat → Prop} (w : World) (g j : Nat) (u : Value) (hS : S g) : Upd S w (w.setCell ⟨g, j, none⟩ u) :=
  ⟨rfl, rfl, rfl, by simp, fun k _ hk => Below.heap_setCell _ _ _ _ (fun e => hk (by subst e; exact hS))⟩

theorem bAll {a b c : World} (h : Below a.heap.size a b) (k : Below b.heap.size b c) : Below a.heap.size a c :=
  h.trans (k.mono h.size)

theorem bCells {W w1 : World} (hb : Below W.heap.size W w1) : (∀ b o, b < W.heap.size → w1.cell? ⟨b, o, none⟩ = W.cell? ⟨b, o, none⟩) ∧ (∀ b o, b < W.heap.size → w1.frozen? ⟨b, o, none⟩ = W.frozen? ⟨b, o, none⟩) :=
  ⟨fun b o h => hb.cell (p := ⟨b, o, none⟩) h, fun b o h => hb.frozen (p := ⟨b, o, none⟩) h⟩

theorem bAllTo {a b c : World} (h : Below a.heap.size a b) (k : Below b.heap.size b c) : Below a.heap.size a c := bAll h k
theorem bUndrew {B : Nat} {w w' : World} (h : Below B w.drew w') : Below B w w' := ⟨h.os, h.tape, h.output, h.size, h.block⟩
theorem bUndrewN {B n : Nat} {w w' : World} (h : Below B (w.drewN n) w') : Below B w w' := ⟨h.os, h.tape, h.output, h.size, h.block⟩

theorem bKeeps {W w1 : World} (hb : Below W.heap.size W w1) {g : Nat} {o : Obj} (h : W.heap[g]? = some o) : w1.heap[g]? = some o :=
  (hb.block g (Array.getElem?_eq_some_iff.1 h).1).trans h

theorem Upd.keeps {S : Nat → Prop} {W w1 : World} (hb : Upd S W w1) {g : Nat} {o : Obj} (h : W.heap[g]? = some o) (hS : ¬ S g) : w1.heap[g]? = some o :=
  (hb.block g (Array.getElem?_eq_some_iff.1 h).1 hS).trans h

theorem heap_lt {w : World} {g : Nat} {o : Obj} (h : w.heap[g]? = some o) : g < w.heap.size := (Array.getElem?_eq_some_iff.1 h).1

theorem al1_0 (w : World) (a : Obj) : (w.alloc a).heap[w.heap.size]? = some a := heap_alloc_new w a
theorem al2_0 (w : World) (a b : Obj) : ((w.alloc a).alloc b).heap[w.heap.size]? = some a := (Below.heap_alloc _ _ _ (by simp)).trans (al1_0 w a)
theorem al2_1 (w : World) (a b : Obj) : ((w.alloc a).alloc b).heap[w.heap.size + 1]? = some b := by have := al1_0 (w.alloc a) b; rwa [World.size_alloc] at this
theorem al3_0 (w : World) (a b c : Obj) : (((w.alloc a).alloc b).alloc c).heap[w.heap.size]? = some a := (Below.heap_alloc _ _ _ (by simp; omega)).trans (al2_0 w a b)
theorem al3_1 (w : World) (a b c : Obj) : (((w.alloc a).alloc b).alloc c).heap[w.heap.size + 1]? = some b := (Below.heap_alloc _ _ _ (by simp)).trans (al2_1 w a b)
theorem al3_2 (w : World) (a b c : Obj) : (((w.alloc a).alloc b).alloc c).heap[w.heap.size + 1 + 1]? = some c := by have := al2_1 (w.alloc a) b c; rwa [World.size_alloc] at this

/-! ### Slices in memory -/

/-- What a slice reads: n elements of 'size' cells each, the cells cs. -/
def RowR (w : World) (size : Nat) (v : Value) (n : Nat) (cs : List Value) : Prop :=
  ∃ ao cap, v = .slice ao n cap ∧ n ≤ 9223372036854775807 ∧ cs.length = n * size ∧
    (0 < n → ∃ b off, ao = some ⟨b, off, none⟩ ∧ ∀ j u, cs[j]? = some u → w.cell? ⟨b, off + j, none⟩ = some u)

/-- A slice in a row of its own, whose block is in S. -/
def Row (w : World) (e : TypeId) (size : Nat) (S : Nat → Prop) (v : Value) (n : Nat) (cs : List Value) : Prop :=
  ∃ ao cap, v = .slice ao n cap ∧ n ≤ 9223372036854775807 ∧ cs.length = n * size ∧
    (0 < n → ∃ g cur, ao = some ⟨g, 0, none⟩ ∧ S g ∧ w.heap[g]? = some (.cells cur e (0, 0)) ∧ cur.toList.take (n * size) = cs)

theorem Row.reads {w : World} {e : TypeId} {size : Nat} {S : Nat → Prop} {v : Value} {n : Nat} {cs : List Value} (h : Row w e size S v n cs) : RowR w size v n cs := by
  obtain ⟨ao, cap, rfl, hn, hl, h⟩ := h
  refine ⟨ao, cap, rfl, hn, hl, fun h0 => ?_⟩
  obtain ⟨g, cur, rfl, _, hg, ht⟩ := h h0
  refine ⟨g, 0, rfl, fun j u hj => ?_⟩
  rw [Nat.zero_add, cell_of_row w g j cur e (0, 0) hg]
  subst ht
  have hj' := (List.getElem?_eq_some_iff.1 hj).1
  rw [List.getElem?_take_of_lt (by simp at hj'; omega)] at hj
  simpa using hj

theorem RowR.nil (w : World) (size : Nat) : RowR w size (.slice none 0 0) 0 [] := ⟨none, 0, rfl, by omega, by simp, fun h => by omega⟩
theorem Row.nil (w : World) (e : TypeId) (size : Nat) (S : Nat → Prop) : Row w e size S (.slice none 0 0) 0 [] := ⟨none, 0, rfl, by omega, by simp, fun h => by omega⟩

theorem RowR.keep {w w' : World} {size : Nat} {v : Value} {n : Nat} {cs : List Value} (h : RowR w size v n cs) (hb : Below w.heap.size w w') : RowR w' size v n cs := by
  obtain ⟨ao, cap, rfl, hn, hl, h⟩ := h
  refine ⟨ao, cap, rfl, hn, hl, fun h0 => ?_⟩
  obtain ⟨b, off, rfl, hc⟩ := h h0
  exact ⟨b, off, rfl, fun j u hj => (hb.cell (p := ⟨b, off + j, none⟩) (World.block_lt_of_cell? w _ (hc j u hj))).trans (hc j u hj)⟩

theorem Row.keep {w w' : World} {e : TypeId} {size : Nat} {S T : Nat → Prop} {v : Value} {n : Nat} {cs : List Value} (h : Row w e size S v n cs) (hb : Upd T w w') (hST : ∀ k, S k → ¬ T k) : Row w' e size S v n cs := by
  obtain ⟨ao, cap, rfl, hn, hl, h⟩ := h
  refine ⟨ao, cap, rfl, hn, hl, fun h0 => ?_⟩
  obtain ⟨g, cur, rfl, hS, hg, ht⟩ := h h0
  exact ⟨g, cur, rfl, hS, hb.keeps hg (hST g hS), ht⟩

theorem Row.keepB {w w' : World} {e : TypeId} {size : Nat} {S : Nat → Prop} {v : Value} {n : Nat} {cs : List Value} (h : Row w e size S v n cs) (hb : Below w.heap.size w w') : Row w' e size S v n cs :=
  h.keep (T := fun _ => False) (Upd.ofBelow hb) (fun _ _ h => h)

theorem Row.mono {w : World} {e : TypeId} {size : Nat} {S T : Nat → Prop} {v : Value} {n : Nat} {cs : List Value} (h : Row w e size S v n cs) (hST : ∀ k, k < w.heap.size → S k → T k) : Row w e size T v n cs := by
  obtain ⟨ao, cap, rfl, hn, hl, h⟩ := h
  refine ⟨ao, cap, rfl, hn, hl, fun h0 => ?_⟩
  obtain ⟨g, cur, rfl, hS, hg, ht⟩ := h h0
  exact ⟨g, cur, rfl, hST g (heap_lt hg) hS, hg, ht⟩

theorem Row.len {w : World} {e : TypeId} {size : Nat} {S : Nat → Prop} {v : Value} {n : Nat} {cs : List Value} (h : Row w e size S v n cs) : cs.length = n * size := by
  obtain ⟨_, _, _, _, hl, _⟩ := h; exact hl

/-! ### The texts of marks -/
def dgt (k : Nat) : UInt8 := 48 + UInt8.ofNat (k % 10)
def dg : Nat → Nat → ByteArray → ByteArray
  | 0, _, out => out
  | f + 1, k, out => if k = 0 then out else dg f (k / 10) (⟨#[dgt k]⟩ ++ out)
def mtxt (k : Nat) : ByteArray := ⟨#[109]⟩ ++ dg k k ⟨#[]⟩

theorem dg_irrel : ∀ (f g k : Nat) (out : ByteArray), k ≤ f → k ≤ g → dg f k out = dg g k out
  | 0, 0, _, _, _, _ => rfl
  | 0, g + 1, k, out, h, _ => by
    obtain rfl : k = 0 := by omega
    simp [dg]
  | f + 1, 0, k, out, _, h => by
    obtain rfl : k = 0 := by omega
    simp [dg]
  | f + 1, g + 1, k, out, h1, h2 => by
    simp only [dg]
    split
    · rfl
    · exact dg_irrel f g _ _ (by omega) (by omega)

theorem dg_step (k : Nat) (out : ByteArray) (h : 0 < k) : dg k k out = dg (k / 10) (k / 10) (⟨#[dgt k]⟩ ++ out) := by
  obtain ⟨j, rfl⟩ : ∃ j, k = j + 1 := ⟨k - 1, by omega⟩
  rw [dg, if_neg (by omega)]
  exact dg_irrel _ _ _ _ (by omega) (by omega)

theorem run_byte_string {P : Program} (src dst e : TypeId) (hs : P.underlying src = some (.slice e)) (he : P.underlying e = some (.int .u8)) (hd : P.underlying dst = some .string) (w : World) (n : Int) :
    (convert src dst (.slice (some ⟨w.heap.size, 0, none⟩) 1 1)).run P (w.alloc (.cells #[.int .u8 n] e)) = .ok (.string ⟨#[UInt8.ofNat n.toNat]⟩) (w.alloc (.cells #[.int .u8 n] e)) := by
  rw [run_convert_bytes_string _ _ _ e _ _ _ hs he hd, run_bytesToString _ _ _ _ [n]]
  · rfl
  · simp [loadCells, loadCellsFrom, go_sem]

theorem ret_int {k : IntKind} {a b : Int} (h : a = b) : Ending.returned (.int k a) = .returned (.int k b) := by rw [h]
theorem val_int {k : IntKind} {a b : Int} (h : a = b) : Value.int k a = Value.int k b := by rw [h]

end Go.Proofs.YtapflnabiobonaaDoor

/- What the laws' own helpers do (marks, comparisons of slices): contracts; no statement of the seat is proved here. -/
namespace Go.Proofs.YtapflnabiobonaaDoor
open Go.RowKit

set_option maxRecDepth 100000 in
set_option maxHeartbeats 1000000 in
theorem markText_any (k0 : Nat) (w : World) (h1 : 1 ≤ k0) (h2 : k0 ≤ 1099511627776) :
    Calls Tryd.prog 42 #[.int .i64 k0] w fun e w' => e = .returned (.string (mtxt k0)) ∧ Below w.heap.size w w' := by
  have HM : Hid (mtxt k0 = ⟨#[109]⟩ ++ dg k0 k0 ⟨#[]⟩) := by show mtxt k0 = _; simp [mtxt]
  obtain ⟨T, hT⟩ : ∃ T, T = dg k0 k0 ⟨#[]⟩ := ⟨_, rfl⟩
  have HT : Hid (T = dg k0 k0 ⟨#[]⟩) := hT
  clear hT
  have hcv := fun w n => run_byte_string (P := Tryd.prog) 46 9 5 Tryd.underlying46 Tryd.underlying5 Tryd.underlying9 w n
  go_enter Tryd.func42, Tryd.ntmps42
  go_wp2
  go_loopw [0, 3] (fun kv ov wr => ∃ (k : Nat) (out : ByteArray), k ≤ k0 ∧ kv = .int .i64 k ∧ ov = .string out ∧ out.size + k ≤ k0 ∧ dg k k out = T ∧ Below w.heap.size w wr) (fun kv _ _ => (intOf kv).toNat)
  case atStart => exact ⟨k0, ⟨#[]⟩, Nat.le_refl _, rfl, rfl, by show 0 + k0 ≤ k0; omega, HT.out.symm, Below.refl _ _⟩
  case round =>
    obtain ⟨k, out, hk, rfl, rfl, hs, hd, hb⟩ := hrel
    have HD : Hid (dg k k out = T) := hd
    clear hd
    by_cases hp : 0 < k
    · go_wp2
      go_roundw
      case rel => exact ⟨k / 10, _, by omega, by go_num, rfl, by simp only [ByteArray.size_append]; show 1 + out.size + k / 10 ≤ k0; omega, by rw [← HD.out, dg_step k out hp]; rfl, hb.alloc hb.size _⟩
      case measure => simp [intOf]; omega
    · go_wp2
      go_ret
      obtain rfl : k = 0 := by omega
      refine ⟨?_, hb⟩
      rw [HM.out, ← HT.out, ← HD.out]
      rfl

theorem markText_at (a : Int) (k0 : Nat) (w : World) (ha : a = k0) (h1 : 1 ≤ k0) (h2 : k0 ≤ 1099511627776) :
    Calls Tryd.prog 42 #[.int .i64 a] w fun e w' => e = .returned (.string (mtxt k0)) ∧ Below w.heap.size w w' := by
  subst ha
  exact markText_any k0 w h1 h2

set_option maxHeartbeats 400000 in
theorem eqStringS_true (va vb : Value) (n : Nat) (ss : List ByteArray) (w : World) (ha : RowR w 1 va n (ss.map Value.string)) (hb : RowR w 1 vb n (ss.map Value.string)) :
    Calls Tryd.prog 13 #[va, vb] w fun e w' => e = .returned (.bool true) ∧ Below w.heap.size w w' := by
  obtain ⟨ao, ca, rfl, hn, hl, ha⟩ := ha
  obtain ⟨bo, cb, rfl, _, _, hb⟩ := hb
  go_enter Tryd.func13, Tryd.ntmps13
  go_wp2
  go_loopw [5] (fun i wr => ∃ k : Nat, k ≤ n ∧ i = .int .i64 k ∧ Below w.heap.size w wr) (fun i _ => n - (intOf i).toNat)
  case atStart => exact ⟨0, Nat.zero_le _, rfl, Below.refl _ _⟩
  case round =>
    obtain ⟨k, hk, rfl, hbel⟩ := hrel
    by_cases hlt : k < n
    · obtain ⟨b1, o1, rfl, hc1⟩ := ha (by omega)
      obtain ⟨b2, o2, rfl, hc2⟩ := hb (by omega)
      obtain ⟨s, hs⟩ : ∃ s, (ss.map Value.string)[k]? = some (.string s) := by
        simp only [List.length_map, Nat.mul_one] at hl
        exact ⟨ss[k]'(by omega), by simp [show k < ss.length by omega]⟩
      have g1 := hc1 k _ hs
      have g2 := hc2 k _ hs
      have f1 : wr.cell? ⟨b1, o1 + k, none⟩ = some (.string s) := (hbel.cell (p := ⟨b1, o1 + k, none⟩) (World.block_lt_of_cell? w _ g1)).trans g1
      have f2 : wr.cell? ⟨b2, o2 + k, none⟩ = some (.string s) := (hbel.cell (p := ⟨b2, o2 + k, none⟩) (World.block_lt_of_cell? w _ g2)).trans g2
      have hi : (k : Int) < (n : Int) := by omega
      clear ha hb hc1 hc2 hs g1 g2 hl
      go_wp2
      go_quiet (fail)
      go_wp2
      go_roundw
      case rel => exact ⟨k + 1, by omega, by go_num, below_drewN hbel _⟩
      case measure => simp [intOf]; omega
    · go_wp2
      go_ret
      exact ⟨rfl, hbel⟩

/-- The marks of n texts from k on. -/
def mkS (k n : Nat) : List ByteArray := (List.range n).map fun i => mtxt (k + i)

theorem mkS_get (k n i : Nat) (h : i < n) : (mkS k n)[i]? = some (mtxt (k + i)) := by simp [mkS, h]

theorem row_set {w : World} {e : TypeId} {g j : Nat} {cur : Array Value} (u : Value) (hg : w.heap[g]? = some (.cells cur e (0, 0))) :
    (w.setCell ⟨g, j, none⟩ u).heap[g]? = some (.cells (cur.setIfInBounds j u) e (0, 0)) := heap_setCell_same w g j cur e u hg

set_option maxHeartbeats 400000 in
theorem markStringS_any (S : Nat → Prop) (v : Value) (n : Nat) (cs : List Value) (k0 : Nat) (w : World) (hr : Row w 9 1 S v n cs) (h1 : 1 ≤ k0) (h2 : k0 + n ≤ 1099511627776) :
    Calls Tryd.prog 16 #[v, .int .i64 k0] w fun e w' => e = .returned (.int .i64 (k0 + n : Nat)) ∧ Row w' 9 1 S v n ((mkS k0 n).map Value.string) ∧ Upd S w w' := by
  obtain ⟨ao, cap, rfl, hn, hl, hr⟩ := hr
  rcases Nat.eq_zero_or_pos n with rfl | hpos
  · go_enter Tryd.func16, Tryd.ntmps16
    go_wp2
    refine wp_loop_rounds 1 ?_
    rw [rounds_succ]
    go_wp2
    go_ret
    exact ⟨rfl, ⟨ao, cap, rfl, hn, by simp [mkS], fun h => by omega⟩, Upd.refl _ _⟩
  · obtain ⟨g, cur, rfl, hS, hg, ht⟩ := hr hpos
    have hcs : n ≤ cur.size := by
      have := congrArg List.length ht
      simp [hl] at this
      omega
    clear hr ht hl
    go_enter Tryd.func16, Tryd.ntmps16
    go_wp2
    go_loopw [1, 5] (fun kv i wr => ∃ (k : Nat) (cur' : Array Value), k ≤ n ∧ i = .int .i64 k ∧ kv = .int .i64 (k0 + k : Nat) ∧ wr.heap[g]? = some (.cells cur' 9 (0, 0)) ∧ cur'.size = cur.size ∧ (∀ j, j < k → cur'[j]? = some (.string (mtxt (k0 + j)))) ∧ Upd S w wr) (fun _ i _ => n - (intOf i).toNat)
    case atStart => exact ⟨0, cur, Nat.zero_le _, rfl, rfl, hg, rfl, fun j hj => by omega, Upd.refl _ _⟩
    case round =>
      obtain ⟨k, cur', hk, rfl, rfl, hgr, hsz, hmk, hup⟩ := hrel
      by_cases hlt : k < n
      · have hi : (k : Int) < (n : Int) := by omega
        have HM : Hid (∀ j, j < k → cur'[j]? = some (.string (mtxt (k0 + j)))) := hmk
        clear hmk
        obtain ⟨u, hu⟩ : ∃ u, cur'[k]? = some u := ⟨cur'[k]'(by omega), by simp [show k < cur'.size by omega]⟩
        go_wp2_with (go_at_call 42; refine (markText_any _ _ (by omega) (by omega)).mono ?_; rintro e w1 ⟨rfl, hbm⟩; have hgw := bKeeps hbm hgr; have hcw : w1.cell? ⟨g, k, none⟩ = some u := (cell_of_row w1 g k cur' _ (0, 0) hgw).trans hu; have hfw : w1.frozen? ⟨g, k, none⟩ = false := frozen_of_row w1 g k cur' _ hgw)
        go_roundw
        case rel =>
          refine ⟨k + 1, cur'.setIfInBounds k (.string (mtxt (k0 + k))), by omega, by go_num, by go_num, row_set _ hgw, by simpa using hsz, fun j hj => ?_, (hup.trans (Upd.ofBelow hbm)).trans (Upd.setCell _ _ _ _ hS)⟩
          by_cases hjk : j = k
          · subst hjk
            simp [show j < cur'.size by omega]
          · rw [Array.getElem?_setIfInBounds_ne (by omega)]
            exact HM.out j (by omega)
        case measure => simp [intOf]; omega
      · go_wp2
        go_ret
        obtain rfl : k = n := by omega
        refine ⟨rfl, ⟨_, cap, rfl, hn, by simp [mkS], fun _ => ⟨g, cur', rfl, hS, hgr, ?_⟩⟩, hup⟩
        apply List.ext_getElem?
        intro j
        by_cases hj : j < k
        · rw [List.getElem?_take_of_lt (by omega)]
          simpa [mkS, hj] using hmk j hj
        · rw [List.getElem?_eq_none (by simp; omega), List.getElem?_eq_none (by simp [mkS]; omega)]

set_option maxHeartbeats 400000 in
theorem heldStringS_ok (v : Value) (n k0 : Nat) (w : World) (hr : RowR w 1 v n ((mkS k0 n).map Value.string)) (h1 : 1 ≤ k0) (h2 : k0 + n ≤ 1099511627776) :
    Calls Tryd.prog 17 #[v, .int .i64 k0] w fun e w' => e = .returned (.int .i64 (k0 + n : Nat)) ∧ Below w.heap.size w w' := by
  obtain ⟨ao, cap, rfl, hn, hl, hr⟩ := hr
  clear hl
  go_enter Tryd.func17, Tryd.ntmps17
  go_wp2
  go_loopw [1, 5] (fun kv i wr => ∃ k m : Nat, k ≤ n ∧ m = k0 + k ∧ i = .int .i64 k ∧ kv = .int .i64 (m : Nat) ∧ Below w.heap.size w wr) (fun _ i _ => n - (intOf i).toNat)
  case atStart => exact ⟨0, k0, Nat.zero_le _, rfl, rfl, rfl, Below.refl _ _⟩
  case round =>
    obtain ⟨k, m, hk, hm, rfl, rfl, hbel⟩ := hrel
    have Hm : Hid (m = k0 + k) := hm
    have hm1 : 1 ≤ m := by omega
    have hm2 : m ≤ 1099511627776 := by omega
    clear hm
    by_cases hlt : k < n
    · obtain ⟨b1, o1, rfl, hc1⟩ := hr (by omega)
      have g1 := hc1 k (.string (mtxt m)) (by rw [Hm.out]; simp [mkS, hlt])
      have hlb : b1 < w.heap.size := World.block_lt_of_cell? w _ g1
      have f1 : wr.cell? ⟨b1, o1 + k, none⟩ = some (.string (mtxt m)) := (hbel.cell (p := ⟨b1, o1 + k, none⟩) hlb).trans g1
      have hi : (k : Int) < (n : Int) := by omega
      have hsz := hbel.size
      clear hr hc1 g1
      go_wp2
      go_region_with (go_at_call 42; refine (markText_any _ _ hm1 hm2).mono ?_; rintro e w1 ⟨rfl, hbm⟩; have hbm' : Below wr.heap.size wr w1 := bUndrew hbm; have f2 : w1.cell? ⟨b1, o1 + k, none⟩ = some (.string (mtxt m)) := (hbm'.cell (p := ⟨b1, o1 + k, none⟩) (by show b1 < wr.heap.size; omega)).trans f1)
      all_goals
        go_wp2
        go_roundw
        case rel => exact ⟨k + 1, m + 1, by omega, by rw [Hm.out]; omega, by go_num, by go_num, bAllTo hbel hbm'⟩
        case measure => simp [intOf]; omega
    · go_wp2
      go_ret
      obtain rfl : k = n := by omega
      exact ⟨by rw [Hm.out]; rfl, hbel⟩

/-- The cells of writes. -/
def wcell (x : Int × ByteArray) : List Value := [.int .i64 x.1, .string x.2]
def wcells (xs : List (Int × ByteArray)) : List Value := xs.flatMap wcell
theorem wcells_len (xs : List (Int × ByteArray)) : (wcells xs).length = xs.length * 2 := by
  induction xs with
  | nil => rfl
  | cons x xs ih => simp only [wcells, List.flatMap_cons, List.length_append, wcell, List.length_cons, List.length_nil] at ih ⊢; omega
theorem wcells_at (xs : List (Int × ByteArray)) (i : Nat) (x : Int × ByteArray) (h : xs[i]? = some x) : (wcells xs)[2 * i]? = some (.int .i64 x.1) ∧ (wcells xs)[2 * i + 1]? = some (.string x.2) := by
  induction xs generalizing i with
  | nil => simp at h
  | cons y ys ih =>
    cases i with
    | zero => simp at h; subst h; simp [wcells, wcell]
    | succ i =>
      have := ih i (by simpa using h)
      simp only [wcells, List.flatMap_cons, wcell, List.cons_append, List.nil_append] at this ⊢
      rw [show 2 * (i + 1) = 2 * i + 1 + 1 by omega]
      simpa using this

set_option maxHeartbeats 400000 in
theorem eqSecWrite_true (x : Int × ByteArray) (w : World) :
    Calls Tryd.prog 72 #[.agg #[.int .i64 x.1, .string x.2], .agg #[.int .i64 x.1, .string x.2]] w fun e w' => e = .returned (.bool true) ∧ Below w.heap.size w w' := by
  obtain ⟨a, s⟩ := x
  go_enter Tryd.func72, Tryd.ntmps72
  go_wp2
  go_ret
  exact ⟨rfl, ((Below.refl _ _).alloc (Nat.le_refl _) _).alloc (by simp) _⟩

set_option maxHeartbeats 400000 in
theorem eqSecWriteS_true (va vb : Value) (n : Nat) (xs : List (Int × ByteArray)) (w : World) (ha : RowR w 2 va n (wcells xs)) (hb : RowR w 2 vb n (wcells xs)) :
    Calls Tryd.prog 40 #[va, vb] w fun e w' => e = .returned (.bool true) ∧ Below w.heap.size w w' := by
  obtain ⟨ao, ca, rfl, hn, hl, ha⟩ := ha
  obtain ⟨bo, cb, rfl, _, _, hb⟩ := hb
  rw [wcells_len] at hl
  go_enter Tryd.func40, Tryd.ntmps40
  go_wp2
  go_loopw [5] (fun i wr => ∃ k : Nat, k ≤ n ∧ i = .int .i64 k ∧ Below w.heap.size w wr) (fun i _ => n - (intOf i).toNat)
  case atStart => exact ⟨0, Nat.zero_le _, rfl, Below.refl _ _⟩
  case round =>
    obtain ⟨k, hk, rfl, hbel⟩ := hrel
    by_cases hlt : k < n
    · obtain ⟨b1, o1, rfl, hc1⟩ := ha (by omega)
      obtain ⟨b2, o2, rfl, hc2⟩ := hb (by omega)
      obtain ⟨x, hx⟩ : ∃ x, xs[k]? = some x := ⟨xs[k]'(by omega), by simp [show k < xs.length by omega]⟩
      obtain ⟨e0, e1⟩ := wcells_at xs k x hx
      obtain ⟨a, s⟩ := x
      have g1 := hc1 _ _ e0
      have g2 := hc1 _ _ e1
      have g3 := hc2 _ _ e0
      have g4 := hc2 _ _ e1
      have l1 : b1 < w.heap.size := World.block_lt_of_cell? w _ g1
      have l2 : b2 < w.heap.size := World.block_lt_of_cell? w _ g3
      have f1 : wr.cell? ⟨b1, o1 + k * 2, none⟩ = some (.int .i64 a) := by rw [Nat.mul_comm k 2]; exact (hbel.cell (p := ⟨b1, o1 + 2 * k, none⟩) l1).trans g1
      have f2 : wr.cell? ⟨b1, o1 + k * 2 + 1, none⟩ = some (.string s) := by rw [Nat.mul_comm k 2]; exact (hbel.cell (p := ⟨b1, o1 + (2 * k + 1), none⟩) l1).trans g2
      have f3 : wr.cell? ⟨b2, o2 + k * 2, none⟩ = some (.int .i64 a) := by rw [Nat.mul_comm k 2]; exact (hbel.cell (p := ⟨b2, o2 + 2 * k, none⟩) l2).trans g3
      have f4 : wr.cell? ⟨b2, o2 + k * 2 + 1, none⟩ = some (.string s) := by rw [Nat.mul_comm k 2]; exact (hbel.cell (p := ⟨b2, o2 + (2 * k + 1), none⟩) l2).trans g4
      have hi : (k : Int) < (n : Int) := by omega
      clear ha hb hc1 hc2 hx g1 g2 g3 g4 e0 e1 hl
      go_wp2
      go_region_with (go_at_call 72; refine (eqSecWrite_true (a, s) _).mono ?_; rintro e w1 ⟨rfl, hbm⟩; have hbm' : Below wr.heap.size wr w1 := bUndrew hbm)
      all_goals
        go_wp2
        go_roundw
        case rel => exact ⟨k + 1, by omega, by go_num, bAllTo hbel hbm'⟩
        case measure => simp [intOf]; omega
    · go_wp2
      go_ret
      exact ⟨rfl, hbel⟩

end Go.Proofs.YtapflnabiobonaaDoor

/- What the laws' own helpers do with slices of writes and with disks: contracts; no statement of the seat is proved here. -/
namespace Go.Proofs.YtapflnabiobonaaDoor
open Go.RowKit

/-- The marks of n writes from k on. -/
def mkW (k n : Nat) : List (Int × ByteArray) := (List.range n).map fun i => (((k + 2 * i : Nat) : Int), mtxt (k + 2 * i + 1))

theorem mkW_get (k n i : Nat) (h : i < n) : (mkW k n)[i]? = some (((k + 2 * i : Nat) : Int), mtxt (k + 2 * i + 1)) := by simp [mkW, h]
theorem mkW_len (k n : Nat) : (mkW k n).length = n := by simp [mkW]
theorem mkS_len (k n : Nat) : (mkS k n).length = n := by simp [mkS]

/-- A list of cells that holds the marks at every place is the marks' list. -/
theorem wcells_ext (k n : Nat) (cs : List Value) (hl : cs.length = n * 2) (h : ∀ j, j < n → cs[2 * j]? = some (.int .i64 (k + 2 * j : Nat)) ∧ cs[2 * j + 1]? = some (.string (mtxt (k + 2 * j + 1)))) : cs = wcells (mkW k n) := by
  apply List.ext_getElem?
  intro j
  by_cases hj : j < n * 2
  · have hh := h (j / 2) (by omega)
    have hw := wcells_at (mkW k n) (j / 2) _ (mkW_get k n (j / 2) (by omega))
    rcases Nat.mod_two_eq_zero_or_one j with e | e
    · rw [show 2 * (j / 2) = j by omega] at hh hw
      rw [hh.1, hw.1]
    · rw [show 2 * (j / 2) + 1 = j by omega] at hh hw
      rw [hh.2, hw.2]
  · rw [List.getElem?_eq_none (by omega), List.getElem?_eq_none (by rw [wcells_len, mkW_len]; omega)]

set_option maxHeartbeats 1000000 in
theorem markSecWriteS_any (S : Nat → Prop) (v : Value) (n : Nat) (cs : List Value) (k0 : Nat) (w : World) (hr : Row w 63 2 S v n cs) (h1 : 1 ≤ k0) (h2 : k0 + 2 * n ≤ 1099511627776) :
    Calls Tryd.prog 41 #[v, .int .i64 k0] w fun e w' => e = .returned (.int .i64 (k0 + 2 * n : Nat)) ∧ Row w' 63 2 S v n (wcells (mkW k0 n)) ∧ Upd S w w' := by
  obtain ⟨ao, cap, rfl, hn, hl, hr⟩ := hr
  rcases Nat.eq_zero_or_pos n with rfl | hpos
  · go_enter Tryd.func41, Tryd.ntmps41
    go_wp2
    refine wp_loop_rounds 1 ?_
    rw [rounds_succ]
    go_wp2
    go_ret
    exact ⟨rfl, ⟨ao, cap, rfl, hn, by simp [mkW, wcells], fun h => by omega⟩, Upd.refl _ _⟩
  · obtain ⟨g, cur, rfl, hS, hg, ht⟩ := hr hpos
    have hcs : n * 2 ≤ cur.size := by
      have := congrArg List.length ht
      rw [hl] at this
      simp at this
      omega
    clear hr ht hl
    go_enter Tryd.func41, Tryd.ntmps41
    go_wp2
    go_loopw [1, 5] (fun kv i wr => ∃ (k m : Nat) (cur' : Array Value), k ≤ n ∧ m = k0 + 2 * k ∧ i = .int .i64 k ∧ kv = .int .i64 (m : Nat) ∧ wr.heap[g]? = some (.cells cur' 63 (0, 0)) ∧ cur'.size = cur.size ∧ (∀ j, j < k → cur'[2 * j]? = some (.int .i64 (k0 + 2 * j : Nat)) ∧ cur'[2 * j + 1]? = some (.string (mtxt (k0 + 2 * j + 1)))) ∧ Upd S w wr) (fun _ i _ => n - (intOf i).toNat)
    case atStart => exact ⟨0, k0, cur, Nat.zero_le _, rfl, rfl, rfl, hg, rfl, fun j hj => by omega, Upd.refl _ _⟩
    case round =>
      obtain ⟨k, m, cur', hk, hm, rfl, rfl, hgr, hsz, hmk, hup⟩ := hrel
      have Hm : Hid (m = k0 + 2 * k) := hm
      have HM : Hid (∀ j, j < k → cur'[2 * j]? = some (.int .i64 (k0 + 2 * j : Nat)) ∧ cur'[2 * j + 1]? = some (.string (mtxt (k0 + 2 * j + 1)))) := hmk
      clear hmk
      have HS : Hid (cur'.size = cur.size) := hsz
      have hs1 : n * 2 ≤ cur'.size := by omega
      by_cases hlt : k < n
      · have hi : (k : Int) < (n : Int) := by omega
        have hm1 : 1 ≤ m := by omega
        have hm2 : m + 1 ≤ 1099511627776 := by omega
        clear hm hsz
        obtain ⟨u, hu⟩ : ∃ u, cur'[k * 2]? = some u := ⟨cur'[k * 2]'(by omega), by simp [show k * 2 < cur'.size by omega]⟩
        obtain ⟨u2, hu2⟩ : ∃ u2, cur'[k * 2 + 1]? = some u2 := ⟨cur'[k * 2 + 1]'(by omega), by simp [show k * 2 + 1 < cur'.size by omega]⟩
        have hcw : wr.cell? ⟨g, k * 2, none⟩ = some u := (cell_of_row wr g _ cur' _ (0, 0) hgr).trans hu
        have hfw : wr.frozen? ⟨g, k * 2, none⟩ = false := frozen_of_row wr g _ cur' _ hgr
        have hg1 := row_set (j := k * 2) (.int .i64 (m : Nat)) hgr
        have Hg1 : Hid ((wr.setCell ⟨g, k * 2, none⟩ (.int .i64 (m : Nat))).heap[g]? = _) := hg1
        clear hg1
        go_wp2_with fail
        refine (markText_at _ (m + 1) _ (by omega) (by omega) (by omega)).mono ?_
        rintro e w1 ⟨rfl, hbm⟩
        have hgw := bKeeps hbm Hg1.out
        have hcw1 : w1.cell? ⟨g, k * 2 + 1, none⟩ = some u2 := by rw [cell_of_row w1 g _ _ _ (0, 0) hgw, Array.getElem?_setIfInBounds_ne (by omega)]; exact hu2
        have hfw1 : w1.frozen? ⟨g, k * 2 + 1, none⟩ = false := frozen_of_row w1 g _ _ _ hgw
        have Hgw : Hid (w1.heap[g]? = some (.cells (cur'.setIfInBounds (k * 2) (.int .i64 (m : Nat))) 63 (0, 0))) := hgw
        clear hgw Hg1 hcw hfw hu hu2
        go_wp2
        go_roundw
        case rel =>
          refine ⟨k + 1, m + 2, _, by omega, by rw [Hm.out]; omega, by go_num, by go_num, row_set _ Hgw.out, by simpa using HS.out, fun j hj => ?_, ((hup.trans (Upd.setCell _ _ _ _ hS)).trans (Upd.ofBelow hbm)).trans (Upd.setCell _ _ _ _ hS)⟩
          by_cases hjk : j = k
          · subst hjk
            rw [Nat.mul_comm 2 j, Array.getElem?_setIfInBounds_ne (by omega), Array.getElem?_setIfInBounds_self_of_lt (by omega), Array.getElem?_setIfInBounds_self_of_lt (by simp; omega)]
            have := Hm.out
            exact ⟨by rw [show k0 + j * 2 = m by omega], by rw [show k0 + j * 2 + 1 = m + 1 by omega]⟩
          · have := HM.out j (by omega)
            rw [Array.getElem?_setIfInBounds_ne (by omega), Array.getElem?_setIfInBounds_ne (by omega), Array.getElem?_setIfInBounds_ne (by omega), Array.getElem?_setIfInBounds_ne (by omega)]
            exact this
        case measure => simp [intOf]; omega
      · go_wp2
        go_ret
        obtain rfl : k = n := by omega
        refine ⟨by rw [Hm.out]; rfl, ⟨_, cap, rfl, hn, by rw [wcells_len, mkW_len], fun _ => ⟨g, cur', rfl, hS, hgr, ?_⟩⟩, hup⟩
        refine wcells_ext k0 k _ (by simp; omega) (fun j hj => ?_)
        rw [List.getElem?_take_of_lt (by omega), List.getElem?_take_of_lt (by omega)]
        simpa using HM.out j hj

end Go.Proofs.YtapflnabiobonaaDoor

/- What the laws' own helpers do with disks: contracts; no statement of the seat is proved here. -/
namespace Go.Proofs.YtapflnabiobonaaDoor
open Go.RowKit

/-- A disk as it reads. -/
def DiskR (w : World) (v : Value) (kept : List ByteArray) (wait : List (Int × ByteArray)) : Prop :=
  ∃ vk vw, v = .agg #[vk, vw] ∧ RowR w 1 vk kept.length (kept.map Value.string) ∧ RowR w 2 vw wait.length (wcells wait)

/-- A disk in rows of its own, in blocks of S. -/
def DiskO (w : World) (S : Nat → Prop) (v : Value) (kept : List ByteArray) (wait : List (Int × ByteArray)) : Prop :=
  ∃ vk vw, v = .agg #[vk, vw] ∧ Row w 9 1 S vk kept.length (kept.map Value.string) ∧ Row w 63 2 S vw wait.length (wcells wait)

theorem DiskO.reads {w : World} {S : Nat → Prop} {v : Value} {kept : List ByteArray} {wait : List (Int × ByteArray)} (h : DiskO w S v kept wait) : DiskR w v kept wait := by
  obtain ⟨vk, vw, rfl, h1, h2⟩ := h
  exact ⟨vk, vw, rfl, h1.reads, h2.reads⟩

theorem DiskR.keep {w w' : World} {v : Value} {kept : List ByteArray} {wait : List (Int × ByteArray)} (h : DiskR w v kept wait) (hb : Below w.heap.size w w') : DiskR w' v kept wait := by
  obtain ⟨vk, vw, rfl, h1, h2⟩ := h
  exact ⟨vk, vw, rfl, h1.keep hb, h2.keep hb⟩

theorem DiskO.keep {w w' : World} {S T : Nat → Prop} {v : Value} {kept : List ByteArray} {wait : List (Int × ByteArray)} (h : DiskO w S v kept wait) (hb : Upd T w w') (hST : ∀ k, S k → ¬ T k) : DiskO w' S v kept wait := by
  obtain ⟨vk, vw, rfl, h1, h2⟩ := h
  exact ⟨vk, vw, rfl, h1.keep hb hST, h2.keep hb hST⟩

theorem DiskO.keepB {w w' : World} {S : Nat → Prop} {v : Value} {kept : List ByteArray} {wait : List (Int × ByteArray)} (h : DiskO w S v kept wait) (hb : Below w.heap.size w w') : DiskO w' S v kept wait := by
  obtain ⟨vk, vw, rfl, h1, h2⟩ := h
  exact ⟨vk, vw, rfl, h1.keepB hb, h2.keepB hb⟩

theorem DiskO.mono {w : World} {S T : Nat → Prop} {v : Value} {kept : List ByteArray} {wait : List (Int × ByteArray)} (h : DiskO w S v kept wait) (hST : ∀ k, k < w.heap.size → S k → T k) : DiskO w T v kept wait := by
  obtain ⟨vk, vw, rfl, h1, h2⟩ := h
  exact ⟨vk, vw, rfl, h1.mono hST, h2.mono hST⟩

/-- The blocks of S that are rows of a type. -/
def typed (w : World) (S : Nat → Prop) (e : TypeId) : Nat → Prop := fun k => S k ∧ ∃ cur, w.heap[k]? = some (.cells cur e (0, 0))

theorem typed_apart {w : World} {S T : Nat → Prop} {e f : TypeId} (h : e ≠ f) (k : Nat) (h1 : typed w S e k) : ¬ typed w T f k := by
  obtain ⟨_, c, hc⟩ := h1
  rintro ⟨_, c', hc'⟩
  rw [hc] at hc'
  simp at hc'
  exact h hc'.2

theorem Row.typed {w : World} {e : TypeId} {size : Nat} {S : Nat → Prop} {v : Value} {n : Nat} {cs : List Value} (h : Row w e size S v n cs) : Row w e size (typed w S e) v n cs := by
  obtain ⟨ao, cap, rfl, hn, hl, h⟩ := h
  refine ⟨ao, cap, rfl, hn, hl, fun h0 => ?_⟩
  obtain ⟨g, cur, rfl, hS, hg, ht⟩ := h h0
  exact ⟨g, cur, rfl, ⟨hS, cur, hg⟩, hg, ht⟩

set_option maxHeartbeats 400000 in
theorem eqSecDisk_true (va vb : Value) (kept : List ByteArray) (wait : List (Int × ByteArray)) (w : World) (ha : DiskR w va kept wait) (hb : DiskR w vb kept wait) :
    Calls Tryd.prog 14 #[va, vb] w fun e w' => e = .returned (.bool true) ∧ Below w.heap.size w w' := by
  obtain ⟨ak, aw, rfl, a1, a2⟩ := ha
  obtain ⟨bk, bw, rfl, b1, b2⟩ := hb
  have hal : Below w.heap.size w ((w.alloc (.cells #[ak, aw] 31)).alloc (.cells #[bk, bw] 31)) := ((Below.refl _ _).alloc (Nat.le_refl _) _).alloc (by simp) _
  have ka1 := a1.keep hal
  have ka2 := a2.keep hal
  have kb1 := b1.keep hal
  have kb2 := b2.keep hal
  obtain ⟨ao, ca, rfl, -⟩ := a1
  obtain ⟨ao2, ca2, rfl, -⟩ := a2
  obtain ⟨bo, cb, rfl, -⟩ := b1
  obtain ⟨bo2, cb2, rfl, -⟩ := b2
  go_enter Tryd.func14, Tryd.ntmps14
  go_wp2_with fail
  refine (eqStringS_true _ _ _ kept _ ka1 kb1).mono ?_
  rintro e w1 ⟨rfl, hb1⟩
  have ka2' := ka2.keep hb1
  have kb2' := kb2.keep hb1
  obtain ⟨hc, hf⟩ := bCells hb1
  have hz := hb1.size
  simp only [World.size_alloc] at hz
  go_wp2_with fail
  refine (eqSecWriteS_true _ _ _ wait _ ka2' kb2').mono ?_
  rintro e w2 ⟨rfl, hb2⟩
  go_wp2
  go_ret
  exact ⟨rfl, bAll (bAll hal hb1) hb2⟩

set_option maxHeartbeats 400000 in
theorem markSecDisk_any (S : Nat → Prop) (v : Value) (kept : List ByteArray) (wait : List (Int × ByteArray)) (k0 : Nat) (w : World) (h : DiskO w S v kept wait) (h1 : 1 ≤ k0) (h2 : k0 + kept.length + 2 * wait.length ≤ 1099511627776) :
    Calls Tryd.prog 15 #[v, .int .i64 k0] w fun e w' => e = .returned (.int .i64 (k0 + kept.length + 2 * wait.length : Nat)) ∧
      DiskO w' S v (mkS k0 kept.length) (mkW (k0 + kept.length) wait.length) ∧ Upd S w w' := by
  obtain ⟨ak, aw, rfl, a1, a2⟩ := h
  have hal : Below w.heap.size w (w.alloc (.cells #[ak, aw] 31)) := (Below.refl _ _).alloc (Nat.le_refl _) _
  have k1 := (a1.keepB hal).typed
  have k2 := (a2.keepB hal).typed
  have hbox : (w.alloc (.cells #[ak, aw] 31)).heap[w.heap.size]? = some (.cells #[ak, aw] 31 (0, 0)) := heap_alloc_new w _
  obtain ⟨ao, ca, rfl, -⟩ := a1
  obtain ⟨ao2, ca2, rfl, -⟩ := a2
  go_enter Tryd.func15, Tryd.ntmps15
  go_wp2_with fail
  refine (markStringS_any _ _ _ _ k0 _ k1 h1 (by omega)).mono ?_
  rintro e w1 ⟨rfl, r1, u1⟩
  have hbox1 := u1.keeps hbox (by rintro ⟨_, c, hc⟩; rw [hbox] at hc; simp at hc)
  have hc1 : w1.cell? ⟨w.heap.size, 1, none⟩ = some (.slice ao2 wait.length ca2) := (cell_of_row w1 _ 1 _ _ (0, 0) hbox1).trans rfl
  have q2 := ((k2.keep u1 (fun k => typed_apart (by decide) k)).mono (fun _ _ h => h.1)).typed
  have q1 := (r1.mono (T := S) (fun _ _ h => h.1)).typed
  clear hbox hbox1
  go_wp2_with fail
  refine (markSecWriteS_any _ _ _ _ (k0 + kept.length) _ q2 (by omega) (by omega)).mono ?_
  rintro e w2 ⟨rfl, r2, u2⟩
  go_wp2
  go_ret
  refine ⟨rfl, ⟨_, _, rfl, ?_, ?_⟩, ?_⟩
  · rw [mkS_len]
    exact (q1.keep u2 (fun k => typed_apart (by decide) k)).mono (fun _ _ h => h.1)
  · rw [mkW_len]
    exact r2.mono (fun _ _ h => h.1)
  · exact ((Upd.ofBelow hal).trans (u1.mono fun _ h => h.1)).trans (u2.mono fun _ h => h.1)

end Go.Proofs.YtapflnabiobonaaDoor

/- What SecNew does, in the specification and in the program: contracts; no statement of the seat is proved here. -/
namespace Go.Proofs.YtapflnabiobonaaDoor
open Go.RowKit

def inB (a b c : Int) : Bool := decide (b ≤ a) && decide (a ≤ c)

theorem l6In_any (a b c : Int) (w : World) :
    Calls Tryd.prog 76 #[.int .i64 a, .int .i64 b, .int .i64 c] w fun e w' => e = .returned (.bool (inB a b c)) ∧ w' = w := by
  by_cases h1 : b ≤ a
  · by_cases h2 : a ≤ c
    · go_enter Tryd.func76, Tryd.ntmps76
      go_wp2
      go_ret
      exact ⟨by simp [inB, h1, h2], rfl⟩
    · go_enter Tryd.func76, Tryd.ntmps76
      go_wp2
      go_ret
      exact ⟨by simp [inB]; omega, rfl⟩
  · go_enter Tryd.func76, Tryd.ntmps76
    go_wp2
    go_ret
    exact ⟨by simp [inB]; omega, rfl⟩

/-- The sectors of a new disk. -/
def newKept (a : Int) : List ByteArray := if inB a 0 512 = true then List.replicate a.toNat ⟨#[]⟩ else []

theorem infoStr : (Tryd.prog.info? 9).map (fun i => (i.zero, i.size, i.bytes)) = some (some (.string ⟨#[]⟩), 1, 16) := by kernel_rfl

/-- The row that make lays, as a row. -/
theorem Row.ofOwns {w : World} {base : Nat} {e : TypeId} {size : Nat} {v : Value} {n : Nat} {xs : List Value} (h : w.ownsRow base e size v n xs) (hn : n ≤ 9223372036854775807) : Row w e size (fun k => base ≤ k) v n xs := by
  obtain ⟨hl, h⟩ := h
  rcases h with ⟨rfl, rfl⟩ | ⟨g, cap, cur, rfl, hb, hg, _, _, _, ht⟩
  · exact ⟨none, 0, rfl, hn, hl, fun h => by omega⟩
  · exact ⟨_, cap, rfl, hn, hl, fun _ => ⟨g, cur, rfl, hb, hg, ht⟩⟩

/-- The row that make has just laid. -/
theorem Row.made (W : World) (e : TypeId) (z : Value) (n base : Nat) (hb : base ≤ W.heap.size) (hn : n ≤ 9223372036854775807) :
    Row (W.alloc (.cells (madeCells #[z] n) e)) e 1 (fun k => base ≤ k) (.slice (some ⟨W.heap.size, 0, none⟩) n n) n (List.replicate n z) := by
  refine ⟨_, n, rfl, hn, by simp, fun _ => ⟨_, _, rfl, hb, heap_alloc_new W _, ?_⟩⟩
  rw [toList_madeCells_one]
  exact List.take_of_length_le (by simp)

theorem newDisk (W : World) (base n : Nat) (hb : base ≤ W.heap.size) (hn : n ≤ 512) :
    DiskO (W.alloc (.cells (madeCells #[.string ⟨#[]⟩] n) 9)) (fun k => base ≤ k) (.agg #[.slice (some ⟨W.heap.size, 0, none⟩) n n, .slice none 0 0]) (List.replicate n ⟨#[]⟩) [] := by
  refine ⟨_, _, rfl, ?_, Row.nil _ _ _ _⟩
  simpa using Row.made W 9 (.string ⟨#[]⟩) n base hb (by omega)

set_option maxHeartbeats 400000 in
theorem specSecNew_any (a : Int) (w : World) :
    Calls Tryd.prog 98 #[.int .i64 a] w fun e w' => ∃ v, e = .returned v ∧ DiskO w' (fun k => w.heap.size ≤ k) v (newKept a) [] ∧ Below w.heap.size w w' := by
  by_cases h : inB a 0 512 = true
  · have hk : newKept a = List.replicate a.toNat ⟨#[]⟩ := by simp [newKept, h]
    rw [hk]
    clear hk
    have hb : 0 ≤ a ∧ a ≤ 512 := by simpa [inB] using h
    obtain ⟨n, rfl⟩ := Int.eq_ofNat_of_zero_le hb.1
    have hn : n ≤ 512 := by omega
    rw [Int.toNat_natCast]
    clear hb
    have hmk := run_make_row' (P := Tryd.prog) 22 9 (.string ⟨#[]⟩) 16 Tryd.underlying22 infoStr rfl .i64 .i64 n (by omega) (by omega)
    go_enter Tryd.func98, Tryd.ntmps98
    go_wp2_with (go_at_call 76; refine (l6In_any _ _ _ _).mono ?_; rintro e w' ⟨rfl, rfl⟩)
    refine bodyPost_ret (v := .agg #[.slice (some ⟨w.heap.size + 1, 0, none⟩) n n, .slice none 0 0]) (by simp [results, Tryd.results98, go_sem]) rfl ⟨_, rfl, ?_, ((Below.refl _ _).alloc (Nat.le_refl _) _).alloc (by simp) _⟩
    have := newDisk (w.alloc (.cells #[.slice (some ⟨w.heap.size + 1, 0, none⟩) n n, .slice none 0 0] 31)) w.heap.size n (by simp) hn
    rw [World.size_alloc] at this
    exact this
  · have h0 : inB a 0 512 = false := by simpa using h
    have hk : newKept a = [] := by simp [newKept, h0]
    rw [hk]
    clear hk h
    go_enter Tryd.func98, Tryd.ntmps98
    go_wp2_with (go_at_call 76; refine (l6In_any _ _ _ _).mono ?_; rintro e w' ⟨rfl, rfl⟩)
    exact bodyPost_ret (v := .agg #[.slice none 0 0, .slice none 0 0]) (by simp [results, Tryd.results98, go_sem]) rfl ⟨_, rfl, ⟨_, _, rfl, Row.nil _ _ _ _, Row.nil _ _ _ _⟩, (Below.refl _ _).alloc (Nat.le_refl _) _⟩

theorem newKept_len (a : Int) : (newKept a).length ≤ 512 := by
  unfold newKept
  split
  · rename_i h
    have hb : 0 ≤ a ∧ a ≤ 512 := by simpa [inB] using h
    simp
    omega
  · simp

/-- What a variable of two cells holds. -/
theorem box2 {w : World} {B : Nat} {x y : Value} {t : TypeId} (h : w.heap[B]? = some (.cells #[x, y] t (0, 0))) : w.cell? ⟨B, 0, none⟩ = some x ∧ w.cell? ⟨B, 1, none⟩ = some y ∧ B < w.heap.size :=
  ⟨(cell_of_row w B 0 _ _ (0, 0) h).trans rfl, (cell_of_row w B 1 _ _ (0, 0) h).trans rfl, heap_lt h⟩

theorem box2f {w : World} {B : Nat} {x y : Value} {t : TypeId} (h : w.heap[B]? = some (.cells #[x, y] t (0, 0))) : w.frozen? ⟨B, 0, none⟩ = false ∧ w.frozen? ⟨B, 1, none⟩ = false :=
  ⟨frozen_of_row w B 0 _ _ h, frozen_of_row w B 1 _ _ h⟩

theorem DiskO.shape {w : World} {S : Nat → Prop} {v : Value} {kept : List ByteArray} {wait : List (Int × ByteArray)} (h : DiskO w S v kept wait) : ∃ ao ca ao' ca', v = .agg #[.slice ao kept.length ca, .slice ao' wait.length ca'] := by
  obtain ⟨vk, vw, rfl, ⟨ao, ca, rfl, -⟩, ⟨ao', ca', rfl, -⟩⟩ := h
  exact ⟨ao, ca, ao', ca', rfl⟩

theorem DiskO.upto {w : World} {lo : Nat} {v : Value} {kept : List ByteArray} {wait : List (Int × ByteArray)} (h : DiskO w (fun k => lo ≤ k) v kept wait) : DiskO w (fun k => lo ≤ k ∧ k < w.heap.size) v kept wait :=
  h.mono fun _ hk h => ⟨h, hk⟩

end Go.Proofs.YtapflnabiobonaaDoor

/- What the laws' own helpers do with a disk that came in: its size, a copy of it; contracts; no statement of the seat is proved here. -/
namespace Go.Proofs.YtapflnabiobonaaDoor
open Go.RowKit

/-- How many bytes texts have together. -/
def bytesS (ss : List ByteArray) : Nat := (ss.map (·.size)).sum
def bytesW (xs : List (Int × ByteArray)) : Nat := (xs.map (·.2.size)).sum

theorem bytesS_take (ss : List ByteArray) (k : Nat) (h : k < ss.length) : bytesS (ss.take (k + 1)) = bytesS (ss.take k) + (ss[k]'h).size := by
  rw [List.take_succ_eq_append_getElem h]
  simp only [bytesS, List.map_append, List.sum_append, List.map_cons, List.map_nil, List.sum_cons, List.sum_nil, Nat.add_zero]
theorem bytesW_take (ss : List (Int × ByteArray)) (k : Nat) (h : k < ss.length) : bytesW (ss.take (k + 1)) = bytesW (ss.take k) + (ss[k]'h).2.size := by
  rw [List.take_succ_eq_append_getElem h]
  simp only [bytesW, List.map_append, List.sum_append, List.map_cons, List.map_nil, List.sum_cons, List.sum_nil, Nat.add_zero]

/-- What the measure of a size comes to: below 0, or what is left. -/
def Sized (left r : Int) (t : Nat) : Prop := r < 0 ∨ (r = left - t ∧ 0 ≤ r)

set_option maxHeartbeats 1000000 in
theorem szStringS_any (v : Value) (n : Nat) (ss : List ByteArray) (left : Int) (w : World) (hr : RowR w 1 v n (ss.map Value.string)) (hs : ∀ s ∈ ss, s.size ≤ 9223372036854775807) (h1 : 0 ≤ left) (h2 : left ≤ 1048576) :
    Calls Tryd.prog 23 #[v, .int .i64 left] w fun e w' => ∃ r, e = .returned (.int .i64 r) ∧ Sized left r (n + bytesS ss) ∧ Below w.heap.size w w' := by
  obtain ⟨ao, cap, rfl, hn, hl, hr⟩ := hr
  simp only [List.length_map, Nat.mul_one] at hl
  by_cases hneg : left - n < 0
  · go_enter Tryd.func23, Tryd.ntmps23
    go_wp2
    go_ret
    exact ⟨_, rfl, .inl (by omega), Below.refl _ _⟩
  · have hge : 0 ≤ left - n := by omega
    clear hneg
    have Hl := hide hl
    have Hs := hide hs
    clear hl hs
    go_enter Tryd.func23, Tryd.ntmps23
    go_wp2
    go_loopw [1, 5] (fun lv i wr => ∃ (k : Nat) (m : Int), k ≤ n ∧ 0 ≤ m ∧ m ≤ 1048576 ∧ m = left - (n + bytesS (ss.take k) : Nat) ∧ i = .int .i64 k ∧ lv = .int .i64 m ∧ Below w.heap.size w wr) (fun _ i _ => n - (intOf i).toNat)
    case atStart => exact ⟨0, left - n, Nat.zero_le _, hge, by omega, by simp [bytesS], rfl, rfl, Below.refl _ _⟩
    case round =>
      obtain ⟨k, m, hk, hm0, hm1, hm, rfl, rfl, hbel⟩ := hrel
      have Hm := hide hm
      clear hm
      by_cases hlt : k < n
      · obtain ⟨b1, o1, rfl, hc1⟩ := hr (by omega)
        have hlk : k < ss.length := by have := Hl.out; omega
        obtain ⟨s, hsk⟩ : ∃ s, ss[k]'hlk = s := ⟨_, rfl⟩
        have g1 := hc1 k (.string s) (by simp [hlk, hsk])
        have hsz : s.size ≤ 9223372036854775807 := Hs.out s (by rw [← hsk]; exact List.getElem_mem hlk)
        have hbt := hide (bytesS_take ss k hlk)
        rw [hsk] at hbt
        have f1 : wr.cell? ⟨b1, o1 + k, none⟩ = some (.string s) := (hbel.cell (p := ⟨b1, o1 + k, none⟩) (World.block_lt_of_cell? w _ g1)).trans g1
        have hi : (k : Int) < (n : Int) := by omega
        clear hr hc1 hsk g1
        by_cases hneg : m - s.size < 0
        · go_wp2
          go_ret
          exact ⟨_, rfl, .inl (by omega), hbel⟩
        · have hge2 : 0 ≤ m - s.size := by omega
          clear hneg
          go_wp2
          go_roundw
          case rel => exact ⟨k + 1, m - s.size, by omega, hge2, by omega, by have := hbt.out; have := Hm.out; omega, by go_num, rfl, hbel⟩
          case measure => simp [intOf]; omega
      · go_wp2
        go_ret
        obtain rfl : k = n := by omega
        refine ⟨_, rfl, .inr ⟨?_, hm0⟩, hbel⟩
        have h3 := Hm.out
        rw [List.take_of_length_le (by have := Hl.out; omega)] at h3
        exact h3

set_option maxHeartbeats 400000 in
theorem szSecWrite_any (a : Int) (s : ByteArray) (left : Int) (w : World) (hs : s.size ≤ 9223372036854775807) (h1 : 0 ≤ left) (h2 : left ≤ 1048576) :
    Calls Tryd.prog 66 #[.agg #[.int .i64 a, .string s], .int .i64 left] w fun e w' => ∃ r, e = .returned (.int .i64 r) ∧ Sized left r s.size ∧ Below w.heap.size w w' := by
  by_cases hneg : left - s.size < 0
  · go_enter Tryd.func66, Tryd.ntmps66
    go_wp2
    go_ret
    exact ⟨_, rfl, .inl (by omega), (Below.refl _ _).alloc (Nat.le_refl _) _⟩
  · have hge : 0 ≤ left - s.size := by omega
    clear hneg
    go_enter Tryd.func66, Tryd.ntmps66
    go_wp2
    go_ret
    exact ⟨_, rfl, .inr ⟨by omega, by omega⟩, (Below.refl _ _).alloc (Nat.le_refl _) _⟩

set_option maxHeartbeats 1000000 in
theorem szSecWriteS_any (v : Value) (n : Nat) (ss : List (Int × ByteArray)) (left : Int) (w : World) (hr : RowR w 2 v n (wcells ss)) (hs : ∀ s ∈ ss, s.2.size ≤ 9223372036854775807) (h1 : 0 ≤ left) (h2 : left ≤ 1048576) :
    Calls Tryd.prog 32 #[v, .int .i64 left] w fun e w' => ∃ r, e = .returned (.int .i64 r) ∧ Sized left r (n + bytesW ss) ∧ Below w.heap.size w w' := by
  obtain ⟨ao, cap, rfl, hn, hl, hr⟩ := hr
  rw [wcells_len] at hl
  by_cases hneg : left - n < 0
  · go_enter Tryd.func32, Tryd.ntmps32
    go_wp2
    go_ret
    exact ⟨_, rfl, .inl (by omega), Below.refl _ _⟩
  · have hge : 0 ≤ left - n := by omega
    clear hneg
    have Hl := hide hl
    have Hs := hide hs
    clear hl hs
    go_enter Tryd.func32, Tryd.ntmps32
    go_wp2
    go_loopw [1, 5] (fun lv i wr => ∃ (k : Nat) (m : Int), k ≤ n ∧ 0 ≤ m ∧ m ≤ 1048576 ∧ m = left - (n + bytesW (ss.take k) : Nat) ∧ i = .int .i64 k ∧ lv = .int .i64 m ∧ Below w.heap.size w wr) (fun _ i _ => n - (intOf i).toNat)
    case atStart => exact ⟨0, left - n, Nat.zero_le _, hge, by omega, by simp [bytesW], rfl, rfl, Below.refl _ _⟩
    case round =>
      obtain ⟨k, m, hk, hm0, hm1, hm, rfl, rfl, hbel⟩ := hrel
      have Hm := hide hm
      clear hm
      by_cases hlt : k < n
      · obtain ⟨b1, o1, rfl, hc1⟩ := hr (by omega)
        have hlk : k < ss.length := by have := Hl.out; omega
        obtain ⟨⟨a, s⟩, hsk⟩ : ∃ s, ss[k]'hlk = s := ⟨_, rfl⟩
        obtain ⟨e0, e1⟩ := wcells_at ss k (a, s) (by simp [hlk, hsk])
        have g1 := hc1 _ _ e0
        have g2 := hc1 _ _ e1
        have l1 : b1 < w.heap.size := World.block_lt_of_cell? w _ g1
        have hsz : s.size ≤ 9223372036854775807 := Hs.out (a, s) (by rw [← hsk]; exact List.getElem_mem hlk)
        have hbt := hide (bytesW_take ss k hlk)
        rw [hsk] at hbt
        have f1 : wr.cell? ⟨b1, o1 + k * 2, none⟩ = some (.int .i64 a) := by rw [Nat.mul_comm k 2]; exact (hbel.cell (p := ⟨b1, o1 + 2 * k, none⟩) l1).trans g1
        have f2 : wr.cell? ⟨b1, o1 + k * 2 + 1, none⟩ = some (.string s) := by rw [Nat.mul_comm k 2]; exact (hbel.cell (p := ⟨b1, o1 + (2 * k + 1), none⟩) l1).trans g2
        have hi : (k : Int) < (n : Int) := by omega
        clear hr hc1 hsk g1 g2 e0 e1
        go_wp2_with fail
        refine (szSecWrite_any a s m _ hsz hm0 hm1).mono ?_
        rintro e w1 ⟨r, rfl, hz, hb1⟩
        rcases hz with hneg | ⟨hr, hge2⟩
        · go_wp2
          go_ret
          exact ⟨_, rfl, .inl (by omega), bAll hbel hb1⟩
        · have Hr := hide hr
          have hr2 : r ≤ 1048576 := by omega
          clear hr
          go_wp2
          go_roundw
          case rel => exact ⟨k + 1, r, by omega, hge2, hr2, by have := hbt.out; have := Hm.out; have := Hr.out; omega, by go_num, rfl, bAll hbel hb1⟩
          case measure => simp [intOf]; omega
      · go_wp2
        go_ret
        obtain rfl : k = n := by omega
        refine ⟨_, rfl, .inr ⟨?_, hm0⟩, hbel⟩
        have h3 := Hm.out
        rw [List.take_of_length_le (by have := Hl.out; omega)] at h3
        exact h3

set_option maxHeartbeats 400000 in
theorem szSecDisk_any (v : Value) (kept : List ByteArray) (wait : List (Int × ByteArray)) (w : World) (hr : DiskR w v kept wait) (hs : ∀ s ∈ kept, s.size ≤ 9223372036854775807) (hs' : ∀ s ∈ wait, s.2.size ≤ 9223372036854775807) :
    Calls Tryd.prog 9 #[v, .int .i64 1048576] w fun e w' => ∃ r, e = .returned (.int .i64 r) ∧ Sized 1048576 r (kept.length + bytesS kept + (wait.length + bytesW wait)) ∧ Below w.heap.size w w' := by
  obtain ⟨ak, aw, rfl, a1, a2⟩ := hr
  have hal : Below w.heap.size w (w.alloc (.cells #[ak, aw] 25)) := (Below.refl _ _).alloc (Nat.le_refl _) _
  have k1 := a1.keep hal
  have k2 := a2.keep hal
  obtain ⟨ao, ca, rfl, -⟩ := a1
  obtain ⟨ao2, ca2, rfl, -⟩ := a2
  go_enter Tryd.func9, Tryd.ntmps9
  go_wp2_with fail
  refine (szStringS_any _ _ kept _ _ k1 hs (by omega) (by omega)).mono ?_
  rintro e w1 ⟨r, rfl, hz, b1⟩
  rcases hz with hneg | ⟨hr1, hr2⟩
  · go_wp2
    go_ret
    exact ⟨_, rfl, .inl (by omega), bAll hal b1⟩
  · have q2 := k2.keep b1
    have hc1 : w1.cell? ⟨w.heap.size, 1, none⟩ = some (.slice ao2 wait.length ca2) := (b1.cell (p := ⟨w.heap.size, 1, none⟩) (by simp)).trans (by simp)
    have Hr1 := hide hr1
    have hr3 : r ≤ 1048576 := by omega
    clear hr1
    go_wp2_with fail
    refine (szSecWriteS_any _ _ wait _ _ q2 hs' hr2 hr3).mono ?_
    rintro e w2 ⟨r2, rfl, hz2, b2⟩
    rcases hz2 with hneg | ⟨hr4, hr5⟩
    · go_wp2
      go_ret
      exact ⟨_, rfl, .inl (by omega), bAll (bAll hal b1) b2⟩
    · have Hr4 := hide hr4
      clear hr4
      go_wp2
      go_ret
      exact ⟨_, rfl, .inr ⟨by have := Hr4.out; have := Hr1.out; omega, hr5⟩, bAll (bAll hal b1) b2⟩

end Go.Proofs.YtapflnabiobonaaDoor

/- What the laws' own helpers do with a disk that came in: a copy of it; contracts; no statement of the seat is proved here. -/
namespace Go.Proofs.YtapflnabiobonaaDoor
open Go.RowKit

theorem getAt {α : Type} (ss : List α) (k : Nat) (h : k < ss.length) : ∃ s, ss[k]? = some s := ⟨ss[k], by simp [h]⟩

set_option maxHeartbeats 1000000 in
theorem toStringS_any (v : Value) (n : Nat) (ss : List ByteArray) (w : World) (hr : RowR w 1 v n (ss.map Value.string)) (hn : n ≤ 1048576) :
    Calls Tryd.prog 25 #[v] w fun e w' => ∃ v', e = .returned v' ∧ Row w' 9 1 (fun k => w.heap.size ≤ k) v' n (ss.map Value.string) ∧ Below w.heap.size w w' := by
  obtain ⟨ao, cap, rfl, hn', hl, hr⟩ := hr
  simp only [List.length_map, Nat.mul_one] at hl
  have Hl := hide hl
  clear hl
  have hmk := run_make_row' (P := Tryd.prog) 22 9 (.string ⟨#[]⟩) 16 Tryd.underlying22 infoStr rfl .i64 .i64 n (by omega) (by omega)
  go_enter Tryd.func25, Tryd.ntmps25
  go_wp2
  clear hmk
  go_loopw [4] (fun i wr => ∃ (k : Nat) (cur : Array Value), k ≤ n ∧ i = .int .i64 k ∧ wr.heap[w.heap.size]? = some (.cells cur 9 (0, 0)) ∧ cur.size = n ∧ (∀ j s, j < k → ss[j]? = some s → cur[j]? = some (.string s)) ∧ Below w.heap.size w wr) (fun i _ => n - (intOf i).toNat)
  case atStart => exact ⟨0, _, Nat.zero_le _, rfl, heap_alloc_new w _, size_madeCells _ _, fun j s hj => by omega, (Below.refl _ _).alloc (Nat.le_refl _) _⟩
  case round =>
    obtain ⟨k, cur, hk, rfl, hg, hcs, hmk, hbel⟩ := hrel
    have HM := hide hmk
    have HC := hide hcs
    have hcs' : n ≤ cur.size := by omega
    clear hmk hcs
    by_cases hlt : k < n
    · obtain ⟨b1, o1, rfl, hc1⟩ := hr (by omega)
      obtain ⟨s, hs⟩ := getAt ss k (by have := Hl.out; omega)
      have Hs := hide hs
      have g1 := hc1 k (.string s) (by simp [hs])
      have f1 : wr.cell? ⟨b1, o1 + k, none⟩ = some (.string s) := (hbel.cell (p := ⟨b1, o1 + k, none⟩) (World.block_lt_of_cell? w _ g1)).trans g1
      have hi : (k : Int) < (n : Int) := by omega
      obtain ⟨u, hu⟩ : ∃ u, cur[k]? = some u := ⟨cur[k]'(by omega), by simp [show k < cur.size by omega]⟩
      have hcw : wr.cell? ⟨w.heap.size, k, none⟩ = some u := (cell_of_row wr _ k cur _ (0, 0) hg).trans hu
      have hfw : wr.frozen? ⟨w.heap.size, k, none⟩ = false := frozen_of_row wr _ k cur _ hg
      have Hg := hide hg
      clear hr hc1 g1 hs hg
      go_wp2
      go_roundw
      case rel =>
        refine ⟨k + 1, _, by omega, by go_num, row_set _ Hg.out, by simpa using HC.out, fun j t hj ht => ?_, hbel.setCell (p := ⟨w.heap.size, k, none⟩) (Nat.le_refl _) _⟩
        by_cases hjk : j = k
        · subst hjk
          rw [Hs.out] at ht
          rw [Array.getElem?_setIfInBounds_self_of_lt (by omega)]
          rw [Option.some.inj ht]
        · rw [Array.getElem?_setIfInBounds_ne (by omega)]
          exact HM.out j t (by omega) ht
      case measure => simp [intOf]; omega
    · go_wp2
      go_ret
      obtain rfl : k = n := by omega
      refine ⟨_, rfl, ⟨_, _, rfl, hn', by simp [Hl.out], fun _ => ⟨_, cur, rfl, Nat.le_refl _, hg, ?_⟩⟩, hbel⟩
      apply List.ext_getElem?
      intro j
      have hl := Hl.out
      by_cases hj : j < k
      · rw [List.getElem?_take_of_lt (by omega)]
        obtain ⟨s, hs⟩ := getAt ss j (by omega)
        simpa [hs] using HM.out j s hj hs
      · rw [List.getElem?_eq_none (by simp; omega), List.getElem?_eq_none (by simp; omega)]

theorem infoWr : (Tryd.prog.info? 63).map (fun i => (i.zero, i.size, i.bytes)) = some (some (.agg #[.int .i64 0, .string ⟨#[]⟩]), 2, 24) := by kernel_rfl

theorem run_make_row2 {P : Program} (t e : TypeId) (z : Value) (size bytes : Nat) (ht : P.underlying t = some (.slice e)) (hinfo : (P.info? e).map (fun i => (i.zero, i.size, i.bytes)) = some (some z, size, bytes))
    (kl kc : IntKind) (n : Nat) (hbytes : bytes * n ≤ 281474976710656) (h63 : n ≤ 9223372036854775807) (w : World) :
    (Instr.makeSlice t (.int kl (n : Int)) (.int kc (n : Int))).run P w = .ok (.slice (some ⟨w.heap.size, 0, none⟩) n n) (w.alloc (.cells (madeCells z.cells (n * size)) e)) := by
  obtain ⟨i, hi, h1, rfl, rfl⟩ := info_parts hinfo
  have hb' : (i.bytes : Int) * (n : Int) ≤ 281474976710656 := by
    have h : ((i.bytes * n : Nat) : Int) ≤ 281474976710656 := by omega
    rwa [Int.natCast_mul] at h
  have hr := run_make (P := P) w t e i z ht hi h1 kl kc n n (by omega) (Int.le_refl _) hb' (by omega)
  simpa only [Int.toNat_natCast] using hr

set_option maxHeartbeats 400000 in
theorem toSecWrite_any (a : Int) (s : ByteArray) (w : World) :
    Calls Tryd.prog 68 #[.agg #[.int .i64 a, .string s]] w fun e w' => e = .returned (.agg #[.int .i64 a, .string s]) ∧ Below w.heap.size w w' := by
  go_enter Tryd.func68, Tryd.ntmps68
  go_wp2
  exact bodyPost_ret (v := .agg #[.int .i64 a, .string s]) (by simp [results, Tryd.results68, go_sem]) rfl ⟨rfl, (((Below.refl _ _).alloc (Nat.le_refl _) _).alloc (by simp) _).alloc (by simp; omega) _⟩

set_option maxHeartbeats 1000000 in
theorem toSecWriteS_any (v : Value) (n : Nat) (ss : List (Int × ByteArray)) (w : World) (hr : RowR w 2 v n (wcells ss)) (hn : n ≤ 1048576) :
    Calls Tryd.prog 37 #[v] w fun e w' => ∃ v', e = .returned v' ∧ Row w' 63 2 (fun k => w.heap.size ≤ k) v' n (wcells ss) ∧ Below w.heap.size w w' := by
  obtain ⟨ao, cap, rfl, hn', hl, hr⟩ := hr
  rw [wcells_len] at hl
  have Hl := hide hl
  clear hl
  have hmk := run_make_row2 (P := Tryd.prog) 29 63 (.agg #[.int .i64 0, .string ⟨#[]⟩]) 2 24 Tryd.underlying29 infoWr .i64 .i64 n (by omega) (by omega)
  go_enter Tryd.func37, Tryd.ntmps37
  go_wp2
  clear hmk
  go_loopw [4] (fun i wr => ∃ (k : Nat) (cur : Array Value), k ≤ n ∧ i = .int .i64 k ∧ wr.heap[w.heap.size]? = some (.cells cur 63 (0, 0)) ∧ cur.size = n * 2 ∧ (∀ j x, j < k → ss[j]? = some x → cur[2 * j]? = some (.int .i64 x.1) ∧ cur[2 * j + 1]? = some (.string x.2)) ∧ Below w.heap.size w wr) (fun i _ => n - (intOf i).toNat)
  case atStart => exact ⟨0, _, Nat.zero_le _, rfl, heap_alloc_new w _, size_madeCells _ _, fun j s hj => by omega, (Below.refl _ _).alloc (Nat.le_refl _) _⟩
  case round =>
    obtain ⟨k, cur, hk, rfl, hg, hcs, hmk, hbel⟩ := hrel
    have HM := hide hmk
    have HC := hide hcs
    have hcs' : n * 2 ≤ cur.size := by omega
    clear hmk hcs
    by_cases hlt : k < n
    · obtain ⟨b1, o1, rfl, hc1⟩ := hr (by omega)
      obtain ⟨⟨a, s⟩, hs⟩ := getAt ss k (by have := Hl.out; omega)
      have Hs := hide hs
      obtain ⟨e0, e1⟩ := wcells_at ss k (a, s) hs
      have g1 := hc1 _ _ e0
      have g2 := hc1 _ _ e1
      have l1 : b1 < w.heap.size := World.block_lt_of_cell? w _ g1
      have f1 : wr.cell? ⟨b1, o1 + k * 2, none⟩ = some (.int .i64 a) := by rw [Nat.mul_comm k 2]; exact (hbel.cell (p := ⟨b1, o1 + 2 * k, none⟩) l1).trans g1
      have f2 : wr.cell? ⟨b1, o1 + k * 2 + 1, none⟩ = some (.string s) := by rw [Nat.mul_comm k 2]; exact (hbel.cell (p := ⟨b1, o1 + (2 * k + 1), none⟩) l1).trans g2
      have hi : (k : Int) < (n : Int) := by omega
      obtain ⟨u, hu⟩ : ∃ u, cur[k * 2]? = some u := ⟨cur[k * 2]'(by omega), by simp [show k * 2 < cur.size by omega]⟩
      obtain ⟨u2, hu2⟩ : ∃ u, cur[k * 2 + 1]? = some u := ⟨cur[k * 2 + 1]'(by omega), by simp [show k * 2 + 1 < cur.size by omega]⟩
      have Hg := hide hg
      clear hr hc1 g1 g2 e0 e1 hs hg
      go_wp2_with fail
      refine (toSecWrite_any a s _).mono ?_
      rintro e w1 ⟨rfl, hb1⟩
      have hg := bKeeps hb1 Hg.out
      have hcw : w1.cell? ⟨w.heap.size, k * 2, none⟩ = some u := (cell_of_row w1 _ _ cur _ (0, 0) hg).trans hu
      have hcw2 : w1.cell? ⟨w.heap.size, k * 2 + 1, none⟩ = some u2 := (cell_of_row w1 _ _ cur _ (0, 0) hg).trans hu2
      have hfw : w1.frozen? ⟨w.heap.size, k * 2, none⟩ = false := frozen_of_row w1 _ _ cur _ hg
      have hfw2 : w1.frozen? ⟨w.heap.size, k * 2 + 1, none⟩ = false := frozen_of_row w1 _ _ cur _ hg
      have Hg1 := hide hg
      clear hg hu hu2
      go_wp2
      go_roundw
      case rel =>
        refine ⟨k + 1, _, by omega, by go_num, row_set _ (row_set _ Hg1.out), by simpa using HC.out, fun j x hj hx => ?_, ((bAll hbel hb1).setCell (p := ⟨w.heap.size, k * 2, none⟩) (Nat.le_refl _) _).setCell (p := ⟨w.heap.size, k * 2 + 1, none⟩) (Nat.le_refl _) _⟩
        by_cases hjk : j = k
        · subst hjk
          rw [Hs.out] at hx
          obtain rfl := Option.some.inj hx
          rw [Nat.mul_comm 2 j, Array.getElem?_setIfInBounds_ne (by omega), Array.getElem?_setIfInBounds_self_of_lt (by omega), Array.getElem?_setIfInBounds_self_of_lt (by simp; omega)]
          exact ⟨rfl, rfl⟩
        · rw [Array.getElem?_setIfInBounds_ne (by omega), Array.getElem?_setIfInBounds_ne (by omega), Array.getElem?_setIfInBounds_ne (by omega), Array.getElem?_setIfInBounds_ne (by omega)]
          exact HM.out j x (by omega) hx
      case measure => simp [intOf]; omega
    · go_wp2
      go_ret
      obtain rfl : k = n := by omega
      refine ⟨_, rfl, ⟨_, _, rfl, hn', by rw [wcells_len]; exact Hl.out, fun _ => ⟨_, cur, rfl, Nat.le_refl _, hg, ?_⟩⟩, hbel⟩
      have hl := Hl.out
      apply List.ext_getElem?
      intro j
      by_cases hj : j < k * 2
      · rw [List.getElem?_take_of_lt (by omega)]
        obtain ⟨s, hs⟩ := getAt ss (j / 2) (by omega)
        have h1 := HM.out (j / 2) s (by omega) hs
        have h2 := wcells_at ss (j / 2) s hs
        rcases Nat.mod_two_eq_zero_or_one j with e | e
        · rw [show 2 * (j / 2) = j by omega] at h1 h2
          simpa [h2.1] using h1.1
        · rw [show 2 * (j / 2) + 1 = j by omega] at h1 h2
          simpa [h2.2] using h1.2
      · rw [List.getElem?_eq_none (by simp; omega), List.getElem?_eq_none (by rw [wcells_len]; omega)]

set_option maxHeartbeats 400000 in
theorem toSecDisk_any (v : Value) (kept : List ByteArray) (wait : List (Int × ByteArray)) (w : World) (hr : DiskR w v kept wait) (hk : kept.length ≤ 1048576) (hw : wait.length ≤ 1048576) :
    Calls Tryd.prog 11 #[v] w fun e w' => ∃ v', e = .returned v' ∧ DiskO w' (fun k => w.heap.size ≤ k) v' kept wait ∧ Below w.heap.size w w' := by
  obtain ⟨ak, aw, rfl, a1, a2⟩ := hr
  have hal : Below w.heap.size w (((w.alloc (.cells #[ak, aw] 25)).alloc (.cells #[.slice none 0 0, .slice none 0 0] 31)).alloc (.cells #[.slice none 0 0, .slice none 0 0] 31)) :=
    (((Below.refl _ _).alloc (Nat.le_refl _) _).alloc (by simp) _).alloc (by simp; omega) _
  have k1 := a1.keep hal
  have k2 := a2
  obtain ⟨ao, ca, rfl, -⟩ := a1
  obtain ⟨ao2, ca2, rfl, -⟩ := a2
  go_enter Tryd.func11, Tryd.ntmps11
  go_wp2_with fail
  refine (toStringS_any _ _ kept _ k1 hk).mono ?_
  rintro e w1 ⟨v1, rfl, r1, b1⟩
  obtain ⟨bo, cb, rfl⟩ : ∃ bo cb, v1 = .slice bo kept.length cb := by obtain ⟨bo, cb, h, -⟩ := r1; exact ⟨bo, cb, h⟩
  have z1 := b1.size
  simp only [World.size_alloc] at z1 r1
  have B0 : w1.heap[w.heap.size]? = some (.cells #[.slice ao kept.length ca, .slice ao2 wait.length ca2] 25 (0, 0)) :=
    bKeeps b1 (al3_0 w _ _ _)
  have B1 : w1.heap[w.heap.size + 1]? = some (.cells #[.slice none 0 0, .slice none 0 0] 31 (0, 0)) :=
    bKeeps b1 (al3_1 w _ _ _)
  have B2 : w1.heap[w.heap.size + 1 + 1]? = some (.cells #[.slice none 0 0, .slice none 0 0] 31 (0, 0)) :=
    bKeeps b1 (al3_2 w _ _ _)
  obtain ⟨c00, c01, c0l⟩ := box2 B0
  obtain ⟨c20, c21, c2l⟩ := box2 B2
  obtain ⟨f20, f21⟩ := box2f B2
  have H1 := hide B1
  have H2 := hide B2
  clear B0 B1 B2
  go_wp2_with fail
  clear c00 c01 c0l c20 c21 c2l f20 f21
  have hw1 : Below w.heap.size w (w1.setCell ⟨w.heap.size + 1 + 1, 0, none⟩ (.slice bo kept.length cb)) := (bAll hal b1).setCell (p := ⟨w.heap.size + 1 + 1, 0, none⟩) (by show _ ≤ w.heap.size + 1 + 1; omega) _
  have B1 : (w1.setCell ⟨w.heap.size + 1 + 1, 0, none⟩ (.slice bo kept.length cb)).heap[w.heap.size + 1]? = _ := (Below.heap_setCell _ _ _ _ (by show _ ≠ w.heap.size + 1 + 1; omega)).trans H1.out
  have B2 := row_set (j := 0) (.slice bo kept.length cb) H2.out
  have r1' := r1.keep (Upd.setCell (S := fun k => k = w.heap.size + 1 + 1) w1 _ 0 (.slice bo kept.length cb) rfl) (by intro k hk; omega)
  refine (toSecWriteS_any _ _ wait _ (k2.keep hw1) hw).mono ?_
  rintro e w2 ⟨v2, rfl, r2, b2⟩
  obtain ⟨do', cd, rfl⟩ : ∃ bo cb, v2 = .slice bo wait.length cb := by obtain ⟨bo, cb, h, -⟩ := r2; exact ⟨bo, cb, h⟩
  replace B1 := bKeeps b2 B1
  replace B2 : w2.heap[w.heap.size + 1 + 1]? = some (.cells #[.slice bo kept.length cb, .slice none 0 0] 31 (0, 0)) := bKeeps b2 B2
  obtain ⟨c10, c11, c1l⟩ := box2 B1
  obtain ⟨f10, f11⟩ := box2f B1
  obtain ⟨c20, c21, c2l⟩ := box2 B2
  obtain ⟨f20, f21⟩ := box2f B2
  clear B1 B2 H1 H2
  go_wp2
  have hu : Upd (fun k => k = w.heap.size + 1 ∨ k = w.heap.size + 1 + 1) w2 (((w2.setCell ⟨w.heap.size + 1 + 1, 1, none⟩ (.slice do' wait.length cd)).setCell ⟨w.heap.size + 1, 0, none⟩ (.slice bo kept.length cb)).setCell ⟨w.heap.size + 1, 1, none⟩ (.slice do' wait.length cd)) :=
    ((Upd.setCell _ _ _ _ (.inr rfl)).trans (Upd.setCell _ _ _ _ (.inl rfl))).trans (Upd.setCell _ _ _ _ (.inl rfl))
  simp only [World.size_setCell] at r2
  refine bodyPost_ret (v := .agg #[.slice bo kept.length cb, .slice do' wait.length cd]) (by simp [results, Tryd.results11, go_sem, c10, c11]) rfl ⟨_, rfl, ⟨_, _, rfl, ?_, ?_⟩, ?_⟩
  · exact ((r1'.keepB b2).keep hu (by intro k hk; omega)).mono (fun k _ hk => by omega)
  · exact (r2.keep hu (by intro k hk; omega)).mono (fun k _ hk => by omega)
  · exact (bAll hw1 b2).trans (hu.below (by have := b2.size; simp only [World.size_setCell] at this; omega) (by intro k hk; omega))

end Go.Proofs.YtapflnabiobonaaDoor

/- What SecOk of the specification does: a contract; no statement of the seat is proved here. -/
namespace Go.Proofs.YtapflnabiobonaaDoor
open Go.RowKit

/-- Whether a write is ok on n sectors. -/
def writeOkB (n : Nat) (x : Int × ByteArray) : Bool := inB x.1 0 ((n : Int) - 1) && decide (x.2.size ≤ 16)
/-- Whether a disk is ok. -/
def okB (kept : List ByteArray) (wait : List (Int × ByteArray)) : Bool :=
  decide (kept.length ≤ 512) && decide (wait.length ≤ 600) && kept.all (fun s => decide (s.size ≤ 16)) && wait.all (writeOkB kept.length)

theorem l1WriteOk_any (n : Nat) (a : Int) (s : ByteArray) (w : World) (hn : n ≤ 9223372036854775807) (hs : s.size ≤ 9223372036854775807) :
    Calls Tryd.prog 87 #[.int .i64 n, .int .i64 a, .string s] w fun e w' => e = .returned (.bool (writeOkB n (a, s))) ∧ w' = w := by
  by_cases h1 : inB a 0 ((n : Int) - 1) = true
  · by_cases h2 : (s.size : Int) ≤ 16
    · go_enter Tryd.func87, Tryd.ntmps87
      go_wp2_with (go_at_call 76; refine (l6In_any _ _ _ _).mono ?_; rintro e w' ⟨rfl, rfl⟩)
      go_ret
      exact ⟨by simp [writeOkB, h1]; omega, rfl⟩
    · go_enter Tryd.func87, Tryd.ntmps87
      go_wp2_with (go_at_call 76; refine (l6In_any _ _ _ _).mono ?_; rintro e w' ⟨rfl, rfl⟩)
      go_ret
      exact ⟨by simp [writeOkB, h1]; omega, rfl⟩
  · have h1' : inB a 0 ((n : Int) - 1) = false := by simpa using h1
    clear h1
    go_enter Tryd.func87, Tryd.ntmps87
    go_wp2_with (go_at_call 76; refine (l6In_any _ _ _ _).mono ?_; rintro e w' ⟨rfl, rfl⟩)
    go_ret
    exact ⟨by simp [writeOkB, h1'], rfl⟩

set_option maxHeartbeats 1000000 in
theorem specSecOk_any (v : Value) (kept : List ByteArray) (wait : List (Int × ByteArray)) (w : World) (hr : DiskR w v kept wait) (hs : ∀ s ∈ kept, s.size ≤ 9223372036854775807) (hs' : ∀ s ∈ wait, s.2.size ≤ 9223372036854775807) :
    Calls Tryd.prog 67 #[v] w fun e w' => e = .returned (.bool (okB kept wait)) ∧ Below w.heap.size w w' := by
  obtain ⟨ak, aw, rfl, a1, a2⟩ := hr
  have hal : Below w.heap.size w (w.alloc (.cells #[ak, aw] 31)) := (Below.refl _ _).alloc (Nat.le_refl _) _
  obtain ⟨ao, ca, rfl, hn1, hl1, a1⟩ := a1
  obtain ⟨ao2, ca2, rfl, hn2, hl2, a2⟩ := a2
  clear hl1 hl2
  by_cases h1 : kept.length ≤ 512
  · by_cases h2 : wait.length ≤ 600
    · have Hs := hide hs
      have Hs' := hide hs'
      have HB := hide (al1_0 w (.cells #[.slice ao kept.length ca, .slice ao2 wait.length ca2] 31))
      clear hs hs'
      go_enter Tryd.func67, Tryd.ntmps67
      go_wp2
      go_loopw [3] (fun i wr => ∃ k : Nat, k ≤ kept.length ∧ i = .int .i64 k ∧ (∀ j s, j < k → kept[j]? = some s → s.size ≤ 16) ∧ wr.heap[w.heap.size]? = some (.cells #[.slice ao kept.length ca, .slice ao2 wait.length ca2] 31 (0, 0)) ∧ Below w.heap.size w wr) (fun i _ => kept.length - (intOf i).toNat)
      case atStart => exact ⟨0, Nat.zero_le _, rfl, fun j s hj => by omega, HB.out, hal⟩
      case round =>
        obtain ⟨k, hk, rfl, hok, hbox, hbel⟩ := hrel
        have Hok := hide hok
        obtain ⟨c0, c1, cl⟩ := box2 hbox
        have Hbox := hide hbox
        clear hok hbox
        by_cases hlt : k < kept.length
        · obtain ⟨b1, o1, rfl, hc1⟩ := a1 (by omega)
          obtain ⟨s, hsk⟩ := getAt kept k hlt
          have Hsk := hide hsk
          have g1 := hc1 k (.string s) (by simp [hsk])
          have hsz : s.size ≤ 9223372036854775807 := Hs.out s (List.mem_of_getElem? hsk)
          have f1 : wr.cell? ⟨b1, o1 + k, none⟩ = some (.string s) := (hbel.cell (p := ⟨b1, o1 + k, none⟩) (World.block_lt_of_cell? w _ g1)).trans g1
          have hi : (k : Int) < (kept.length : Int) := by omega
          clear a1 hc1 hsk g1
          by_cases h16 : s.size ≤ 16
          · go_wp2
            go_roundw
            case rel =>
              refine ⟨k + 1, by omega, by go_num, fun j t hj ht => ?_, Hbox.out, hbel⟩
              by_cases hjk : j = k
              · subst hjk
                rw [Hsk.out] at ht
                rw [← Option.some.inj ht]
                exact h16
              · exact Hok.out j t (by omega) ht
            case measure => simp [intOf]; omega
          · go_wp2
            go_ret
            refine ⟨?_, hbel⟩
            have : okB kept wait = false := by
              have : kept.all (fun s => decide (s.size ≤ 16)) = false := by
                rw [List.all_eq_false]
                exact ⟨s, List.mem_of_getElem? Hsk.out, by simpa using h16⟩
              simp [okB, this]
            rw [this]
            rfl
        · obtain rfl : k = kept.length := by omega
          have HK : Hid (kept.all (fun s => decide (s.size ≤ 16)) = true) := by
            show _ = true
            rw [List.all_eq_true]
            intro s hs
            obtain ⟨j, hj, rfl⟩ := List.getElem_of_mem hs
            simpa using Hok.out j _ hj (by simp [hj])
          clear Hok a1 hk hlt
          obtain ⟨wo, rfl⟩ : ∃ wo : World, wo = wr := ⟨_, rfl⟩
          go_wp2
          go_loopw [4] (fun i wr => ∃ k : Nat, k ≤ wait.length ∧ i = .int .i64 k ∧ (∀ j s, j < k → wait[j]? = some s → writeOkB kept.length s = true) ∧ wr.heap[w.heap.size]? = some (.cells #[.slice ao kept.length ca, .slice ao2 wait.length ca2] 31 (0, 0)) ∧ Below w.heap.size w wr) (fun i _ => wait.length - (intOf i).toNat)
          case atStart => exact ⟨0, Nat.zero_le _, rfl, fun j s hj => by omega, Hbox.out, hbel⟩
          case round =>
            clear c0 c1 cl Hbox hbel
            obtain ⟨k, hk, rfl, hok, hbox, hbel⟩ := hrel
            have Hok := hide hok
            obtain ⟨c0, c1, cl⟩ := box2 hbox
            have Hbox := hide hbox
            clear hok hbox
            by_cases hlt : k < wait.length
            · obtain ⟨b1, o1, rfl, hc1⟩ := a2 (by omega)
              obtain ⟨⟨a, s⟩, hsk⟩ := getAt wait k hlt
              have Hsk := hide hsk
              obtain ⟨e0, e1⟩ := wcells_at wait k (a, s) hsk
              have g1 := hc1 _ _ e0
              have g2 := hc1 _ _ e1
              have l1 : b1 < w.heap.size := World.block_lt_of_cell? w _ g1
              have hsz : s.size ≤ 9223372036854775807 := Hs'.out (a, s) (List.mem_of_getElem? hsk)
              have f1 : wr.cell? ⟨b1, o1 + k * 2, none⟩ = some (.int .i64 a) := by rw [Nat.mul_comm k 2]; exact (hbel.cell (p := ⟨b1, o1 + 2 * k, none⟩) l1).trans g1
              have f2 : wr.cell? ⟨b1, o1 + k * 2 + 1, none⟩ = some (.string s) := by rw [Nat.mul_comm k 2]; exact (hbel.cell (p := ⟨b1, o1 + (2 * k + 1), none⟩) l1).trans g2
              have hi : (k : Int) < (wait.length : Int) := by omega
              clear a2 hc1 hsk g1 g2 e0 e1
              go_wp2
              go_quiet ((go_at_call 87; exact Calls.quiet_of_same (l1WriteOk_any _ _ _ _ hn1 hsz)))
              cases hwo : writeOkB kept.length (a, s)
              · go_wp2
                go_ret
                refine ⟨?_, below_drewN hbel _⟩
                have : okB kept wait = false := by
                  have : wait.all (writeOkB kept.length) = false := by
                    rw [List.all_eq_false]
                    exact ⟨(a, s), List.mem_of_getElem? Hsk.out, by simpa using hwo⟩
                  simp [okB, this]
                rw [this]
                rfl
              · go_wp2
                go_roundw
                case rel =>
                  refine ⟨k + 1, by omega, by go_num, fun j t hj ht => ?_, Hbox.out, below_drewN hbel _⟩
                  by_cases hjk : j = k
                  · subst hjk
                    rw [Hsk.out] at ht
                    rw [← Option.some.inj ht]
                    exact hwo
                  · exact Hok.out j t (by omega) ht
                case measure => simp [intOf]; omega
            · go_wp2
              go_ret
              refine ⟨?_, hbel⟩
              obtain rfl : k = wait.length := by omega
              have : okB kept wait = true := by
                have : wait.all (writeOkB kept.length) = true := by
                  rw [List.all_eq_true]
                  intro s hs
                  obtain ⟨j, hj, rfl⟩ := List.getElem_of_mem hs
                  exact Hok.out j _ hj (by simp [hj])
                simp only [okB, this, HK.out, h1, h2, decide_true, Bool.and_self]
              rw [this]
              rfl
    · have : okB kept wait = false := by simp [okB, h2]
      rw [this]
      clear this
      go_enter Tryd.func67, Tryd.ntmps67
      go_wp2
      go_ret
      exact ⟨rfl, hal⟩
  · have : okB kept wait = false := by simp [okB, h1]
    rw [this]
    clear this
    go_enter Tryd.func67, Tryd.ntmps67
    go_wp2
    go_ret
    exact ⟨rfl, hal⟩

end Go.Proofs.YtapflnabiobonaaDoor

/- append of a slice in memory onto a row of the call's own, whatever the slice's address: a law off the library's; no statement of the seat is proved here. -/
namespace Go.Proofs.YtapflnabiobonaaDoor
open Go.RowKit

/-- A row of one-cell elements that has an element: where it lies. -/
theorem Row.at {w : World} {e : TypeId} {S : Nat → Prop} {v : Value} {n : Nat} {cs : List Value} (h : Row w e 1 S v n cs) (i : Nat) (hi : i < n) :
    ∃ g cap u, v = .slice (some ⟨g, 0, none⟩) n cap ∧ S g ∧ g < w.heap.size ∧ w.cell? ⟨g, i, none⟩ = some u ∧ cs[i]? = some u ∧ w.frozen? ⟨g, i, none⟩ = false ∧
      ∀ x, Row (w.setCell ⟨g, i, none⟩ x) e 1 S v n (cs.set i x) := by
  obtain ⟨ao, cap, rfl, hn, hl, h⟩ := h
  obtain ⟨g, cur, rfl, hS, hg, ht⟩ := h (by omega)
  have hcs : n ≤ cur.size := by
    have := congrArg List.length ht
    rw [hl] at this
    simp at this
    omega
  obtain ⟨u, hu⟩ : ∃ u, cur[i]? = some u := ⟨cur[i]'(by omega), by simp [show i < cur.size by omega]⟩
  refine ⟨g, cap, u, rfl, hS, heap_lt hg, (cell_of_row w g i cur e (0, 0) hg).trans hu, ?_, frozen_of_row w g i cur e hg, fun x => ?_⟩
  · rw [← ht, List.getElem?_take_of_lt (by omega)]
    simpa using hu
  · refine ⟨_, cap, rfl, hn, by simpa using hl, fun _ => ⟨g, _, rfl, hS, heap_setCell_same w g i cur e x hg, ?_⟩⟩
    rw [Array.toList_setIfInBounds, ← ht, List.take_set]

theorem Row.shape {w : World} {e : TypeId} {size : Nat} {S : Nat → Prop} {v : Value} {n : Nat} {cs : List Value} (h : Row w e size S v n cs) : ∃ ao cap, v = .slice ao n cap := by
  obtain ⟨ao, cap, h, -⟩ := h
  exact ⟨ao, cap, h⟩

theorem upd_set2 (w : World) (B i j : Nat) (x y : Value) : Upd (fun k => k = B) w ((w.setCell ⟨B, i, none⟩ x).setCell ⟨B, j, none⟩ y) :=
  (Upd.setCell (S := fun k => k = B) w B i x rfl).trans (Upd.setCell (S := fun k => k = B) _ B j y rfl)

theorem run_append_zero {P : Program} {w : World} (base : Nat) (t ty e : TypeId) (i : TypeInfo) (size : Nat) (ht : P.underlying t = some (.slice e)) (hi : P.info? e = some i)
    (v : Value) (n : Nat) (xs : List Value) (hown : w.ownsRow base e size v n xs) (ao : Option Addr) (c : Nat) :
    (Builtin.append_ #[t, t] ty #[v, .slice ao 0 c]).run P w = .ok v w := by
  rcases hown.2 with ⟨rfl, rfl⟩ | ⟨g, cap, cur, rfl, _, _, hnc, _⟩
  · cases ao <;> simp [Builtin.append_, run_underlying ht, sizeOf, typeInfo, hi, Builtin.lenOf, Builtin.firstCells, loadCells, loadCellsFrom]
  · cases ao <;> simp [Builtin.append_, run_underlying ht, sizeOf, typeInfo, hi, Builtin.lenOf, Builtin.firstCells, hnc, storeCells, loadCells, loadCellsFrom]

theorem wpList_append_row {P : Program} (w : World) {ops : Array Oper} {rest : List Oper} {o : Oper} {a : Act} {Q : Exit → Act → World → Prop} (hgd : o.guard = none) (s x : Operand) (t : TypeId)
    (ho : o.op = .call { callee := .builtin .append, args := #[s, x], argTypes := #[t, t] })
    (base : Nat) (e : TypeId) (i : TypeInfo) (z : Value) (size bytes : Nat) (ht : P.underlying t = some (.slice e)) (hi : P.info? e = some i) (hz : i.zero = some z)
    (hsize : i.size = size) (hby : i.bytes = bytes) (hzs : z.cells.size = size) (hsz : 0 < size)
    (v : Value) (n : Nat) (xs : List Value) (hs : a.eval s = v) (hown : w.ownsRow base e size v n xs)
    (vx : Value) (m : Nat) (news : List Value) (hx : a.eval x = vx) (hr : RowR w size vx m news) (h1 : ∀ u ∈ news, u.oneCell' = true)
    (h63 : n + m ≤ maxLen) (hbytes : (n + m) * bytes ≤ 140737488355328) (hbase : base ≤ w.heap.size)
    (h : ∀ v' w', w'.ownsRow base e size v' (n + m) (xs ++ news) → w.grownBy w' v.ownBlock → wpList P ops Q rest (a.put o.dst v') w') : wpList P ops Q (o :: rest) a w := by
  obtain ⟨ao, c, rfl, _, hl, hr⟩ := hr
  rcases Nat.eq_zero_or_pos m with rfl | hpos
  · obtain rfl : news = [] := List.eq_nil_of_length_eq_zero (by simpa using hl)
    refine wpList_plain hgd fun K hK => ?_
    have hrun := run_append_zero (P := P) (w := w) base t o.type e i size ht hi v n xs hown ao c
    unfold Oper.wp
    simp [execOp, ho, resolve, invoke, builtin, hs, hx, hrun, Result.andThen]
    exact hK _ _ (h v w (by simpa using hown) (World.grownBy.refl _ _))
  · obtain ⟨b, off, rfl, hc⟩ := hr hpos
    exact wpList_append_own w hgd s x t ho base e i z size bytes ht hi hz hsize hby hzs hsz v n xs hs hown ⟨b, off, none⟩ m c news hx hl (fun j u hj => by rw [Addr.add_lit]; exact hc j u hj) h1 h63 hbytes hbase
      fun v' w' h2 h3 _ => h v' w' h2 h3

theorem strs_one (ss : List ByteArray) : ∀ u ∈ ss.map Value.string, u.oneCell' = true := by
  intro u hu
  obtain ⟨_, _, rfl⟩ := List.mem_map.1 hu
  rfl

end Go.Proofs.YtapflnabiobonaaDoor

/- What SecFlush of the specification does: a contract; no statement of the seat is proved here. -/
namespace Go.Proofs.YtapflnabiobonaaDoor
open Go.RowKit

/-- The sectors behind writes. -/
def flushL (kept : List ByteArray) (wait : List (Int × ByteArray)) : List ByteArray := wait.foldl (fun k x => k.set x.1.toNat x.2) kept

theorem flushL_len (kept : List ByteArray) (wait : List (Int × ByteArray)) : (flushL kept wait).length = kept.length := by
  unfold flushL
  induction wait generalizing kept with
  | nil => rfl
  | cons x xs ih => simp [ih]

theorem flushL_snoc (kept : List ByteArray) (wait : List (Int × ByteArray)) (x : Int × ByteArray) : flushL kept (wait ++ [x]) = (flushL kept wait).set x.1.toNat x.2 := by simp [flushL]

theorem okB_parts {kept : List ByteArray} {wait : List (Int × ByteArray)} (h : okB kept wait = true) : kept.length ≤ 512 ∧ wait.length ≤ 600 ∧ (∀ s ∈ kept, s.size ≤ 16) ∧ ∀ x ∈ wait, 0 ≤ x.1 ∧ x.1 < kept.length ∧ x.2.size ≤ 16 := by
  simp only [okB, Bool.and_eq_true, decide_eq_true_eq, List.all_eq_true, writeOkB, inB] at h
  obtain ⟨⟨⟨h1, h2⟩, h3⟩, h4⟩ := h
  exact ⟨h1, h2, h3, fun x hx => by have := h4 x hx; omega⟩

set_option maxRecDepth 100000 in
set_option maxHeartbeats 2000000 in
theorem specSecFlush_yes (v : Value) (kept : List ByteArray) (wait : List (Int × ByteArray)) (w : World) (hr : DiskR w v kept wait) (hok : okB kept wait = true) :
    Calls Tryd.prog 34 #[v] w fun e w' => ∃ v', e = .returned v' ∧ DiskO w' (fun k => w.heap.size ≤ k) v' (flushL kept wait) [] ∧ Below w.heap.size w w' := by
  obtain ⟨hp1, hp2, hp3, hp4⟩ := okB_parts hok
  have Hr := hide hr
  obtain ⟨ak, aw, rfl, a1, a2⟩ := hr
  obtain ⟨ao, ca, rfl⟩ : ∃ ao ca, ak = .slice ao kept.length ca := by obtain ⟨ao, ca, h, -⟩ := a1; exact ⟨ao, ca, h⟩
  obtain ⟨bo, cb, rfl⟩ : ∃ ao ca, aw = .slice ao wait.length ca := by obtain ⟨ao, ca, h, -⟩ := a2; exact ⟨ao, ca, h⟩
  have hal : Below w.heap.size w ((w.alloc (.cells #[.slice ao kept.length ca, .slice bo wait.length cb] 31)).alloc (.cells #[.slice none 0 0, .slice none 0 0] 31)) := ((Below.refl _ _).alloc (Nat.le_refl _) _).alloc (by simp) _
  have H0 := hide (al2_0 w (.cells #[.slice ao kept.length ca, .slice bo wait.length cb] 31) (.cells #[.slice none 0 0, .slice none 0 0] 31))
  have H1 := hide (al2_1 w (.cells #[.slice ao kept.length ca, .slice bo wait.length cb] 31) (.cells #[.slice none 0 0, .slice none 0 0] 31))
  have P3 := hide hp3
  have P4 := hide hp4
  clear hp3 hp4
  obtain ⟨i0, hi, hz0, hz1, hz2⟩ := info_parts infoStr
  go_enter Tryd.func34, Tryd.ntmps34
  go_wp2_with fail
  refine (specSecOk_any _ kept wait _ (Hr.out.keep hal) (fun s hs => by have := P3.out s hs; omega) (fun s hs => by have := (P4.out s hs).2.2; omega)).mono ?_
  rintro e w1 ⟨rfl, b1⟩
  rw [hok]
  have B0 := bKeeps b1 H0.out
  have B1 := bKeeps b1 H1.out
  clear H0 H1
  obtain ⟨p0, p1, pl⟩ := box2 B0
  have H0 := hide B0
  have H1 := hide B1
  clear B0 B1
  have k1 := a1.keep (bAll hal b1)
  have k2 := a2.keep (bAll hal b1)
  clear a1 a2
  go_wp2_with (at_builtin; refine wpList_append_row _ rfl _ _ 22 rfl w1.heap.size 9 i0 (.string ⟨#[]⟩) 1 16 Tryd.underlying22 hi hz0 hz1 hz2 rfl (by decide) _ 0 [] rfl ?qown _ kept.length (kept.map Value.string) rfl ?qrow (strs_one _) ?q63 ?qby ?qbase ?_)
  case qown => exact World.ownsRow_lit w1 #[] 0 (Nat.le_refl _) (by unfold maxLen; omega) rfl
  case qrow => exact k1.keep ((Below.refl _ _).alloc (Nat.le_refl _) _)
  case q63 => unfold maxLen; omega
  case qby => omega
  case qbase => simp
  intro v' w2 hown hgr
  try simp only [Nat.zero_add, List.nil_append] at hown
  have r2 := (Row.ofOwns hown (by omega)).mono (T := fun k => w1.heap.size ≤ k ∧ k < w2.heap.size) (fun k hk h => ⟨h, hk⟩)
  have b2 : Below w1.heap.size w1 w2 := ((Below.refl _ _).alloc (Nat.le_refl _) (.cells #[] 9)).grown hgr (by simp) (fun k e => by simp [Value.ownBlock] at e; omega)
  obtain ⟨no, cn, rfl⟩ := r2.shape
  clear hown hgr
  have B0 := bKeeps b2 H0.out
  have B1 := bKeeps b2 H1.out
  clear p0 p1 pl H0 H1
  obtain ⟨p0, p1, pl⟩ := box2 B0
  have H0 := hide B0
  have H1 := hide B1
  clear B0 B1
  have hbw2 : Below w.heap.size w w2 := (bAll hal b1).trans (b2.mono (by have := b1.size; simp only [World.size_alloc] at this; omega))
  have z1 : w.heap.size + 1 + 1 ≤ w1.heap.size := by have := b1.size; simpa only [World.size_alloc] using this
  have z2 := b2.size
  have al2 : Below w2.heap.size w2 (w2.alloc (.cells #[.slice no kept.length cn, .slice none 0 0] 31)) := (Below.refl _ _).alloc (Nat.le_refl _) _
  have HB2 := hide (al1_0 w2 (.cells #[.slice no kept.length cn, .slice none 0 0] 31))
  have HA2 : Hid (RowR w 2 (.slice bo wait.length cb) wait.length (wcells wait)) := by
    obtain ⟨_, _, e, -, h⟩ := Hr.out
    simp only [Value.agg.injEq, Array.mk.injEq, List.cons.injEq, and_true] at e
    rw [e.2]; exact h
  clear k1 k2
  go_wp2
  go_loopw [4] (fun i wr => ∃ k : Nat, k ≤ wait.length ∧ i = .int .i64 k ∧ Row wr 9 1 (fun k => w1.heap.size ≤ k ∧ k < w2.heap.size) (.slice no kept.length cn) kept.length ((flushL kept (wait.take k)).map Value.string) ∧
      wr.heap[w.heap.size]? = some (.cells #[.slice ao kept.length ca, .slice bo wait.length cb] 31 (0, 0)) ∧ wr.heap[w.heap.size + 1]? = some (.cells #[.slice none 0 0, .slice none 0 0] 31 (0, 0)) ∧
      wr.heap[w2.heap.size]? = some (.cells #[.slice no kept.length cn, .slice none 0 0] 31 (0, 0)) ∧ Below w.heap.size w wr) (fun i _ => wait.length - (intOf i).toNat)
  case atStart => exact ⟨0, Nat.zero_le _, rfl, r2.keepB al2, bKeeps al2 H0.out, bKeeps al2 H1.out, HB2.out, hbw2.trans (al2.mono (by omega))⟩
  case round =>
    obtain ⟨k, hk, rfl, hrow, B0, B1, B2, hbel⟩ := hrel
    clear p0 p1 pl
    obtain ⟨p0, p1, pl⟩ := box2 B0
    obtain ⟨q0, q1, ql⟩ := box2 B1
    obtain ⟨q2, q3⟩ := box2f B1
    obtain ⟨t0, t1, tl⟩ := box2 B2
    have G0 := hide B0
    have G1 := hide B1
    have G2 := hide B2
    clear B0 B1 B2
    by_cases hlt : k < wait.length
    · obtain ⟨⟨a, s⟩, hsk⟩ := getAt wait k hlt
      obtain ⟨ha0, ha1, -⟩ := P4.out (a, s) (List.mem_of_getElem? hsk)
      simp only at ha0 ha1
      have Hsk := hide hsk
      obtain ⟨bo', cb', e2, -, -, hc0⟩ := HA2.out
      simp only [Value.slice.injEq, true_and] at e2
      obtain ⟨rfl, rfl⟩ := e2
      obtain ⟨b, off, rfl, hc⟩ := hc0 (by omega)
      clear hc0
      obtain ⟨e0, e1⟩ := wcells_at wait k (a, s) hsk
      have g1 := hc _ _ e0
      have g2 := hc _ _ e1
      have l1 : b < w.heap.size := World.block_lt_of_cell? w _ g1
      have f1 : wr.cell? ⟨b, off + k * 2, none⟩ = some (.int .i64 a) := by rw [Nat.mul_comm k 2]; exact (hbel.cell (p := ⟨b, off + 2 * k, none⟩) l1).trans g1
      have f2 : wr.cell? ⟨b, off + k * 2 + 1, none⟩ = some (.string s) := by rw [Nat.mul_comm k 2]; exact (hbel.cell (p := ⟨b, off + (2 * k + 1), none⟩) l1).trans g2
      have hi' : (k : Int) < (wait.length : Int) := by omega
      clear hc g1 g2 e0 e1 hsk
      obtain ⟨n, rfl⟩ := Int.eq_ofNat_of_zero_le ha0
      have hn' : n < kept.length := by omega
      obtain ⟨g, cap, u, ev, hS, hgl, hcu, -, hfu, hset⟩ := hrow.at n hn'
      simp only [Value.slice.injEq, true_and] at ev
      obtain ⟨rfl, rfl⟩ := ev
      have Hset := hide hset
      clear hset ha0
      have hne1 : ¬ g = w2.heap.size := by omega
      go_wp2
      go_region
      all_goals
        go_wp2
        go_roundw
        case rel =>
          have hup : Upd (fun k => k = g) wr (wr.setCell ⟨g, n, none⟩ (.string s)).drew := ⟨rfl, rfl, rfl, by simp, (Upd.setCell (S := fun k => k = g) wr g n (.string s) rfl).block⟩
          refine ⟨k + 1, by omega, by go_num, ?_, hup.keeps G0.out (by omega), hup.keeps G1.out (by omega), hup.keeps G2.out (by omega), hbel.trans (hup.below (by have := hbel.size; omega) (by intro k hk; omega))⟩
          have h1 := (Hset.out (.string s)).keepB ((Below.refl _ _).drew)
          have h2 : flushL kept (wait.take (k + 1)) = (flushL kept (wait.take k)).set n s := by
            rw [List.take_add_one, Hsk.out, Option.toList_some, flushL_snoc]
            simp
          rw [h2, List.map_set]
          exact h1
        case measure => simp [intOf]; omega
    · obtain rfl : k = wait.length := by omega
      rw [List.take_of_length_le (Nat.le_refl _)] at hrow
      go_wp2
      have hu : Upd (fun k => k = w.heap.size + 1) wr ((wr.setCell ⟨w.heap.size + 1, 0, none⟩ (.slice no kept.length cn)).setCell ⟨w.heap.size + 1, 1, none⟩ (.slice none 0 0)) :=
        upd_set2 _ _ _ _ _ _
      refine bodyPost_ret (v := .agg #[.slice no kept.length cn, .slice none 0 0]) (by simp [results, Tryd.results34, go_sem, q0, q1]) rfl ⟨_, rfl, ⟨_, _, rfl, ?_, Row.nil _ _ _ _⟩, ?_⟩
      · rw [flushL_len]
        exact (hrow.keep hu (by intro k hk; omega)).mono (fun k _ hk => by omega)
      · exact hbel.trans (hu.below (by have := hbel.size; omega) (by intro k hk; omega))

set_option maxHeartbeats 400000 in
theorem specSecFlush_no (v : Value) (kept : List ByteArray) (wait : List (Int × ByteArray)) (w : World) (hr : DiskR w v kept wait) (hs : ∀ s ∈ kept, s.size ≤ 9223372036854775807) (hs' : ∀ s ∈ wait, s.2.size ≤ 9223372036854775807) (hok : okB kept wait = false) :
    Calls Tryd.prog 34 #[v] w fun e w' => ∃ v', e = .returned v' ∧ DiskO w' (fun k => w.heap.size ≤ k) v' [] [] ∧ Below w.heap.size w w' := by
  have Hr := hide hr
  obtain ⟨ak, aw, rfl, ⟨ao, ca, rfl, -⟩, ⟨bo, cb, rfl, -⟩⟩ := hr
  have hal : Below w.heap.size w ((w.alloc (.cells #[.slice ao kept.length ca, .slice bo wait.length cb] 31)).alloc (.cells #[.slice none 0 0, .slice none 0 0] 31)) := ((Below.refl _ _).alloc (Nat.le_refl _) _).alloc (by simp) _
  have H1 := hide (al2_1 w (.cells #[.slice ao kept.length ca, .slice bo wait.length cb] 31) (.cells #[.slice none 0 0, .slice none 0 0] 31))
  have Hs := hide hs
  have Hs' := hide hs'
  clear hs hs'
  go_enter Tryd.func34, Tryd.ntmps34
  go_wp2_with fail
  refine (specSecOk_any _ kept wait _ (Hr.out.keep hal) Hs.out Hs'.out).mono ?_
  rintro e w1 ⟨rfl, b1⟩
  rw [hok]
  have B1 := bKeeps b1 H1.out
  obtain ⟨q0, q1, ql⟩ := box2 B1
  obtain ⟨q2, q3⟩ := box2f B1
  clear B1
  go_wp2
  have hu : Upd (fun k => k = w.heap.size + 1) w1 ((w1.setCell ⟨w.heap.size + 1, 0, none⟩ (.slice none 0 0)).setCell ⟨w.heap.size + 1, 1, none⟩ (.slice none 0 0)) :=
    upd_set2 _ _ _ _ _ _
  exact bodyPost_ret (v := .agg #[.slice none 0 0, .slice none 0 0]) (by simp [results, Tryd.results34, go_sem, q0, q1]) rfl ⟨_, rfl, ⟨_, _, rfl, Row.nil _ _ _ _, Row.nil _ _ _ _⟩, (bAll hal b1).trans (hu.below (by have := b1.size; simp only [World.size_alloc] at this; omega) (by intro k hk; omega))⟩

/-- What is kept behind a flush. -/
def flushK (kept : List ByteArray) (wait : List (Int × ByteArray)) : List ByteArray := if okB kept wait = true then flushL kept wait else []

theorem specSecFlush_any (v : Value) (kept : List ByteArray) (wait : List (Int × ByteArray)) (w : World) (hr : DiskR w v kept wait) (hs : ∀ s ∈ kept, s.size ≤ 9223372036854775807) (hs' : ∀ s ∈ wait, s.2.size ≤ 9223372036854775807) :
    Calls Tryd.prog 34 #[v] w fun e w' => ∃ v', e = .returned v' ∧ DiskO w' (fun k => w.heap.size ≤ k) v' (flushK kept wait) [] ∧ Below w.heap.size w w' := by
  unfold flushK
  split
  · exact specSecFlush_yes v kept wait w hr ‹_›
  · exact specSecFlush_no v kept wait w hr hs hs' (by simpa using ‹¬ okB kept wait = true›)

end Go.Proofs.YtapflnabiobonaaDoor

/- The iterator over the writes that wait: its contract; no statement of the seat is proved here. -/
namespace Go.Proofs.YtapflnabiobonaaDoor
open Go.RowKit Go.Shelf

attribute [local go_sem] Oper.semAt_some

/-- The write at a place. -/
def wAt (xs : List (Int × ByteArray)) (i : Nat) : Int × ByteArray := xs[i]?.getD (0, ⟨#[]⟩)
/-- What is handed to the loop's body at a place. -/
def wEnc (xs : List (Int × ByteArray)) (i : Nat) : Array Value := #[.int .i64 (i : Nat), .agg #[.int .i64 (wAt xs i).1, .string (wAt xs i).2]]
theorem wEnc_eq {xs : List (Int × ByteArray)} {i : Nat} {a : Int} {s : ByteArray} (h : wAt xs i = (a, s)) : wEnc xs i = #[.int .i64 (i : Nat), .agg #[.int .i64 a, .string s]] := by simp [wEnc, h]
theorem wAt_size {xs : List (Int × ByteArray)} (h : ∀ s ∈ xs, s.2.size ≤ 9223372036854775807) (i : Nat) : (wAt xs i).2.size ≤ 9223372036854775807 := by
  unfold wAt
  cases hx : xs[i]? with
  | none => show (0 : Nat) ≤ _; omega
  | some y => exact h y (List.mem_of_getElem? hx)
/-- A round keeps the row b. -/
def KpB (b : Nat) (W W' : World) : Prop := W'.heap[b]? = W.heap[b]?

theorem kpB_t {b : Nat} {A B C : World} (h : KpB b A B) (k : KpB b B C) : KpB b A C := Eq.trans k h
theorem kpB_b {b : Nat} {w : World} (hb : b < w.heap.size) (W : World) (l : Nat) (o o' : Obj) (hl : w.heap.size ≤ l) (_ : W.heap[l]? = some o) (_ : o.isCells = false) (_ : o.isWalk = false) : KpB b W (W.putObj l o') :=
  World.putObj_heap_other (by omega)

set_option maxRecDepth 100000 in
set_option maxHeartbeats 2000000 in
theorem told1_in (F : Fence) (n : Nat) (hf : F.fn 100) (hro : F.round = none) (hn : 1 ≤ n) (l Bs b off cap : Nat) (ao : Option Addr) (xs : List (Int × ByteArray)) (J Jx : List Nat → World → Prop)
    (hreach : xs.length ≤ 9223372036854775807) (hao : 0 < xs.length → ao = some ⟨b, off, none⟩) (W : World) (hJ : AbidesFrom W.heap.size J)
    (hY : ∀ pre x W1, J pre W1 → pre.length < xs.length → YieldAt F (n - 1) Tryd.prog l (wEnc xs x) W1 fun e W' =>
      (e = .returned (.bool true) ∧ J (pre ++ [x]) W' ∧ KpB b W1 W') ∨ (e = .returned (.bool false) ∧ Jx (pre ++ [x]) W'))
    (hBs : W.cell? ⟨Bs, 0, none⟩ = some (.slice ao xs.length cap)) (hc : ∀ j u, (wcells xs)[j]? = some u → W.cell? ⟨b, off + j, none⟩ = some u) (h0 : J [] W) :
    CallsIn F n Tryd.prog 100 #[.func (.yield l) #[] #[], .pointer (some ⟨Bs, 0, none⟩)] W fun e W' => (∃ v, e = .returned v) ∧
      ((∃ ys, ys = List.range xs.length ∧ J ys W') ∨ (∃ pre, (∃ k, k ≤ xs.length ∧ pre = List.range k) ∧ Jx pre W')) := by
  refine callsIn_of_wp Tryd.func100 rfl hf ?_ hro
  simp only [ Tryd.ntmps100, List.size_toArray, List.length_cons, List.length_nil, Nat.reduceAdd, Nat.reduceSub, Array.replicate_succ, Array.replicate_zero, List.push_toArray, List.append_toArray, List.nil_append, List.cons_append]
  gi_wp2
  gi_loopw [8] (fun i wr => ∃ k : Nat, k ≤ xs.length ∧ i = .int .i64 k ∧ J (List.range k) wr ∧ KpB b W wr)
    (fun i _ => xs.length - (intOf i).toNat)
  case atStart => exact ⟨0, Nat.zero_le _, rfl, h0, rfl⟩
  case round =>
    obtain ⟨k, hk, rfl, hJs, hnx⟩ := hrel
    by_cases hlt : k < xs.length
    · obtain rfl := hao (by omega)
      obtain ⟨⟨a, s⟩, hsk⟩ := getAt xs k hlt
      obtain ⟨e0, e1⟩ := wcells_at xs k (a, s) hsk
      have f1 : wr.cell? ⟨b, off + k * 2, none⟩ = some (.int .i64 a) := by rw [Nat.mul_comm k 2]; exact (World.cell?_of_block (a := ⟨b, off + 2 * k, none⟩) hnx).trans (hc _ _ e0)
      have f2 : wr.cell? ⟨b, off + k * 2 + 1, none⟩ = some (.string s) := by rw [Nat.mul_comm k 2]; exact (World.cell?_of_block (a := ⟨b, off + (2 * k + 1), none⟩) hnx).trans (hc _ _ e1)
      have hJ1 : J (List.range k) (wr.alloc (.cells #[.int .i64 a, .string s] 63)) := hJ _ wr _ none hJs (World.grownBy_alloc wr _ none) (fun r e => by cases e)
      obtain ⟨fn, tmps, assign, body, hy, hR⟩ := hY _ k _ hJ1 (by simpa using hlt)
      have hw : wEnc xs k = #[.int .i64 (k : Nat), .agg #[.int .i64 a, .string s]] := by simp [wEnc, wAt, hsk]
      rw [hw] at hy
      clear hw hsk e0 e1 hc
      have hi : (k : Int) < (xs.length : Int) := by omega
      gi_wp2
      refine hR.mono ?_
      rintro e W3 (⟨rfl, hJ3, hk3⟩ | ⟨rfl, hJx3⟩)
      · gi_wp2
        go_roundw
        case rel => exact ⟨k + 1, by omega, by simp, by rw [List.range_succ]; exact hJ3, kpB_t hnx (kpB_t (Below.heap_alloc wr _ b (World.block_lt_of_cell? wr _ f1)) hk3)⟩
        case measure => simp [intOf]; omega
      · gi_wp2
        refine bodyPost_ret (results_none rfl _ _ _) rfl ?_
        exact ⟨⟨_, rfl⟩, .inr ⟨_, ⟨k + 1, by omega, List.range_succ.symm⟩, hJx3⟩⟩
    · obtain rfl : k = xs.length := by omega
      gi_wp2
      go_end0
      exact ⟨⟨_, rfl⟩, .inl ⟨_, rfl, hJs⟩⟩

set_option maxHeartbeats 1000000 in
theorem told_in (F : Fence) (n : Nat) (hf : F.fn 84) (hro : F.round = none) (a : Option Addr) (len cap : Nat) (w : World) :
    CallsIn F n Tryd.prog 84 #[.agg #[.slice a len cap]] w fun e w' => e = .returned (.func (.func 100) #[] #[.pointer (some ⟨w.heap.size, 0, none⟩)]) ∧ w' = w.alloc (.cells #[.slice a len cap] 92) := by
  refine callsIn_of_wp Tryd.func84 rfl hf ?_ hro
  simp only [ Tryd.ntmps84, List.size_toArray, List.length_cons, List.length_nil, Nat.reduceAdd, Nat.reduceSub, Array.replicate_succ, Array.replicate_zero, List.push_toArray, List.append_toArray, List.nil_append, List.cons_append]
  gi_wp2
  go_ret
  exact ⟨rfl, rfl⟩

/-- What told tells of, of a slice in memory: the places 0, 1, .. and the writes at them; a round that goes on must keep the row. -/
theorem told_stops (F : Fence) (n : Nat) (hf : F.fn 100) (hro : F.round = none) (hn : 1 ≤ n) (Bs b off cap : Nat) (ao : Option Addr) (xs : List (Int × ByteArray)) (w : World)
    (hreach : xs.length ≤ 9223372036854775807) (hao : 0 < xs.length → ao = some ⟨b, off, none⟩) (hBs : w.heap[Bs]? = some (.cells #[.slice ao xs.length cap] 92 (0, 0)))
    (hc : ∀ j u, (wcells xs)[j]? = some u → w.cell? ⟨b, off + j, none⟩ = some u) :
    SeqStopsK F n Tryd.prog 100 #[.pointer (some ⟨Bs, 0, none⟩)] (wEnc xs) (KpB b) (fun ys => ys = List.range xs.length) (fun pre => ∃ k, k ≤ xs.length ∧ pre = List.range k) xs.length w :=
  fun l J Jx W hW hJ _ hY h0 => told1_in F n hf hro hn l Bs b off cap ao xs J Jx hreach hao W hJ hY
    ((cell_of_row W Bs 0 _ _ (0, 0) (bKeeps hW hBs)).trans rfl) (fun j u hj => (hW.cell (p := ⟨b, off + j, none⟩) (World.block_lt_of_cell? w _ (hc j u hj))).trans (hc j u hj)) h0

end Go.Proofs.YtapflnabiobonaaDoor

/- A range over an iterator whose second variable lies in a variable of its own each round: one law, off the library's; no statement of the seat is proved here. -/
namespace Go.Proofs.YtapflnabiobonaaDoor
open Go.RowKit Go.Shelf

/-- The frame of a round: what is handed over laid into its slots, and the pointer to the round's own variable. -/
def roundTmps (ps : Array Tmp) (vs : Array Value) (p : Tmp) (Bx : Nat) (t : Array Value) : Array Value :=
  ((ps.zip vs).foldl (fun t (p, v) => t.setIfInBounds p v) t).setIfInBounds p (.pointer (some ⟨Bx, 0, none⟩))

theorem roundTmps_two (p1 p2 p : Tmp) (v1 v2 : Value) (Bx : Nat) (t : Array Value) : roundTmps #[p1, p2] #[v1, v2] p Bx t = ((t.setIfInBounds p1 v1).setIfInBounds p2 v2).setIfInBounds p (.pointer (some ⟨Bx, 0, none⟩)) := by
  simp [roundTmps]

theorem range_boxed {F : Fence} {n : Nat} {P : Program} {α : Type} {g : Operand} {ps : Array Tmp} {assign body : Code} {Q : Exit → Act → World → Prop} {a : Act} {w : World}
    (hro : F.round = none) (h1 : 1 ≤ n) {gf : Nat} {lb : Array Value} (hg : a.eval g = .func (.func gf) #[] lb) (hFg : F.fn gf) (eg : ∀ args w, (callFunc gf args).run P w = .ok (.enter gf args) w)
    {encs : α → Array Value} {Kp : World → World → Prop} {S Sp : List α → Prop} {N : Nat} {w0 : World} (hseq : SeqStopsK F (n - 1) P gf lb encs Kp S Sp N w0)
    (hKt : ∀ {A B C : World}, Kp A B → Kp B C → Kp A C) (hKb : ∀ (W : World) (l : Nat) (o o' : Obj), w.heap.size ≤ l → W.heap[l]? = some o → o.isCells = false → o.isWalk = false → Kp W (W.putObj l o')) (hb0 : Below w0.heap.size w0 w) (hps : ∀ x, (encs x).size = ps.size)
    (I : List α → World → Prop) (Ix : Code → List α → World → Prop) (hI : OwnFrom w.heap.size I) (hIx : ∀ c, OwnFrom w.heap.size (Ix c)) (h0 : I [] w)
    (hIs : ∀ pre W, I pre W → w.heap.size ≤ W.heap.size) (hKa : ∀ pre W o, I pre W → Kp W (W.alloc o))
    (p : Tmp) (t : TypeId) (cs : α → Array Value)
    (hassign : ∀ (l : Nat) (pre : List α) (x : α) (W : World) (K : Act → World → Prop), I pre W → K { tmps := roundTmps ps (encs x) p W.heap.size a.tmps, defers := [] } (W.alloc (.cells (cs x) t)) →
      assign.wpIn (F.inRound l) (n - 1 - 1) P (Exit.then K (fun _ _ _ => False)) { tmps := (ps.zip (encs x)).foldl (fun t (p, v) => t.setIfInBounds p v) a.tmps, defers := [] } W)
    (hbody : ∀ (l : Nat) (pre : List α) (x : α) (Bx : Nat) (W : World), w.heap.size ≤ l → w.heap.size ≤ Bx → W.heap[Bx]? = some (.cells (cs x) t (0, 0)) → I pre W → pre.length < N →
      body.wpIn (F.inRound l) (n - 1 - 1) P (ownPostG w.heap.size Kp I Ix (pre ++ [x]) W) { tmps := roundTmps ps (encs x) p Bx a.tmps, defers := [] } W)
    (hdone : ∀ (D : Nat) (xs : List α) (W : World), w.heap.size ≤ D → S xs → I xs W → W.heap[D]? = some (.deferred (some [])) → Q .normal { a with defers := { target := .collected D, args := #[] } :: a.defers } W)
    (hstop : ∀ (D : Nat) (c : Code) (pre : List α) (W : World), w.heap.size ≤ D → Sp pre → Ix c pre W → W.heap[D]? = some (.deferred (some [])) → c.wpIn F n P Q { a with defers := { target := .collected D, args := #[] } :: a.defers } W) :
    (Code.rangeFunc g ps assign body).wpIn F n P Q a w := by
  refine wpIn_rangeFunc_ownH hro h1 hg hFg eg hseq (fun h k => hKt h k) hKb hb0 hps I Ix hI hIx h0
    (fun x a' W => ∃ Bx, w.heap.size ≤ Bx ∧ W.heap[Bx]? = some (.cells (cs x) t (0, 0)) ∧ a' = { tmps := roundTmps ps (encs x) p Bx a.tmps, defers := [] }) ?_ ?_ ?_ hdone hstop
  · rintro x a' _ X Y row ⟨Bx, hB, hx, e⟩ hgr hr
    refine ⟨Bx, hB, (hgr.block Bx (heap_lt hx) (fun er => ?_)).trans hx, e⟩
    obtain ⟨_, o, ho, hc⟩ := hr Bx er.symm
    rw [hx] at ho
    obtain rfl := Option.some.inj ho
    simp [Obj.isCells] at hc
  · intro l pre x W K hi hK
    exact hassign l pre x W K hi (hK _ _ ((KeepsOthers.alloc _ _).from _) (hKa pre W _ hi) (hI.alloc _ hi) ⟨W.heap.size, hIs pre W hi, heap_alloc_new W _, rfl⟩)
  · rintro l pre x a' W hl _ hi ⟨Bx, hB, hx, rfl⟩ hN
    exact hbody l pre x Bx W hl hB hx hi hN

theorem own_cells {β : Type} (B g : Nat) (c : β → Array Value) (t : TypeId) : OwnFrom B (fun (s : β) W => W.heap[g]? = some (.cells (c s) t (0, 0))) := by
  intro s W W' row hs hg hr
  refine (hg.block g (heap_lt hs) (fun e => ?_)).trans hs
  obtain ⟨_, o, ho, hc⟩ := hr g e.symm
  rw [hs] at ho
  obtain rfl := Option.some.inj ho
  simp [Obj.isCells] at hc
theorem own_pure {β : Type} (B : Nat) (P : β → Prop) : OwnFrom B (fun (s : β) _ => P s) := fun _ _ _ _ hs _ _ => hs
theorem own_size {β : Type} (B k : Nat) : OwnFrom B (fun (_ : β) W => k ≤ W.heap.size) := fun _ _ _ _ hs hg _ => Nat.le_trans hs hg.size

end Go.Proofs.YtapflnabiobonaaDoor

/- What SecOk of the program does: contracts; no statement of the seat is proved here. -/
namespace Go.Proofs.YtapflnabiobonaaDoor
open Go.RowKit Go.Shelf

attribute [local go_sem] Oper.semAt_some

theorem has_any (ao : Option Addr) (n cap : Nat) (a : Int) (w : World) (_hn : n ≤ 9223372036854775807) :
    Calls Tryd.prog 64 #[.agg #[.slice ao n cap], .int .i64 a] w fun e w' => e = .returned (.bool (inB a 0 ((n : Int) - 1))) ∧ Below w.heap.size w w' := by
  have hal : Below w.heap.size w (w.alloc (.cells #[.slice ao n cap] 66)) := (Below.refl _ _).alloc (Nat.le_refl _) _
  by_cases h1 : 0 ≤ a
  · by_cases h2 : a < n
    · have : inB a 0 ((n : Int) - 1) = true := by simp [inB]; omega
      rw [this]
      clear this
      go_enter Tryd.func64, Tryd.ntmps64
      go_wp2
      go_ret
      exact ⟨rfl, hal⟩
    · have : inB a 0 ((n : Int) - 1) = false := by simp [inB]; omega
      rw [this]
      clear this
      go_enter Tryd.func64, Tryd.ntmps64
      go_wp2
      go_ret
      exact ⟨rfl, hal⟩
  · have : inB a 0 ((n : Int) - 1) = false := by simp [inB]; omega
    rw [this]
    clear this
    go_enter Tryd.func64, Tryd.ntmps64
    go_wp2
    go_ret
    exact ⟨rfl, hal⟩

set_option maxHeartbeats 400000 in
theorem fits_any (ao : Option Addr) (n cap : Nat) (a : Int) (s : ByteArray) (w : World) (hn : n ≤ 9223372036854775807) (hs : s.size ≤ 9223372036854775807) :
    Calls Tryd.prog 86 #[.agg #[.slice ao n cap], .agg #[.int .i64 a, .string s]] w fun e w' => e = .returned (.bool (writeOkB n (a, s))) ∧ Below w.heap.size w w' := by
  have hal : Below w.heap.size w ((w.alloc (.cells #[.slice ao n cap] 66)).alloc (.cells #[.int .i64 a, .string s] 63)) := ((Below.refl _ _).alloc (Nat.le_refl _) _).alloc (by simp) _
  have B1 := al2_1 w (.cells #[.slice ao n cap] 66) (.cells #[.int .i64 a, .string s] 63)
  have H1 := hide B1
  clear B1
  go_enter Tryd.func86, Tryd.ntmps86
  go_wp2_with fail
  refine (has_any ao n cap a _ hn).mono ?_
  rintro e w1 ⟨rfl, b1⟩
  obtain ⟨c0, c1, cl⟩ := box2 (bKeeps b1 H1.out)
  cases h1 : inB a 0 ((n : Int) - 1)
  · have : writeOkB n (a, s) = false := by simp [writeOkB, h1]
    have Hx := hide this
    clear this
    go_wp2
    go_ret
    exact ⟨by rw [Hx.out]; rfl, bAll hal b1⟩
  · by_cases h2 : (s.size : Int) ≤ 16
    · have : writeOkB n (a, s) = true := by simp [writeOkB, h1]; omega
      have Hx := hide this
      clear this
      go_wp2
      go_ret
      exact ⟨by rw [Hx.out]; rfl, bAll hal b1⟩
    · have : writeOkB n (a, s) = false := by simp [writeOkB, h1]; omega
      have Hx := hide this
      clear this
      go_wp2
      go_ret
      exact ⟨by rw [Hx.out]; simp; omega, bAll hal b1⟩

theorem secSeen_any (ao bo : Option Addr) (n cap m cap' : Nat) (w : World) :
    Calls Tryd.prog 62 #[.agg #[.slice ao n cap, .slice bo m cap']] w fun e w' => e = .returned (.agg #[.slice ao n cap, .slice bo m cap']) ∧ Below w.heap.size w w' := by
  go_enter Tryd.func62, Tryd.ntmps62
  go_wp2
  exact bodyPost_ret (v := .agg #[.slice ao n cap, .slice bo m cap']) (by simp [results, Tryd.results62, go_sem]) rfl ⟨rfl, ((Below.refl _ _).alloc (Nat.le_refl _) _).alloc (by simp) _⟩

set_option maxRecDepth 100000 in
set_option maxHeartbeats 4000000 in
theorem stateOk_in (kept : List ByteArray) (wait : List (Int × ByteArray)) (ao bo : Option Addr) (ca cb : Nat) (w : World)
    (a1 : RowR w 1 (.slice ao kept.length ca) kept.length (kept.map Value.string)) (a2 : RowR w 2 (.slice bo wait.length cb) wait.length (wcells wait))
    (hs : ∀ s ∈ kept, s.size ≤ 9223372036854775807) (hs' : ∀ s ∈ wait, s.2.size ≤ 9223372036854775807) (h1 : kept.length ≤ 512) (h2 : wait.length ≤ 600) :
    CallsIn Fence.wide 9 Tryd.prog 63 #[.agg #[.slice ao kept.length ca, .slice bo wait.length cb]] w fun e w' => e = .returned (.bool (okB kept wait)) ∧ Below w.heap.size w w' := by
  have Hs := hide hs
  have Hs' := hide hs'
  clear hs hs'
  refine callsIn_of_wp_marks Tryd.func63 rfl trivial ?_ rfl
  simp only [ Tryd.ntmps63, List.size_toArray, List.length_cons, List.length_nil, Nat.reduceAdd, Nat.reduceSub, Array.replicate_succ, Array.replicate_zero, List.push_toArray, List.append_toArray, List.nil_append, List.cons_append]
  have hal : Below w.heap.size w ((w.alloc (.cells #[.slice ao kept.length ca, .slice bo wait.length cb] 94)).alloc (.cells #[.bool false] 4)) := ((Below.refl _ _).alloc (Nat.le_refl _) _).alloc (by simp) _
  have HB0 := hide (al2_0 w (.cells #[.slice ao kept.length ca, .slice bo wait.length cb] 94) (.cells #[.bool false] 4))
  have HB1 := hide (al2_1 w (.cells #[.slice ao kept.length ca, .slice bo wait.length cb] 94) (.cells #[.bool false] 4))
  obtain ⟨ao', ca', e1, hn1, hl1, b1⟩ := a1
  simp only [Value.slice.injEq, true_and] at e1
  obtain ⟨rfl, rfl⟩ := e1
  clear hl1
  gi_wp2
  gi_loopw [23] (fun i wr => ∃ k : Nat, k ≤ kept.length ∧ i = .int .i64 k ∧ (∀ j s, j < k → kept[j]? = some s → s.size ≤ 16) ∧ wr.heap[w.heap.size]? = some (.cells #[.slice ao kept.length ca, .slice bo wait.length cb] 94 (0, 0)) ∧ wr.heap[w.heap.size + 1]? = some (.cells #[.bool false] 4 (0, 0)) ∧ Below w.heap.size w wr) (fun i _ => kept.length - (intOf i).toNat)
  case atStart => exact ⟨0, Nat.zero_le _, rfl, fun j s hj => by omega, HB0.out, HB1.out, hal⟩
  case round =>
    obtain ⟨k, hk, rfl, hok, hbox, hres, hbel⟩ := hrel
    have Hok := hide hok
    obtain ⟨c0, c1, cl⟩ := box2 hbox
    have Hbox := hide hbox
    have r0 : wr.cell? ⟨w.heap.size + 1, 0, none⟩ = some (.bool false) := (cell_of_row wr _ 0 _ _ (0, 0) hres).trans rfl
    have r1 : wr.frozen? ⟨w.heap.size + 1, 0, none⟩ = false := frozen_of_row wr _ 0 _ _ hres
    have Hres := hide hres
    clear hok hbox hres
    by_cases hlt : k < kept.length
    · obtain ⟨b2, o1, rfl, hc1⟩ := b1 (by omega)
      obtain ⟨s, hsk⟩ := getAt kept k hlt
      have Hsk := hide hsk
      have g1 := hc1 k (.string s) (by simp [hsk])
      have hsz : s.size ≤ 9223372036854775807 := Hs.out s (List.mem_of_getElem? hsk)
      have f1 : wr.cell? ⟨b2, o1 + k, none⟩ = some (.string s) := (hbel.cell (p := ⟨b2, o1 + k, none⟩) (World.block_lt_of_cell? w _ g1)).trans g1
      have hi : (k : Int) < (kept.length : Int) := by omega
      clear b1 hc1 hsk g1
      by_cases h16 : s.size ≤ 16
      · gi_wp2
        go_roundw
        case rel =>
          refine ⟨k + 1, by omega, by go_num, fun j t hj ht => ?_, Hbox.out, Hres.out, hbel⟩
          by_cases hjk : j = k
          · subst hjk
            rw [Hsk.out] at ht
            rw [← Option.some.inj ht]
            exact h16
          · exact Hok.out j t (by omega) ht
        case measure => simp [intOf]; omega
      · have Hx : Hid (okB kept wait = false) := by
          have : kept.all (fun s => decide (s.size ≤ 16)) = false := by
            rw [List.all_eq_false]
            exact ⟨s, List.mem_of_getElem? Hsk.out, by simpa using h16⟩
          show _ = false
          simp [okB, this]
        have r2 : (wr.setCell ⟨w.heap.size + 1, 0, none⟩ (.bool false)).cell? ⟨w.heap.size + 1, 0, none⟩ = some (.bool false) := World.cell?_setCell_same _ _ _ r0
        gi_wp2
        refine ⟨.bool false, by simp [results, Tryd.results63, go_sem, r2], by rw [Hx.out], hbel.setCell (p := ⟨w.heap.size + 1, 0, none⟩) (by show _ ≤ w.heap.size + 1; omega) _⟩
    · obtain rfl : k = kept.length := by omega
      have HK : Hid (kept.all (fun s => decide (s.size ≤ 16)) = true) := by
        show _ = true
        rw [List.all_eq_true]
        intro s hs
        obtain ⟨j, hj, rfl⟩ := List.getElem_of_mem hs
        simpa using Hok.out j _ hj (by simp [hj])
      clear Hok b1 hk hlt HB0 HB1
      gi_wp2_with fail
      refine ⟨trivial, ?_⟩
      refine (told_in Fence.wide 8 trivial rfl bo wait.length cb wr).mono ?_
      rintro e w' ⟨rfl, rfl⟩
      obtain ⟨bo', cb', e2, hn2, hl2, q2⟩ := a2
      simp only [Value.slice.injEq, true_and] at e2
      obtain ⟨rfl, rfl⟩ := e2
      clear hl2
      obtain ⟨W0, hW0⟩ : ∃ W0, W0 = wr.alloc (.cells #[.slice bo wait.length cb] 92) := ⟨_, rfl⟩
      have hbW : Below wr.heap.size wr W0 := by rw [hW0]; exact (Below.refl _ _).alloc (Nat.le_refl _) _
      have hBs : W0.heap[wr.heap.size]? = some (.cells #[.slice bo wait.length cb] 92 (0, 0)) := by rw [hW0]; exact al1_0 wr _
      have hsz : W0.heap.size = wr.heap.size + 1 := by rw [hW0]; simp
      rw [← hW0]
      clear hW0
      have hbel0 := bAll hbel hbW
      have hbox0 := bKeeps hbW Hbox.out
      have hres0 := bKeeps hbW Hres.out
      obtain ⟨b, off, hbl, hao, hcs⟩ : ∃ b off, b < W0.heap.size ∧ (0 < wait.length → bo = some ⟨b, off, none⟩) ∧ ∀ j u, (wcells wait)[j]? = some u → W0.cell? ⟨b, off + j, none⟩ = some u := by
        by_cases h0 : 0 < wait.length
        · obtain ⟨b, off, e, hc⟩ := q2 h0
          have hc' : ∀ j u, (wcells wait)[j]? = some u → W0.cell? ⟨b, off + j, none⟩ = some u := fun j u hj => (hbel0.cell (p := ⟨b, off + j, none⟩) (World.block_lt_of_cell? w _ (hc j u hj))).trans (hc j u hj)
          refine ⟨b, off, ?_, fun _ => e, hc'⟩
          obtain ⟨x, hx⟩ := getAt wait 0 h0
          exact World.block_lt_of_cell? W0 _ (hc' _ _ (wcells_at wait 0 x hx).1)
        · refine ⟨w.heap.size, 0, heap_lt hbox0, fun h => by omega, fun j u hj => ?_⟩
          have : wait = [] := List.eq_nil_of_length_eq_zero (by omega)
          subst this
          simp [wcells] at hj
      clear c0 c1 cl r0 r1 Hbox Hres
      have Hcs := hide hcs
      have Hao := hide hao
      clear hcs hao q2 hal
      gi_wp2_with fail
      refine range_boxed rfl (by omega) (gf := 100) (lb := #[.pointer (some ⟨wr.heap.size, 0, none⟩)]) rfl trivial (enters_of Tryd.func100 (by kernel_rfl) rfl)
        (told_stops Fence.wide (9 - 1) trivial rfl (by omega) wr.heap.size b off cb bo wait W0 hn2 Hao.out hBs Hcs.out) kpB_t (kpB_b hbl) (Below.refl _ _) (fun _ => rfl)
        (fun pre W => ((∀ j ∈ pre, writeOkB kept.length (wAt wait j) = true) ∧ W.heap[w.heap.size]? = some (.cells #[.slice ao kept.length ca, .slice bo wait.length cb] 94 (0, 0)) ∧ W.heap[w.heap.size + 1]? = some (.cells #[.bool false] 4 (0, 0))) ∧ (Below w.heap.size w W ∧ W0.heap.size ≤ W.heap.size))
        (fun c pre W => (c = .ret ∧ (∃ ini x, pre = ini ++ [x] ∧ writeOkB kept.length (wAt wait x) = false) ∧ W.heap[w.heap.size + 1]? = some (.cells #[.bool false] 4 (0, 0))) ∧ Below w.heap.size w W)
        ?hI ?hIx ?h0 ?hIs ?hKa 6 63 (fun x => #[.int .i64 (wAt wait x).1, .string (wAt wait x).2]) ?assign ?body ?done ?stop
      case hI => exact OwnFrom.and (OwnFrom.and (own_pure _ _) (OwnFrom.and (own_cells _ _ _ _) (own_cells _ _ _ _))) (OwnFrom.and (ownFrom_below (Nat.le_refl _) (by have := hbel0.size; omega)) (own_size _ _))
      case hIx => exact fun c => OwnFrom.and (OwnFrom.and (own_pure _ _) (OwnFrom.and (own_pure _ _) (own_cells _ _ _ _))) (ownFrom_below (Nat.le_refl _) (by have := hbel0.size; omega))
      case h0 => exact ⟨⟨by simp, hbox0, hres0⟩, hbel0, Nat.le_refl _⟩
      case hIs => exact fun pre W h => h.2.2
      case hKa => exact fun pre W o h => Below.heap_alloc W o b (by have := h.2.2; omega)
      case assign =>
        intro l pre x W K hi hK
        obtain ⟨a, s, hx⟩ : ∃ a s, wAt wait x = (a, s) := ⟨_, _, rfl⟩
        rw [wEnc_eq hx] at hK ⊢
        simp only [hx] at hK
        rw [roundTmps_two] at hK
        clear hi hbox0 hres0 hBs
        gi_wp2
        exact hK
      case body =>
        rintro l pre x Bx W hl hBx hxb ⟨⟨hok, hbox, hres⟩, hbel, hsW⟩ hN
        have hsz := wAt_size Hs'.out x
        obtain ⟨a, s, hx⟩ : ∃ a s, wAt wait x = (a, s) := ⟨_, _, rfl⟩
        rw [wEnc_eq hx]
        simp only [hx] at hxb hsz
        obtain ⟨x0, x1, xl⟩ := box2 hxb
        obtain ⟨c0, c1, cl⟩ := box2 hbox
        have r0 : W.cell? ⟨w.heap.size + 1, 0, none⟩ = some (.bool false) := (cell_of_row W _ 0 _ _ (0, 0) hres).trans rfl
        have r1 : W.frozen? ⟨w.heap.size + 1, 0, none⟩ = false := frozen_of_row W _ 0 _ _ hres
        have Hbox := hide hbox
        have Hres := hide hres
        have Hok := hide hok
        have Hx := hide hx
        clear hbox hres hok hxb hx hbox0 hres0 hBs
        rw [roundTmps_two]
        gi_wp2_with fail
        refine ⟨trivial, ?_⟩
        refine (CallsIn.inRound l (callsIn_wide.2 (fits_any ao kept.length ca a s W hn1 hsz))).mono ?_
        rintro e W1 ⟨rfl, b1⟩
        have hres1 := bKeeps b1 Hres.out
        have r2 : W1.cell? ⟨w.heap.size + 1, 0, none⟩ = some (.bool false) := (cell_of_row W1 _ 0 _ _ (0, 0) hres1).trans rfl
        have r3 : W1.frozen? ⟨w.heap.size + 1, 0, none⟩ = false := frozen_of_row W1 _ 0 _ _ hres1
        have Hres1 := hide hres1
        clear hres1
        have k1 : KeepsFrom W0.heap.size W W1 := ⟨b1.size, fun k o _ hk _ => bKeeps b1 hk⟩
        cases hwo : writeOkB kept.length (a, s)
        · gi_wp2
          have hg := row_set (j := 0) (.bool false) Hres1.out
          refine ⟨k1.trans ((KeepsOthers.setCell _ _ _).from _), ⟨rfl, ⟨pre, x, rfl, by rw [Hx.out]; exact hwo⟩, hg⟩, (bAll hbel b1).setCell (p := ⟨w.heap.size + 1, 0, none⟩) (by show _ ≤ w.heap.size + 1; omega) _⟩
        · gi_wp2
          refine ⟨k1, b1.block b (by omega), ⟨fun j hj => ?_, bKeeps b1 Hbox.out, Hres1.out⟩, bAll hbel b1, Nat.le_trans hsW b1.size⟩
          rcases List.mem_append.1 hj with h | h
          · exact Hok.out j h
          · obtain rfl : j = x := by simpa using h
            rw [Hx.out]
            exact hwo
      case done =>
        rintro D ys W hD rfl ⟨⟨hok, hbox, hres⟩, hbel, hsW⟩ hK
        have r2 : W.cell? ⟨w.heap.size + 1, 0, none⟩ = some (.bool false) := (cell_of_row W _ 0 _ _ (0, 0) hres).trans rfl
        have r3 : W.frozen? ⟨w.heap.size + 1, 0, none⟩ = false := frozen_of_row W _ 0 _ _ hres
        have Hok := hide hok
        have HKD := hide hK
        have Hres := hide hres
        clear hok hbox hres hK hbox0 hres0 hBs
        gi_wp2
        have hK' := (KeepsOthers.setCell W ⟨w.heap.size + 1, 0, none⟩ (.bool true)).same D _ HKD.out rfl
        refine ⟨by simp, .inl ⟨_, _, rfl, run_takeDeferred hK', ?_⟩⟩
        have hc5 := cell_kept (World.cell?_setCell_same' W ⟨w.heap.size + 1, 0, none⟩ (.bool true) (by rw [r2]; rfl)) (grownBy_putObj' _ D (.deferred none)) (fun r e => by cases e; exact ⟨_, hK', rfl⟩)
        have hb : okB kept wait = true := by
          have : wait.all (writeOkB kept.length) = true := by
            rw [List.all_eq_true]
            intro s hs
            obtain ⟨j, hj, rfl⟩ := List.getElem_of_mem hs
            have := Hok.out j (by simpa using hj)
            simpa [wAt, hj] using this
          simp only [okB, this, HK.out, h1, h2, decide_true, Bool.and_self]
        refine ⟨.bool true, by simp [results, Tryd.results63, go_sem, hc5], by rw [hb], ?_⟩
        exact (hbel.setCell (p := ⟨w.heap.size + 1, 0, none⟩) (by show _ ≤ w.heap.size + 1; omega) _).trans (belowK_b (w := W0) (by have := hbel0.size; omega) _ D _ _ hD hK' rfl rfl)
      case stop =>
        rintro D c pre W hD ⟨k, hk, rfl⟩ ⟨⟨rfl, ⟨ini, x, e1, hwo⟩, hres⟩, hbel⟩ hK
        have HKD := hide hK
        have Hres := hide hres
        clear hres hK hbox0 hres0 hBs
        gi_wp2
        refine ⟨by simp, .inl ⟨_, _, rfl, run_takeDeferred HKD.out, ?_⟩⟩
        have hc5 := cell_kept ((cell_of_row W (w.heap.size + 1) 0 _ _ (0, 0) Hres.out).trans rfl) (grownBy_putObj' _ D (.deferred none)) (fun r e => by cases e; exact ⟨_, HKD.out, rfl⟩)
        have hb : okB kept wait = false := by
          have hxl : x < wait.length := by
            have : x ∈ List.range k := by rw [e1]; simp
            have := List.mem_range.1 this
            omega
          have : wait.all (writeOkB kept.length) = false := by
            rw [List.all_eq_false]
            refine ⟨wait[x], List.getElem_mem hxl, ?_⟩
            simpa [wAt, hxl] using hwo
          simp [okB, this]
        refine ⟨.bool false, by simp [results, Tryd.results63, go_sem, hc5], by rw [hb], ?_⟩
        exact hbel.trans (belowK_b (w := W0) (by have := hbel0.size; omega) _ D _ _ hD HKD.out rfl rfl)

set_option maxHeartbeats 400000 in
theorem stateOk_any (kept : List ByteArray) (wait : List (Int × ByteArray)) (v : Value) (w : World) (hr : DiskR w v kept wait)
    (hs : ∀ s ∈ kept, s.size ≤ 9223372036854775807) (hs' : ∀ s ∈ wait, s.2.size ≤ 9223372036854775807) :
    Calls Tryd.prog 63 #[v] w fun e w' => e = .returned (.bool (okB kept wait)) ∧ Below w.heap.size w w' := by
  obtain ⟨ak, aw, rfl, a1, a2⟩ := hr
  obtain ⟨ao, ca, rfl⟩ : ∃ ao ca, ak = .slice ao kept.length ca := by obtain ⟨ao, ca, h, -⟩ := a1; exact ⟨ao, ca, h⟩
  obtain ⟨bo, cb, rfl⟩ : ∃ ao ca, aw = .slice ao wait.length ca := by obtain ⟨ao, ca, h, -⟩ := a2; exact ⟨ao, ca, h⟩
  by_cases h1 : kept.length ≤ 512
  · by_cases h2 : wait.length ≤ 600
    · exact callsIn_wide.1 (stateOk_in kept wait ao bo ca cb w a1 a2 hs hs' h1 h2)
    · have Hx : Hid (okB kept wait = false) := by show _ = false; simp [okB, h2]
      clear a1 a2 hs hs'
      go_enter Tryd.func63, Tryd.ntmps63
      go_wp2
      exact bodyPost_ret (v := .bool false) (by simp [results, Tryd.results63, go_sem]) rfl ⟨by rw [Hx.out], ((Below.refl _ _).alloc (Nat.le_refl _) _).alloc (by simp) _⟩
  · have Hx : Hid (okB kept wait = false) := by show _ = false; simp [okB, h1]
    clear a1 a2 hs hs'
    go_enter Tryd.func63, Tryd.ntmps63
    go_wp2
    exact bodyPost_ret (v := .bool false) (by simp [results, Tryd.results63, go_sem]) rfl ⟨by rw [Hx.out], ((Below.refl _ _).alloc (Nat.le_refl _) _).alloc (by simp) _⟩

set_option maxHeartbeats 400000 in
theorem implSecOk_any (kept : List ByteArray) (wait : List (Int × ByteArray)) (v : Value) (w : World) (hr : DiskR w v kept wait)
    (hs : ∀ s ∈ kept, s.size ≤ 9223372036854775807) (hs' : ∀ s ∈ wait, s.2.size ≤ 9223372036854775807) :
    Calls Tryd.prog 57 #[v] w fun e w' => e = .returned (.bool (okB kept wait)) ∧ Below w.heap.size w w' := by
  have Hr := hide hr
  obtain ⟨ak, aw, rfl, ⟨ao, ca, rfl, -⟩, ⟨bo, cb, rfl, -⟩⟩ := hr
  have hal : Below w.heap.size w (w.alloc (.cells #[.slice ao kept.length ca, .slice bo wait.length cb] 31)) := (Below.refl _ _).alloc (Nat.le_refl _) _
  have Hs := hide hs
  have Hs' := hide hs'
  clear hs hs'
  go_enter Tryd.func57, Tryd.ntmps57
  go_wp2_with fail
  refine (secSeen_any ao bo _ ca _ cb _).mono ?_
  rintro e w1 ⟨rfl, b1⟩
  go_wp2_with fail
  refine (stateOk_any kept wait _ _ ((Hr.out.keep hal).keep b1) Hs.out Hs'.out).mono ?_
  rintro e w2 ⟨rfl, b2⟩
  go_wp2
  go_ret
  exact ⟨rfl, bAll (bAll hal b1) b2⟩

end Go.Proofs.YtapflnabiobonaaDoor

/- append of a slice in memory onto an empty row of the call's own, as one step of a region that draws its order; what makes a disk anew; no statement of the seat is proved here. -/
namespace Go.Proofs.YtapflnabiobonaaDoor
open Go.RowKit

theorem step_copy {P : Program} {ops : Array Oper} {o : Oper} {a : Act} {w : World} {K : Act → World → Prop} {Q : Exit → Act → World → Prop} {E : Prop}
    (hg : o.guard = none) (s x : Operand) (t : TypeId) (hop : o.op = Op.call { callee := Callee.builtin Builtin.append, args := #[s, x], argTypes := #[t, t] })
    (base : Nat) (e : TypeId) (i : TypeInfo) (z : Value) (size bytes : Nat) (ht : P.underlying t = some (.slice e)) (hi : P.info? e = some i) (hz : i.zero = some z)
    (hsize : i.size = size) (hby : i.bytes = bytes) (hzs : z.cells.size = size) (hsz : 0 < size)
    (v : Value) (hs : a.eval s = v) (hown : w.ownsRow base e size v 0 [])
    (vx : Value) (m : Nat) (news : List Value) (hx : a.eval x = vx) (hr : RowR w size vx m news) (h1 : ∀ u ∈ news, u.oneCell' = true)
    (h63 : m ≤ 1048576) (hbytes : m * bytes ≤ 140737488355328) (hbase : base ≤ w.heap.size)
    (hK : ∀ v' w', Row w' e size (fun k => base ≤ k) v' m news → Below base w w' → K (a.put o.dst v') w') :
    if Region.wanted o (yielded ops a.tmps) = true then Oper.wp P o a w K Q else E := by
  have hw : Region.wanted o (yielded ops a.tmps) = true := by simp [Region.wanted, hg]
  rw [if_pos hw]
  obtain ⟨ao, c, rfl, _, hl, hr⟩ := hr
  rcases Nat.eq_zero_or_pos m with rfl | hpos
  · obtain rfl : news = [] := List.eq_nil_of_length_eq_zero (by simpa using hl)
    have hrun := run_append_zero (P := P) (w := w) base t o.type e i size ht hi v 0 [] hown ao c
    unfold Oper.wp
    simp [execOp, hop, resolve, invoke, builtin, hs, hx, hrun, Result.andThen]
    exact hK v w (Row.ofOwns hown (by omega)) (Below.refl _ _)
  · obtain ⟨b, off, rfl, hc⟩ := hr hpos
    obtain ⟨v', w', hrun, r1, r2, _⟩ := run_append_own (P := P) w base t o.type e i z size bytes ht hi hz hsize hby hzs hsz v 0 [] hown ⟨b, off, none⟩ m c news hl (fun j u hj => by rw [Addr.add_lit]; exact hc j u hj) h1 (by unfold maxLen; omega) (by rw [Nat.zero_add]; exact hbytes) hbase
    unfold Oper.wp
    simp [execOp, hop, resolve, invoke, builtin, hs, hx, hrun, Result.andThen]
    rw [Nat.zero_add, List.nil_append] at r1
    exact hK v' w' (Row.ofOwns r1 (by omega)) ((Below.refl _ _).grown r2 hbase (fun k e => (hown.lt k e).1))

theorem wcells_one (xs : List (Int × ByteArray)) : ∀ u ∈ wcells xs, u.oneCell' = true := by
  intro u hu
  simp only [wcells, List.mem_flatMap, wcell, List.mem_cons, List.not_mem_nil, or_false] at hu
  obtain ⟨x, _, rfl | rfl⟩ := hu <;> rfl

set_option maxRecDepth 100000 in
set_option maxHeartbeats 2000000 in
theorem secOwn_any (kept : List ByteArray) (wait : List (Int × ByteArray)) (v : Value) (w : World) (hr : DiskR w v kept wait) (hk : kept.length ≤ 1048576) (hw : wait.length ≤ 1048576) :
    Calls Tryd.prog 58 #[v] w fun e w' => ∃ v', e = .returned v' ∧ DiskO w' (fun k => w.heap.size ≤ k) v' kept wait ∧ Below w.heap.size w w' := by
  obtain ⟨ak, aw, rfl, a1, a2⟩ := hr
  obtain ⟨ao, ca, rfl⟩ : ∃ ao ca, ak = .slice ao kept.length ca := by obtain ⟨ao, ca, h, -⟩ := a1; exact ⟨ao, ca, h⟩
  obtain ⟨bo, cb, rfl⟩ : ∃ ao ca, aw = .slice ao wait.length ca := by obtain ⟨ao, ca, h, -⟩ := a2; exact ⟨ao, ca, h⟩
  have hal : Below w.heap.size w ((w.alloc (.cells #[.slice ao kept.length ca, .slice bo wait.length cb] 31)).alloc (.cells #[.slice none 0 0, .slice none 0 0] 94)) := ((Below.refl _ _).alloc (Nat.le_refl _) _).alloc (by simp) _
  obtain ⟨W, hW⟩ : ∃ W, W = (w.alloc (.cells #[.slice ao kept.length ca, .slice bo wait.length cb] 31)).alloc (.cells #[.slice none 0 0, .slice none 0 0] 94) := ⟨_, rfl⟩
  have B0 : W.heap[w.heap.size]? = some (.cells #[.slice ao kept.length ca, .slice bo wait.length cb] 31 (0, 0)) := by rw [hW]; exact al2_0 w _ _
  have B1 : W.heap[w.heap.size + 1]? = some (.cells #[.slice none 0 0, .slice none 0 0] 94 (0, 0)) := by rw [hW]; exact al2_1 w _ _
  have hsz : W.heap.size = w.heap.size + 2 := by rw [hW]; simp
  rw [← hW] at hal
  have k1 := hide (a1.keep hal)
  have k2 := hide (a2.keep hal)
  clear a1 a2
  obtain ⟨i0, hi, hz0, hz1, hz2⟩ := info_parts infoStr
  obtain ⟨i1, gi, gz0, gz1, gz2⟩ := info_parts infoWr
  go_enter Tryd.func58, Tryd.ntmps58
  go_wp2
  rw [← hW]
  clear hW
  obtain ⟨p0, p1, pl⟩ := box2 B0
  obtain ⟨q0, q1, ql⟩ := box2 B1
  obtain ⟨q2, q3⟩ := box2f B1
  have H0 := hide B0
  have H1 := hide B1
  clear B0 B1
  go_region_law (first
    | (refine step_copy rfl (.const (.slice none 0 0)) (.tmp 4) 22 rfl W.heap.size 9 i0 (.string ⟨#[]⟩) 1 16 Tryd.underlying22 hi hz0 hz1 hz2 rfl (by decide) (.slice none 0 0) (by simp [Act.eval]) (World.ownsRow_nil _ _ _ _) (.slice ao kept.length ca) kept.length (kept.map Value.string) (by simp [Act.eval, Act.put]) (k1.out.keep ((Below.refl _ _).drew)) (strs_one _) hk (by omega) (by simp) ?_; intro v1 w1 r1 b1; obtain ⟨no, cn, rfl⟩ := r1.shape; have b1' : Below W.heap.size W w1 := bUndrew b1; have s0 : w1.cell? ⟨w.heap.size, 1, none⟩ = some (.slice bo wait.length cb) := (b1'.cell (p := ⟨w.heap.size, 1, none⟩) pl).trans p1)
    | (refine step_copy rfl (.const (.slice none 0 0)) (.tmp 8) 29 rfl w1.heap.size 63 i1 (.agg #[.int .i64 0, .string ⟨#[]⟩]) 2 24 Tryd.underlying29 gi gz0 gz1 gz2 rfl (by decide) (.slice none 0 0) (by simp [Act.eval]) (World.ownsRow_nil _ _ _ _) (.slice bo wait.length cb) wait.length (wcells wait) (by simp [Act.eval, Act.put]) (k2.out.keep b1') (wcells_one _) hw (by omega) (Nat.le_refl _) ?_; intro v2 w2 r2 b2; obtain ⟨mo, cm, rfl⟩ := r2.shape; obtain ⟨t0, t1, tl⟩ := box2 (bKeeps b2 (bKeeps b1' H1.out)); obtain ⟨t2, t3⟩ := box2f (bKeeps b2 (bKeeps b1' H1.out))))
  all_goals
    go_wp2
    have hu := upd_set2 w2 (w.heap.size + 1) 0 1 (.slice no kept.length cn) (.slice mo wait.length cm)
    have hz1' := b1'.size
    have hz2' := b2.size
    refine bodyPost_ret (v := .agg #[.slice no kept.length cn, .slice mo wait.length cm]) (by simp [results, Tryd.results58, go_sem, t0, t1]) rfl ⟨_, rfl, ⟨_, _, rfl, ?_, ?_⟩, ?_⟩
    · exact ((r1.keepB b2).keep hu (by intro k hk; omega)).mono (fun k _ hk => by omega)
    · exact (r2.keep hu (by intro k hk; omega)).mono (fun k _ hk => by omega)
    · exact ((bAll hal b1').trans (b2.mono (by omega))).trans (hu.below (by omega) (by intro k hk; omega))

end Go.Proofs.YtapflnabiobonaaDoor
