/- The iterator over the writes that wait: its contract; no statement of the seat is proved here. -/
import Derived.RangeFuncNested
import Derived.RangeFuncBound
import Derived.RangeFuncCalls
import Derived.RangeFuncLeaves
import Derived.Shelf.Abstract
import Derived.OwnWalkIn
import Derived.TacticsInMore
import Derived.LoopNIn
import Derived.LoopIn
import Derived.Test.YtapflnabiobonaaDoorSOk
namespace Go.Proofs.YtapflnabiobonaaDoor
open Go.RowKit Go.Shelf

attribute [local go_sem] Oper.semAt_some

/-- The write at a place. -/
def wAt (xs : List (Int × ByteArray)) (i : Nat) : Int × ByteArray := xs[i]?.getD (0, ⟨#[]⟩)
/-- What is handed to the loop's body at a place. -/
def wEnc (xs : List (Int × ByteArray)) (i : Nat) : Array Value := #[.int .i64 (i : Nat), .agg #[.int .i64 (wAt xs i).1, .string (wAt xs i).2]]
theorem wEnc_eq {xs : List (Int × ByteArray)} {i : Nat} {a : Int} {s : ByteArray} (h : wAt xs i = (a, s)) : wEnc xs i = #[.int .i64 (i : Nat), .agg #[.int .i64 a, .string s]] := by simp [wEnc, h]
theorem wAt_size {xs : List (Int × ByteArray)} (h : ∀ s ∈ xs, s.2.size ≤ 9223372036854775807) (i : Nat) : (wAt xs i).2.size ≤ 9223372036854775807 := by
  unfold wAt
  cases hx : xs[i]? with
  | none => show (0 : Nat) ≤ _; omega
  | some y => exact h y (List.mem_of_getElem? hx)
/-- A round keeps the row b. -/
def KpB (b : Nat) (W W' : World) : Prop := W'.heap[b]? = W.heap[b]?

theorem kpB_t {b : Nat} {A B C : World} (h : KpB b A B) (k : KpB b B C) : KpB b A C := Eq.trans k h
theorem kpB_b {b : Nat} {w : World} (hb : b < w.heap.size) (W : World) (l : Nat) (o o' : Obj) (hl : w.heap.size ≤ l) (_ : W.heap[l]? = some o) (_ : o.isCells = false) (_ : o.isWalk = false) : KpB b W (W.putObj l o') :=
  World.putObj_heap_other (by omega)

set_option maxRecDepth 100000 in
set_option maxHeartbeats 2000000 in
theorem told1_in (F : Fence) (n : Nat) (hf : F.fn 100) (hro : F.round = none) (hn : 1 ≤ n) (l Bs b off cap : Nat) (ao : Option Addr) (xs : List (Int × ByteArray)) (J Jx : List Nat → World → Prop)
    (hreach : xs.length ≤ 9223372036854775807) (hao : 0 < xs.length → ao = some ⟨b, off, none⟩) (W : World) (hJ : AbidesFrom W.heap.size J)
    (hY : ∀ pre x W1, J pre W1 → pre.length < xs.length → YieldAt F (n - 1) Tryd.prog l (wEnc xs x) W1 fun e W' =>
      (e = .returned (.bool true) ∧ J (pre ++ [x]) W' ∧ KpB b W1 W') ∨ (e = .returned (.bool false) ∧ Jx (pre ++ [x]) W'))
    (hBs : W.cell? ⟨Bs, 0, none⟩ = some (.slice ao xs.length cap)) (hc : ∀ j u, (wcells xs)[j]? = some u → W.cell? ⟨b, off + j, none⟩ = some u) (h0 : J [] W) :
    CallsIn F n Tryd.prog 100 #[.func (.yield l) #[] #[], .pointer (some ⟨Bs, 0, none⟩)] W fun e W' => (∃ v, e = .returned v) ∧
      ((∃ ys, ys = List.range xs.length ∧ J ys W') ∨ (∃ pre, (∃ k, k ≤ xs.length ∧ pre = List.range k) ∧ Jx pre W')) := by
  refine callsIn_of_wp Tryd.func100 rfl hf ?_ hro
  simp only [ Tryd.ntmps100, List.size_toArray, List.length_cons, List.length_nil, Nat.reduceAdd, Nat.reduceSub, Array.replicate_succ, Array.replicate_zero, List.push_toArray, List.append_toArray, List.nil_append, List.cons_append]
  gi_wp2
  gi_loopw [8] (fun i wr => ∃ k : Nat, k ≤ xs.length ∧ i = .int .i64 k ∧ J (List.range k) wr ∧ KpB b W wr)
    (fun i _ => xs.length - (intOf i).toNat)
  case atStart => exact ⟨0, Nat.zero_le _, rfl, h0, rfl⟩
  case round =>
    obtain ⟨k, hk, rfl, hJs, hnx⟩ := hrel
    by_cases hlt : k < xs.length
    · obtain rfl := hao (by omega)
      obtain ⟨⟨a, s⟩, hsk⟩ := getAt xs k hlt
      obtain ⟨e0, e1⟩ := wcells_at xs k (a, s) hsk
      have f1 : wr.cell? ⟨b, off + k * 2, none⟩ = some (.int .i64 a) := by rw [Nat.mul_comm k 2]; exact (World.cell?_of_block (a := ⟨b, off + 2 * k, none⟩) hnx).trans (hc _ _ e0)
      have f2 : wr.cell? ⟨b, off + k * 2 + 1, none⟩ = some (.string s) := by rw [Nat.mul_comm k 2]; exact (World.cell?_of_block (a := ⟨b, off + (2 * k + 1), none⟩) hnx).trans (hc _ _ e1)
      have hJ1 : J (List.range k) (wr.alloc (.cells #[.int .i64 a, .string s] 63)) := hJ _ wr _ none hJs (World.grownBy_alloc wr _ none) (fun r e => by cases e)
      obtain ⟨fn, tmps, assign, body, hy, hR⟩ := hY _ k _ hJ1 (by simpa using hlt)
      have hw : wEnc xs k = #[.int .i64 (k : Nat), .agg #[.int .i64 a, .string s]] := by simp [wEnc, wAt, hsk]
      rw [hw] at hy
      clear hw hsk e0 e1 hc
      have hi : (k : Int) < (xs.length : Int) := by omega
      gi_wp2
      refine hR.mono ?_
      rintro e W3 (⟨rfl, hJ3, hk3⟩ | ⟨rfl, hJx3⟩)
      · gi_wp2
        go_roundw
        case rel => exact ⟨k + 1, by omega, by simp, by rw [List.range_succ]; exact hJ3, kpB_t hnx (kpB_t (Below.heap_alloc wr _ b (World.block_lt_of_cell? wr _ f1)) hk3)⟩
        case measure => simp [intOf]; omega
      · gi_wp2
        refine bodyPost_ret (results_none rfl _ _ _) rfl ?_
        exact ⟨⟨_, rfl⟩, .inr ⟨_, ⟨k + 1, by omega, List.range_succ.symm⟩, hJx3⟩⟩
    · obtain rfl : k = xs.length := by omega
      gi_wp2
      go_end0
      exact ⟨⟨_, rfl⟩, .inl ⟨_, rfl, hJs⟩⟩

set_option maxHeartbeats 1000000 in
theorem told_in (F : Fence) (n : Nat) (hf : F.fn 84) (hro : F.round = none) (a : Option Addr) (len cap : Nat) (w : World) :
    CallsIn F n Tryd.prog 84 #[.agg #[.slice a len cap]] w fun e w' => e = .returned (.func (.func 100) #[] #[.pointer (some ⟨w.heap.size, 0, none⟩)]) ∧ w' = w.alloc (.cells #[.slice a len cap] 92) := by
  refine callsIn_of_wp Tryd.func84 rfl hf ?_ hro
  simp only [ Tryd.ntmps84, List.size_toArray, List.length_cons, List.length_nil, Nat.reduceAdd, Nat.reduceSub, Array.replicate_succ, Array.replicate_zero, List.push_toArray, List.append_toArray, List.nil_append, List.cons_append]
  gi_wp2
  go_ret
  exact ⟨rfl, rfl⟩

/-- What told tells of, of a slice in memory: the places 0, 1, .. and the writes at them; a round that goes on must keep the row. -/
theorem told_stops (F : Fence) (n : Nat) (hf : F.fn 100) (hro : F.round = none) (hn : 1 ≤ n) (Bs b off cap : Nat) (ao : Option Addr) (xs : List (Int × ByteArray)) (w : World)
    (hreach : xs.length ≤ 9223372036854775807) (hao : 0 < xs.length → ao = some ⟨b, off, none⟩) (hBs : w.heap[Bs]? = some (.cells #[.slice ao xs.length cap] 92 (0, 0)))
    (hc : ∀ j u, (wcells xs)[j]? = some u → w.cell? ⟨b, off + j, none⟩ = some u) :
    SeqStopsK F n Tryd.prog 100 #[.pointer (some ⟨Bs, 0, none⟩)] (wEnc xs) (KpB b) (fun ys => ys = List.range xs.length) (fun pre => ∃ k, k ≤ xs.length ∧ pre = List.range k) xs.length w :=
  fun l J Jx W hW hJ _ hY h0 => told1_in F n hf hro hn l Bs b off cap ao xs J Jx hreach hao W hJ hY
    ((cell_of_row W Bs 0 _ _ (0, 0) (bKeeps hW hBs)).trans rfl) (fun j u hj => (hW.cell (p := ⟨b, off + j, none⟩) (World.block_lt_of_cell? w _ (hc j u hj))).trans (hc j u hj)) h0

end Go.Proofs.YtapflnabiobonaaDoor
