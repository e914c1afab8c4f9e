/- Contracts and plain facts that this claim leans on (texts VK, VL0, OkLaw, ArgD, ArgP, ArgL, ArgW, ArgV); no statement of the seat is proved here. -/
import Derived.Test.YtiigcokbmggdkaaPk10
import Derived.Test.YtiigcokbmggdkaaPk17
import Derived.Test.YtiigcokbmggdkaaPk1
import Derived.ProofKit
import Derived.OpenShut
import Derived.ShutString
import Derived.ChangeOld
import Derived.Below
import Derived.Lib.SmallJoins
import Derived.Deep.Strs
import Derived.Deep.SlicePairs
import Derived.Deep.Slices
import Derived.Test.YtiigcokbmggdkaaPk2
import Derived.ChangeSlices

/- Marks in papers: contracts; no statement of the seat is proved here. -/
namespace Go.Proofs.Ytiigcokbmggdkaa
open Go.RowKit

/-- Cells written one behind the other. -/
def setL (cur : Array Value) (off : Nat) : List Value → Array Value
  | [] => cur
  | v :: vs => setL (cur.setIfInBounds off v) (off + 1) vs
def setW (w : World) (g off : Nat) : List Value → World
  | [] => w
  | v :: vs => setW (w.setCell ⟨g, off, none⟩ v) g (off + 1) vs
theorem setL_size : ∀ (vs : List Value) (cur : Array Value) (off : Nat), (setL cur off vs).size = cur.size
  | [], _, _ => rfl
  | v :: vs, cur, off => by rw [setL, setL_size vs]; simp
theorem setL_out : ∀ (vs : List Value) (cur : Array Value) (off i : Nat), i < off ∨ off + vs.length ≤ i → (setL cur off vs)[i]? = cur[i]?
  | [], _, _, _, _ => rfl
  | v :: vs, cur, off, i, h => by
    rw [List.length_cons] at h
    rw [setL, setL_out vs _ _ i (by omega), Array.getElem?_setIfInBounds_ne (by omega)]
theorem setL_in : ∀ (vs : List Value) (cur : Array Value) (off r : Nat), off + vs.length ≤ cur.size → r < vs.length → (setL cur off vs)[off + r]? = vs[r]?
  | [], _, _, r, _, h => by simp at h
  | v :: vs, cur, off, 0, hs, _ => by
    rw [List.length_cons] at hs
    rw [setL, setL_out vs _ _ _ (by omega), Nat.add_zero, Array.getElem?_setIfInBounds_self_of_lt (by omega)]
    rfl
  | v :: vs, cur, off, r + 1, hs, h => by
    rw [List.length_cons] at hs h
    have := setL_in vs (cur.setIfInBounds off v) (off + 1) r (by simp; omega) (by omega)
    rw [setL, show off + (r + 1) = off + 1 + r by omega, this]
    rfl
theorem setW_upd {S : Nat → Prop} : ∀ (vs : List Value) (w : World) (g off : Nat), S g → Upd S w (setW w g off vs)
  | [], _, _, _, _ => Upd.refl _ _
  | v :: vs, w, g, off, h => (Upd.setCell w g off v h).trans (setW_upd vs _ g (off + 1) h)
theorem setW_heap : ∀ (vs : List Value) (w : World) (g off : Nat) (cur : Array Value) (e : TypeId), w.heap[g]? = some (.cells cur e (0, 0)) → (setW w g off vs).heap[g]? = some (.cells (setL cur off vs) e (0, 0))
  | [], _, _, _, _, _, h => h
  | _ :: vs, _, g, off, _, e, h => setW_heap vs _ g (off + 1) _ e (row_set _ h)

/-- The marks of papers. -/
def mkPp (m : Nat) : Pp := (((m : Nat) : Int), ((m + 1 : Nat) : Int), { zeroW with c0 := ((m + 2 : Nat) : Int), c1 := ((m + 3 : Nat) : Int), c2 := ((m + 4 : Nat) : Int), c3 := ((m + 5 : Nat) : Int), c4 := ((m + 6 : Nat) : Int), c5 := ((m + 7 : Nat) : Int), c6 := ((m + 8 : Nat) : Int), c7 := ((m + 9 : Nat) : Int), c8 := ((m + 10 : Nat) : Int), c9 := ((m + 11 : Nat) : Int) })
def mkV (k n : Nat) : List Pp := (List.range n).map fun i => mkPp (k + i * 12)
theorem mkV_len (k n : Nat) : (mkV k n).length = n := by simp [mkV]
theorem mkV_get (k n i : Nat) (h : i < n) : (mkV k n)[i]? = some (mkPp (k + i * 12)) := by simp [mkV, h]
theorem mkPp_at (m r : Nat) (h : r < 12) : (pparr (mkPp m))[r]? = some (.int .i64 ((m + r : Nat) : Int)) := by
  rcases (by omega : r = 0 ∨ r = 1 ∨ r = 2 ∨ r = 3 ∨ r = 4 ∨ r = 5 ∨ r = 6 ∨ r = 7 ∨ r = 8 ∨ r = 9 ∨ r = 10 ∨ r = 11) with rfl | rfl | rfl | rfl | rfl | rfl | rfl | rfl | rfl | rfl | rfl | rfl <;> rfl
theorem marks12 (m r : Nat) (h : r < 12) : ([.int .i64 ((m : Int)), .int .i64 ((m : Int) + 1), .int .i64 ((m : Int) + 1 + 1), .int .i64 ((m : Int) + 1 + 1 + 1), .int .i64 ((m : Int) + 1 + 1 + 1 + 1), .int .i64 ((m : Int) + 1 + 1 + 1 + 1 + 1), .int .i64 ((m : Int) + 1 + 1 + 1 + 1 + 1 + 1), .int .i64 ((m : Int) + 1 + 1 + 1 + 1 + 1 + 1 + 1), .int .i64 ((m : Int) + 1 + 1 + 1 + 1 + 1 + 1 + 1 + 1), .int .i64 ((m : Int) + 1 + 1 + 1 + 1 + 1 + 1 + 1 + 1 + 1), .int .i64 ((m : Int) + 1 + 1 + 1 + 1 + 1 + 1 + 1 + 1 + 1 + 1), .int .i64 ((m : Int) + 1 + 1 + 1 + 1 + 1 + 1 + 1 + 1 + 1 + 1 + 1)] : List Value)[r]? = some (.int .i64 ((m + r : Nat) : Int)) := by
  rcases (by omega : r = 0 ∨ r = 1 ∨ r = 2 ∨ r = 3 ∨ r = 4 ∨ r = 5 ∨ r = 6 ∨ r = 7 ∨ r = 8 ∨ r = 9 ∨ r = 10 ∨ r = 11) with rfl | rfl | rfl | rfl | rfl | rfl | rfl | rfl | rfl | rfl | rfl | rfl <;> exact congrArg (fun z => some (Value.int .i64 z)) (by omega)

set_option maxRecDepth 100000 in
set_option maxHeartbeats 8000000 in
theorem markSynPaperS_any (S : Nat → Prop) (v : Value) (n : Nat) (cs : List Value) (k0 : Nat) (w : World) (hr : Row w 56 12 S v n cs) (h1 : 1 ≤ k0) (h2 : k0 + n * 12 ≤ 1099511627776) :
    Calls Try.prog 63 #[v, .int .i64 k0] w fun e w' => e = .returned (.int .i64 (k0 + n * 12 : Nat)) ∧ Row w' 56 12 S v n (ppcells (mkV k0 n)) ∧ Upd S w w' := by
  obtain ⟨ao, cap, rfl, hn, hl, hr⟩ := hr
  rcases Nat.eq_zero_or_pos n with rfl | hpos
  · go_enter Try.func63, Try.ntmps63
    go_wp2
    refine wp_loop_rounds 1 ?_
    rw [rounds_succ]
    go_wp2
    go_ret
    exact ⟨rfl, ⟨ao, cap, rfl, hn, by simp [mkV, ppcells], fun h => by omega⟩, Upd.refl _ _⟩
  · obtain ⟨g, cur, rfl, hS, hg, ht⟩ := hr hpos
    have hcs : n * 12 ≤ cur.size := by
      have := congrArg List.length ht
      simp [hl] at this
      omega
    clear hr ht hl
    go_enter Try.func63, Try.ntmps63
    go_wp2
    go_loopw [1, 5] (fun kv i wr => ∃ (k m : Nat) (cur' : Array Value), k ≤ n ∧ m = k0 + k * 12 ∧ i = .int .i64 k ∧ kv = .int .i64 (m : Nat) ∧ wr.heap[g]? = some (.cells cur' 56 (0, 0)) ∧ cur'.size = cur.size ∧ (∀ j r, j < k → r < 12 → cur'[j * 12 + r]? = some (.int .i64 (k0 + j * 12 + r : Nat))) ∧ Upd S w wr) (fun _ i _ => n - (intOf i).toNat)
    case atStart => exact ⟨0, k0, cur, Nat.zero_le _, rfl, rfl, rfl, hg, rfl, fun j r hj => by omega, Upd.refl _ _⟩
    case round =>
      obtain ⟨k, m, cur', hk, hm, rfl, rfl, hgr, hsz, hmk, hup⟩ := hrel
      have Hm := hide hm
      have hm2 : (m : Int) ≤ 1099511627776 := by omega
      clear hm
      have HM := hide hmk
      have HZ := hide hsz
      have hsz' : n * 12 ≤ cur'.size := by omega
      clear hmk hsz
      by_cases hlt : k < n
      · have hi : (k : Int) < (n : Int) := by omega
        have hk3 : k * 12 + 12 ≤ cur'.size := by omega
        obtain ⟨u0, hu0⟩ : ∃ u, cur'[k * 12]? = some u := ⟨cur'[k * 12]'(by omega), by simp [show k * 12 < cur'.size by omega]⟩
        obtain ⟨u1, hu1⟩ : ∃ u, cur'[k * 12 + 1]? = some u := ⟨cur'[k * 12 + 1]'(by omega), by simp [show k * 12 + 1 < cur'.size by omega]⟩
        obtain ⟨u2, hu2⟩ : ∃ u, cur'[k * 12 + 2]? = some u := ⟨cur'[k * 12 + 2]'(by omega), by simp [show k * 12 + 2 < cur'.size by omega]⟩
        obtain ⟨u3, hu3⟩ : ∃ u, cur'[k * 12 + 3]? = some u := ⟨cur'[k * 12 + 3]'(by omega), by simp [show k * 12 + 3 < cur'.size by omega]⟩
        obtain ⟨u4, hu4⟩ : ∃ u, cur'[k * 12 + 4]? = some u := ⟨cur'[k * 12 + 4]'(by omega), by simp [show k * 12 + 4 < cur'.size by omega]⟩
        obtain ⟨u5, hu5⟩ : ∃ u, cur'[k * 12 + 5]? = some u := ⟨cur'[k * 12 + 5]'(by omega), by simp [show k * 12 + 5 < cur'.size by omega]⟩
        obtain ⟨u6, hu6⟩ : ∃ u, cur'[k * 12 + 6]? = some u := ⟨cur'[k * 12 + 6]'(by omega), by simp [show k * 12 + 6 < cur'.size by omega]⟩
        obtain ⟨u7, hu7⟩ : ∃ u, cur'[k * 12 + 7]? = some u := ⟨cur'[k * 12 + 7]'(by omega), by simp [show k * 12 + 7 < cur'.size by omega]⟩
        obtain ⟨u8, hu8⟩ : ∃ u, cur'[k * 12 + 8]? = some u := ⟨cur'[k * 12 + 8]'(by omega), by simp [show k * 12 + 8 < cur'.size by omega]⟩
        obtain ⟨u9, hu9⟩ : ∃ u, cur'[k * 12 + 9]? = some u := ⟨cur'[k * 12 + 9]'(by omega), by simp [show k * 12 + 9 < cur'.size by omega]⟩
        obtain ⟨u10, hu10⟩ : ∃ u, cur'[k * 12 + 10]? = some u := ⟨cur'[k * 12 + 10]'(by omega), by simp [show k * 12 + 10 < cur'.size by omega]⟩
        obtain ⟨u11, hu11⟩ : ∃ u, cur'[k * 12 + 11]? = some u := ⟨cur'[k * 12 + 11]'(by omega), by simp [show k * 12 + 11 < cur'.size by omega]⟩
        have hcw0 : wr.cell? ⟨g, k * 12, none⟩ = some u0 := (cell_of_row wr _ _ cur' _ (0, 0) hgr).trans hu0
        have hcw1 : wr.cell? ⟨g, k * 12 + 1, none⟩ = some u1 := (cell_of_row wr _ _ cur' _ (0, 0) hgr).trans hu1
        have hcw2 : wr.cell? ⟨g, k * 12 + 2, none⟩ = some u2 := (cell_of_row wr _ _ cur' _ (0, 0) hgr).trans hu2
        have hcw3 : wr.cell? ⟨g, k * 12 + 3, none⟩ = some u3 := (cell_of_row wr _ _ cur' _ (0, 0) hgr).trans hu3
        have hcw4 : wr.cell? ⟨g, k * 12 + 4, none⟩ = some u4 := (cell_of_row wr _ _ cur' _ (0, 0) hgr).trans hu4
        have hcw5 : wr.cell? ⟨g, k * 12 + 5, none⟩ = some u5 := (cell_of_row wr _ _ cur' _ (0, 0) hgr).trans hu5
        have hcw6 : wr.cell? ⟨g, k * 12 + 6, none⟩ = some u6 := (cell_of_row wr _ _ cur' _ (0, 0) hgr).trans hu6
        have hcw7 : wr.cell? ⟨g, k * 12 + 7, none⟩ = some u7 := (cell_of_row wr _ _ cur' _ (0, 0) hgr).trans hu7
        have hcw8 : wr.cell? ⟨g, k * 12 + 8, none⟩ = some u8 := (cell_of_row wr _ _ cur' _ (0, 0) hgr).trans hu8
        have hcw9 : wr.cell? ⟨g, k * 12 + 9, none⟩ = some u9 := (cell_of_row wr _ _ cur' _ (0, 0) hgr).trans hu9
        have hcw10 : wr.cell? ⟨g, k * 12 + 10, none⟩ = some u10 := (cell_of_row wr _ _ cur' _ (0, 0) hgr).trans hu10
        have hcw11 : wr.cell? ⟨g, k * 12 + 11, none⟩ = some u11 := (cell_of_row wr _ _ cur' _ (0, 0) hgr).trans hu11
        have hfw0 : wr.frozen? ⟨g, k * 12, none⟩ = false := frozen_of_row wr _ _ cur' _ hgr
        have hfw1 : wr.frozen? ⟨g, k * 12 + 1, none⟩ = false := frozen_of_row wr _ _ cur' _ hgr
        have hfw2 : wr.frozen? ⟨g, k * 12 + 2, none⟩ = false := frozen_of_row wr _ _ cur' _ hgr
        have hfw3 : wr.frozen? ⟨g, k * 12 + 3, none⟩ = false := frozen_of_row wr _ _ cur' _ hgr
        have hfw4 : wr.frozen? ⟨g, k * 12 + 4, none⟩ = false := frozen_of_row wr _ _ cur' _ hgr
        have hfw5 : wr.frozen? ⟨g, k * 12 + 5, none⟩ = false := frozen_of_row wr _ _ cur' _ hgr
        have hfw6 : wr.frozen? ⟨g, k * 12 + 6, none⟩ = false := frozen_of_row wr _ _ cur' _ hgr
        have hfw7 : wr.frozen? ⟨g, k * 12 + 7, none⟩ = false := frozen_of_row wr _ _ cur' _ hgr
        have hfw8 : wr.frozen? ⟨g, k * 12 + 8, none⟩ = false := frozen_of_row wr _ _ cur' _ hgr
        have hfw9 : wr.frozen? ⟨g, k * 12 + 9, none⟩ = false := frozen_of_row wr _ _ cur' _ hgr
        have hfw10 : wr.frozen? ⟨g, k * 12 + 10, none⟩ = false := frozen_of_row wr _ _ cur' _ hgr
        have hfw11 : wr.frozen? ⟨g, k * 12 + 11, none⟩ = false := frozen_of_row wr _ _ cur' _ hgr
        have Hg := hide hgr
        have HK3 := hide hk3
        have HS' := hide hsz'
        clear hgr hk3 hsz' hu0 hu1 hu2 hu3 hu4 hu5 hu6 hu7 hu8 hu9 hu10 hu11
        go_wp2
        go_roundw
        case rel =>
          refine ⟨k + 1, m + 12, setL cur' (k * 12) [.int .i64 ((m : Int)), .int .i64 ((m : Int) + 1), .int .i64 ((m : Int) + 1 + 1), .int .i64 ((m : Int) + 1 + 1 + 1), .int .i64 ((m : Int) + 1 + 1 + 1 + 1), .int .i64 ((m : Int) + 1 + 1 + 1 + 1 + 1), .int .i64 ((m : Int) + 1 + 1 + 1 + 1 + 1 + 1), .int .i64 ((m : Int) + 1 + 1 + 1 + 1 + 1 + 1 + 1), .int .i64 ((m : Int) + 1 + 1 + 1 + 1 + 1 + 1 + 1 + 1), .int .i64 ((m : Int) + 1 + 1 + 1 + 1 + 1 + 1 + 1 + 1 + 1), .int .i64 ((m : Int) + 1 + 1 + 1 + 1 + 1 + 1 + 1 + 1 + 1 + 1), .int .i64 ((m : Int) + 1 + 1 + 1 + 1 + 1 + 1 + 1 + 1 + 1 + 1 + 1)], by omega, by rw [Hm.out]; omega, by go_num, by go_num, setW_heap [.int .i64 ((m : Int)), .int .i64 ((m : Int) + 1), .int .i64 ((m : Int) + 1 + 1), .int .i64 ((m : Int) + 1 + 1 + 1), .int .i64 ((m : Int) + 1 + 1 + 1 + 1), .int .i64 ((m : Int) + 1 + 1 + 1 + 1 + 1), .int .i64 ((m : Int) + 1 + 1 + 1 + 1 + 1 + 1), .int .i64 ((m : Int) + 1 + 1 + 1 + 1 + 1 + 1 + 1), .int .i64 ((m : Int) + 1 + 1 + 1 + 1 + 1 + 1 + 1 + 1), .int .i64 ((m : Int) + 1 + 1 + 1 + 1 + 1 + 1 + 1 + 1 + 1), .int .i64 ((m : Int) + 1 + 1 + 1 + 1 + 1 + 1 + 1 + 1 + 1 + 1), .int .i64 ((m : Int) + 1 + 1 + 1 + 1 + 1 + 1 + 1 + 1 + 1 + 1 + 1)] wr g (k * 12) cur' _ Hg.out, by rw [setL_size]; exact HZ.out, fun j r hj hr => ?_, hup.trans (setW_upd [.int .i64 ((m : Int)), .int .i64 ((m : Int) + 1), .int .i64 ((m : Int) + 1 + 1), .int .i64 ((m : Int) + 1 + 1 + 1), .int .i64 ((m : Int) + 1 + 1 + 1 + 1), .int .i64 ((m : Int) + 1 + 1 + 1 + 1 + 1), .int .i64 ((m : Int) + 1 + 1 + 1 + 1 + 1 + 1), .int .i64 ((m : Int) + 1 + 1 + 1 + 1 + 1 + 1 + 1), .int .i64 ((m : Int) + 1 + 1 + 1 + 1 + 1 + 1 + 1 + 1), .int .i64 ((m : Int) + 1 + 1 + 1 + 1 + 1 + 1 + 1 + 1 + 1), .int .i64 ((m : Int) + 1 + 1 + 1 + 1 + 1 + 1 + 1 + 1 + 1 + 1), .int .i64 ((m : Int) + 1 + 1 + 1 + 1 + 1 + 1 + 1 + 1 + 1 + 1 + 1)] wr g (k * 12) hS)⟩
          by_cases hjk : j = k
          · subst hjk
            rw [setL_in _ _ _ _ HK3.out hr, marks12 m r hr, Hm.out]
          · rw [setL_out _ _ _ _ (show j * 12 + r < k * 12 ∨ k * 12 + 12 ≤ j * 12 + r by omega)]
            exact HM.out j r (by omega) hr
        case measure => simp [intOf]; omega
      · go_wp2
        go_ret
        obtain rfl : k = n := by omega
        refine ⟨by rw [Hm.out]; rfl, ⟨_, cap, rfl, hn, by rw [ppcells_len, mkV_len], fun _ => ⟨g, cur', rfl, hS, hgr, ?_⟩⟩, hup⟩
        have hz := HZ.out
        refine ppcells_ext _ _ (by rw [mkV_len]; simp; omega) (fun j p hp r u hu => ?_)
        have hj := (List.getElem?_eq_some_iff.1 hp).1
        rw [mkV_len] at hj
        rw [mkV_get _ _ _ hj] at hp
        obtain rfl := Option.some.inj hp
        have hr : r < 12 := (Array.getElem?_eq_some_iff.1 hu).1
        rw [mkPp_at _ _ hr] at hu
        rw [← hu, List.getElem?_take_of_lt (by omega)]
        simpa using HM.out j r hj hr

set_option maxRecDepth 100000 in
set_option maxHeartbeats 8000000 in
theorem heldSynPaperS_ok (v : Value) (n k0 : Nat) (w : World) (hr : RowR w 12 v n (ppcells (mkV k0 n))) (h1 : 1 ≤ k0) (h2 : k0 + n * 12 ≤ 1099511627776) :
    Calls Try.prog 66 #[v, .int .i64 k0] w fun e w' => e = .returned (.int .i64 (k0 + n * 12 : Nat)) ∧ Below w.heap.size w w' := by
  obtain ⟨ao, cap, rfl, hn, hl, hr⟩ := hr
  clear hl
  go_enter Try.func66, Try.ntmps66
  go_wp2
  go_loopw [1, 5] (fun kv i wr => ∃ k m : Nat, k ≤ n ∧ m = k0 + k * 12 ∧ i = .int .i64 k ∧ kv = .int .i64 (m : Nat) ∧ Below w.heap.size w wr) (fun _ i _ => n - (intOf i).toNat)
  case atStart => exact ⟨0, k0, Nat.zero_le _, rfl, rfl, rfl, Below.refl _ _⟩
  case round =>
    obtain ⟨k, m, hk, hm, rfl, rfl, hbel⟩ := hrel
    have Hm : Hid (m = k0 + k * 12) := hm
    have hm2 : (m : Int) ≤ 1099511627776 := by omega
    clear hm
    by_cases hlt : k < n
    · obtain ⟨b1, o1, rfl, hc1⟩ := hr (by omega)
      have F := pp_at hc1 (mkV_get k0 n k hlt) hbel
      rw [← Hm.out] at F
      have f0 : wr.cell? ⟨b1, o1 + k * 12, none⟩ = some (.int .i64 ((m : Int))) := by rw [show (m : Int) = ((m + 0 : Nat) : Int) by omega]; exact F 0 _ (mkPp_at m 0 (by omega))
      have f1 : wr.cell? ⟨b1, o1 + k * 12 + 1, none⟩ = some (.int .i64 ((m : Int) + 1)) := by rw [show (m : Int) + 1 = ((m + 1 : Nat) : Int) by omega]; exact F 1 _ (mkPp_at m 1 (by omega))
      have f2 : wr.cell? ⟨b1, o1 + k * 12 + 2, none⟩ = some (.int .i64 ((m : Int) + 1 + 1)) := by rw [show (m : Int) + 1 + 1 = ((m + 2 : Nat) : Int) by omega]; exact F 2 _ (mkPp_at m 2 (by omega))
      have f3 : wr.cell? ⟨b1, o1 + k * 12 + 3, none⟩ = some (.int .i64 ((m : Int) + 1 + 1 + 1)) := by rw [show (m : Int) + 1 + 1 + 1 = ((m + 3 : Nat) : Int) by omega]; exact F 3 _ (mkPp_at m 3 (by omega))
      have f4 : wr.cell? ⟨b1, o1 + k * 12 + 4, none⟩ = some (.int .i64 ((m : Int) + 1 + 1 + 1 + 1)) := by rw [show (m : Int) + 1 + 1 + 1 + 1 = ((m + 4 : Nat) : Int) by omega]; exact F 4 _ (mkPp_at m 4 (by omega))
      have f5 : wr.cell? ⟨b1, o1 + k * 12 + 5, none⟩ = some (.int .i64 ((m : Int) + 1 + 1 + 1 + 1 + 1)) := by rw [show (m : Int) + 1 + 1 + 1 + 1 + 1 = ((m + 5 : Nat) : Int) by omega]; exact F 5 _ (mkPp_at m 5 (by omega))
      have f6 : wr.cell? ⟨b1, o1 + k * 12 + 6, none⟩ = some (.int .i64 ((m : Int) + 1 + 1 + 1 + 1 + 1 + 1)) := by rw [show (m : Int) + 1 + 1 + 1 + 1 + 1 + 1 = ((m + 6 : Nat) : Int) by omega]; exact F 6 _ (mkPp_at m 6 (by omega))
      have f7 : wr.cell? ⟨b1, o1 + k * 12 + 7, none⟩ = some (.int .i64 ((m : Int) + 1 + 1 + 1 + 1 + 1 + 1 + 1)) := by rw [show (m : Int) + 1 + 1 + 1 + 1 + 1 + 1 + 1 = ((m + 7 : Nat) : Int) by omega]; exact F 7 _ (mkPp_at m 7 (by omega))
      have f8 : wr.cell? ⟨b1, o1 + k * 12 + 8, none⟩ = some (.int .i64 ((m : Int) + 1 + 1 + 1 + 1 + 1 + 1 + 1 + 1)) := by rw [show (m : Int) + 1 + 1 + 1 + 1 + 1 + 1 + 1 + 1 = ((m + 8 : Nat) : Int) by omega]; exact F 8 _ (mkPp_at m 8 (by omega))
      have f9 : wr.cell? ⟨b1, o1 + k * 12 + 9, none⟩ = some (.int .i64 ((m : Int) + 1 + 1 + 1 + 1 + 1 + 1 + 1 + 1 + 1)) := by rw [show (m : Int) + 1 + 1 + 1 + 1 + 1 + 1 + 1 + 1 + 1 = ((m + 9 : Nat) : Int) by omega]; exact F 9 _ (mkPp_at m 9 (by omega))
      have f10 : wr.cell? ⟨b1, o1 + k * 12 + 10, none⟩ = some (.int .i64 ((m : Int) + 1 + 1 + 1 + 1 + 1 + 1 + 1 + 1 + 1 + 1)) := by rw [show (m : Int) + 1 + 1 + 1 + 1 + 1 + 1 + 1 + 1 + 1 + 1 = ((m + 10 : Nat) : Int) by omega]; exact F 10 _ (mkPp_at m 10 (by omega))
      have f11 : wr.cell? ⟨b1, o1 + k * 12 + 11, none⟩ = some (.int .i64 ((m : Int) + 1 + 1 + 1 + 1 + 1 + 1 + 1 + 1 + 1 + 1 + 1)) := by rw [show (m : Int) + 1 + 1 + 1 + 1 + 1 + 1 + 1 + 1 + 1 + 1 + 1 = ((m + 11 : Nat) : Int) by omega]; exact F 11 _ (mkPp_at m 11 (by omega))
      have hi : (k : Int) < (n : Int) := by omega
      clear hr hc1 F
      go_wp2
      go_roundw
      case rel => exact ⟨k + 1, m + 12, by omega, by rw [Hm.out]; omega, by go_num, by go_num, hbel⟩
      case measure => simp [intOf]; omega
    · go_wp2
      go_ret
      obtain rfl : k = n := by omega
      exact ⟨by rw [Hm.out]; rfl, hbel⟩

set_option maxRecDepth 100000 in
set_option maxHeartbeats 4000000 in
theorem markSynVoter_any (S : Nat → Prop) (v : Value) (P : Int) (xs : List Pp) (k0 : Nat) (w : World) (h : VtO w S v P xs) (h1 : 1 ≤ k0) (h2 : k0 + xs.length * 12 ≤ 1099511627776) :
    Calls Try.prog 17 #[v, .int .i64 k0] w fun e w' => e = .returned (.int .i64 (k0 + xs.length * 12 : Nat)) ∧ VtO w' S v P (mkV k0 xs.length) ∧ Upd S w w' := by
  obtain ⟨ao, cap, rfl, hcap, hr⟩ := h
  have al := bal (Below.refl w.heap.size w) (.cells #[.int .i64 P, .slice ao xs.length cap] 35)
  have HR := hide (hr.keepB al)
  clear hr
  go_enter Try.func17, Try.ntmps17
  go_wp2_with fail
  refine (markSynPaperS_any S _ _ _ k0 _ HR.out h1 h2).mono ?_
  rintro e w1 ⟨rfl, r1, u1⟩
  go_wp2
  go_ret
  exact ⟨rfl, ⟨ao, cap, by rw [mkV_len], by rw [mkV_len]; exact hcap, by rw [mkV_len]; exact r1⟩, (Upd.ofBelow al).trans u1⟩

set_option maxRecDepth 100000 in
set_option maxHeartbeats 4000000 in
theorem heldSynVoter_ok (v : Value) (P : Int) (n k0 : Nat) (w : World) (h : VtR w v P (mkV k0 n)) (h1 : 1 ≤ k0) (h2 : k0 + n * 12 ≤ 1099511627776) :
    Calls Try.prog 19 #[v, .int .i64 k0] w fun e w' => e = .returned (.int .i64 (k0 + n * 12 : Nat)) ∧ Below w.heap.size w w' := by
  obtain ⟨ao, cap, rfl, hr⟩ := h
  rw [mkV_len] at hr ⊢
  have al := bal (Below.refl w.heap.size w) (.cells #[.int .i64 P, .slice ao n cap] 35)
  have HR := hide (heldSynPaperS_ok _ n k0 _ (hr.keep al) h1 h2)
  obtain ⟨M, hM⟩ : ∃ M : Nat, M = k0 + n * 12 := ⟨_, rfl⟩
  rw [← hM] at HR ⊢
  have hMn : ¬ (M : Int) < 0 := by omega
  clear hr hM
  go_enter Try.func19, Try.ntmps19
  go_wp2_with fail
  refine HR.out.mono ?_
  rintro e w1 ⟨rfl, b1⟩
  go_wp2
  go_ret
  exact ⟨rfl, bAll al b1⟩

end Go.Proofs.Ytiigcokbmggdkaa

/- What the laws of votes have in common: contracts and plain facts; no statement of the seat is proved here. -/
namespace Go.Proofs.Ytiigcokbmggdkaa
open Go.RowKit

set_option maxHeartbeats 2000000 in
theorem szWord_left (x : Wd) (cs : Array Value) (left : Int) (w u : World) (h : WdR u (.agg cs) x) (h1 : 0 ≤ left) (h2 : left ≤ 1048576) :
    Calls Try.prog 10 #[.agg cs, .int .i64 left] w fun e w' => ∃ r, e = .returned (.int .i64 r) ∧ (r < 0 ∨ (0 ≤ r ∧ x.ps.length ≤ 1048576 ∧ x.ls.length ≤ 1048576)) ∧ Below w.heap.size w w' := by
  obtain ⟨hp, hl⟩ := h.lens
  obtain ⟨po, pc, lo, lc, e0, -, -⟩ := h
  injection e0 with e0
  subst e0
  have hal : Below w.heap.size w (w.alloc (.cells (#[.int .i64 x.a0, .int .i64 x.a1, .int .i64 x.a2, .int .i64 x.a3, .int .i64 x.a4, .int .i64 x.a5, .int .i64 x.c0, .int .i64 x.c1, .int .i64 x.c2, .int .i64 x.c3, .int .i64 x.c4, .int .i64 x.c5, .int .i64 x.c6, .int .i64 x.c7, .int .i64 x.c8, .int .i64 x.c9, .int .i64 x.b0, .int .i64 x.b1, .int .i64 x.b2, .int .i64 x.b3, .int .i64 x.b4, .int .i64 x.b5, .int .i64 x.b6, .int .i64 x.b7, .slice po x.ps.length pc, .slice lo x.ls.length lc] : Array Value) 30)) := (Below.refl _ _).alloc (Nat.le_refl _) _
  generalize x.ps.length = pn at hp hal ⊢
  generalize x.ls.length = ln at hl hal ⊢
  go_enter Try.func10, Try.ntmps10
  go_wp2_with fail
  refine (szBlkPieceS_any _ _ _ left _ hp h1 h2).mono ?_
  rintro e w1 ⟨r, rfl, hz, b1⟩
  rcases hz with hneg | ⟨hr1, hr2⟩
  · go_wp2
    go_ret
    exact ⟨_, rfl, .inl (by omega), bAll hal b1⟩
  · have hc1 : w1.cell? ⟨w.heap.size, 25, none⟩ = some (.slice lo ln lc) := (b1.cell (p := ⟨w.heap.size, 25, none⟩) (by simp)).trans (by simp)
    have Hr1 := hide hr1
    have hr3 : r ≤ 1048576 := by omega
    clear hr1
    go_wp2_with fail
    refine (szBlkLastS_any _ _ _ _ _ hl hr2 hr3).mono ?_
    rintro e w2 ⟨r2, rfl, hz2, b2⟩
    rcases hz2 with hneg | ⟨hr4, hr5⟩
    · go_wp2
      go_ret
      exact ⟨_, rfl, .inl (by omega), bAll (bAll hal b1) b2⟩
    · have Hr4 := hide hr4
      clear hr4
      go_wp2
      go_ret
      exact ⟨_, rfl, .inr ⟨hr5, by have := Hr4.out; have := Hr1.out; omega, by have := Hr4.out; have := Hr1.out; omega⟩, bAll (bAll hal b1) b2⟩

theorem VtO.keep {w w' : World} {S T : Nat → Prop} {v : Value} {P : Int} {xs : List Pp} (h : VtO w S v P xs) (u : Upd T w w') (hT : ∀ k, S k → ¬ T k) : VtO w' S v P xs := by
  obtain ⟨ao, cap, e, hc, h⟩ := h
  exact ⟨ao, cap, e, hc, h.keep u hT⟩
theorem VtO.keepB {w w' : World} {S : Nat → Prop} {v : Value} {P : Int} {xs : List Pp} (h : VtO w S v P xs) (b : Below w.heap.size w w') : VtO w' S v P xs := by
  obtain ⟨ao, cap, e, hc, h⟩ := h
  exact ⟨ao, cap, e, hc, h.keepB b⟩
theorem VtO.mono {w : World} {S T : Nat → Prop} {v : Value} {P : Int} {xs : List Pp} (h : VtO w S v P xs) (hST : ∀ k, k < w.heap.size → S k → T k) : VtO w T v P xs := by
  obtain ⟨ao, cap, e, hc, h⟩ := h
  exact ⟨ao, cap, e, hc, h.mono hST⟩
theorem rowIn {w : World} {e : TypeId} {size : Nat} {S : Nat → Prop} {v : Value} {n : Nat} {cs : List Value} (h : Row w e size S v n cs) : Row w e size (fun k => S k ∧ k < w.heap.size) v n cs := by
  obtain ⟨ao, cap, rfl, hn, hl, h⟩ := h
  refine ⟨ao, cap, rfl, hn, hl, fun hp => ?_⟩
  obtain ⟨g, cur, e, hS, hg, ht⟩ := h hp
  exact ⟨g, cur, e, ⟨hS, heap_lt hg⟩, hg, ht⟩
theorem wdIn {w : World} {S : Nat → Prop} {v : Value} {x : Wd} (h : WdO w S v x) : WdO w (fun k => S k ∧ k < w.heap.size) v x := by
  obtain ⟨po, pc, lo, lc, e, h1, h2⟩ := h
  exact ⟨po, pc, lo, lc, e, rowIn h1, rowIn h2⟩
theorem VtO.inside {w : World} {S : Nat → Prop} {v : Value} {P : Int} {xs : List Pp} (h : VtO w S v P xs) : VtO w (fun k => S k ∧ k < w.heap.size) v P xs := by
  obtain ⟨ao, cap, e, hc, h⟩ := h
  exact ⟨ao, cap, e, hc, rowIn h⟩
theorem Row.empty {w w' : World} {e : TypeId} {size : Nat} {S T : Nat → Prop} {v : Value} {n : Nat} {cs : List Value} (h : Row w e size S v n cs) (hn : n = 0) : Row w' e size T v n cs := by
  obtain ⟨ao, cap, rfl, h1, h2, -⟩ := h
  exact ⟨ao, cap, rfl, h1, h2, fun h => by omega⟩
theorem WdO.flat {w w' : World} {S T : Nat → Prop} {v : Value} {x : Wd} (h : WdO w S v x) (hp : x.ps = []) (hl : x.ls = []) : WdO w' T v x := by
  obtain ⟨po, pc, lo, lc, e, h1, h2⟩ := h
  exact ⟨po, pc, lo, lc, e, h1.empty (by rw [hp]; rfl), h2.empty (by rw [hl]; rfl)⟩

theorem voteR_flat (P : Int) (xs : List Pp) (me : Int) (x : Wd) : (voteR P xs me x).2.2.1.ps = [] ∧ (voteR P xs me x).2.2.1.ls = [] ∧ (voteR P xs me x).2.1.length ≤ xs.length + 1 := by
  unfold voteR
  have hl := ins_len (ord := ordV) xs (x.a4, x.a3, x)
  split
  · split
    · split
      · refine ⟨?_, ?_, Nat.le_succ _⟩ <;> (dsimp only; split <;> rfl)
      · exact ⟨rfl, rfl, Nat.le_succ _⟩
    · split
      · exact ⟨rfl, rfl, hl⟩
      · exact ⟨rfl, rfl, Nat.le_succ _⟩
  · exact ⟨rfl, rfl, Nat.le_succ _⟩

/-- What a voter gives, in two boxes; all of it lies between base and top. -/
def VoB (V : World) (base top g h : Nat) (R : Int × List Pp × Wd × Bool) : Prop :=
  ∃ so sc cs lo hi, V.heap[g]? = some (.cells #[.int .i64 R.1, .slice so R.2.1.length sc] 35 (0, 0)) ∧ V.heap[h]? = some (.cells cs 40 (0, 0)) ∧
    VtO V (fun k => lo ≤ k ∧ k < hi) (.agg #[.int .i64 R.1, .slice so R.2.1.length sc]) R.1 R.2.1 ∧ WdO V (fun _ => False) (.agg cs) R.2.2.1 ∧
    base ≤ g ∧ g < top ∧ base ≤ h ∧ h < top ∧ g ≠ h ∧ base ≤ lo ∧ hi ≤ top ∧ ¬ (lo ≤ g ∧ g < hi) ∧ ¬ (lo ≤ h ∧ h < hi)

theorem VoB.keep {V V' : World} {base top g h : Nat} {R : Int × List Pp × Wd × Bool} {T : Nat → Prop} (H : VoB V base top g h R) (u : Upd T V V') (hT : ∀ k, base ≤ k → k < top → ¬ T k) : VoB V' base top g h R := by
  obtain ⟨so, sc, cs, lo, hi, h1, h2, h3, h4, h5, h6, h7, h8, h9, h10, h11, h12, h13⟩ := H
  exact ⟨so, sc, cs, lo, hi, u.keeps h1 (hT g h5 h6), u.keeps h2 (hT h h7 h8), h3.keep u (fun k hk => hT k (by omega) (by omega)), h4.keep u (fun _ h => h.elim), h5, h6, h7, h8, h9, h10, h11, h12, h13⟩
theorem VoB.keepB {V V' : World} {base top g h : Nat} {R : Int × List Pp × Wd × Bool} (H : VoB V base top g h R) (b : Below V.heap.size V V') : VoB V' base top g h R :=
  H.keep (T := fun _ => False) (Upd.ofBelow b) (fun _ _ _ h => h)
theorem VoB.mono {V : World} {base base' top top' g h : Nat} {R : Int × List Pp × Wd × Bool} (H : VoB V base top g h R) (hb : base' ≤ base) (ht : top ≤ top') : VoB V base' top' g h R := by
  obtain ⟨so, sc, cs, lo, hi, h1, h2, h3, h4, h5, h6, h7, h8, h9, h10, h11, h12, h13⟩ := H
  exact ⟨so, sc, cs, lo, hi, h1, h2, h3, h4, by omega, by omega, by omega, by omega, h9, by omega, by omega, h12, h13⟩

/-- Two new boxes, filled one behind the other. -/
theorem two_boxes (U : World) (z zz vs cs : Array Value) (t1 t2 : TypeId) :
    Below U.heap.size U ((((U.alloc (.cells z t1)).alloc (.cells zz t2)).setRow U.heap.size vs).setRow (U.heap.size + 1) cs) ∧
    ((((U.alloc (.cells z t1)).alloc (.cells zz t2)).setRow U.heap.size vs).setRow (U.heap.size + 1) cs).heap[U.heap.size]? = some (.cells vs t1 (0, 0)) ∧
    ((((U.alloc (.cells z t1)).alloc (.cells zz t2)).setRow U.heap.size vs).setRow (U.heap.size + 1) cs).heap[U.heap.size + 1]? = some (.cells cs t2 (0, 0)) ∧
    (((U.alloc (.cells z t1)).alloc (.cells zz t2)).setRow U.heap.size vs).heap[U.heap.size + 1]? = some (.cells zz t2 (0, 0)) ∧
    ((((U.alloc (.cells z t1)).alloc (.cells zz t2)).setRow U.heap.size vs).setRow (U.heap.size + 1) cs).heap.size = U.heap.size + 2 := by
  have r1 := updRow ((U.alloc (.cells z t1)).alloc (.cells zz t2)) U.heap.size vs
  have r2 := updRow (((U.alloc (.cells z t1)).alloc (.cells zz t2)).setRow U.heap.size vs) (U.heap.size + 1) cs
  have n1 : (((U.alloc (.cells z t1)).alloc (.cells zz t2)).setRow U.heap.size vs).heap[U.heap.size + 1]? = some (.cells zz t2 (0, 0)) := r1.keeps (al2_1 U _ _) (by omega)
  have al := bal (bal (Below.refl U.heap.size U) (.cells z t1)) (.cells zz t2)
  have z1 := al.size
  have z2 := r1.size
  refine ⟨(al.trans (r1.below (by omega) (fun k h => by omega))).trans (r2.below (by omega) (fun k h => by omega)), r2.keeps (setRow_heap _ _ _ _ _ _ (al2_0 U _ _)) (by omega), setRow_heap _ _ _ _ _ _ n1, n1, by simp⟩

end Go.Proofs.Ytiigcokbmggdkaa

/- What the law FnExactSecOk does: its walk; the statement itself is proved elsewhere. -/
namespace Go.Proofs.Ytiigcokbmggdkaa
open Go.RowKit

theorem DiskR.shape {w : World} {v : Value} {kept : List ByteArray} {wait : List (Int × ByteArray)} (h : DiskR w v kept wait) : ∃ ao ca ao' ca', v = .agg #[.slice ao kept.length ca, .slice ao' wait.length ca'] := by
  obtain ⟨vk, vw, rfl, ⟨ao, ca, rfl, -⟩, ⟨ao', ca', rfl, -⟩⟩ := h
  exact ⟨ao, ca, ao', ca', rfl⟩

end Go.Proofs.Ytiigcokbmggdkaa

/- How a disk that is an argument is opened; no statement of the seat is proved here. -/
namespace Go.Proofs.Ytiigcokbmggdkaa
open Go.ChangeShapes Go.WideShapes Go.ChangeAt Go.RowKit Go.Deep Go.Joins

theorem seat_own : ownKnob Try.prog.godebug = none := by kernel_rfl
theorem seat_laidOut : laidOutB Try.prog = true := by kernel_rfl

end Go.Proofs.Ytiigcokbmggdkaa

/- How an argument that is a slice of pieces is opened; no statement of the seat is proved here. -/
namespace Go.Proofs.Ytiigcokbmggdkaa
open Go.ChangeShapes Go.WideShapes Go.ChangeAt Go.RowKit Go.Deep Go.Joins

section
variable {H : Type} {enc : TypeId × Value → H} {P : Program} {w : World} {base : Nat} {spare : Nat → Bool} {held : Bool}

theorem rowR_of_pieces {t e : TypeId} {f0 f1 f2 f3 : Field} {fuel : Nat} {v : Value} {x : DataW H × List MemPlace} (ht : P.underlying t = some (.slice e)) (he : P.underlying e = some (.struct #[f0, f1, f2, f3]))
    (ce : P.cellsOf e = 4) (o0 : f0.offset = 0) (o1 : f1.offset = 1) (o2 : f2.offset = 2) (o3 : f3.offset = 3) (c0 : P.cellsOf f0.type = 1) (c1 : P.cellsOf f1.type = 1) (c2 : P.cellsOf f2.type = 1) (c3 : P.cellsOf f3.type = 1)
    (t0 : P.underlying f0.type = some (.int .i64)) (t1 : P.underlying f1.type = some (.int .i64)) (t2 : P.underlying f2.type = some (.int .i64)) (t3 : P.underlying f3.type = some (.int .i64))
    (h : DataW.trod enc P w base spare held fuel t [v] = some x) : ∃ (so : Option Addr) (sc : Nat) (xs : List Pc), v = .slice so xs.length sc ∧ xs.length ≤ sc ∧ RowR w 4 (.slice so xs.length sc) xs.length (pcells xs) := by
  rcases open_slice ht h with ⟨hcs, _⟩ | ⟨a, len, cap, m, n, D, Pl, hcs, _, hl, hm, hmm, _, hx⟩
  · obtain rfl : v = .slice none 0 0 := by simpa using hcs
    exact ⟨none, 0, [], rfl, Nat.le_refl _, RowR.nil _ _⟩
  · obtain rfl : v = .slice (some a) len cap := by simpa using hcs
    have hlm : len ≤ m := by rw [hmm]; split <;> omega
    unfold maxLen at hm
    have each : ∀ i, i < m → ∃ y : Pc, w.cell? (a.add (i * 4)) = some (.int .i64 y.1) ∧ w.cell? (a.add (i * 4 + 1)) = some (.int .i64 y.2.1) ∧ w.cell? (a.add (i * 4 + 2)) = some (.int .i64 y.2.2.1) ∧ w.cell? (a.add (i * 4 + 3)) = some (.int .i64 y.2.2.2) := fun i hi => by
      obtain ⟨cs', h1, h2⟩ := hx i hi
      rw [ce] at h1
      obtain ⟨_, hlen, hcell⟩ := World.cells?_some h1
      obtain ⟨y0, y1, y2, y3, k, _, _, q0, q1, q2, q3⟩ := trod_struct4 he h2
      rw [o0, c0] at q0
      rw [o1, c1] at q1
      rw [o2, c2] at q2
      rw [o3, c3] at q3
      match cs', hlen with
      | [v0, v1, v2, v3], _ =>
        obtain ⟨z0, e0, _, _⟩ := DataW.trod_int t0 q0
        obtain ⟨z1, e1, _, _⟩ := DataW.trod_int t1 q1
        obtain ⟨z2, e2, _, _⟩ := DataW.trod_int t2 q2
        obtain ⟨z3, e3, _, _⟩ := DataW.trod_int t3 q3
        simp at e0 e1 e2 e3
        subst e0 e1 e2 e3
        have g0 := hcell 0 (by omega)
        have g1 := hcell 1 (by omega)
        have g2 := hcell 2 (by omega)
        have g3 := hcell 3 (by omega)
        rw [Addr.add_add] at g0 g1 g2 g3
        exact ⟨(z0, z1, z2, z3), by simpa using g0, by simpa using g1, by simpa using g2, by simpa using g3⟩
    obtain ⟨Y, hY⟩ := choose_lt each
    have hlen : ((List.range len).map Y).length = len := by simp
    refine ⟨some a, cap, (List.range len).map Y, by rw [hlen], by rw [hlen]; exact hl, ⟨some a, cap, rfl, by omega, pcells_len _, fun h0 => ?_⟩⟩
    rw [hlen] at h0
    have h1 := (hY 0 (by omega)).1
    obtain ⟨b, off, spot⟩ := a
    have hspot : spot = none := by simpa [Addr.add] using World.cell?_spot h1
    subst hspot
    refine ⟨b, off, rfl, fun j u hj => ?_⟩
    have hj' : j < len * 4 := by have := (List.getElem?_eq_some_iff.1 hj).1; rw [pcells_len, hlen] at this; exact this
    have hw := fun i hi => fm_at pcell_len ((List.range len).map Y) (j / 4) (Y (j / 4)) i (by simp [show j / 4 < len by omega]) hi
    obtain ⟨q0, q1, q2, q3⟩ := hY (j / 4) (by omega)
    rw [Addr.add_lit] at q0 q1 q2 q3
    rcases (by omega : j = j / 4 * 4 ∨ j = j / 4 * 4 + 1 ∨ j = j / 4 * 4 + 2 ∨ j = j / 4 * 4 + 3) with e | e | e | e
    · have h2 := hw 0 (by omega)
      rw [Nat.add_zero, ← e] at h2
      rw [← e] at q0
      have h3 := h2.symm.trans hj
      rw [q0]
      exact h3
    · have h2 := hw 1 (by omega)
      rw [← e] at h2
      rw [← e] at q1
      have h3 := h2.symm.trans hj
      rw [q1]
      exact h3
    · have h2 := hw 2 (by omega)
      rw [← e] at h2
      rw [← e] at q2
      have h3 := h2.symm.trans hj
      rw [q2]
      exact h3
    · have h2 := hw 3 (by omega)
      rw [← e] at h2
      rw [← e] at q3
      have h3 := h2.symm.trans hj
      rw [q3]
      exact h3
end

end Go.Proofs.Ytiigcokbmggdkaa

/- How an argument that is a slice of lasts is opened; no statement of the seat is proved here. -/
namespace Go.Proofs.Ytiigcokbmggdkaa
open Go.ChangeShapes Go.WideShapes Go.ChangeAt Go.RowKit Go.Deep Go.Joins

section
variable {H : Type} {enc : TypeId × Value → H} {P : Program} {w : World} {base : Nat} {spare : Nat → Bool} {held : Bool}

theorem rowR_of_lasts {t e : TypeId} {f0 f1 : Field} {fuel : Nat} {v : Value} {x : DataW H × List MemPlace} (ht : P.underlying t = some (.slice e)) (he : P.underlying e = some (.struct #[f0, f1]))
    (ce : P.cellsOf e = 2) (o0 : f0.offset = 0) (o1 : f1.offset = 1) (c0 : P.cellsOf f0.type = 1) (c1 : P.cellsOf f1.type = 1)
    (t0 : P.underlying f0.type = some (.int .i64)) (t1 : P.underlying f1.type = some (.int .i64))
    (h : DataW.trod enc P w base spare held fuel t [v] = some x) : ∃ (so : Option Addr) (sc : Nat) (xs : List Lc), v = .slice so xs.length sc ∧ xs.length ≤ sc ∧ RowR w 2 (.slice so xs.length sc) xs.length (lcells xs) := by
  rcases open_slice ht h with ⟨hcs, _⟩ | ⟨a, len, cap, m, n, D, Pl, hcs, _, hl, hm, hmm, _, hx⟩
  · obtain rfl : v = .slice none 0 0 := by simpa using hcs
    exact ⟨none, 0, [], rfl, Nat.le_refl _, RowR.nil _ _⟩
  · obtain rfl : v = .slice (some a) len cap := by simpa using hcs
    have hlm : len ≤ m := by rw [hmm]; split <;> omega
    unfold maxLen at hm
    have each : ∀ i, i < m → ∃ y : Lc, w.cell? (a.add (i * 2)) = some (.int .i64 y.1) ∧ w.cell? (a.add (i * 2 + 1)) = some (.int .i64 y.2) := fun i hi => by
      obtain ⟨cs', h1, h2⟩ := hx i hi
      rw [ce] at h1
      obtain ⟨_, hlen, hcell⟩ := World.cells?_some h1
      obtain ⟨y0, y1, k, _, _, q0, q1⟩ := trod_struct2 he h2
      rw [o0, c0] at q0
      rw [o1, c1] at q1
      match cs', hlen with
      | [v0, v1], _ =>
        obtain ⟨z0, e0, _, _⟩ := DataW.trod_int t0 q0
        obtain ⟨z1, e1, _, _⟩ := DataW.trod_int t1 q1
        simp at e0 e1
        subst e0 e1
        have g0 := hcell 0 (by omega)
        have g1 := hcell 1 (by omega)
        rw [Addr.add_add] at g0 g1
        exact ⟨(z0, z1), by simpa using g0, by simpa using g1⟩
    obtain ⟨Y, hY⟩ := choose_lt each
    have hlen : ((List.range len).map Y).length = len := by simp
    refine ⟨some a, cap, (List.range len).map Y, by rw [hlen], by rw [hlen]; exact hl, ⟨some a, cap, rfl, by omega, lcells_len _, fun h0 => ?_⟩⟩
    rw [hlen] at h0
    have h1 := (hY 0 (by omega)).1
    obtain ⟨b, off, spot⟩ := a
    have hspot : spot = none := by simpa [Addr.add] using World.cell?_spot h1
    subst hspot
    refine ⟨b, off, rfl, fun j u hj => ?_⟩
    have hj' : j < len * 2 := by have := (List.getElem?_eq_some_iff.1 hj).1; rw [lcells_len, hlen] at this; exact this
    have hw := fun i hi => fm_at lcell_len ((List.range len).map Y) (j / 2) (Y (j / 2)) i (by simp [show j / 2 < len by omega]) hi
    obtain ⟨q0, q1⟩ := hY (j / 2) (by omega)
    rw [Addr.add_lit] at q0 q1
    rcases (by omega : j = j / 2 * 2 ∨ j = j / 2 * 2 + 1) with e | e
    · have h2 := hw 0 (by omega)
      rw [Nat.add_zero, ← e] at h2
      rw [← e] at q0
      have h3 := h2.symm.trans hj
      rw [q0]
      exact h3
    · have h2 := hw 1 (by omega)
      rw [← e] at h2
      rw [← e] at q1
      have h3 := h2.symm.trans hj
      rw [q1]
      exact h3
end

end Go.Proofs.Ytiigcokbmggdkaa

/- How a word that is an argument is opened; no statement of the seat is proved here. -/
namespace Go.Proofs.Ytiigcokbmggdkaa
open Go.ChangeShapes Go.WideShapes Go.ChangeAt Go.RowKit Go.Deep Go.Joins

theorem at_of {l : List Value} {o : Nat} {u : Value} (e : (l.drop o).take 1 = [u]) : l[o]? = some u := by
  have := congrArg (fun m => m[0]?) e
  simpa using this
theorem of_at {l : List Value} {o : Nat} {u : Value} (h : l[o]? = some u) : (l.drop o).take 1 = [u] := by
  obtain ⟨hl, e⟩ := List.getElem?_eq_some_iff.1 h
  rw [List.drop_eq_getElem_cons hl, e]
  rfl

section
variable {H : Type} {enc : TypeId × Value → H} {P : Program} {w : World} {base : Nat} {spare : Nat → Bool} {held : Bool}

theorem intAt {n o i : Nat} {t : TypeId} {l : List Value} {xs : List (DataW H × List MemPlace)} (ht : P.underlying t = some (.int .i64)) (hc : P.cellsOf t = 1)
    (hq : DataW.trod enc P w base spare held n t ((l.drop o).take (P.cellsOf t)) = xs[i]?) (hi : i < xs.length) : ∃ z : Int, l[o]? = some (.int .i64 z) := by
  rw [hc, List.getElem?_eq_getElem hi] at hq
  obtain ⟨z, e, _, _⟩ := DataW.trod_int ht hq
  exact ⟨z, at_of e⟩
end

set_option maxRecDepth 100000 in
set_option maxHeartbeats 4000000 in
theorem wdR_of {H : Type} {enc : TypeId × Value → H} {w : World} {base : Nat} {spare : Nat → Bool} {held : Bool} {r : Reach} {b0 : Nat} {v : Value} {d : DataW H} {p : List MemPlace}
    (hv : Value.okWide Try.prog w r b0 30 v) (h : DataW.Trod enc Try.prog w base spare held 30 v d p) : ∃ x, WdR w v x := by
  obtain ⟨cs, rfl, hsz⟩ := okWide_struct Try.underlying30 hv
  obtain ⟨fuel, hf⟩ := h
  have hc26 : Try.prog.cellsOf 30 = 26 := by kernel_rfl
  have hc10 : Try.prog.cellsOf 26 = 10 := by kernel_rfl
  have hc1 : Try.prog.cellsOf 3 = 1 := by kernel_rfl
  have hcp : Try.prog.cellsOf 27 = 1 := by kernel_rfl
  have hcl : Try.prog.cellsOf 28 = 1 := by kernel_rfl
  rw [hc26] at hsz
  obtain ⟨xs, n, -, -, -, hxl, hq⟩ := DataW.trod_struct Try.underlying30 hf
  have hxl' : xs.length = 17 := hxl
  clear hxl
  obtain ⟨a0, ha0⟩ := intAt (o := 0) (i := 0) Try.underlying3 hc1 (hq 0 _ rfl) (by omega)
  obtain ⟨a1, ha1⟩ := intAt (o := 1) (i := 1) Try.underlying3 hc1 (hq 1 _ rfl) (by omega)
  obtain ⟨a2, ha2⟩ := intAt (o := 2) (i := 2) Try.underlying3 hc1 (hq 2 _ rfl) (by omega)
  obtain ⟨a3, ha3⟩ := intAt (o := 3) (i := 3) Try.underlying3 hc1 (hq 3 _ rfl) (by omega)
  obtain ⟨a4, ha4⟩ := intAt (o := 4) (i := 4) Try.underlying3 hc1 (hq 4 _ rfl) (by omega)
  obtain ⟨a5, ha5⟩ := intAt (o := 5) (i := 5) Try.underlying3 hc1 (hq 5 _ rfl) (by omega)
  obtain ⟨b0, hb0⟩ := intAt (o := 16) (i := 7) Try.underlying3 hc1 (hq 7 _ rfl) (by omega)
  obtain ⟨b1, hb1⟩ := intAt (o := 17) (i := 8) Try.underlying3 hc1 (hq 8 _ rfl) (by omega)
  obtain ⟨b2, hb2⟩ := intAt (o := 18) (i := 9) Try.underlying3 hc1 (hq 9 _ rfl) (by omega)
  obtain ⟨b3, hb3⟩ := intAt (o := 19) (i := 10) Try.underlying3 hc1 (hq 10 _ rfl) (by omega)
  obtain ⟨b4, hb4⟩ := intAt (o := 20) (i := 11) Try.underlying3 hc1 (hq 11 _ rfl) (by omega)
  obtain ⟨b5, hb5⟩ := intAt (o := 21) (i := 12) Try.underlying3 hc1 (hq 12 _ rfl) (by omega)
  obtain ⟨b6, hb6⟩ := intAt (o := 22) (i := 13) Try.underlying3 hc1 (hq 13 _ rfl) (by omega)
  obtain ⟨b7, hb7⟩ := intAt (o := 23) (i := 14) Try.underlying3 hc1 (hq 14 _ rfl) (by omega)
  have q6 : DataW.trod enc Try.prog w base spare held n 26 ((cs.toList.drop 6).take (Try.prog.cellsOf 26)) = xs[6]? := hq 6 _ rfl
  obtain ⟨y6, hy6⟩ : ∃ y, xs[6]? = some y := ⟨xs[6]'(by omega), List.getElem?_eq_getElem _⟩
  rw [hc10, hy6] at q6
  obtain ⟨zs, n2, -, -, -, hzl, hz⟩ := DataW.trod_struct Try.underlying26 q6
  have hzl' : zs.length = 10 := hzl
  clear hzl
  have sub : ∀ k u, k < 10 → ((cs.toList.drop 6).take 10)[k]? = some u → cs.toList[6 + k]? = some u := by
    intro k u hk hu
    rw [List.getElem?_take_of_lt hk, List.getElem?_drop] at hu
    exact hu
  obtain ⟨c0, hc_0⟩ := intAt (o := 0) (i := 0) Try.underlying3 hc1 (hz 0 _ rfl) (by omega)
  obtain ⟨c1, hc_1⟩ := intAt (o := 1) (i := 1) Try.underlying3 hc1 (hz 1 _ rfl) (by omega)
  obtain ⟨c2, hc_2⟩ := intAt (o := 2) (i := 2) Try.underlying3 hc1 (hz 2 _ rfl) (by omega)
  obtain ⟨c3, hc_3⟩ := intAt (o := 3) (i := 3) Try.underlying3 hc1 (hz 3 _ rfl) (by omega)
  obtain ⟨c4, hc_4⟩ := intAt (o := 4) (i := 4) Try.underlying3 hc1 (hz 4 _ rfl) (by omega)
  obtain ⟨c5, hc_5⟩ := intAt (o := 5) (i := 5) Try.underlying3 hc1 (hz 5 _ rfl) (by omega)
  obtain ⟨c6, hc_6⟩ := intAt (o := 6) (i := 6) Try.underlying3 hc1 (hz 6 _ rfl) (by omega)
  obtain ⟨c7, hc_7⟩ := intAt (o := 7) (i := 7) Try.underlying3 hc1 (hz 7 _ rfl) (by omega)
  obtain ⟨c8, hc_8⟩ := intAt (o := 8) (i := 8) Try.underlying3 hc1 (hz 8 _ rfl) (by omega)
  obtain ⟨c9, hc_9⟩ := intAt (o := 9) (i := 9) Try.underlying3 hc1 (hz 9 _ rfl) (by omega)
  obtain ⟨vp, hvp⟩ : ∃ u, cs.toList[24]? = some u := ⟨cs.toList[24]'(by simp; omega), List.getElem?_eq_getElem _⟩
  obtain ⟨vl, hvl⟩ : ∃ u, cs.toList[25]? = some u := ⟨cs.toList[25]'(by simp; omega), List.getElem?_eq_getElem _⟩
  have qp := hq 15 _ rfl
  obtain ⟨yp, hyp⟩ : ∃ y, xs[15]? = some y := ⟨xs[15]'(by omega), List.getElem?_eq_getElem _⟩
  have ql := hq 16 _ rfl
  obtain ⟨yl, hyl⟩ : ∃ y, xs[16]? = some y := ⟨xs[16]'(by omega), List.getElem?_eq_getElem _⟩
  have qp' : DataW.trod enc Try.prog w base spare held n 27 ((cs.toList.drop 24).take (Try.prog.cellsOf 27)) = xs[15]? := qp
  have ql' : DataW.trod enc Try.prog w base spare held n 28 ((cs.toList.drop 25).take (Try.prog.cellsOf 28)) = xs[16]? := ql
  rw [hcp, of_at hvp, hyp] at qp'
  rw [hcl, of_at hvl, hyl] at ql'
  obtain ⟨po, pc, ps, rfl, -, hps⟩ := rowR_of_pieces Try.underlying27 Try.underlying138 (by kernel_rfl) rfl rfl rfl rfl (by kernel_rfl) (by kernel_rfl) (by kernel_rfl) (by kernel_rfl) Try.underlying3 Try.underlying3 Try.underlying3 Try.underlying3 qp'
  obtain ⟨lo, lc, ls, rfl, -, hls⟩ := rowR_of_lasts Try.underlying28 Try.underlying142 (by kernel_rfl) rfl rfl (by kernel_rfl) (by kernel_rfl) Try.underlying3 Try.underlying3 ql'
  refine ⟨⟨a0, a1, a2, a3, a4, a5, c0, c1, c2, c3, c4, c5, c6, c7, c8, c9, b0, b1, b2, b3, b4, b5, b6, b7, ps, ls⟩, po, pc, lo, lc, ?_, hps, hls⟩
  congr 1
  apply Array.ext_getElem?
  intro j
  rw [← Array.getElem?_toList]
  by_cases hj : j < 26
  · rcases (by omega : j = 0 ∨ j = 1 ∨ j = 2 ∨ j = 3 ∨ j = 4 ∨ j = 5 ∨ j = 6 ∨ j = 7 ∨ j = 8 ∨ j = 9 ∨ j = 10 ∨ j = 11 ∨ j = 12 ∨ j = 13 ∨ j = 14 ∨ j = 15 ∨ j = 16 ∨ j = 17 ∨ j = 18 ∨ j = 19 ∨ j = 20 ∨ j = 21 ∨ j = 22 ∨ j = 23 ∨ j = 24 ∨ j = 25) with rfl | rfl | rfl | rfl | rfl | rfl | rfl | rfl | rfl | rfl | rfl | rfl | rfl | rfl | rfl | rfl | rfl | rfl | rfl | rfl | rfl | rfl | rfl | rfl | rfl | rfl
    · exact ha0
    · exact ha1
    · exact ha2
    · exact ha3
    · exact ha4
    · exact ha5
    · exact sub 0 _ (by omega) hc_0
    · exact sub 1 _ (by omega) hc_1
    · exact sub 2 _ (by omega) hc_2
    · exact sub 3 _ (by omega) hc_3
    · exact sub 4 _ (by omega) hc_4
    · exact sub 5 _ (by omega) hc_5
    · exact sub 6 _ (by omega) hc_6
    · exact sub 7 _ (by omega) hc_7
    · exact sub 8 _ (by omega) hc_8
    · exact sub 9 _ (by omega) hc_9
    · exact hb0
    · exact hb1
    · exact hb2
    · exact hb3
    · exact hb4
    · exact hb5
    · exact hb6
    · exact hb7
    · exact hvp
    · exact hvl
  · rw [List.getElem?_eq_none (by simp; omega), Array.getElem?_eq_none (by show 26 ≤ j; omega)]

end Go.Proofs.Ytiigcokbmggdkaa

/- How a voter that is an argument is opened; no statement of the seat is proved here. -/
namespace Go.Proofs.Ytiigcokbmggdkaa
open Go.ChangeShapes Go.WideShapes Go.ChangeAt Go.RowKit Go.Deep Go.Joins

section
variable {H : Type} {enc : TypeId × Value → H} {w : World} {base : Nat} {spare : Nat → Bool} {held : Bool}

set_option maxRecDepth 100000 in
set_option maxHeartbeats 4000000 in
theorem paper_of {fuel : Nat} {l : List Value} {y : DataW H × List MemPlace} (hf : DataW.trod enc Try.prog w base spare held fuel 59 l = some y) (hl : l.length = 12) : ∃ p : Pp, l = ppcell p := by
  have hc10 : Try.prog.cellsOf 26 = 10 := by kernel_rfl
  have hc1 : Try.prog.cellsOf 3 = 1 := by kernel_rfl
  obtain ⟨xs, n, -, -, -, hxl, hq⟩ := DataW.trod_struct Try.underlying59 hf
  have hxl' : xs.length = 3 := hxl
  clear hxl
  obtain ⟨s, hs⟩ := intAt (o := 0) (i := 0) Try.underlying3 hc1 (hq 0 _ rfl) (by omega)
  obtain ⟨b, hb⟩ := intAt (o := 1) (i := 1) Try.underlying3 hc1 (hq 1 _ rfl) (by omega)
  have q6 : DataW.trod enc Try.prog w base spare held n 26 ((l.drop 2).take (Try.prog.cellsOf 26)) = xs[2]? := hq 2 _ rfl
  obtain ⟨y6, hy6⟩ : ∃ y, xs[2]? = some y := ⟨xs[2]'(by omega), List.getElem?_eq_getElem _⟩
  rw [hc10, hy6] at q6
  obtain ⟨zs, n2, -, -, -, hzl, hz⟩ := DataW.trod_struct Try.underlying26 q6
  have hzl' : zs.length = 10 := hzl
  clear hzl
  have sub : ∀ k u, k < 10 → ((l.drop 2).take 10)[k]? = some u → l[2 + k]? = some u := by
    intro k u hk hu
    rw [List.getElem?_take_of_lt hk, List.getElem?_drop] at hu
    exact hu
  obtain ⟨c0, hc_0⟩ := intAt (o := 0) (i := 0) Try.underlying3 hc1 (hz 0 _ rfl) (by omega)
  obtain ⟨c1, hc_1⟩ := intAt (o := 1) (i := 1) Try.underlying3 hc1 (hz 1 _ rfl) (by omega)
  obtain ⟨c2, hc_2⟩ := intAt (o := 2) (i := 2) Try.underlying3 hc1 (hz 2 _ rfl) (by omega)
  obtain ⟨c3, hc_3⟩ := intAt (o := 3) (i := 3) Try.underlying3 hc1 (hz 3 _ rfl) (by omega)
  obtain ⟨c4, hc_4⟩ := intAt (o := 4) (i := 4) Try.underlying3 hc1 (hz 4 _ rfl) (by omega)
  obtain ⟨c5, hc_5⟩ := intAt (o := 5) (i := 5) Try.underlying3 hc1 (hz 5 _ rfl) (by omega)
  obtain ⟨c6, hc_6⟩ := intAt (o := 6) (i := 6) Try.underlying3 hc1 (hz 6 _ rfl) (by omega)
  obtain ⟨c7, hc_7⟩ := intAt (o := 7) (i := 7) Try.underlying3 hc1 (hz 7 _ rfl) (by omega)
  obtain ⟨c8, hc_8⟩ := intAt (o := 8) (i := 8) Try.underlying3 hc1 (hz 8 _ rfl) (by omega)
  obtain ⟨c9, hc_9⟩ := intAt (o := 9) (i := 9) Try.underlying3 hc1 (hz 9 _ rfl) (by omega)
  refine ⟨(s, b, ⟨0, 0, 0, 0, 0, 0, c0, c1, c2, c3, c4, c5, c6, c7, c8, c9, 0, 0, 0, 0, 0, 0, 0, 0, [], []⟩), ?_⟩
  apply List.ext_getElem?
  intro j
  by_cases hj : j < 12
  · rcases (by omega : j = 0 ∨ j = 1 ∨ j = 2 ∨ j = 3 ∨ j = 4 ∨ j = 5 ∨ j = 6 ∨ j = 7 ∨ j = 8 ∨ j = 9 ∨ j = 10 ∨ j = 11) with rfl | rfl | rfl | rfl | rfl | rfl | rfl | rfl | rfl | rfl | rfl | rfl
    · exact hs
    · exact hb
    · exact sub 0 _ (by omega) hc_0
    · exact sub 1 _ (by omega) hc_1
    · exact sub 2 _ (by omega) hc_2
    · exact sub 3 _ (by omega) hc_3
    · exact sub 4 _ (by omega) hc_4
    · exact sub 5 _ (by omega) hc_5
    · exact sub 6 _ (by omega) hc_6
    · exact sub 7 _ (by omega) hc_7
    · exact sub 8 _ (by omega) hc_8
    · exact sub 9 _ (by omega) hc_9
  · rw [List.getElem?_eq_none (by omega), List.getElem?_eq_none (by rw [ppcell_len]; omega)]

set_option maxRecDepth 100000 in
theorem rowR_of_papers {fuel : Nat} {v : Value} {x : DataW H × List MemPlace} (h : DataW.trod enc Try.prog w base spare held fuel 22 [v] = some x) : ∃ (so : Option Addr) (sc : Nat) (xs : List Pp), v = .slice so xs.length sc ∧ xs.length ≤ sc ∧ RowR w 12 (.slice so xs.length sc) xs.length (ppcells xs) := by
  have ce : Try.prog.cellsOf 59 = 12 := by kernel_rfl
  rcases open_slice Try.underlying22 h with ⟨hcs, _⟩ | ⟨a, len, cap, m, n, D, Pl, hcs, _, hl, hm, hmm, _, hx⟩
  · obtain rfl : v = .slice none 0 0 := by simpa using hcs
    exact ⟨none, 0, [], rfl, Nat.le_refl _, RowR.nil _ _⟩
  · obtain rfl : v = .slice (some a) len cap := by simpa using hcs
    have hlm : len ≤ m := by rw [hmm]; split <;> omega
    unfold maxLen at hm
    have each : ∀ i, i < m → ∃ p : Pp, ∀ r u, (ppcell p)[r]? = some u → w.cell? (a.add (i * 12 + r)) = some u := fun i hi => by
      obtain ⟨cs', h1, h2⟩ := hx i hi
      rw [ce] at h1
      obtain ⟨_, hlen, hcell⟩ := World.cells?_some h1
      obtain ⟨p, rfl⟩ := paper_of h2 hlen
      refine ⟨p, fun r u hr => ?_⟩
      have hr' : r < 12 := by have := (List.getElem?_eq_some_iff.1 hr).1; rwa [ppcell_len] at this
      have g := hcell r (by omega)
      rw [Addr.add_add] at g
      rw [g]
      first | exact hr | simpa [List.getD, hr] using hr
    have : Inhabited Pp := ⟨(0, 0, zeroW)⟩
    obtain ⟨Y, hY⟩ := choose_lt each
    have hlen : ((List.range len).map Y).length = len := by simp
    refine ⟨some a, cap, (List.range len).map Y, by rw [hlen], by rw [hlen]; exact hl, ⟨some a, cap, rfl, by omega, ppcells_len _, fun h0 => ?_⟩⟩
    rw [hlen] at h0
    have h1 := hY 0 (by omega) 0 _ rfl
    obtain ⟨b, off, spot⟩ := a
    have hspot : spot = none := by simpa [Addr.add] using World.cell?_spot h1
    subst hspot
    refine ⟨b, off, rfl, fun j u hj => ?_⟩
    have hj' : j < len * 12 := by have := (List.getElem?_eq_some_iff.1 hj).1; rw [ppcells_len, hlen] at this; exact this
    have hw := fm_at ppcell_len ((List.range len).map Y) (j / 12) (Y (j / 12)) (j % 12) (by simp [show j / 12 < len by omega]) (by omega)
    have e : j / 12 * 12 + j % 12 = j := by omega
    rw [e] at hw
    have q := hY (j / 12) (by omega) (j % 12) u (by rw [← hw]; exact hj)
    rw [e, Addr.add_lit] at q
    exact q
end

set_option maxRecDepth 100000 in
theorem vtR_of {H : Type} {enc : TypeId × Value → H} {w : World} {base : Nat} {spare : Nat → Bool} {held : Bool} {r : Reach} {b0 : Nat} {v : Value} {d : DataW H} {p : List MemPlace}
    (hv : Value.okWide Try.prog w r b0 24 v) (h : DataW.Trod enc Try.prog w base spare held 24 v d p) : ∃ P xs, VtR w v P xs := by
  obtain ⟨cs, rfl, hsz⟩ := okWide_struct Try.underlying24 hv
  obtain ⟨fuel, hf⟩ := h
  have hc2 : Try.prog.cellsOf 24 = 2 := by kernel_rfl
  have hc1 : Try.prog.cellsOf 3 = 1 := by kernel_rfl
  have hcp : Try.prog.cellsOf 22 = 1 := by kernel_rfl
  rw [hc2] at hsz
  obtain ⟨xs, n, -, -, -, hxl, hq⟩ := DataW.trod_struct Try.underlying24 hf
  have hxl' : xs.length = 2 := hxl
  clear hxl
  obtain ⟨P, hP⟩ := intAt (o := 0) (i := 0) Try.underlying3 hc1 (hq 0 _ rfl) (by omega)
  obtain ⟨vp, hvp⟩ : ∃ u, cs.toList[1]? = some u := ⟨cs.toList[1]'(by simp; omega), List.getElem?_eq_getElem _⟩
  have qp : DataW.trod enc Try.prog w base spare held n 22 ((cs.toList.drop 1).take (Try.prog.cellsOf 22)) = xs[1]? := hq 1 _ rfl
  obtain ⟨yp, hyp⟩ : ∃ y, xs[1]? = some y := ⟨xs[1]'(by omega), List.getElem?_eq_getElem _⟩
  rw [hcp, of_at hvp, hyp] at qp
  obtain ⟨po, pc, ps, rfl, -, hps⟩ := rowR_of_papers qp
  refine ⟨P, ps, po, pc, ?_, hps⟩
  congr 1
  apply Array.ext_getElem?
  intro j
  rw [← Array.getElem?_toList]
  by_cases hj : j < 2
  · rcases (by omega : j = 0 ∨ j = 1) with rfl | rfl
    · exact hP
    · exact hvp
  · rw [List.getElem?_eq_none (by simp; omega), Array.getElem?_eq_none (by show 2 ≤ j; omega)]

end Go.Proofs.Ytiigcokbmggdkaa
