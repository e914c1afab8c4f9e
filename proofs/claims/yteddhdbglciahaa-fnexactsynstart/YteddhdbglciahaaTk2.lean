/- Contracts and plain facts that this claim leans on (texts VK, VL0, RE, REV, Ints, SK1, SK2, REK, REW, CN1); no statement of the seat is proved here. -/
import Derived.Test.YteddhdbglciahaaTk1
import Derived.Laws.StructEq
import Derived.Deep.DeepCutAuto

/- Marks in papers: contracts; no statement of the seat is proved here. -/
namespace Go.Proofs.Yteddhdbglciahaa
open Go.RowKit

/-- Cells written one behind the other. -/
def setL (cur : Array Value) (off : Nat) : List Value → Array Value
  | [] => cur
  | v :: vs => setL (cur.setIfInBounds off v) (off + 1) vs
def setW (w : World) (g off : Nat) : List Value → World
  | [] => w
  | v :: vs => setW (w.setCell ⟨g, off, none⟩ v) g (off + 1) vs
theorem setL_size : ∀ (vs : List Value) (cur : Array Value) (off : Nat), (setL cur off vs).size = cur.size
  | [], _, _ => rfl
  | v :: vs, cur, off => by rw [setL, setL_size vs]; simp
theorem setL_out : ∀ (vs : List Value) (cur : Array Value) (off i : Nat), i < off ∨ off + vs.length ≤ i → (setL cur off vs)[i]? = cur[i]?
  | [], _, _, _, _ => rfl
  | v :: vs, cur, off, i, h => by
    rw [List.length_cons] at h
    rw [setL, setL_out vs _ _ i (by omega), Array.getElem?_setIfInBounds_ne (by omega)]
theorem setL_in : ∀ (vs : List Value) (cur : Array Value) (off r : Nat), off + vs.length ≤ cur.size → r < vs.length → (setL cur off vs)[off + r]? = vs[r]?
  | [], _, _, r, _, h => by simp at h
  | v :: vs, cur, off, 0, hs, _ => by
    rw [List.length_cons] at hs
    rw [setL, setL_out vs _ _ _ (by omega), Nat.add_zero, Array.getElem?_setIfInBounds_self_of_lt (by omega)]
    rfl
  | v :: vs, cur, off, r + 1, hs, h => by
    rw [List.length_cons] at hs h
    have := setL_in vs (cur.setIfInBounds off v) (off + 1) r (by simp; omega) (by omega)
    rw [setL, show off + (r + 1) = off + 1 + r by omega, this]
    rfl
theorem setW_upd {S : Nat → Prop} : ∀ (vs : List Value) (w : World) (g off : Nat), S g → Upd S w (setW w g off vs)
  | [], _, _, _, _ => Upd.refl _ _
  | v :: vs, w, g, off, h => (Upd.setCell w g off v h).trans (setW_upd vs _ g (off + 1) h)
theorem setW_heap : ∀ (vs : List Value) (w : World) (g off : Nat) (cur : Array Value) (e : TypeId), w.heap[g]? = some (.cells cur e (0, 0)) → (setW w g off vs).heap[g]? = some (.cells (setL cur off vs) e (0, 0))
  | [], _, _, _, _, _, h => h
  | _ :: vs, _, g, off, _, e, h => setW_heap vs _ g (off + 1) _ e (row_set _ h)

/-- The marks of papers. -/
def mkPp (m : Nat) : Pp := (((m : Nat) : Int), ((m + 1 : Nat) : Int), { zeroW with c0 := ((m + 2 : Nat) : Int), c1 := ((m + 3 : Nat) : Int), c2 := ((m + 4 : Nat) : Int), c3 := ((m + 5 : Nat) : Int), c4 := ((m + 6 : Nat) : Int), c5 := ((m + 7 : Nat) : Int), c6 := ((m + 8 : Nat) : Int), c7 := ((m + 9 : Nat) : Int), c8 := ((m + 10 : Nat) : Int), c9 := ((m + 11 : Nat) : Int) })
def mkV (k n : Nat) : List Pp := (List.range n).map fun i => mkPp (k + i * 12)
theorem mkV_len (k n : Nat) : (mkV k n).length = n := by simp [mkV]
theorem mkV_get (k n i : Nat) (h : i < n) : (mkV k n)[i]? = some (mkPp (k + i * 12)) := by simp [mkV, h]
theorem mkPp_at (m r : Nat) (h : r < 12) : (pparr (mkPp m))[r]? = some (.int .i64 ((m + r : Nat) : Int)) := by
  rcases (by omega : r = 0 ∨ r = 1 ∨ r = 2 ∨ r = 3 ∨ r = 4 ∨ r = 5 ∨ r = 6 ∨ r = 7 ∨ r = 8 ∨ r = 9 ∨ r = 10 ∨ r = 11) with rfl | rfl | rfl | rfl | rfl | rfl | rfl | rfl | rfl | rfl | rfl | rfl <;> rfl
theorem marks12 (m r : Nat) (h : r < 12) : ([.int .i64 ((m : Int)), .int .i64 ((m : Int) + 1), .int .i64 ((m : Int) + 1 + 1), .int .i64 ((m : Int) + 1 + 1 + 1), .int .i64 ((m : Int) + 1 + 1 + 1 + 1), .int .i64 ((m : Int) + 1 + 1 + 1 + 1 + 1), .int .i64 ((m : Int) + 1 + 1 + 1 + 1 + 1 + 1), .int .i64 ((m : Int) + 1 + 1 + 1 + 1 + 1 + 1 + 1), .int .i64 ((m : Int) + 1 + 1 + 1 + 1 + 1 + 1 + 1 + 1), .int .i64 ((m : Int) + 1 + 1 + 1 + 1 + 1 + 1 + 1 + 1 + 1), .int .i64 ((m : Int) + 1 + 1 + 1 + 1 + 1 + 1 + 1 + 1 + 1 + 1), .int .i64 ((m : Int) + 1 + 1 + 1 + 1 + 1 + 1 + 1 + 1 + 1 + 1 + 1)] : List Value)[r]? = some (.int .i64 ((m + r : Nat) : Int)) := by
  rcases (by omega : r = 0 ∨ r = 1 ∨ r = 2 ∨ r = 3 ∨ r = 4 ∨ r = 5 ∨ r = 6 ∨ r = 7 ∨ r = 8 ∨ r = 9 ∨ r = 10 ∨ r = 11) with rfl | rfl | rfl | rfl | rfl | rfl | rfl | rfl | rfl | rfl | rfl | rfl <;> exact congrArg (fun z => some (Value.int .i64 z)) (by omega)

set_option maxRecDepth 100000 in
set_option maxHeartbeats 8000000 in
theorem markSynPaperS_any (S : Nat → Prop) (v : Value) (n : Nat) (cs : List Value) (k0 : Nat) (w : World) (hr : Row w 37 12 S v n cs) (h1 : 1 ≤ k0) (h2 : k0 + n * 12 ≤ 1099511627776) :
    Calls Try.prog 82 #[v, .int .i64 k0] w fun e w' => e = .returned (.int .i64 (k0 + n * 12 : Nat)) ∧ Row w' 37 12 S v n (ppcells (mkV k0 n)) ∧ Upd S w w' := by
  obtain ⟨ao, cap, rfl, hn, hl, hr⟩ := hr
  rcases Nat.eq_zero_or_pos n with rfl | hpos
  · go_enter Try.func82, Try.ntmps82
    go_wp2
    refine wp_loop_rounds 1 ?_
    rw [rounds_succ]
    go_wp2
    go_ret
    exact ⟨rfl, ⟨ao, cap, rfl, hn, by simp [mkV, ppcells], fun h => by omega⟩, Upd.refl _ _⟩
  · obtain ⟨g, cur, rfl, hS, hg, ht⟩ := hr hpos
    have hcs : n * 12 ≤ cur.size := by
      have := congrArg List.length ht
      simp [hl] at this
      omega
    clear hr ht hl
    go_enter Try.func82, Try.ntmps82
    go_wp2
    go_loopw [1, 5] (fun kv i wr => ∃ (k m : Nat) (cur' : Array Value), k ≤ n ∧ m = k0 + k * 12 ∧ i = .int .i64 k ∧ kv = .int .i64 (m : Nat) ∧ wr.heap[g]? = some (.cells cur' 37 (0, 0)) ∧ cur'.size = cur.size ∧ (∀ j r, j < k → r < 12 → cur'[j * 12 + r]? = some (.int .i64 (k0 + j * 12 + r : Nat))) ∧ Upd S w wr) (fun _ i _ => n - (intOf i).toNat)
    case atStart => exact ⟨0, k0, cur, Nat.zero_le _, rfl, rfl, rfl, hg, rfl, fun j r hj => by omega, Upd.refl _ _⟩
    case round =>
      obtain ⟨k, m, cur', hk, hm, rfl, rfl, hgr, hsz, hmk, hup⟩ := hrel
      have Hm := hide hm
      have hm2 : (m : Int) ≤ 1099511627776 := by omega
      clear hm
      have HM := hide hmk
      have HZ := hide hsz
      have hsz' : n * 12 ≤ cur'.size := by omega
      clear hmk hsz
      by_cases hlt : k < n
      · have hi : (k : Int) < (n : Int) := by omega
        have hk3 : k * 12 + 12 ≤ cur'.size := by omega
        obtain ⟨u0, hu0⟩ : ∃ u, cur'[k * 12]? = some u := ⟨cur'[k * 12]'(by omega), by simp [show k * 12 < cur'.size by omega]⟩
        obtain ⟨u1, hu1⟩ : ∃ u, cur'[k * 12 + 1]? = some u := ⟨cur'[k * 12 + 1]'(by omega), by simp [show k * 12 + 1 < cur'.size by omega]⟩
        obtain ⟨u2, hu2⟩ : ∃ u, cur'[k * 12 + 2]? = some u := ⟨cur'[k * 12 + 2]'(by omega), by simp [show k * 12 + 2 < cur'.size by omega]⟩
        obtain ⟨u3, hu3⟩ : ∃ u, cur'[k * 12 + 3]? = some u := ⟨cur'[k * 12 + 3]'(by omega), by simp [show k * 12 + 3 < cur'.size by omega]⟩
        obtain ⟨u4, hu4⟩ : ∃ u, cur'[k * 12 + 4]? = some u := ⟨cur'[k * 12 + 4]'(by omega), by simp [show k * 12 + 4 < cur'.size by omega]⟩
        obtain ⟨u5, hu5⟩ : ∃ u, cur'[k * 12 + 5]? = some u := ⟨cur'[k * 12 + 5]'(by omega), by simp [show k * 12 + 5 < cur'.size by omega]⟩
        obtain ⟨u6, hu6⟩ : ∃ u, cur'[k * 12 + 6]? = some u := ⟨cur'[k * 12 + 6]'(by omega), by simp [show k * 12 + 6 < cur'.size by omega]⟩
        obtain ⟨u7, hu7⟩ : ∃ u, cur'[k * 12 + 7]? = some u := ⟨cur'[k * 12 + 7]'(by omega), by simp [show k * 12 + 7 < cur'.size by omega]⟩
        obtain ⟨u8, hu8⟩ : ∃ u, cur'[k * 12 + 8]? = some u := ⟨cur'[k * 12 + 8]'(by omega), by simp [show k * 12 + 8 < cur'.size by omega]⟩
        obtain ⟨u9, hu9⟩ : ∃ u, cur'[k * 12 + 9]? = some u := ⟨cur'[k * 12 + 9]'(by omega), by simp [show k * 12 + 9 < cur'.size by omega]⟩
        obtain ⟨u10, hu10⟩ : ∃ u, cur'[k * 12 + 10]? = some u := ⟨cur'[k * 12 + 10]'(by omega), by simp [show k * 12 + 10 < cur'.size by omega]⟩
        obtain ⟨u11, hu11⟩ : ∃ u, cur'[k * 12 + 11]? = some u := ⟨cur'[k * 12 + 11]'(by omega), by simp [show k * 12 + 11 < cur'.size by omega]⟩
        have hcw0 : wr.cell? ⟨g, k * 12, none⟩ = some u0 := (cell_of_row wr _ _ cur' _ (0, 0) hgr).trans hu0
        have hcw1 : wr.cell? ⟨g, k * 12 + 1, none⟩ = some u1 := (cell_of_row wr _ _ cur' _ (0, 0) hgr).trans hu1
        have hcw2 : wr.cell? ⟨g, k * 12 + 2, none⟩ = some u2 := (cell_of_row wr _ _ cur' _ (0, 0) hgr).trans hu2
        have hcw3 : wr.cell? ⟨g, k * 12 + 3, none⟩ = some u3 := (cell_of_row wr _ _ cur' _ (0, 0) hgr).trans hu3
        have hcw4 : wr.cell? ⟨g, k * 12 + 4, none⟩ = some u4 := (cell_of_row wr _ _ cur' _ (0, 0) hgr).trans hu4
        have hcw5 : wr.cell? ⟨g, k * 12 + 5, none⟩ = some u5 := (cell_of_row wr _ _ cur' _ (0, 0) hgr).trans hu5
        have hcw6 : wr.cell? ⟨g, k * 12 + 6, none⟩ = some u6 := (cell_of_row wr _ _ cur' _ (0, 0) hgr).trans hu6
        have hcw7 : wr.cell? ⟨g, k * 12 + 7, none⟩ = some u7 := (cell_of_row wr _ _ cur' _ (0, 0) hgr).trans hu7
        have hcw8 : wr.cell? ⟨g, k * 12 + 8, none⟩ = some u8 := (cell_of_row wr _ _ cur' _ (0, 0) hgr).trans hu8
        have hcw9 : wr.cell? ⟨g, k * 12 + 9, none⟩ = some u9 := (cell_of_row wr _ _ cur' _ (0, 0) hgr).trans hu9
        have hcw10 : wr.cell? ⟨g, k * 12 + 10, none⟩ = some u10 := (cell_of_row wr _ _ cur' _ (0, 0) hgr).trans hu10
        have hcw11 : wr.cell? ⟨g, k * 12 + 11, none⟩ = some u11 := (cell_of_row wr _ _ cur' _ (0, 0) hgr).trans hu11
        have hfw0 : wr.frozen? ⟨g, k * 12, none⟩ = false := frozen_of_row wr _ _ cur' _ hgr
        have hfw1 : wr.frozen? ⟨g, k * 12 + 1, none⟩ = false := frozen_of_row wr _ _ cur' _ hgr
        have hfw2 : wr.frozen? ⟨g, k * 12 + 2, none⟩ = false := frozen_of_row wr _ _ cur' _ hgr
        have hfw3 : wr.frozen? ⟨g, k * 12 + 3, none⟩ = false := frozen_of_row wr _ _ cur' _ hgr
        have hfw4 : wr.frozen? ⟨g, k * 12 + 4, none⟩ = false := frozen_of_row wr _ _ cur' _ hgr
        have hfw5 : wr.frozen? ⟨g, k * 12 + 5, none⟩ = false := frozen_of_row wr _ _ cur' _ hgr
        have hfw6 : wr.frozen? ⟨g, k * 12 + 6, none⟩ = false := frozen_of_row wr _ _ cur' _ hgr
        have hfw7 : wr.frozen? ⟨g, k * 12 + 7, none⟩ = false := frozen_of_row wr _ _ cur' _ hgr
        have hfw8 : wr.frozen? ⟨g, k * 12 + 8, none⟩ = false := frozen_of_row wr _ _ cur' _ hgr
        have hfw9 : wr.frozen? ⟨g, k * 12 + 9, none⟩ = false := frozen_of_row wr _ _ cur' _ hgr
        have hfw10 : wr.frozen? ⟨g, k * 12 + 10, none⟩ = false := frozen_of_row wr _ _ cur' _ hgr
        have hfw11 : wr.frozen? ⟨g, k * 12 + 11, none⟩ = false := frozen_of_row wr _ _ cur' _ hgr
        have Hg := hide hgr
        have HK3 := hide hk3
        have HS' := hide hsz'
        clear hgr hk3 hsz' hu0 hu1 hu2 hu3 hu4 hu5 hu6 hu7 hu8 hu9 hu10 hu11
        go_wp2
        go_roundw
        case rel =>
          refine ⟨k + 1, m + 12, setL cur' (k * 12) [.int .i64 ((m : Int)), .int .i64 ((m : Int) + 1), .int .i64 ((m : Int) + 1 + 1), .int .i64 ((m : Int) + 1 + 1 + 1), .int .i64 ((m : Int) + 1 + 1 + 1 + 1), .int .i64 ((m : Int) + 1 + 1 + 1 + 1 + 1), .int .i64 ((m : Int) + 1 + 1 + 1 + 1 + 1 + 1), .int .i64 ((m : Int) + 1 + 1 + 1 + 1 + 1 + 1 + 1), .int .i64 ((m : Int) + 1 + 1 + 1 + 1 + 1 + 1 + 1 + 1), .int .i64 ((m : Int) + 1 + 1 + 1 + 1 + 1 + 1 + 1 + 1 + 1), .int .i64 ((m : Int) + 1 + 1 + 1 + 1 + 1 + 1 + 1 + 1 + 1 + 1), .int .i64 ((m : Int) + 1 + 1 + 1 + 1 + 1 + 1 + 1 + 1 + 1 + 1 + 1)], by omega, by rw [Hm.out]; omega, by go_num, by go_num, setW_heap [.int .i64 ((m : Int)), .int .i64 ((m : Int) + 1), .int .i64 ((m : Int) + 1 + 1), .int .i64 ((m : Int) + 1 + 1 + 1), .int .i64 ((m : Int) + 1 + 1 + 1 + 1), .int .i64 ((m : Int) + 1 + 1 + 1 + 1 + 1), .int .i64 ((m : Int) + 1 + 1 + 1 + 1 + 1 + 1), .int .i64 ((m : Int) + 1 + 1 + 1 + 1 + 1 + 1 + 1), .int .i64 ((m : Int) + 1 + 1 + 1 + 1 + 1 + 1 + 1 + 1), .int .i64 ((m : Int) + 1 + 1 + 1 + 1 + 1 + 1 + 1 + 1 + 1), .int .i64 ((m : Int) + 1 + 1 + 1 + 1 + 1 + 1 + 1 + 1 + 1 + 1), .int .i64 ((m : Int) + 1 + 1 + 1 + 1 + 1 + 1 + 1 + 1 + 1 + 1 + 1)] wr g (k * 12) cur' _ Hg.out, by rw [setL_size]; exact HZ.out, fun j r hj hr => ?_, hup.trans (setW_upd [.int .i64 ((m : Int)), .int .i64 ((m : Int) + 1), .int .i64 ((m : Int) + 1 + 1), .int .i64 ((m : Int) + 1 + 1 + 1), .int .i64 ((m : Int) + 1 + 1 + 1 + 1), .int .i64 ((m : Int) + 1 + 1 + 1 + 1 + 1), .int .i64 ((m : Int) + 1 + 1 + 1 + 1 + 1 + 1), .int .i64 ((m : Int) + 1 + 1 + 1 + 1 + 1 + 1 + 1), .int .i64 ((m : Int) + 1 + 1 + 1 + 1 + 1 + 1 + 1 + 1), .int .i64 ((m : Int) + 1 + 1 + 1 + 1 + 1 + 1 + 1 + 1 + 1), .int .i64 ((m : Int) + 1 + 1 + 1 + 1 + 1 + 1 + 1 + 1 + 1 + 1), .int .i64 ((m : Int) + 1 + 1 + 1 + 1 + 1 + 1 + 1 + 1 + 1 + 1 + 1)] wr g (k * 12) hS)⟩
          by_cases hjk : j = k
          · subst hjk
            rw [setL_in _ _ _ _ HK3.out hr, marks12 m r hr, Hm.out]
          · rw [setL_out _ _ _ _ (show j * 12 + r < k * 12 ∨ k * 12 + 12 ≤ j * 12 + r by omega)]
            exact HM.out j r (by omega) hr
        case measure => simp [intOf]; omega
      · go_wp2
        go_ret
        obtain rfl : k = n := by omega
        refine ⟨by rw [Hm.out]; rfl, ⟨_, cap, rfl, hn, by rw [ppcells_len, mkV_len], fun _ => ⟨g, cur', rfl, hS, hgr, ?_⟩⟩, hup⟩
        have hz := HZ.out
        refine ppcells_ext _ _ (by rw [mkV_len]; simp; omega) (fun j p hp r u hu => ?_)
        have hj := (List.getElem?_eq_some_iff.1 hp).1
        rw [mkV_len] at hj
        rw [mkV_get _ _ _ hj] at hp
        obtain rfl := Option.some.inj hp
        have hr : r < 12 := (Array.getElem?_eq_some_iff.1 hu).1
        rw [mkPp_at _ _ hr] at hu
        rw [← hu, List.getElem?_take_of_lt (by omega)]
        simpa using HM.out j r hj hr

set_option maxRecDepth 100000 in
set_option maxHeartbeats 8000000 in
theorem heldSynPaperS_ok (v : Value) (n k0 : Nat) (w : World) (hr : RowR w 12 v n (ppcells (mkV k0 n))) (h1 : 1 ≤ k0) (h2 : k0 + n * 12 ≤ 1099511627776) :
    Calls Try.prog 85 #[v, .int .i64 k0] w fun e w' => e = .returned (.int .i64 (k0 + n * 12 : Nat)) ∧ Below w.heap.size w w' := by
  obtain ⟨ao, cap, rfl, hn, hl, hr⟩ := hr
  clear hl
  go_enter Try.func85, Try.ntmps85
  go_wp2
  go_loopw [1, 5] (fun kv i wr => ∃ k m : Nat, k ≤ n ∧ m = k0 + k * 12 ∧ i = .int .i64 k ∧ kv = .int .i64 (m : Nat) ∧ Below w.heap.size w wr) (fun _ i _ => n - (intOf i).toNat)
  case atStart => exact ⟨0, k0, Nat.zero_le _, rfl, rfl, rfl, Below.refl _ _⟩
  case round =>
    obtain ⟨k, m, hk, hm, rfl, rfl, hbel⟩ := hrel
    have Hm : Hid (m = k0 + k * 12) := hm
    have hm2 : (m : Int) ≤ 1099511627776 := by omega
    clear hm
    by_cases hlt : k < n
    · obtain ⟨b1, o1, rfl, hc1⟩ := hr (by omega)
      have F := pp_at hc1 (mkV_get k0 n k hlt) hbel
      rw [← Hm.out] at F
      have f0 : wr.cell? ⟨b1, o1 + k * 12, none⟩ = some (.int .i64 ((m : Int))) := by rw [show (m : Int) = ((m + 0 : Nat) : Int) by omega]; exact F 0 _ (mkPp_at m 0 (by omega))
      have f1 : wr.cell? ⟨b1, o1 + k * 12 + 1, none⟩ = some (.int .i64 ((m : Int) + 1)) := by rw [show (m : Int) + 1 = ((m + 1 : Nat) : Int) by omega]; exact F 1 _ (mkPp_at m 1 (by omega))
      have f2 : wr.cell? ⟨b1, o1 + k * 12 + 2, none⟩ = some (.int .i64 ((m : Int) + 1 + 1)) := by rw [show (m : Int) + 1 + 1 = ((m + 2 : Nat) : Int) by omega]; exact F 2 _ (mkPp_at m 2 (by omega))
      have f3 : wr.cell? ⟨b1, o1 + k * 12 + 3, none⟩ = some (.int .i64 ((m : Int) + 1 + 1 + 1)) := by rw [show (m : Int) + 1 + 1 + 1 = ((m + 3 : Nat) : Int) by omega]; exact F 3 _ (mkPp_at m 3 (by omega))
      have f4 : wr.cell? ⟨b1, o1 + k * 12 + 4, none⟩ = some (.int .i64 ((m : Int) + 1 + 1 + 1 + 1)) := by rw [show (m : Int) + 1 + 1 + 1 + 1 = ((m + 4 : Nat) : Int) by omega]; exact F 4 _ (mkPp_at m 4 (by omega))
      have f5 : wr.cell? ⟨b1, o1 + k * 12 + 5, none⟩ = some (.int .i64 ((m : Int) + 1 + 1 + 1 + 1 + 1)) := by rw [show (m : Int) + 1 + 1 + 1 + 1 + 1 = ((m + 5 : Nat) : Int) by omega]; exact F 5 _ (mkPp_at m 5 (by omega))
      have f6 : wr.cell? ⟨b1, o1 + k * 12 + 6, none⟩ = some (.int .i64 ((m : Int) + 1 + 1 + 1 + 1 + 1 + 1)) := by rw [show (m : Int) + 1 + 1 + 1 + 1 + 1 + 1 = ((m + 6 : Nat) : Int) by omega]; exact F 6 _ (mkPp_at m 6 (by omega))
      have f7 : wr.cell? ⟨b1, o1 + k * 12 + 7, none⟩ = some (.int .i64 ((m : Int) + 1 + 1 + 1 + 1 + 1 + 1 + 1)) := by rw [show (m : Int) + 1 + 1 + 1 + 1 + 1 + 1 + 1 = ((m + 7 : Nat) : Int) by omega]; exact F 7 _ (mkPp_at m 7 (by omega))
      have f8 : wr.cell? ⟨b1, o1 + k * 12 + 8, none⟩ = some (.int .i64 ((m : Int) + 1 + 1 + 1 + 1 + 1 + 1 + 1 + 1)) := by rw [show (m : Int) + 1 + 1 + 1 + 1 + 1 + 1 + 1 + 1 = ((m + 8 : Nat) : Int) by omega]; exact F 8 _ (mkPp_at m 8 (by omega))
      have f9 : wr.cell? ⟨b1, o1 + k * 12 + 9, none⟩ = some (.int .i64 ((m : Int) + 1 + 1 + 1 + 1 + 1 + 1 + 1 + 1 + 1)) := by rw [show (m : Int) + 1 + 1 + 1 + 1 + 1 + 1 + 1 + 1 + 1 = ((m + 9 : Nat) : Int) by omega]; exact F 9 _ (mkPp_at m 9 (by omega))
      have f10 : wr.cell? ⟨b1, o1 + k * 12 + 10, none⟩ = some (.int .i64 ((m : Int) + 1 + 1 + 1 + 1 + 1 + 1 + 1 + 1 + 1 + 1)) := by rw [show (m : Int) + 1 + 1 + 1 + 1 + 1 + 1 + 1 + 1 + 1 + 1 = ((m + 10 : Nat) : Int) by omega]; exact F 10 _ (mkPp_at m 10 (by omega))
      have f11 : wr.cell? ⟨b1, o1 + k * 12 + 11, none⟩ = some (.int .i64 ((m : Int) + 1 + 1 + 1 + 1 + 1 + 1 + 1 + 1 + 1 + 1 + 1)) := by rw [show (m : Int) + 1 + 1 + 1 + 1 + 1 + 1 + 1 + 1 + 1 + 1 + 1 = ((m + 11 : Nat) : Int) by omega]; exact F 11 _ (mkPp_at m 11 (by omega))
      have hi : (k : Int) < (n : Int) := by omega
      clear hr hc1 F
      go_wp2
      go_roundw
      case rel => exact ⟨k + 1, m + 12, by omega, by rw [Hm.out]; omega, by go_num, by go_num, hbel⟩
      case measure => simp [intOf]; omega
    · go_wp2
      go_ret
      obtain rfl : k = n := by omega
      exact ⟨by rw [Hm.out]; rfl, hbel⟩

end Go.Proofs.Yteddhdbglciahaa

/- What the laws of votes have in common: contracts and plain facts; no statement of the seat is proved here. -/
namespace Go.Proofs.Yteddhdbglciahaa
open Go.RowKit

theorem VtO.keep {w w' : World} {S T : Nat → Prop} {v : Value} {P : Int} {xs : List Pp} (h : VtO w S v P xs) (u : Upd T w w') (hT : ∀ k, S k → ¬ T k) : VtO w' S v P xs := by
  obtain ⟨ao, cap, e, hc, h⟩ := h
  exact ⟨ao, cap, e, hc, h.keep u hT⟩
theorem VtO.keepB {w w' : World} {S : Nat → Prop} {v : Value} {P : Int} {xs : List Pp} (h : VtO w S v P xs) (b : Below w.heap.size w w') : VtO w' S v P xs := by
  obtain ⟨ao, cap, e, hc, h⟩ := h
  exact ⟨ao, cap, e, hc, h.keepB b⟩
theorem VtO.mono {w : World} {S T : Nat → Prop} {v : Value} {P : Int} {xs : List Pp} (h : VtO w S v P xs) (hST : ∀ k, k < w.heap.size → S k → T k) : VtO w T v P xs := by
  obtain ⟨ao, cap, e, hc, h⟩ := h
  exact ⟨ao, cap, e, hc, h.mono hST⟩
/-- What a voter gives, in two boxes; all of it lies between base and top. -/
def VoB (V : World) (base top g h : Nat) (R : Int × List Pp × Wd × Bool) : Prop :=
  ∃ so sc cs lo hi, V.heap[g]? = some (.cells #[.int .i64 R.1, .slice so R.2.1.length sc] 120 (0, 0)) ∧ V.heap[h]? = some (.cells cs 47 (0, 0)) ∧
    VtO V (fun k => lo ≤ k ∧ k < hi) (.agg #[.int .i64 R.1, .slice so R.2.1.length sc]) R.1 R.2.1 ∧ WdO V (fun _ => False) (.agg cs) R.2.2.1 ∧
    base ≤ g ∧ g < top ∧ base ≤ h ∧ h < top ∧ g ≠ h ∧ base ≤ lo ∧ hi ≤ top ∧ ¬ (lo ≤ g ∧ g < hi) ∧ ¬ (lo ≤ h ∧ h < hi)

theorem VoB.keep {V V' : World} {base top g h : Nat} {R : Int × List Pp × Wd × Bool} {T : Nat → Prop} (H : VoB V base top g h R) (u : Upd T V V') (hT : ∀ k, base ≤ k → k < top → ¬ T k) : VoB V' base top g h R := by
  obtain ⟨so, sc, cs, lo, hi, h1, h2, h3, h4, h5, h6, h7, h8, h9, h10, h11, h12, h13⟩ := H
  exact ⟨so, sc, cs, lo, hi, u.keeps h1 (hT g h5 h6), u.keeps h2 (hT h h7 h8), h3.keep u (fun k hk => hT k (by omega) (by omega)), h4.keep u (fun _ h => h.elim), h5, h6, h7, h8, h9, h10, h11, h12, h13⟩
theorem VoB.keepB {V V' : World} {base top g h : Nat} {R : Int × List Pp × Wd × Bool} (H : VoB V base top g h R) (b : Below V.heap.size V V') : VoB V' base top g h R :=
  H.keep (T := fun _ => False) (Upd.ofBelow b) (fun _ _ _ h => h)
theorem VoB.mono {V : World} {base base' top top' g h : Nat} {R : Int × List Pp × Wd × Bool} (H : VoB V base top g h R) (hb : base' ≤ base) (ht : top ≤ top') : VoB V base' top' g h R := by
  obtain ⟨so, sc, cs, lo, hi, h1, h2, h3, h4, h5, h6, h7, h8, h9, h10, h11, h12, h13⟩ := H
  exact ⟨so, sc, cs, lo, hi, h1, h2, h3, h4, by omega, by omega, by omega, by omega, h9, by omega, by omega, h12, h13⟩

end Go.Proofs.Yteddhdbglciahaa

/- Rows of elements that hold rows of their own: plain facts; no statement of the seat is proved here. -/
namespace Go.Proofs.Yteddhdbglciahaa
open Go.RowKit

/-- What a slice reads whose elements are read by E: each of 'size' cells. -/
def RowE {α : Type} (w : World) (size : Nat) (E : World → Value → α → Prop) (v : Value) (xs : List α) : Prop :=
  ∃ ao cap, v = .slice ao xs.length cap ∧ xs.length ≤ 9223372036854775807 ∧
    (0 < xs.length → ∃ b off, ao = some ⟨b, off, none⟩ ∧ ∀ j x, xs[j]? = some x → ∃ cs : Array Value, cs.size = size ∧ cs.all (·.oneCell') = true ∧ (∀ i u, cs[i]? = some u → w.cell? ⟨b, off + j * size + i, none⟩ = some u) ∧ E w (.agg cs) x)

theorem RowE.keep {α : Type} {w w' : World} {size : Nat} {E : World → Value → α → Prop} (hE : ∀ v x, E w v x → E w' v x) {v : Value} {xs : List α} (h : RowE w size E v xs) (hb : Below w.heap.size w w') : RowE w' size E v xs := by
  obtain ⟨ao, cap, e, hn, h⟩ := h
  refine ⟨ao, cap, e, hn, fun h0 => ?_⟩
  obtain ⟨b, off, e', h⟩ := h h0
  refine ⟨b, off, e', fun j x hj => ?_⟩
  obtain ⟨cs, h1, h2, h3, h4⟩ := h j x hj
  exact ⟨cs, h1, h2, fun i u hi => (hb.cell (p := ⟨b, off + j * size + i, none⟩) (World.block_lt_of_cell? w _ (h3 i u hi))).trans (h3 i u hi), hE _ _ h4⟩
theorem RowE.shape {α : Type} {w : World} {size : Nat} {E : World → Value → α → Prop} {v : Value} {xs : List α} (h : RowE w size E v xs) : ∃ ao cap, v = .slice ao xs.length cap := by
  obtain ⟨ao, cap, e, -⟩ := h
  exact ⟨ao, cap, e⟩
theorem RowE.small {α : Type} {w : World} {size : Nat} {E : World → Value → α → Prop} {v : Value} {xs : List α} (h : RowE w size E v xs) : xs.length ≤ 9223372036854775807 := by
  obtain ⟨ao, cap, e, hn, -⟩ := h
  exact hn
/-- One of the elements. -/
theorem RowE.elem {α : Type} {w : World} {size : Nat} {E : World → Value → α → Prop} {ao : Option Addr} {n cap : Nat} {xs : List α} (h : RowE w size E (.slice ao n cap) xs) {j : Nat} {x : α} (hj : xs[j]? = some x) :
    n = xs.length ∧ ∃ b off, ao = some ⟨b, off, none⟩ ∧ ∃ cs : Array Value, cs.size = size ∧ cs.all (·.oneCell') = true ∧ (∀ i u, cs[i]? = some u → w.cell? ⟨b, off + j * size + i, none⟩ = some u) ∧ E w (.agg cs) x := by
  obtain ⟨ao', cap', e, hn, h⟩ := h
  injection e with e1 e2 e3
  subst e1 e2
  have hlt := (List.getElem?_eq_some_iff.1 hj).1
  obtain ⟨b, off, e', h⟩ := h (by omega)
  exact ⟨rfl, b, off, e', h j x hj⟩
theorem cellsKeep {w w' : World} {b o : Nat} {cs : Array Value} (h : ∀ i u, cs[i]? = some u → w.cell? ⟨b, o + i, none⟩ = some u) (hb : Below w.heap.size w w') : ∀ i u, cs[i]? = some u → w'.cell? ⟨b, o + i, none⟩ = some u :=
  fun i u hi => (hb.cell (p := ⟨b, o + i, none⟩) (World.block_lt_of_cell? w _ (h i u hi))).trans (h i u hi)

/-- A slice in a row of its own, whose elements hold rows of their own, no two the same: all blocks are in S. -/
def RowO {α : Type} (w : World) (e : TypeId) (size : Nat) (S : Nat → Prop) (EO : World → (Nat → Prop) → Value → α → Prop) (v : Value) (xs : List α) : Prop :=
  ∃ ao cap, v = .slice ao xs.length cap ∧ xs.length ≤ 9223372036854775807 ∧
    (0 < xs.length → ∃ g cur, ao = some ⟨g, 0, none⟩ ∧ S g ∧ w.heap[g]? = some (.cells cur e (0, 0)) ∧
      ∃ T : Nat → Nat → Prop, (∀ j b, T j b → S b ∧ b ≠ g) ∧ (∀ i j b, T i b → T j b → i = j) ∧
        ∀ j x, xs[j]? = some x → ∃ cs : Array Value, cs.size = size ∧ cs.all (·.oneCell') = true ∧ (∀ r u, cs[r]? = some u → cur[j * size + r]? = some u) ∧ EO w (T j) (.agg cs) x)
theorem RowO.reads {α : Type} {w : World} {e : TypeId} {size : Nat} {S : Nat → Prop} {EO : World → (Nat → Prop) → Value → α → Prop} {E : World → Value → α → Prop} (hE : ∀ T v x, EO w T v x → E w v x) {v : Value} {xs : List α} (h : RowO w e size S EO v xs) : RowE w size E v xs := by
  obtain ⟨ao, cap, rfl, hn, h⟩ := h
  refine ⟨ao, cap, rfl, hn, fun h0 => ?_⟩
  obtain ⟨g, cur, rfl, -, hg, T, -, -, h⟩ := h h0
  refine ⟨g, 0, rfl, fun j x hj => ?_⟩
  obtain ⟨cs, h1, h2, h3, h4⟩ := h j x hj
  exact ⟨cs, h1, h2, fun i u hi => by rw [Nat.zero_add, boxAt hg]; exact h3 i u hi, hE _ _ _ h4⟩
theorem RowO.keep {α : Type} {w w' : World} {e : TypeId} {size : Nat} {S R : Nat → Prop} {EO : World → (Nat → Prop) → Value → α → Prop} (hE : ∀ T v x, (∀ b, T b → ¬ R b) → EO w T v x → EO w' T v x) {v : Value} {xs : List α} (h : RowO w e size S EO v xs) (u : Upd R w w') (hR : ∀ b, S b → ¬ R b) : RowO w' e size S EO v xs := by
  obtain ⟨ao, cap, rfl, hn, h⟩ := h
  refine ⟨ao, cap, rfl, hn, fun h0 => ?_⟩
  obtain ⟨g, cur, rfl, hS, hg, T, hT, hT2, h⟩ := h h0
  refine ⟨g, cur, rfl, hS, u.keeps hg (hR g hS), T, hT, hT2, fun j x hj => ?_⟩
  obtain ⟨cs, h1, h2, h3, h4⟩ := h j x hj
  exact ⟨cs, h1, h2, h3, hE _ _ _ (fun b hb => hR b (hT j b hb).1) h4⟩
theorem RowO.mono {α : Type} {w : World} {e : TypeId} {size : Nat} {S S' : Nat → Prop} {EO : World → (Nat → Prop) → Value → α → Prop} {v : Value} {xs : List α} (h : RowO w e size S EO v xs) (hS : ∀ b, S b → S' b) : RowO w e size S' EO v xs := by
  obtain ⟨ao, cap, rfl, hn, h⟩ := h
  refine ⟨ao, cap, rfl, hn, fun h0 => ?_⟩
  obtain ⟨g, cur, rfl, hg0, hg, T, hT, hT2, h⟩ := h h0
  exact ⟨g, cur, rfl, hS g hg0, hg, T, fun j b hb => ⟨hS b (hT j b hb).1, (hT j b hb).2⟩, hT2, h⟩
theorem RowO.shape {α : Type} {w : World} {e : TypeId} {size : Nat} {S : Nat → Prop} {EO : World → (Nat → Prop) → Value → α → Prop} {v : Value} {xs : List α} (h : RowO w e size S EO v xs) : ∃ ao cap, v = .slice ao xs.length cap := by
  obtain ⟨ao, cap, e, -⟩ := h
  exact ⟨ao, cap, e⟩
end Go.Proofs.Yteddhdbglciahaa

/- What the laws' helpers do with rows of SynVoter: contracts; no statement of the seat is proved here. (Written by wip/tools/mkrow.py.) -/
namespace Go.Proofs.Yteddhdbglciahaa
open Go.RowKit

def VxR (w : World) (v : Value) (x : Int × List Pp) : Prop := VtR w v x.1 x.2
def VxO (w : World) (S : Nat → Prop) (v : Value) (x : Int × List Pp) : Prop := VtO w S v x.1 x.2
theorem VxR.keep {w w' : World} {v : Value} {x : Int × List Pp} (h : VxR w v x) (hb : Below w.heap.size w w') : VxR w' v x := VtR.keep h hb
theorem VxO.reads {w : World} {S : Nat → Prop} {v : Value} {x : Int × List Pp} (h : VxO w S v x) : VxR w v x := VtO.reads h
theorem VxO.keep {w w' : World} {S T : Nat → Prop} {v : Value} {x : Int × List Pp} (h : VxO w S v x) (u : Upd T w w') (hT : ∀ k, S k → ¬ T k) : VxO w' S v x := VtO.keep h u hT
theorem VxO.keepB {w w' : World} {S : Nat → Prop} {v : Value} {x : Int × List Pp} (h : VxO w S v x) (b : Below w.heap.size w w') : VxO w' S v x := VtO.keepB h b
theorem VxO.mono {w : World} {S T : Nat → Prop} {v : Value} {x : Int × List Pp} (h : VxO w S v x) (hST : ∀ k, k < w.heap.size → S k → T k) : VxO w T v x := VtO.mono h hST
theorem VxR.agg {w : World} {v : Value} {x : Int × List Pp} (h : VxR w v x) : ∃ cs : Array Value, v = .agg cs ∧ cs.size = 2 ∧ cs.all (·.oneCell') = true := by
  obtain ⟨ao, cap, rfl, -⟩ := h
  exact ⟨_, rfl, rfl, all_of_list rfl⟩
theorem eqVx (va vb : Value) (x : Int × List Pp) (w : World) (ha : VxR w va x) (hb : VxR w vb x) :
    Calls Try.prog 125 #[va, vb] w fun e w' => e = .returned (.bool true) ∧ Below w.heap.size w w' := eqSynVoter_true va vb x.1 x.2 w ha hb

set_option maxRecDepth 100000 in
set_option maxHeartbeats 4000000 in
theorem eqSynVoterS_row (va vb : Value) (xs : List (Int × List Pp)) (w : World) (ha : RowE w 2 VxR va xs) (hb : RowE w 2 VxR vb xs) :
    Calls Try.prog 77 #[va, vb] w fun e w' => e = .returned (.bool true) ∧ Below w.heap.size w w' := by
  obtain ⟨ao, ca, rfl⟩ := ha.shape
  obtain ⟨bo, cb, rfl⟩ := hb.shape
  have hn := ha.small
  have HA := hide ha
  have HB := hide hb
  clear ha hb
  obtain ⟨n, hnn⟩ : ∃ n, xs.length = n := ⟨_, rfl⟩
  have HN := hide hnn
  rw [hnn] at hn HA HB ⊢
  clear hnn
  go_enter Try.func77, Try.ntmps77
  go_wp2
  go_loopw [5] (fun i wr => ∃ k : Nat, k ≤ n ∧ i = .int .i64 k ∧ Below w.heap.size w wr) (fun i _ => n - (intOf i).toNat)
  case atStart => exact ⟨0, Nat.zero_le _, rfl, Below.refl _ _⟩
  case round =>
    obtain ⟨k, hk, rfl, hbel⟩ := hrel
    by_cases hlt : k < n
    · obtain ⟨x, hx⟩ := getAt xs k (by rw [HN.out]; exact hlt)
      have d1 := bDrewB hbel
      obtain ⟨-, b1, o1, rfl, cs1, hcs1, -, hc1, he1⟩ := (HA.out.keep (fun v x h => VxR.keep h d1) d1).elem hx
      obtain ⟨-, b2, o2, rfl, cs2, hcs2, -, hc2, he2⟩ := (HB.out.keep (fun v x h => VxR.keep h d1) d1).elem hx
      have GI1 := hide (infoAt infoSv2 hcs1)
      have GI2 := hide (infoAt infoSv2 hcs2)
      have K1 := hide hc1
      have K2 := hide hc2
      have hi : (k : Int) < (n : Int) := by omega
      clear hx hc1 hc2 hcs1 hcs2
      go_wp2
      refine wp_region_noPanic ?_
      refine wp_region_held_drew (S := (fun w' => (∀ j u, cs1[j]? = some u → w'.cell? ⟨b1, o1 + k * 2 + j, none⟩ = some u) ∧ (∀ j u, cs2[j]? = some u → w'.cell? ⟨b2, o2 + k * 2 + j, none⟩ = some u))) (by kernel_rfl) ?_ (fun hHeld => ?_)
      · exact ⟨K1.out, K2.out⟩
      refine wpAnyH_take (i := 0) (v := ?v1) rfl (by kernel_rfl) (by kernel_rfl) (by kernel_rfl) (fun _ _ _ h => h) (Or.inl ⟨by rfl, ?hy1⟩) (by assumption) ?rest1
      case hy1 => ((intro w hSw; (try dsimp only at hSw); (try simp only [List.getElem_toArray, List.getElem_cons_zero]); go_simp; first | done | (with_reducible rfl)))
      simp only [Act.put, List.getElem_toArray, List.getElem_cons_zero, List.setIfInBounds_toArray, List.set_cons_zero, List.set_cons_succ]
      refine wpAnyH_take (i := 1) (v := ?v2) rfl (by kernel_rfl) (by kernel_rfl) (by kernel_rfl) (fun _ _ _ h => h) (Or.inl ⟨by rfl, ?hy2⟩) (by assumption) ?rest2
      case hy2 => ((intro w hSw; (try dsimp only at hSw); (try simp only [List.getElem_toArray, List.getElem_cons_zero, List.getElem_cons_succ]); go_simp; first | done | (with_reducible rfl)))
      simp only [Act.put, List.getElem_toArray, List.getElem_cons_zero, List.getElem_cons_succ, List.setIfInBounds_toArray, List.set_cons_zero, List.set_cons_succ]
      refine wpAnyH_take (i := 2) (v := ?v3) rfl (by kernel_rfl) (by kernel_rfl) (by kernel_rfl) (fun _ _ _ h => h) (Or.inl ⟨by rfl, ?hy3⟩) (by assumption) ?rest3
      case hy3 => ((intro w hSw; (try dsimp only at hSw); (try simp only [List.getElem_toArray, List.getElem_cons_zero, List.getElem_cons_succ]); go_simp; first | done | (with_reducible rfl)))
      simp only [Act.put, List.getElem_toArray, List.getElem_cons_zero, List.getElem_cons_succ, List.setIfInBounds_toArray, List.set_cons_zero, List.set_cons_succ]
      refine wpAnyH_take (i := 3) (v := .agg cs1) rfl (by kernel_rfl) (by kernel_rfl) (by kernel_rfl) (fun _ _ _ h => h) (yields_at rfl 120 (.tmp 19) rfl (b1) (o1 + k * 2) rfl cs1 _ (fun _ h => h.1) Try.underlying120 rfl GI1.out) (by assumption) ?_
      simp only [Act.put, List.getElem_toArray, List.getElem_cons_zero, List.getElem_cons_succ, List.setIfInBounds_toArray, List.set_cons_zero, List.set_cons_succ]
      refine wpAnyH_take (i := 4) (v := ?v4) rfl (by kernel_rfl) (by kernel_rfl) (by kernel_rfl) (fun _ _ _ h => h) (Or.inl ⟨by rfl, ?hy4⟩) (by assumption) ?rest4
      case hy4 => ((intro w hSw; (try dsimp only at hSw); (try simp only [List.getElem_toArray, List.getElem_cons_zero, List.getElem_cons_succ]); go_simp; first | done | (with_reducible rfl)))
      simp only [Act.put, List.getElem_toArray, List.getElem_cons_zero, List.getElem_cons_succ, List.setIfInBounds_toArray, List.set_cons_zero, List.set_cons_succ]
      refine wpAnyH_take (i := 5) (v := ?v5) rfl (by kernel_rfl) (by kernel_rfl) (by kernel_rfl) (fun _ _ _ h => h) (Or.inl ⟨by rfl, ?hy5⟩) (by assumption) ?rest5
      case hy5 => ((intro w hSw; (try dsimp only at hSw); (try simp only [List.getElem_toArray, List.getElem_cons_zero, List.getElem_cons_succ]); go_simp; first | done | (with_reducible rfl)))
      simp only [Act.put, List.getElem_toArray, List.getElem_cons_zero, List.getElem_cons_succ, List.setIfInBounds_toArray, List.set_cons_zero, List.set_cons_succ]
      refine wpAnyH_take (i := 6) (v := ?v6) rfl (by kernel_rfl) (by kernel_rfl) (by kernel_rfl) (fun _ _ _ h => h) (Or.inl ⟨by rfl, ?hy6⟩) (by assumption) ?rest6
      case hy6 => ((intro w hSw; (try dsimp only at hSw); (try simp only [List.getElem_toArray, List.getElem_cons_zero, List.getElem_cons_succ]); go_simp; first | done | (with_reducible rfl)))
      simp only [Act.put, List.getElem_toArray, List.getElem_cons_zero, List.getElem_cons_succ, List.setIfInBounds_toArray, List.set_cons_zero, List.set_cons_succ]
      refine wpAnyH_take (i := 7) (v := .agg cs2) rfl (by kernel_rfl) (by kernel_rfl) (by kernel_rfl) (fun _ _ _ h => h) (yields_at rfl 120 (.tmp 23) rfl (b2) (o2 + k * 2) rfl cs2 _ (fun _ h => h.2) Try.underlying120 rfl GI2.out) (by assumption) ?_
      simp only [Act.put, List.getElem_toArray, List.getElem_cons_zero, List.getElem_cons_succ, List.setIfInBounds_toArray, List.set_cons_zero, List.set_cons_succ]
      refine wpAnyH_ready (rs := [8]) (by kernel_rfl) (by simp) ?_
      refine AllReadyH.cons rfl (fun K hK => ?_) AllReadyH.nil
      go_simp
      (go_at_call 125; refine (eqVx _ _ x _ he1 he2).mono ?_; rintro e w1 ⟨rfl, b1'⟩; have c1 := bAll d1 b1')
      refine hK.out _ _ ?_ (fun hHeld => ?_)
      · exact ⟨cellsKeep K1.out b1', cellsKeep K2.out b1'⟩
      clear hK K
      refine wpAnyH_take (i := 9) (v := ?v7) rfl (by kernel_rfl) (by kernel_rfl) (by kernel_rfl) (fun _ _ _ h => h) (Or.inl ⟨by rfl, ?hy7⟩) (by assumption) ?rest7
      case hy7 => ((intro w hSw; (try dsimp only at hSw); (try simp only [List.getElem_toArray, List.getElem_cons_zero, List.getElem_cons_succ]); go_simp; first | done | (with_reducible rfl)))
      simp only [Act.put, List.getElem_toArray, List.getElem_cons_zero, List.getElem_cons_succ, List.setIfInBounds_toArray, List.set_cons_zero, List.set_cons_succ]
      refine wpAnyH_done (by kernel_rfl) ?_ _
      refine NoPanic.normal ?_
      clear hHeld
      go_wp2
      go_roundw
      case rel => exact ⟨k + 1, by omega, by go_num, c1⟩
      case measure => simp [intOf]; omega
    · go_wp2
      go_ret
      exact ⟨rfl, hbel⟩
end Go.Proofs.Yteddhdbglciahaa

/- What the laws' own helpers do with numbers: contracts; no statement of the seat is proved here. -/
namespace Go.Proofs.Yteddhdbglciahaa
open Go.RowKit

theorem infoInt : (Try.prog.info? 3).map (fun i => (i.zero, i.size, i.bytes)) = some (some (.int .i64 0), 1, 8) := by kernel_rfl

set_option maxHeartbeats 400000 in
theorem eqIntS_true (va vb : Value) (n : Nat) (ss : List Int) (w : World) (ha : RowR w 1 va n (ss.map (Value.int .i64))) (hb : RowR w 1 vb n (ss.map (Value.int .i64))) :
    Calls Try.prog 56 #[va, vb] w fun e w' => e = .returned (.bool true) ∧ Below w.heap.size w w' := by
  obtain ⟨ao, ca, rfl, hn, hl, ha⟩ := ha
  obtain ⟨bo, cb, rfl, _, _, hb⟩ := hb
  go_enter Try.func56, Try.ntmps56
  go_wp2
  go_loopw [5] (fun i wr => ∃ k : Nat, k ≤ n ∧ i = .int .i64 k ∧ Below w.heap.size w wr) (fun i _ => n - (intOf i).toNat)
  case atStart => exact ⟨0, Nat.zero_le _, rfl, Below.refl _ _⟩
  case round =>
    obtain ⟨k, hk, rfl, hbel⟩ := hrel
    by_cases hlt : k < n
    · obtain ⟨b1, o1, rfl, hc1⟩ := ha (by omega)
      obtain ⟨b2, o2, rfl, hc2⟩ := hb (by omega)
      obtain ⟨s, hs⟩ : ∃ s, (ss.map (Value.int .i64))[k]? = some (.int .i64 s) := by
        simp only [List.length_map, Nat.mul_one] at hl
        exact ⟨ss[k]'(by omega), by simp [show k < ss.length by omega]⟩
      have g1 := hc1 k _ hs
      have g2 := hc2 k _ hs
      have f1 : wr.cell? ⟨b1, o1 + k, none⟩ = some (.int .i64 s) := (hbel.cell (p := ⟨b1, o1 + k, none⟩) (World.block_lt_of_cell? w _ g1)).trans g1
      have f2 : wr.cell? ⟨b2, o2 + k, none⟩ = some (.int .i64 s) := (hbel.cell (p := ⟨b2, o2 + k, none⟩) (World.block_lt_of_cell? w _ g2)).trans g2
      have hi : (k : Int) < (n : Int) := by omega
      clear ha hb hc1 hc2 hs g1 g2 hl
      go_wp2
      go_quiet (fail)
      go_wp2
      go_roundw
      case rel => exact ⟨k + 1, by omega, by go_num, below_drewN hbel _⟩
      case measure => simp [intOf]; omega
    · go_wp2
      go_ret
      exact ⟨rfl, hbel⟩

end Go.Proofs.Yteddhdbglciahaa

/- Seekers: what they read, and what the laws' own helpers do with them: contracts; no statement of the seat is proved here. -/
namespace Go.Proofs.Yteddhdbglciahaa
open Go.RowKit

/-- A seeker: slot, ballot, phase, its own command (that of a word), the best paper, who said yes. -/
structure Sk where
  s : Int
  b : Int
  ph : Int
  m : Wd
  p : Pp
  ys : List Int
def skarr (k : Sk) (y : Value) : Array Value := (#[.int .i64 k.s, .int .i64 k.b, .int .i64 k.ph, .int .i64 k.m.c0, .int .i64 k.m.c1, .int .i64 k.m.c2, .int .i64 k.m.c3, .int .i64 k.m.c4, .int .i64 k.m.c5, .int .i64 k.m.c6, .int .i64 k.m.c7, .int .i64 k.m.c8, .int .i64 k.m.c9, .int .i64 k.p.1, .int .i64 k.p.2.1, .int .i64 k.p.2.2.c0, .int .i64 k.p.2.2.c1, .int .i64 k.p.2.2.c2, .int .i64 k.p.2.2.c3, .int .i64 k.p.2.2.c4, .int .i64 k.p.2.2.c5, .int .i64 k.p.2.2.c6, .int .i64 k.p.2.2.c7, .int .i64 k.p.2.2.c8, .int .i64 k.p.2.2.c9, y] : Array Value)
def ints (xs : List Int) : List Value := xs.map (Value.int .i64)
/-- What a seeker reads. -/
def SkR (w : World) (v : Value) (k : Sk) : Prop := ∃ yo yc, v = .agg (skarr k (.slice yo k.ys.length yc)) ∧ RowR w 1 (.slice yo k.ys.length yc) k.ys.length (ints k.ys)
def SkO (w : World) (S : Nat → Prop) (v : Value) (k : Sk) : Prop := ∃ yo yc, v = .agg (skarr k (.slice yo k.ys.length yc)) ∧ Row w 3 1 S (.slice yo k.ys.length yc) k.ys.length (ints k.ys)
theorem SkR.keep {w w' : World} {v : Value} {k : Sk} (h : SkR w v k) (hb : Below w.heap.size w w') : SkR w' v k := by
  obtain ⟨yo, yc, e, h⟩ := h
  exact ⟨yo, yc, e, h.keep hb⟩
theorem SkO.reads {w : World} {S : Nat → Prop} {v : Value} {k : Sk} (h : SkO w S v k) : SkR w v k := by
  obtain ⟨yo, yc, e, h⟩ := h
  exact ⟨yo, yc, e, h.reads⟩
theorem SkO.keep {w w' : World} {S T : Nat → Prop} {v : Value} {k : Sk} (h : SkO w S v k) (u : Upd T w w') (hT : ∀ j, S j → ¬ T j) : SkO w' S v k := by
  obtain ⟨yo, yc, e, h⟩ := h
  exact ⟨yo, yc, e, h.keep u hT⟩
theorem SkO.keepB {w w' : World} {S : Nat → Prop} {v : Value} {k : Sk} (h : SkO w S v k) (b : Below w.heap.size w w') : SkO w' S v k := by
  obtain ⟨yo, yc, e, h⟩ := h
  exact ⟨yo, yc, e, h.keepB b⟩
theorem SkO.mono {w : World} {S T : Nat → Prop} {v : Value} {k : Sk} (h : SkO w S v k) (hST : ∀ j, j < w.heap.size → S j → T j) : SkO w T v k := by
  obtain ⟨yo, yc, e, h⟩ := h
  exact ⟨yo, yc, e, h.mono hST⟩
theorem skarr_one (k : Sk) (yo : Option Addr) (n yc : Nat) : (skarr k (.slice yo n yc)).all (·.oneCell') = true := all_of_list rfl
theorem infoSk : (Try.prog.info? 39).map (·.size) = some 26 := by kernel_rfl
/-- The cells of a seeker in a block. -/
theorem sk_cells {V : World} {g : Nat} {k : Sk} {y : Value} {t : TypeId} (h : V.heap[g]? = some (.cells (skarr k y) t (0, 0))) :
    V.cell? ⟨g, 0, none⟩ = some (.int .i64 k.s) ∧ V.cell? ⟨g, 1, none⟩ = some (.int .i64 k.b) ∧ V.cell? ⟨g, 2, none⟩ = some (.int .i64 k.ph) ∧ (∀ j z, (#[.int .i64 k.m.c0, .int .i64 k.m.c1, .int .i64 k.m.c2, .int .i64 k.m.c3, .int .i64 k.m.c4, .int .i64 k.m.c5, .int .i64 k.m.c6, .int .i64 k.m.c7, .int .i64 k.m.c8, .int .i64 k.m.c9] : Array Value)[j]? = some z → V.cell? ⟨g, 3 + j, none⟩ = some z) ∧
    (∀ j z, (pparr k.p)[j]? = some z → V.cell? ⟨g, 13 + j, none⟩ = some z) ∧ V.cell? ⟨g, 13, none⟩ = some (.int .i64 k.p.1) ∧ V.cell? ⟨g, 14, none⟩ = some (.int .i64 k.p.2.1) ∧ V.cell? ⟨g, 25, none⟩ = some y := by
  refine ⟨boxAt h 0, boxAt h 1, boxAt h 2, fun j z hj => ?_, fun j z hj => ?_, boxAt h 13, boxAt h 14, boxAt h 25⟩
  · have hj' : j < 10 := (Array.getElem?_eq_some_iff.1 hj).1
    refine (boxAt h (3 + j)).trans ?_
    rcases (by omega : j = 0 ∨ j = 1 ∨ j = 2 ∨ j = 3 ∨ j = 4 ∨ j = 5 ∨ j = 6 ∨ j = 7 ∨ j = 8 ∨ j = 9) with rfl | rfl | rfl | rfl | rfl | rfl | rfl | rfl | rfl | rfl <;> exact hj
  · have hj' : j < 12 := (Array.getElem?_eq_some_iff.1 hj).1
    refine (boxAt h (13 + j)).trans ?_
    rcases (by omega : j = 0 ∨ j = 1 ∨ j = 2 ∨ j = 3 ∨ j = 4 ∨ j = 5 ∨ j = 6 ∨ j = 7 ∨ j = 8 ∨ j = 9 ∨ j = 10 ∨ j = 11) with rfl | rfl | rfl | rfl | rfl | rfl | rfl | rfl | rfl | rfl | rfl | rfl <;> exact hj

set_option maxRecDepth 100000 in
set_option maxHeartbeats 4000000 in
theorem eqSynSeeker_true (va vb : Value) (k : Sk) (w : World) (ha : SkR w va k) (hb : SkR w vb k) :
    Calls Try.prog 13 #[va, vb] w fun e w' => e = .returned (.bool true) ∧ Below w.heap.size w w' := by
  obtain ⟨ao, ca, rfl, ha⟩ := ha
  obtain ⟨bo, cb, rfl, hb⟩ := hb
  have al := bal (bal (Below.refl w.heap.size w) (.cells (skarr k (.slice ao k.ys.length ca)) 39)) (.cells (skarr k (.slice bo k.ys.length cb)) 39)
  have A0 := hide (al2_0 w (.cells (skarr k (.slice ao k.ys.length ca)) 39) (.cells (skarr k (.slice bo k.ys.length cb)) 39))
  have B0 := hide (al2_1 w (.cells (skarr k (.slice ao k.ys.length ca)) 39) (.cells (skarr k (.slice bo k.ys.length cb)) 39))
  have HA := hide (ha.keep al)
  have HB := hide (hb.keep al)
  clear ha hb
  go_enter Try.func13, Try.ntmps13
  go_upto_region 1 with fail
  generalize World.alloc _ _ = W at al A0 B0 HA HB ⊢
  have r0 := Below.refl W.heap.size W
  obtain ⟨x0, x1, x2, xm, -, -, -, -⟩ := sk_cells A0.out
  obtain ⟨y0, y1, y2, ym, -, -, -, -⟩ := sk_cells B0.out
  go_wp2_with (first
    | (refine wpList_load_at rfl 35 (.tmp 20) rfl w.heap.size 3 rfl #[.int .i64 k.m.c0, .int .i64 k.m.c1, .int .i64 k.m.c2, .int .i64 k.m.c3, .int .i64 k.m.c4, .int .i64 k.m.c5, .int .i64 k.m.c6, .int .i64 k.m.c7, .int .i64 k.m.c8, .int .i64 k.m.c9] _ xm Try.underlying35 rfl infoCm10 ?_)
    | (refine wpList_load_at rfl 35 (.tmp 22) rfl (w.heap.size + 1) 3 rfl #[.int .i64 k.m.c0, .int .i64 k.m.c1, .int .i64 k.m.c2, .int .i64 k.m.c3, .int .i64 k.m.c4, .int .i64 k.m.c5, .int .i64 k.m.c6, .int .i64 k.m.c7, .int .i64 k.m.c8, .int .i64 k.m.c9] _ ym Try.underlying35 rfl infoCm10 ?_))
  refine (eqCmd_true k.m _).mono ?_
  rintro e w1 ⟨rfl, b1⟩
  have xp := (sk_cells (bKeeps b1 A0.out)).2.2.2.2.1
  have yp := (sk_cells (bKeeps b1 B0.out)).2.2.2.2.1
  clear x0 x1 x2 y0 y1 y2 xm ym
  go_wp2_with (first
    | (refine wpList_load_at rfl 37 (.tmp 26) rfl w.heap.size 13 rfl (pparr k.p) _ xp Try.underlying37 rfl infoPpS ?_)
    | (refine wpList_load_at rfl 37 (.tmp 28) rfl (w.heap.size + 1) 13 rfl (pparr k.p) _ yp Try.underlying37 rfl infoPpS ?_))
  refine (eqSynPaper_true k.p.1 k.p.2.1 k.p.2.2 _).mono ?_
  rintro e w2 ⟨rfl, b2⟩
  have c2 := bAll b1 b2
  have x3 := (sk_cells (bKeeps c2 A0.out)).2.2.2.2.2.2.2
  have y3 := (sk_cells (bKeeps c2 B0.out)).2.2.2.2.2.2.2
  clear xp yp
  go_wp2_with fail
  refine (eqIntS_true _ _ _ k.ys _ (HA.out.keep c2) (HB.out.keep c2)).mono ?_
  rintro e w3 ⟨rfl, b3⟩
  go_wp2
  go_ret
  exact ⟨rfl, bAll al (bAll c2 b3)⟩

end Go.Proofs.Yteddhdbglciahaa

/- A law's seeker becomes a program's: a contract; no statement of the seat is proved here. -/
namespace Go.Proofs.Yteddhdbglciahaa
open Go.RowKit

def zeroK : Sk := ⟨0, 0, 0, zeroW, (0, 0, zeroW), []⟩

end Go.Proofs.Yteddhdbglciahaa

/- What the laws' helpers do with rows of SynSeeker: contracts; no statement of the seat is proved here. (Written by wip/tools/mkrow.py.) -/
namespace Go.Proofs.Yteddhdbglciahaa
open Go.RowKit

theorem SkR.agg {w : World} {v : Value} {k : Sk} (h : SkR w v k) : ∃ cs : Array Value, v = .agg cs ∧ cs.size = 26 ∧ cs.all (·.oneCell') = true := by
  obtain ⟨yo, yc, rfl, -⟩ := h
  exact ⟨_, rfl, rfl, skarr_one _ _ _ _⟩
theorem eqSkx (va vb : Value) (k : Sk) (w : World) (ha : SkR w va k) (hb : SkR w vb k) :
    Calls Try.prog 13 #[va, vb] w fun e w' => e = .returned (.bool true) ∧ Below w.heap.size w w' := eqSynSeeker_true va vb k w ha hb

set_option maxRecDepth 100000 in
set_option maxHeartbeats 4000000 in
theorem eqSynSeekerS_row (va vb : Value) (xs : List (Sk)) (w : World) (ha : RowE w 26 SkR va xs) (hb : RowE w 26 SkR vb xs) :
    Calls Try.prog 78 #[va, vb] w fun e w' => e = .returned (.bool true) ∧ Below w.heap.size w w' := by
  obtain ⟨ao, ca, rfl⟩ := ha.shape
  obtain ⟨bo, cb, rfl⟩ := hb.shape
  have hn := ha.small
  have HA := hide ha
  have HB := hide hb
  clear ha hb
  obtain ⟨n, hnn⟩ : ∃ n, xs.length = n := ⟨_, rfl⟩
  have HN := hide hnn
  rw [hnn] at hn HA HB ⊢
  clear hnn
  go_enter Try.func78, Try.ntmps78
  go_wp2
  go_loopw [5] (fun i wr => ∃ k : Nat, k ≤ n ∧ i = .int .i64 k ∧ Below w.heap.size w wr) (fun i _ => n - (intOf i).toNat)
  case atStart => exact ⟨0, Nat.zero_le _, rfl, Below.refl _ _⟩
  case round =>
    obtain ⟨k, hk, rfl, hbel⟩ := hrel
    by_cases hlt : k < n
    · obtain ⟨x, hx⟩ := getAt xs k (by rw [HN.out]; exact hlt)
      have d1 := bDrewB hbel
      obtain ⟨-, b1, o1, rfl, cs1, hcs1, -, hc1, he1⟩ := (HA.out.keep (fun v x h => SkR.keep h d1) d1).elem hx
      obtain ⟨-, b2, o2, rfl, cs2, hcs2, -, hc2, he2⟩ := (HB.out.keep (fun v x h => SkR.keep h d1) d1).elem hx
      have GI1 := hide (infoAt infoSk hcs1)
      have GI2 := hide (infoAt infoSk hcs2)
      have K1 := hide hc1
      have K2 := hide hc2
      have hi : (k : Int) < (n : Int) := by omega
      clear hx hc1 hc2 hcs1 hcs2
      go_wp2
      refine wp_region_noPanic ?_
      refine wp_region_held_drew (S := (fun w' => (∀ j u, cs1[j]? = some u → w'.cell? ⟨b1, o1 + k * 26 + j, none⟩ = some u) ∧ (∀ j u, cs2[j]? = some u → w'.cell? ⟨b2, o2 + k * 26 + j, none⟩ = some u))) (by kernel_rfl) ?_ (fun hHeld => ?_)
      · exact ⟨K1.out, K2.out⟩
      refine wpAnyH_take (i := 0) (v := ?v1) rfl (by kernel_rfl) (by kernel_rfl) (by kernel_rfl) (fun _ _ _ h => h) (Or.inl ⟨by rfl, ?hy1⟩) (by assumption) ?rest1
      case hy1 => ((intro w hSw; (try dsimp only at hSw); (try simp only [List.getElem_toArray, List.getElem_cons_zero]); go_simp; first | done | (with_reducible rfl)))
      simp only [Act.put, List.getElem_toArray, List.getElem_cons_zero, List.setIfInBounds_toArray, List.set_cons_zero, List.set_cons_succ]
      refine wpAnyH_take (i := 1) (v := ?v2) rfl (by kernel_rfl) (by kernel_rfl) (by kernel_rfl) (fun _ _ _ h => h) (Or.inl ⟨by rfl, ?hy2⟩) (by assumption) ?rest2
      case hy2 => ((intro w hSw; (try dsimp only at hSw); (try simp only [List.getElem_toArray, List.getElem_cons_zero, List.getElem_cons_succ]); go_simp; first | done | (with_reducible rfl)))
      simp only [Act.put, List.getElem_toArray, List.getElem_cons_zero, List.getElem_cons_succ, List.setIfInBounds_toArray, List.set_cons_zero, List.set_cons_succ]
      refine wpAnyH_take (i := 2) (v := ?v3) rfl (by kernel_rfl) (by kernel_rfl) (by kernel_rfl) (fun _ _ _ h => h) (Or.inl ⟨by rfl, ?hy3⟩) (by assumption) ?rest3
      case hy3 => ((intro w hSw; (try dsimp only at hSw); (try simp only [List.getElem_toArray, List.getElem_cons_zero, List.getElem_cons_succ]); go_simp; first | done | (with_reducible rfl)))
      simp only [Act.put, List.getElem_toArray, List.getElem_cons_zero, List.getElem_cons_succ, List.setIfInBounds_toArray, List.set_cons_zero, List.set_cons_succ]
      refine wpAnyH_take (i := 3) (v := .agg cs1) rfl (by kernel_rfl) (by kernel_rfl) (by kernel_rfl) (fun _ _ _ h => h) (yields_at rfl 39 (.tmp 19) rfl (b1) (o1 + k * 26) rfl cs1 _ (fun _ h => h.1) Try.underlying39 rfl GI1.out) (by assumption) ?_
      simp only [Act.put, List.getElem_toArray, List.getElem_cons_zero, List.getElem_cons_succ, List.setIfInBounds_toArray, List.set_cons_zero, List.set_cons_succ]
      refine wpAnyH_take (i := 4) (v := ?v4) rfl (by kernel_rfl) (by kernel_rfl) (by kernel_rfl) (fun _ _ _ h => h) (Or.inl ⟨by rfl, ?hy4⟩) (by assumption) ?rest4
      case hy4 => ((intro w hSw; (try dsimp only at hSw); (try simp only [List.getElem_toArray, List.getElem_cons_zero, List.getElem_cons_succ]); go_simp; first | done | (with_reducible rfl)))
      simp only [Act.put, List.getElem_toArray, List.getElem_cons_zero, List.getElem_cons_succ, List.setIfInBounds_toArray, List.set_cons_zero, List.set_cons_succ]
      refine wpAnyH_take (i := 5) (v := ?v5) rfl (by kernel_rfl) (by kernel_rfl) (by kernel_rfl) (fun _ _ _ h => h) (Or.inl ⟨by rfl, ?hy5⟩) (by assumption) ?rest5
      case hy5 => ((intro w hSw; (try dsimp only at hSw); (try simp only [List.getElem_toArray, List.getElem_cons_zero, List.getElem_cons_succ]); go_simp; first | done | (with_reducible rfl)))
      simp only [Act.put, List.getElem_toArray, List.getElem_cons_zero, List.getElem_cons_succ, List.setIfInBounds_toArray, List.set_cons_zero, List.set_cons_succ]
      refine wpAnyH_take (i := 6) (v := ?v6) rfl (by kernel_rfl) (by kernel_rfl) (by kernel_rfl) (fun _ _ _ h => h) (Or.inl ⟨by rfl, ?hy6⟩) (by assumption) ?rest6
      case hy6 => ((intro w hSw; (try dsimp only at hSw); (try simp only [List.getElem_toArray, List.getElem_cons_zero, List.getElem_cons_succ]); go_simp; first | done | (with_reducible rfl)))
      simp only [Act.put, List.getElem_toArray, List.getElem_cons_zero, List.getElem_cons_succ, List.setIfInBounds_toArray, List.set_cons_zero, List.set_cons_succ]
      refine wpAnyH_take (i := 7) (v := .agg cs2) rfl (by kernel_rfl) (by kernel_rfl) (by kernel_rfl) (fun _ _ _ h => h) (yields_at rfl 39 (.tmp 23) rfl (b2) (o2 + k * 26) rfl cs2 _ (fun _ h => h.2) Try.underlying39 rfl GI2.out) (by assumption) ?_
      simp only [Act.put, List.getElem_toArray, List.getElem_cons_zero, List.getElem_cons_succ, List.setIfInBounds_toArray, List.set_cons_zero, List.set_cons_succ]
      refine wpAnyH_ready (rs := [8]) (by kernel_rfl) (by simp) ?_
      refine AllReadyH.cons rfl (fun K hK => ?_) AllReadyH.nil
      go_simp
      (go_at_call 13; refine (eqSkx _ _ x _ he1 he2).mono ?_; rintro e w1 ⟨rfl, b1'⟩; have c1 := bAll d1 b1')
      refine hK.out _ _ ?_ (fun hHeld => ?_)
      · exact ⟨cellsKeep K1.out b1', cellsKeep K2.out b1'⟩
      clear hK K
      refine wpAnyH_take (i := 9) (v := ?v7) rfl (by kernel_rfl) (by kernel_rfl) (by kernel_rfl) (fun _ _ _ h => h) (Or.inl ⟨by rfl, ?hy7⟩) (by assumption) ?rest7
      case hy7 => ((intro w hSw; (try dsimp only at hSw); (try simp only [List.getElem_toArray, List.getElem_cons_zero, List.getElem_cons_succ]); go_simp; first | done | (with_reducible rfl)))
      simp only [Act.put, List.getElem_toArray, List.getElem_cons_zero, List.getElem_cons_succ, List.setIfInBounds_toArray, List.set_cons_zero, List.set_cons_succ]
      refine wpAnyH_done (by kernel_rfl) ?_ _
      refine NoPanic.normal ?_
      clear hHeld
      go_wp2
      go_roundw
      case rel => exact ⟨k + 1, by omega, by go_num, c1⟩
      case measure => simp [intOf]; omega
    · go_wp2
      go_ret
      exact ⟨rfl, hbel⟩
end Go.Proofs.Yteddhdbglciahaa

/- What the laws' helpers do with rows of Word: contracts; no statement of the seat is proved here. (Written by wip/tools/mkrow.py.) -/
namespace Go.Proofs.Yteddhdbglciahaa
open Go.RowKit

set_option maxRecDepth 100000 in
set_option maxHeartbeats 4000000 in
theorem eqWordS_row (va vb : Value) (xs : List (Wd)) (w : World) (ha : RowE w 26 WdR va xs) (hb : RowE w 26 WdR vb xs) :
    Calls Try.prog 14 #[va, vb] w fun e w' => e = .returned (.bool true) ∧ Below w.heap.size w w' := by
  obtain ⟨ao, ca, rfl⟩ := ha.shape
  obtain ⟨bo, cb, rfl⟩ := hb.shape
  have hn := ha.small
  have HA := hide ha
  have HB := hide hb
  clear ha hb
  obtain ⟨n, hnn⟩ : ∃ n, xs.length = n := ⟨_, rfl⟩
  have HN := hide hnn
  rw [hnn] at hn HA HB ⊢
  clear hnn
  go_enter Try.func14, Try.ntmps14
  go_wp2
  go_loopw [5] (fun i wr => ∃ k : Nat, k ≤ n ∧ i = .int .i64 k ∧ Below w.heap.size w wr) (fun i _ => n - (intOf i).toNat)
  case atStart => exact ⟨0, Nat.zero_le _, rfl, Below.refl _ _⟩
  case round =>
    obtain ⟨k, hk, rfl, hbel⟩ := hrel
    by_cases hlt : k < n
    · obtain ⟨x, hx⟩ := getAt xs k (by rw [HN.out]; exact hlt)
      have d1 := bDrewB hbel
      obtain ⟨-, b1, o1, rfl, cs1, hcs1, -, hc1, he1⟩ := (HA.out.keep (fun v x h => WdR.keep h d1) d1).elem hx
      obtain ⟨-, b2, o2, rfl, cs2, hcs2, -, hc2, he2⟩ := (HB.out.keep (fun v x h => WdR.keep h d1) d1).elem hx
      have GI1 := hide (infoAt infoWd hcs1)
      have GI2 := hide (infoAt infoWd hcs2)
      have K1 := hide hc1
      have K2 := hide hc2
      have hi : (k : Int) < (n : Int) := by omega
      clear hx hc1 hc2 hcs1 hcs2
      go_wp2
      refine wp_region_noPanic ?_
      refine wp_region_held_drew (S := (fun w' => (∀ j u, cs1[j]? = some u → w'.cell? ⟨b1, o1 + k * 26 + j, none⟩ = some u) ∧ (∀ j u, cs2[j]? = some u → w'.cell? ⟨b2, o2 + k * 26 + j, none⟩ = some u))) (by kernel_rfl) ?_ (fun hHeld => ?_)
      · exact ⟨K1.out, K2.out⟩
      refine wpAnyH_take (i := 0) (v := ?v1) rfl (by kernel_rfl) (by kernel_rfl) (by kernel_rfl) (fun _ _ _ h => h) (Or.inl ⟨by rfl, ?hy1⟩) (by assumption) ?rest1
      case hy1 => ((intro w hSw; (try dsimp only at hSw); (try simp only [List.getElem_toArray, List.getElem_cons_zero]); go_simp; first | done | (with_reducible rfl)))
      simp only [Act.put, List.getElem_toArray, List.getElem_cons_zero, List.setIfInBounds_toArray, List.set_cons_zero, List.set_cons_succ]
      refine wpAnyH_take (i := 1) (v := ?v2) rfl (by kernel_rfl) (by kernel_rfl) (by kernel_rfl) (fun _ _ _ h => h) (Or.inl ⟨by rfl, ?hy2⟩) (by assumption) ?rest2
      case hy2 => ((intro w hSw; (try dsimp only at hSw); (try simp only [List.getElem_toArray, List.getElem_cons_zero, List.getElem_cons_succ]); go_simp; first | done | (with_reducible rfl)))
      simp only [Act.put, List.getElem_toArray, List.getElem_cons_zero, List.getElem_cons_succ, List.setIfInBounds_toArray, List.set_cons_zero, List.set_cons_succ]
      refine wpAnyH_take (i := 2) (v := ?v3) rfl (by kernel_rfl) (by kernel_rfl) (by kernel_rfl) (fun _ _ _ h => h) (Or.inl ⟨by rfl, ?hy3⟩) (by assumption) ?rest3
      case hy3 => ((intro w hSw; (try dsimp only at hSw); (try simp only [List.getElem_toArray, List.getElem_cons_zero, List.getElem_cons_succ]); go_simp; first | done | (with_reducible rfl)))
      simp only [Act.put, List.getElem_toArray, List.getElem_cons_zero, List.getElem_cons_succ, List.setIfInBounds_toArray, List.set_cons_zero, List.set_cons_succ]
      refine wpAnyH_take (i := 3) (v := .agg cs1) rfl (by kernel_rfl) (by kernel_rfl) (by kernel_rfl) (fun _ _ _ h => h) (yields_at rfl 47 (.tmp 19) rfl (b1) (o1 + k * 26) rfl cs1 _ (fun _ h => h.1) Try.underlying47 rfl GI1.out) (by assumption) ?_
      simp only [Act.put, List.getElem_toArray, List.getElem_cons_zero, List.getElem_cons_succ, List.setIfInBounds_toArray, List.set_cons_zero, List.set_cons_succ]
      refine wpAnyH_take (i := 4) (v := ?v4) rfl (by kernel_rfl) (by kernel_rfl) (by kernel_rfl) (fun _ _ _ h => h) (Or.inl ⟨by rfl, ?hy4⟩) (by assumption) ?rest4
      case hy4 => ((intro w hSw; (try dsimp only at hSw); (try simp only [List.getElem_toArray, List.getElem_cons_zero, List.getElem_cons_succ]); go_simp; first | done | (with_reducible rfl)))
      simp only [Act.put, List.getElem_toArray, List.getElem_cons_zero, List.getElem_cons_succ, List.setIfInBounds_toArray, List.set_cons_zero, List.set_cons_succ]
      refine wpAnyH_take (i := 5) (v := ?v5) rfl (by kernel_rfl) (by kernel_rfl) (by kernel_rfl) (fun _ _ _ h => h) (Or.inl ⟨by rfl, ?hy5⟩) (by assumption) ?rest5
      case hy5 => ((intro w hSw; (try dsimp only at hSw); (try simp only [List.getElem_toArray, List.getElem_cons_zero, List.getElem_cons_succ]); go_simp; first | done | (with_reducible rfl)))
      simp only [Act.put, List.getElem_toArray, List.getElem_cons_zero, List.getElem_cons_succ, List.setIfInBounds_toArray, List.set_cons_zero, List.set_cons_succ]
      refine wpAnyH_take (i := 6) (v := ?v6) rfl (by kernel_rfl) (by kernel_rfl) (by kernel_rfl) (fun _ _ _ h => h) (Or.inl ⟨by rfl, ?hy6⟩) (by assumption) ?rest6
      case hy6 => ((intro w hSw; (try dsimp only at hSw); (try simp only [List.getElem_toArray, List.getElem_cons_zero, List.getElem_cons_succ]); go_simp; first | done | (with_reducible rfl)))
      simp only [Act.put, List.getElem_toArray, List.getElem_cons_zero, List.getElem_cons_succ, List.setIfInBounds_toArray, List.set_cons_zero, List.set_cons_succ]
      refine wpAnyH_take (i := 7) (v := .agg cs2) rfl (by kernel_rfl) (by kernel_rfl) (by kernel_rfl) (fun _ _ _ h => h) (yields_at rfl 47 (.tmp 23) rfl (b2) (o2 + k * 26) rfl cs2 _ (fun _ h => h.2) Try.underlying47 rfl GI2.out) (by assumption) ?_
      simp only [Act.put, List.getElem_toArray, List.getElem_cons_zero, List.getElem_cons_succ, List.setIfInBounds_toArray, List.set_cons_zero, List.set_cons_succ]
      refine wpAnyH_ready (rs := [8]) (by kernel_rfl) (by simp) ?_
      refine AllReadyH.cons rfl (fun K hK => ?_) AllReadyH.nil
      go_simp
      (go_at_call 15; refine (eqWord_true _ _ x _ he1 he2).mono ?_; rintro e w1 ⟨rfl, b1'⟩; have c1 := bAll d1 b1')
      refine hK.out _ _ ?_ (fun hHeld => ?_)
      · exact ⟨cellsKeep K1.out b1', cellsKeep K2.out b1'⟩
      clear hK K
      refine wpAnyH_take (i := 9) (v := ?v7) rfl (by kernel_rfl) (by kernel_rfl) (by kernel_rfl) (fun _ _ _ h => h) (Or.inl ⟨by rfl, ?hy7⟩) (by assumption) ?rest7
      case hy7 => ((intro w hSw; (try dsimp only at hSw); (try simp only [List.getElem_toArray, List.getElem_cons_zero, List.getElem_cons_succ]); go_simp; first | done | (with_reducible rfl)))
      simp only [Act.put, List.getElem_toArray, List.getElem_cons_zero, List.getElem_cons_succ, List.setIfInBounds_toArray, List.set_cons_zero, List.set_cons_succ]
      refine wpAnyH_done (by kernel_rfl) ?_ _
      refine NoPanic.normal ?_
      clear hHeld
      go_wp2
      go_roundw
      case rel => exact ⟨k + 1, by omega, by go_num, c1⟩
      case measure => simp [intOf]; omega
    · go_wp2
      go_ret
      exact ⟨rfl, hbel⟩
end Go.Proofs.Yteddhdbglciahaa

/- What the laws' helpers do with councils: contracts; no statement of the seat is proved here. (Written by wip/tools/mkcn.py.) -/
namespace Go.Proofs.Yteddhdbglciahaa
open Go.RowKit

/-- A council. -/
structure Cn where
  vs : List (Int × List Pp)
  rs : List Int
  ks : List Sk
  ws : List Wd
  ts : List Pp
/-- What is read of a council's five slices, at once. -/
structure CnP (w : World) (v0 v1 v2 v3 v4 : Value) (c : Cn) : Prop where
  vs : RowE w 2 VxR v0 c.vs
  rs : RowR w 1 v1 c.rs.length (ints c.rs)
  ks : RowE w 26 SkR v2 c.ks
  ws : RowE w 26 WdR v3 c.ws
  ts : RowR w 12 v4 c.ts.length (ppcells c.ts)
def CnR (w : World) (v : Value) (c : Cn) : Prop := ∃ v0 v1 v2 v3 v4, v = .agg #[v0, v1, v2, v3, v4] ∧ CnP w v0 v1 v2 v3 v4 c
set_option linter.unusedVariables false in
theorem CnP.keep {w w' : World} {v0 v1 v2 v3 v4 : Value} {c : Cn} (h : CnP w v0 v1 v2 v3 v4 c) (b : Below w.heap.size w w') : CnP w' v0 v1 v2 v3 v4 c :=
  ⟨RowE.keep (fun v x h => VxR.keep h b) h.vs b, RowR.keep h.rs b, RowE.keep (fun v x h => SkR.keep h b) h.ks b, RowE.keep (fun v x h => WdR.keep h b) h.ws b, RowR.keep h.ts b⟩
theorem CnR.keep {w w' : World} {v : Value} {c : Cn} (h : CnR w v c) (b : Below w.heap.size w w') : CnR w' v c := by
  obtain ⟨v0, v1, v2, v3, v4, e, h⟩ := h
  exact ⟨_, _, _, _, _, e, h.keep b⟩
/-- Each of the slices as a value of one cell. -/
theorem RowR.cell1 {w : World} {size : Nat} {v : Value} {m : Nat} {cs : List Value} (h : RowR w size v m cs) : ∃ ao cap, v = .slice ao m cap ∧ m ≤ 9223372036854775807 := by
  obtain ⟨ao, cap, e, hn, -⟩ := h
  exact ⟨ao, cap, e, hn⟩
theorem CnP.shapes {w : World} {v0 v1 v2 v3 v4 : Value} {c : Cn} (h : CnP w v0 v1 v2 v3 v4 c) : (∃ ao cap, v0 = .slice ao c.vs.length cap) ∧ (∃ ao cap, v1 = .slice ao c.rs.length cap) ∧ (∃ ao cap, v2 = .slice ao c.ks.length cap) ∧ (∃ ao cap, v3 = .slice ao c.ws.length cap) ∧ (∃ ao cap, v4 = .slice ao c.ts.length cap) :=
  ⟨h.vs.shape, (let ⟨ao, cap, e, _⟩ := h.rs.cell1; ⟨ao, cap, e⟩), h.ks.shape, h.ws.shape, (let ⟨ao, cap, e, _⟩ := h.ts.cell1; ⟨ao, cap, e⟩)⟩
theorem infoCnI : (Try.prog.info? 65).map (·.size) = some 5 := by kernel_rfl
set_option maxRecDepth 100000 in
set_option maxHeartbeats 4000000 in
theorem eqSynCouncil_true (va vb : Value) (c : Cn) (w : World) (ha : CnR w va c) (hb : CnR w vb c) :
    Calls Try.prog 28 #[va, vb] w fun e w' => e = .returned (.bool true) ∧ Below w.heap.size w w' := by
  obtain ⟨v0, v1, v2, v3, v4, rfl, ha⟩ := ha
  obtain ⟨u0, u1, u2, u3, u4, rfl, hb⟩ := hb
  obtain ⟨⟨a0, k0, rfl⟩, ⟨a1, k1, rfl⟩, ⟨a2, k2, rfl⟩, ⟨a3, k3, rfl⟩, ⟨a4, k4, rfl⟩⟩ := ha.shapes
  obtain ⟨⟨b0, l0, rfl⟩, ⟨b1, l1, rfl⟩, ⟨b2, l2, rfl⟩, ⟨b3, l3, rfl⟩, ⟨b4, l4, rfl⟩⟩ := hb.shapes
  have HA := hide ha
  have HB := hide hb
  clear ha hb
  have al := bal (bal (Below.refl w.heap.size w) (.cells #[.slice a0 c.vs.length k0, .slice a1 c.rs.length k1, .slice a2 c.ks.length k2, .slice a3 c.ws.length k3, .slice a4 c.ts.length k4] 65)) (.cells #[.slice b0 c.vs.length l0, .slice b1 c.rs.length l1, .slice b2 c.ks.length l2, .slice b3 c.ws.length l3, .slice b4 c.ts.length l4] 65)
  have A0 := hide (al2_0 w (.cells #[.slice a0 c.vs.length k0, .slice a1 c.rs.length k1, .slice a2 c.ks.length k2, .slice a3 c.ws.length k3, .slice a4 c.ts.length k4] 65) (.cells #[.slice b0 c.vs.length l0, .slice b1 c.rs.length l1, .slice b2 c.ks.length l2, .slice b3 c.ws.length l3, .slice b4 c.ts.length l4] 65))
  have B0 := hide (al2_1 w (.cells #[.slice a0 c.vs.length k0, .slice a1 c.rs.length k1, .slice a2 c.ks.length k2, .slice a3 c.ws.length k3, .slice a4 c.ts.length k4] 65) (.cells #[.slice b0 c.vs.length l0, .slice b1 c.rs.length l1, .slice b2 c.ks.length l2, .slice b3 c.ws.length l3, .slice b4 c.ts.length l4] 65))
  go_enter Try.func28, Try.ntmps28
  go_upto_region 1 with fail
  generalize World.alloc _ _ = W0 at al A0 B0 ⊢
  have HA := hide (HA.out.keep al)
  have HB := hide (HB.out.keep al)
  have c0 := Below.refl W0.heap.size W0
  have x0 : W0.cell? ⟨w.heap.size, 0, none⟩ = some (.slice a0 c.vs.length k0) := boxAt (bKeeps c0 A0.out) 0
  have y0 : W0.cell? ⟨w.heap.size + 1, 0, none⟩ = some (.slice b0 c.vs.length l0) := boxAt (bKeeps c0 B0.out) 0
  go_wp2_with fail
  refine (eqSynVoterS_row _ _ c.vs W0 (HA.out.keep c0).vs (HB.out.keep c0).vs).mono ?_
  rintro e W1 ⟨rfl, b0⟩
  have c1 := bAll c0 b0
  clear x0 y0 b0
  have x1 : W1.cell? ⟨w.heap.size, 1, none⟩ = some (.slice a1 c.rs.length k1) := boxAt (bKeeps c1 A0.out) 1
  have y1 : W1.cell? ⟨w.heap.size + 1, 1, none⟩ = some (.slice b1 c.rs.length l1) := boxAt (bKeeps c1 B0.out) 1
  go_wp2_with fail
  refine (eqIntS_true _ _ _ c.rs W1 (HA.out.keep c1).rs (HB.out.keep c1).rs).mono ?_
  rintro e W2 ⟨rfl, b1⟩
  have c2 := bAll c1 b1
  clear x1 y1 b1
  have x2 : W2.cell? ⟨w.heap.size, 2, none⟩ = some (.slice a2 c.ks.length k2) := boxAt (bKeeps c2 A0.out) 2
  have y2 : W2.cell? ⟨w.heap.size + 1, 2, none⟩ = some (.slice b2 c.ks.length l2) := boxAt (bKeeps c2 B0.out) 2
  go_wp2_with fail
  refine (eqSynSeekerS_row _ _ c.ks W2 (HA.out.keep c2).ks (HB.out.keep c2).ks).mono ?_
  rintro e W3 ⟨rfl, b2⟩
  have c3 := bAll c2 b2
  clear x2 y2 b2
  have x3 : W3.cell? ⟨w.heap.size, 3, none⟩ = some (.slice a3 c.ws.length k3) := boxAt (bKeeps c3 A0.out) 3
  have y3 : W3.cell? ⟨w.heap.size + 1, 3, none⟩ = some (.slice b3 c.ws.length l3) := boxAt (bKeeps c3 B0.out) 3
  go_wp2_with fail
  refine (eqWordS_row _ _ c.ws W3 (HA.out.keep c3).ws (HB.out.keep c3).ws).mono ?_
  rintro e W4 ⟨rfl, b3⟩
  have c4 := bAll c3 b3
  clear x3 y3 b3
  have x4 : W4.cell? ⟨w.heap.size, 4, none⟩ = some (.slice a4 c.ts.length k4) := boxAt (bKeeps c4 A0.out) 4
  have y4 : W4.cell? ⟨w.heap.size + 1, 4, none⟩ = some (.slice b4 c.ts.length l4) := boxAt (bKeeps c4 B0.out) 4
  go_wp2_with fail
  refine (eqSynPaperS_true _ _ _ c.ts W4 (HA.out.keep c4).ts (HB.out.keep c4).ts).mono ?_
  rintro e W5 ⟨rfl, b4⟩
  have c5 := bAll c4 b4
  clear x4 y4 b4
  go_wp2
  go_ret
  exact ⟨rfl, bAll al c5⟩

/-- A council in memory of its own: its five slices lie one behind the other, from base on. -/
def CnO (w : World) (base : Nat) (v : Value) (c : Cn) : Prop :=
  ∃ v0 v1 v2 v3 v4, v = .agg #[v0, v1, v2, v3, v4] ∧ ∃ lo : Nat → Nat, base ≤ lo 0 ∧ (lo 0 ≤ lo 1 ∧ lo 1 ≤ lo 2 ∧ lo 2 ≤ lo 3 ∧ lo 3 ≤ lo 4 ∧ lo 4 ≤ lo 5) ∧
    RowO w 120 2 (fun b => lo 0 ≤ b ∧ b < lo 1) VxO v0 c.vs ∧
    Row w 3 1 (fun b => lo 1 ≤ b ∧ b < lo 2) v1 c.rs.length (ints c.rs) ∧
    RowO w 39 26 (fun b => lo 2 ≤ b ∧ b < lo 3) SkO v2 c.ks ∧
    RowO w 47 26 (fun b => lo 3 ≤ b ∧ b < lo 4) WdO v3 c.ws ∧
    Row w 37 12 (fun b => lo 4 ≤ b ∧ b < lo 5) v4 c.ts.length (ppcells c.ts)
theorem CnO.reads {w : World} {base : Nat} {v : Value} {c : Cn} (h : CnO w base v c) : CnR w v c := by
  obtain ⟨v0, v1, v2, v3, v4, e, lo, -, -, h0, h1, h2, h3, h4⟩ := h
  exact ⟨_, _, _, _, _, e, ⟨h0.reads (fun _ _ _ h => VxO.reads h), h1.reads, h2.reads (fun _ _ _ h => SkO.reads h), h3.reads (fun _ _ _ h => WdO.reads h), h4.reads⟩⟩
end Go.Proofs.Yteddhdbglciahaa
