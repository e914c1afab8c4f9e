/- Contracts and plain facts that this claim leans on (texts BHL, BM); no statement of the seat is proved here. -/
import Derived.Test.YtdnojnkcmncffaaWk3

/- What the laws' own helpers do with slices of BlkLast: contracts; no statement of the seat is proved here. -/
namespace Go.Proofs.Ytdnojnkcmncffaa
open Go.RowKit

abbrev Lc := Int × Int
def lcell (x : Lc) : List Value := [.int .i64 x.1, .int .i64 x.2]
def lcells (xs : List Lc) : List Value := xs.flatMap lcell
theorem lcell_len (x : Lc) : (lcell x).length = 2 := rfl
theorem lcells_len (xs : List Lc) : (lcells xs).length = xs.length * 2 := fm_len lcell_len xs
theorem lcell_one (x : Lc) : ∀ u ∈ lcell x, u.oneCell' = true := by
  intro u hu
  simp only [lcell, List.mem_cons, List.not_mem_nil, or_false] at hu
  rcases hu with rfl | rfl <;> rfl
theorem lcells_one (xs : List Lc) : ∀ u ∈ lcells xs, u.oneCell' = true := fm_one lcell_one xs
theorem lcells_snoc (xs : List Lc) (x : Lc) : lcells (xs ++ [x]) = lcells xs ++ lcell x := by simp [lcells]

theorem lc_cells {w wr : World} {b o k : Nat} {xs : List Lc} {x : Lc} (hc : ∀ j u, (lcells xs)[j]? = some u → w.cell? ⟨b, o + j, none⟩ = some u) (h : xs[k]? = some x) (hb : Below w.heap.size w wr) :
    wr.cell? ⟨b, o + k * 2, none⟩ = some (.int .i64 x.1) ∧ wr.cell? ⟨b, o + k * 2 + 1, none⟩ = some (.int .i64 x.2) ∧ b < w.heap.size := by
  have g := fun j u => el_cell lcell_len hc h hb j u
  exact ⟨(g 0 _ rfl).1, (g 1 _ rfl).1, (g 0 _ rfl).2⟩

set_option maxHeartbeats 400000 in
theorem szBlkLastS_any (so : Option Addr) (n sc : Nat) (left : Int) (w : World) (hn : n ≤ 9223372036854775807) (h1 : 0 ≤ left) (h2 : left ≤ 1048576) :
    Calls Try.prog 28 #[.slice so n sc, .int .i64 left] w fun e w' => ∃ r, e = .returned (.int .i64 r) ∧ Sized left r n ∧ Below w.heap.size w w' := by
  by_cases hneg : left - n < 0
  · go_enter Try.func28, Try.ntmps28
    go_wp2
    go_ret
    exact ⟨_, rfl, .inl (by omega), Below.refl _ _⟩
  · have hge : 0 ≤ left - n := by omega
    clear hneg
    go_enter Try.func28, Try.ntmps28
    go_wp2
    go_ret
    exact ⟨_, rfl, .inr ⟨rfl, hge⟩, Below.refl _ _⟩

set_option maxHeartbeats 400000 in
theorem toBlkLast_any (a0 a1 : Int) (w : World) :
    Calls Try.prog 60 #[.agg #[.int .i64 a0, .int .i64 a1]] w fun e w' => e = .returned (.agg #[.int .i64 a0, .int .i64 a1]) ∧ Below w.heap.size w w' := by
  go_enter Try.func60, Try.ntmps60
  go_wp2
  exact bodyPost_ret (v := .agg #[.int .i64 a0, .int .i64 a1]) (by simp [results, Try.results60, go_sem]) rfl ⟨rfl, (((Below.refl _ _).alloc (Nat.le_refl _) _).alloc (by simp) _).alloc (by simp; omega) _⟩

theorem infoLc : (Try.prog.info? 86).map (fun i => (i.zero, i.size, i.bytes)) = some (some (.agg #[.int .i64 0, .int .i64 0]), 2, 16) := by kernel_rfl

theorem lset {cur : Array Value} {j k : Nat} (a0 a1 : Value) (hk : k * 2 + 1 < cur.size) :
    let c := ((cur.setIfInBounds (k * 2) a0).setIfInBounds (k * 2 + 1) a1)
    (j = k → c[j * 2]? = some a0 ∧ c[j * 2 + 1]? = some a1) ∧ (j ≠ k → c[j * 2]? = cur[j * 2]? ∧ c[j * 2 + 1]? = cur[j * 2 + 1]?) := by
  refine ⟨?_, fun h => ?_⟩
  · rintro rfl
    refine ⟨?_, ?_⟩
    · rw [Array.getElem?_setIfInBounds_ne (by omega), Array.getElem?_setIfInBounds_self_of_lt (by omega)]
    · rw [Array.getElem?_setIfInBounds_self_of_lt (by simp; omega)]
  · refine ⟨?_, ?_⟩ <;> rw [Array.getElem?_setIfInBounds_ne (by omega), Array.getElem?_setIfInBounds_ne (by omega)]

theorem lcells_ext (xs : List Lc) (cs : List Value) (hl : cs.length = xs.length * 2) (h : ∀ j x, xs[j]? = some x → cs[j * 2]? = some (.int .i64 x.1) ∧ cs[j * 2 + 1]? = some (.int .i64 x.2)) : cs = lcells xs := by
  refine fm_ext lcell_len (by omega) xs cs hl (fun i x j hx hj => ?_)
  obtain ⟨h0, h1⟩ := h i x hx
  rcases (by omega : j = 0 ∨ j = 1) with rfl | rfl
  · exact h0
  · exact h1

set_option maxHeartbeats 4000000 in
theorem toBlkLastS_any (v : Value) (n : Nat) (ss : List Lc) (w : World) (hr : RowR w 2 v n (lcells ss)) (hn : n ≤ 1048576) :
    Calls Try.prog 38 #[v] w fun e w' => ∃ so', e = .returned (.slice so' n n) ∧ Row w' 86 2 (fun k => w.heap.size ≤ k) (.slice so' n n) n (lcells ss) ∧ Below w.heap.size w w' := by
  obtain ⟨ao, cap, rfl, hn', hl, hr⟩ := hr
  rw [lcells_len] at hl
  have Hl := hide hl
  clear hl
  have hmk := run_make_row2 (P := Try.prog) 32 86 (.agg #[.int .i64 0, .int .i64 0]) 2 16 Try.underlying32 infoLc .i64 .i64 n (by omega) (by omega)
  go_enter Try.func38, Try.ntmps38
  go_wp2
  clear hmk
  go_loopw [4] (fun i wr => ∃ (k : Nat) (cur : Array Value), k ≤ n ∧ i = .int .i64 k ∧ wr.heap[w.heap.size]? = some (.cells cur 86 (0, 0)) ∧ cur.size = n * 2 ∧ (∀ j x, j < k → ss[j]? = some x → cur[j * 2]? = some (.int .i64 x.1) ∧ cur[j * 2 + 1]? = some (.int .i64 x.2)) ∧ Below w.heap.size w wr) (fun i _ => n - (intOf i).toNat)
  case atStart => exact ⟨0, _, Nat.zero_le _, rfl, heap_alloc_new w _, size_madeCells _ _, fun j s hj => by omega, (Below.refl _ _).alloc (Nat.le_refl _) _⟩
  case round =>
    obtain ⟨k, cur, hk, rfl, hg, hcs, hmk, hbel⟩ := hrel
    have HM := hide hmk
    have HC := hide hcs
    have hcs' : n * 2 ≤ cur.size := by omega
    clear hmk hcs
    by_cases hlt : k < n
    · obtain ⟨b1, o1, rfl, hc1⟩ := hr (by omega)
      obtain ⟨⟨a0, a1⟩, hs⟩ := getAt ss k (by have := Hl.out; omega)
      have Hs := hide hs
      obtain ⟨f0, f1, l1⟩ := lc_cells hc1 hs hbel
      have hi : (k : Int) < (n : Int) := by omega
      have hk3 : k * 2 + 1 < cur.size := by omega
      obtain ⟨u0, hu0⟩ : ∃ u, cur[k * 2]? = some u := ⟨cur[k * 2]'(by omega), by simp [show k * 2 < cur.size by omega]⟩
      obtain ⟨u1, hu1⟩ : ∃ u, cur[k * 2 + 1]? = some u := ⟨cur[k * 2 + 1]'(by omega), by simp [show k * 2 + 1 < cur.size by omega]⟩
      have Hg := hide hg
      clear hr hc1 hs hg
      go_wp2_with fail
      refine (toBlkLast_any a0 a1 _).mono ?_
      rintro e w1 ⟨rfl, hb1⟩
      have hg := bKeeps hb1 Hg.out
      have hcw0 : w1.cell? ⟨w.heap.size, k * 2, none⟩ = some u0 := (cell_of_row w1 _ _ cur _ (0, 0) hg).trans hu0
      have hcw1 : w1.cell? ⟨w.heap.size, k * 2 + 1, none⟩ = some u1 := (cell_of_row w1 _ _ cur _ (0, 0) hg).trans hu1
      have hfw0 : w1.frozen? ⟨w.heap.size, k * 2, none⟩ = false := frozen_of_row w1 _ _ cur _ hg
      have hfw1 : w1.frozen? ⟨w.heap.size, k * 2 + 1, none⟩ = false := frozen_of_row w1 _ _ cur _ hg
      have Hg1 := hide hg
      clear hg hu0 hu1
      go_wp2
      go_roundw
      case rel =>
        refine ⟨k + 1, _, by omega, by go_num, (row_set _ (row_set _ Hg1.out)), by simpa using HC.out, fun j x hj hx => ?_, (((bAll hbel hb1).setCell (p := ⟨w.heap.size, k * 2, none⟩) (Nat.le_refl _) _).setCell (p := ⟨w.heap.size, k * 2 + 1, none⟩) (Nat.le_refl _) _)⟩
        have h3 := lset (cur := cur) (j := j) (k := k) (.int .i64 a0) (.int .i64 a1) hk3
        by_cases hjk : j = k
        · have h4 := h3.1 hjk
          subst hjk
          rw [Hs.out] at hx
          obtain rfl := Option.some.inj hx
          exact h4
        · have h4 := h3.2 hjk
          have h5 := HM.out j x (by omega) hx
          exact ⟨h4.1.trans h5.1, h4.2.trans h5.2⟩
      case measure => simp [intOf]; omega
    · go_wp2
      go_ret
      obtain rfl : k = n := by omega
      refine ⟨_, rfl, ⟨_, _, rfl, hn', by rw [lcells_len]; rw [← Hl.out], fun _ => ⟨_, cur, rfl, Nat.le_refl _, hg, ?_⟩⟩, hbel⟩
      have hl := Hl.out
      have hc := HC.out
      refine lcells_ext ss _ (by simp; omega) (fun j x hx => ?_)
      have hj := (List.getElem?_eq_some_iff.1 hx).1
      rw [List.getElem?_take_of_lt (by omega), List.getElem?_take_of_lt (by omega)]
      simpa using HM.out j x (by omega) hx

set_option maxHeartbeats 400000 in
theorem eqBlkLast_true (x : Lc) (w : World) :
    Calls Try.prog 63 #[.agg #[.int .i64 x.1, .int .i64 x.2], .agg #[.int .i64 x.1, .int .i64 x.2]] w fun e w' => e = .returned (.bool true) ∧ Below w.heap.size w w' := by
  obtain ⟨a0, a1⟩ := x
  go_enter Try.func63, Try.ntmps63
  go_wp2
  go_ret
  exact ⟨rfl, ((Below.refl _ _).alloc (Nat.le_refl _) _).alloc (by simp) _⟩

set_option maxHeartbeats 400000 in
theorem eqBlkLastS_true (va vb : Value) (n : Nat) (xs : List Lc) (w : World) (ha : RowR w 2 va n (lcells xs)) (hb : RowR w 2 vb n (lcells xs)) :
    Calls Try.prog 42 #[va, vb] w fun e w' => e = .returned (.bool true) ∧ Below w.heap.size w w' := by
  obtain ⟨ao, ca, rfl, hn, hl, ha⟩ := ha
  obtain ⟨bo, cb, rfl, _, _, hb⟩ := hb
  rw [lcells_len] at hl
  go_enter Try.func42, Try.ntmps42
  go_wp2
  go_loopw [5] (fun i wr => ∃ k : Nat, k ≤ n ∧ i = .int .i64 k ∧ Below w.heap.size w wr) (fun i _ => n - (intOf i).toNat)
  case atStart => exact ⟨0, Nat.zero_le _, rfl, Below.refl _ _⟩
  case round =>
    obtain ⟨k, hk, rfl, hbel⟩ := hrel
    by_cases hlt : k < n
    · obtain ⟨b1, o1, rfl, hc1⟩ := ha (by omega)
      obtain ⟨b2, o2, rfl, hc2⟩ := hb (by omega)
      obtain ⟨x, hx⟩ := getAt xs k (by omega)
      obtain ⟨f0, f1, l1⟩ := lc_cells hc1 hx hbel
      obtain ⟨g0, g1, l2⟩ := lc_cells hc2 hx hbel
      obtain ⟨a0, a1⟩ := x
      have hi : (k : Int) < (n : Int) := by omega
      clear ha hb hc1 hc2 hx hl
      go_wp2
      go_region_with (go_at_call 63; refine (eqBlkLast_true (a0, a1) _).mono ?_; rintro e w1 ⟨rfl, hbm⟩; have hbm' : Below wr.heap.size wr w1 := bUndrew hbm)
      all_goals
        go_wp2
        go_roundw
        case rel => exact ⟨k + 1, by omega, by go_num, bAllTo hbel hbm'⟩
        case measure => simp [intOf]; omega
    · go_wp2
      go_ret
      exact ⟨rfl, hbel⟩

/-- The marks of n elements from k on. -/
def mkL (k n : Nat) : List Lc := (List.range n).map fun i => ((k + i * 2 : Nat), (k + i * 2 + 1 : Nat))
theorem mkL_len (k n : Nat) : (mkL k n).length = n := by simp [mkL]
theorem mkL_get (k n i : Nat) (h : i < n) : (mkL k n)[i]? = some (((k + i * 2 : Nat) : Int), ((k + i * 2 + 1 : Nat) : Int)) := by simp [mkL, h]

set_option maxHeartbeats 4000000 in
theorem markBlkLastS_any (S : Nat → Prop) (v : Value) (n : Nat) (cs : List Value) (k0 : Nat) (w : World) (hr : Row w 86 2 S v n cs) (h1 : 1 ≤ k0) (h2 : k0 + n * 2 ≤ 1099511627776) :
    Calls Try.prog 46 #[v, .int .i64 k0] w fun e w' => e = .returned (.int .i64 (k0 + n * 2 : Nat)) ∧ Row w' 86 2 S v n (lcells (mkL k0 n)) ∧ Upd S w w' := by
  obtain ⟨ao, cap, rfl, hn, hl, hr⟩ := hr
  rcases Nat.eq_zero_or_pos n with rfl | hpos
  · go_enter Try.func46, Try.ntmps46
    go_wp2
    refine wp_loop_rounds 1 ?_
    rw [rounds_succ]
    go_wp2
    go_ret
    exact ⟨rfl, ⟨ao, cap, rfl, hn, by simp [mkL, lcells], fun h => by omega⟩, Upd.refl _ _⟩
  · obtain ⟨g, cur, rfl, hS, hg, ht⟩ := hr hpos
    have hcs : n * 2 ≤ cur.size := by
      have := congrArg List.length ht
      simp [hl] at this
      omega
    clear hr ht hl
    go_enter Try.func46, Try.ntmps46
    go_wp2
    go_loopw [1, 5] (fun kv i wr => ∃ (k m : Nat) (cur' : Array Value), k ≤ n ∧ m = k0 + k * 2 ∧ i = .int .i64 k ∧ kv = .int .i64 (m : Nat) ∧ wr.heap[g]? = some (.cells cur' 86 (0, 0)) ∧ cur'.size = cur.size ∧ (∀ j, j < k → cur'[j * 2]? = some (.int .i64 (k0 + j * 2 : Nat)) ∧ cur'[j * 2 + 1]? = some (.int .i64 (k0 + j * 2 + 1 : Nat))) ∧ Upd S w wr) (fun _ i _ => n - (intOf i).toNat)
    case atStart => exact ⟨0, k0, cur, Nat.zero_le _, rfl, rfl, rfl, hg, rfl, fun j hj => by omega, Upd.refl _ _⟩
    case round =>
      obtain ⟨k, m, cur', hk, hm, rfl, rfl, hgr, hsz, hmk, hup⟩ := hrel
      have Hm := hide hm
      have hm2 : (m : Int) ≤ 1099511627776 := by omega
      clear hm
      have HM := hide hmk
      have HZ := hide hsz
      have hsz' : n * 2 ≤ cur'.size := by omega
      clear hmk hsz
      by_cases hlt : k < n
      · have hi : (k : Int) < (n : Int) := by omega
        have hk3 : k * 2 + 1 < cur'.size := by omega
        obtain ⟨u0, hu0⟩ : ∃ u, cur'[k * 2]? = some u := ⟨cur'[k * 2]'(by omega), by simp [show k * 2 < cur'.size by omega]⟩
        obtain ⟨u1, hu1⟩ : ∃ u, cur'[k * 2 + 1]? = some u := ⟨cur'[k * 2 + 1]'(by omega), by simp [show k * 2 + 1 < cur'.size by omega]⟩
        have hcw0 : wr.cell? ⟨g, k * 2, none⟩ = some u0 := (cell_of_row wr _ _ cur' _ (0, 0) hgr).trans hu0
        have hcw1 : wr.cell? ⟨g, k * 2 + 1, none⟩ = some u1 := (cell_of_row wr _ _ cur' _ (0, 0) hgr).trans hu1
        have hfw0 : wr.frozen? ⟨g, k * 2, none⟩ = false := frozen_of_row wr _ _ cur' _ hgr
        have hfw1 : wr.frozen? ⟨g, k * 2 + 1, none⟩ = false := frozen_of_row wr _ _ cur' _ hgr
        have Hg := hide hgr
        clear hgr hu0 hu1
        go_wp2
        go_roundw
        case rel =>
          refine ⟨k + 1, m + 2, _, by omega, by rw [Hm.out]; omega, by go_num, by go_num, (row_set _ (row_set _ Hg.out)), by simpa using HZ.out, fun j hj => ?_, ((hup.trans (Upd.setCell _ _ _ _ hS)).trans (Upd.setCell _ _ _ _ hS))⟩
          have h3 := lset (cur := cur') (j := j) (k := k) (.int .i64 m) (.int .i64 (m + 1)) hk3
          by_cases hjk : j = k
          · have h4 := h3.1 hjk
            subst hjk
            have := Hm.out
            subst this
            refine ⟨h4.1.trans ?_, h4.2.trans ?_⟩ <;> (congr 2 <;> omega)
          · have h4 := h3.2 hjk
            have h5 := HM.out j (by omega)
            exact ⟨h4.1.trans h5.1, h4.2.trans h5.2⟩
        case measure => simp [intOf]; omega
      · go_wp2
        go_ret
        obtain rfl : k = n := by omega
        refine ⟨by rw [Hm.out]; rfl, ⟨_, cap, rfl, hn, by rw [lcells_len, mkL_len], fun _ => ⟨g, cur', rfl, hS, hgr, ?_⟩⟩, hup⟩
        have hz := HZ.out
        refine lcells_ext _ _ (by rw [mkL_len]; simp; omega) (fun j x hx => ?_)
        have hj := (List.getElem?_eq_some_iff.1 hx).1
        rw [mkL_len] at hj
        rw [mkL_get _ _ _ hj] at hx
        obtain rfl := Option.some.inj hx
        rw [List.getElem?_take_of_lt (by omega), List.getElem?_take_of_lt (by omega)]
        simpa using HM.out j hj

set_option maxHeartbeats 4000000 in
theorem heldBlkLastS_ok (v : Value) (n k0 : Nat) (w : World) (hr : RowR w 2 v n (lcells (mkL k0 n))) (h1 : 1 ≤ k0) (h2 : k0 + n * 2 ≤ 1099511627776) :
    Calls Try.prog 51 #[v, .int .i64 k0] w fun e w' => e = .returned (.int .i64 (k0 + n * 2 : Nat)) ∧ Below w.heap.size w w' := by
  obtain ⟨ao, cap, rfl, hn, hl, hr⟩ := hr
  clear hl
  go_enter Try.func51, Try.ntmps51
  go_wp2
  go_loopw [1, 5] (fun kv i wr => ∃ k m : Nat, k ≤ n ∧ m = k0 + k * 2 ∧ i = .int .i64 k ∧ kv = .int .i64 (m : Nat) ∧ Below w.heap.size w wr) (fun _ i _ => n - (intOf i).toNat)
  case atStart => exact ⟨0, k0, Nat.zero_le _, rfl, rfl, rfl, Below.refl _ _⟩
  case round =>
    obtain ⟨k, m, hk, hm, rfl, rfl, hbel⟩ := hrel
    have Hm : Hid (m = k0 + k * 2) := hm
    have hm2 : (m : Int) ≤ 1099511627776 := by omega
    clear hm
    by_cases hlt : k < n
    · obtain ⟨b1, o1, rfl, hc1⟩ := hr (by omega)
      obtain ⟨f0, f1, l1⟩ := lc_cells hc1 (mkL_get k0 n k hlt) hbel
      rw [← Hm.out] at f0 f1
      simp only [Int.natCast_add, Int.natCast_one] at f1
      have hi : (k : Int) < (n : Int) := by omega
      clear hr hc1
      go_wp2
      go_roundw
      case rel => exact ⟨k + 1, m + 2, by omega, by rw [Hm.out]; omega, by go_num, by go_num, hbel⟩
      case measure => simp [intOf]; omega
    · go_wp2
      go_ret
      obtain rfl : k = n := by omega
      exact ⟨by rw [Hm.out]; rfl, hbel⟩

end Go.Proofs.Ytdnojnkcmncffaa

/- Plain facts on ascending lists, places in them and what is put into them; no statement of the seat is proved here. -/
namespace Go.Proofs.Ytdnojnkcmncffaa

/-- How two numbers compare. -/
def cmpI (a b : Int) : Int := if a < b then -1 else if b < a then 1 else 0
theorem cmpI_neg {a b : Int} : cmpI a b < 0 ↔ a < b := by unfold cmpI; split <;> (try split) <;> omega
theorem cmpI_zero {a b : Int} : cmpI a b = 0 ↔ a = b := by unfold cmpI; split <;> (try split) <;> omega
theorem cmpI_pos {a b : Int} : 0 < cmpI a b ↔ b < a := by unfold cmpI; split <;> (try split) <;> omega
def ordP (x y : Pc) : Int := if cmpI x.1 y.1 ≠ 0 then cmpI x.1 y.1 else if cmpI x.2.1 y.2.1 ≠ 0 then cmpI x.2.1 y.2.1 else cmpI x.2.2.1 y.2.2.1
def ordL (x y : Lc) : Int := cmpI x.1 y.1

theorem ordP_neg {x y : Pc} : ordP x y < 0 ↔ (x.1 < y.1 ∨ x.1 = y.1 ∧ (x.2.1 < y.2.1 ∨ x.2.1 = y.2.1 ∧ x.2.2.1 < y.2.2.1)) := by
  have h1 := @cmpI_zero x.1 y.1
  have h2 := @cmpI_neg x.1 y.1
  have h3 := @cmpI_zero x.2.1 y.2.1
  have h4 := @cmpI_neg x.2.1 y.2.1
  have h5 := @cmpI_neg x.2.2.1 y.2.2.1
  unfold ordP
  split
  · omega
  · split <;> omega
theorem ordP_zero {x y : Pc} : ordP x y = 0 ↔ x.1 = y.1 ∧ x.2.1 = y.2.1 ∧ x.2.2.1 = y.2.2.1 := by
  have h1 := @cmpI_zero x.1 y.1
  have h3 := @cmpI_zero x.2.1 y.2.1
  have h5 := @cmpI_zero x.2.2.1 y.2.2.1
  unfold ordP
  split
  · omega
  · split <;> omega
theorem ordP_pos {x y : Pc} : 0 < ordP x y ↔ (y.1 < x.1 ∨ x.1 = y.1 ∧ (y.2.1 < x.2.1 ∨ x.2.1 = y.2.1 ∧ y.2.2.1 < x.2.2.1)) := by
  have h1 := @ordP_neg x y
  have h2 := @ordP_zero x y
  omega

/-- What an order keeps to. -/
structure OrdOk {α : Type} (ord : α → α → Int) : Prop where
  trans : ∀ a b c, ord a b < 0 → ord b c < 0 → ord a c < 0
  eqL : ∀ a b c, ord a b = 0 → ord b c < 0 → ord a c < 0
  flip : ∀ a b, 0 < ord b a ↔ ord a b < 0
  refl : ∀ a, ord a a = 0

theorem ordOkP : OrdOk ordP where
  trans a b c h1 h2 := by rw [ordP_neg] at *; omega
  eqL a b c h1 h2 := by rw [ordP_zero] at h1; rw [ordP_neg] at *; omega
  flip a b := by rw [ordP_neg, ordP_pos]; omega
  refl a := by rw [ordP_zero]; exact ⟨rfl, rfl, rfl⟩
theorem ordOkL : OrdOk ordL where
  trans a b c h1 h2 := by simp only [ordL, cmpI_neg] at *; omega
  eqL a b c h1 h2 := by simp only [ordL, cmpI_neg, cmpI_zero] at *; omega
  flip a b := by simp only [ordL, cmpI_neg, cmpI_pos]
  refl a := by simp only [ordL, cmpI_zero]

section
variable {α : Type} {ord : α → α → Int}

theorem OrdOk.symm (h : OrdOk ord) {a b : α} (e : ord a b = 0) : ord b a = 0 := by
  have h1 := h.flip a b
  have h2 := h.flip b a
  omega
/-- Behind one that is not below, what is above it is above. -/
theorem OrdOk.above (h : OrdOk ord) {x a b : α} (h1 : 0 ≤ ord a x) (h2 : ord a b < 0) : 0 < ord b x := by
  rw [h.flip x b]
  rcases (by omega : ord a x = 0 ∨ 0 < ord a x) with e | e
  · exact h.eqL x a b (h.symm e) h2
  · exact h.trans x a b ((h.flip x a).1 e) h2

/-- Each is above the one ahead of it. -/
def Asc (ord : α → α → Int) (xs : List α) : Prop := xs.Pairwise (fun a b => ord a b < 0)

/-- Whether the element at a place fits, and is above the one ahead of it. -/
def goodAt (fit : α → Bool) (ord : α → α → Int) (xs : List α) (i : Nat) : Bool :=
  match xs[i]? with
  | some x => fit x && (match i with
    | 0 => true
    | j + 1 => match xs[j]? with
      | some y => decide (ord y x < 0)
      | none => true)
  | none => true
/-- Whether a list is in form. -/
def okL (m : Nat) (fit : α → Bool) (ord : α → α → Int) (xs : List α) : Bool := decide (xs.length ≤ m) && (List.range xs.length).all (goodAt fit ord xs)

theorem okL_iff {m : Nat} {fit : α → Bool} {xs : List α} : okL m fit ord xs = true ↔ xs.length ≤ m ∧ ∀ i, i < xs.length → goodAt fit ord xs i = true := by
  simp [okL]
theorem okL_no {m : Nat} {fit : α → Bool} {xs : List α} (i : Nat) (hi : i < xs.length) (h : goodAt fit ord xs i = false) : okL m fit ord xs = false := by
  rw [← Bool.not_eq_true, okL_iff]
  intro hh
  rw [hh.2 i hi] at h
  exact absurd h (by simp)
theorem okL_long {m : Nat} {fit : α → Bool} {xs : List α} (h : m < xs.length) : okL m fit ord xs = false := by
  rw [← Bool.not_eq_true, okL_iff]
  omega

theorem goodAt_zero {fit : α → Bool} {xs : List α} {x : α} (h : xs[0]? = some x) : goodAt fit ord xs 0 = fit x := by simp [goodAt, h]
theorem goodAt_succ {fit : α → Bool} {xs : List α} {x y : α} {j : Nat} (h : xs[j + 1]? = some x) (hy : xs[j]? = some y) : goodAt fit ord xs (j + 1) = (fit x && decide (ord y x < 0)) := by simp [goodAt, h, hy]

theorem ok_len {m : Nat} {fit : α → Bool} {xs : List α} (h : okL m fit ord xs = true) : xs.length ≤ m := (okL_iff.1 h).1
theorem ok_fit {m : Nat} {fit : α → Bool} {xs : List α} (h : okL m fit ord xs = true) : ∀ x ∈ xs, fit x = true := by
  intro x hx
  obtain ⟨i, hi, rfl⟩ := List.mem_iff_getElem.1 hx
  have hg := (okL_iff.1 h).2 i hi
  cases i with
  | zero => rwa [goodAt_zero (List.getElem?_eq_getElem hi)] at hg
  | succ j =>
    rw [goodAt_succ (List.getElem?_eq_getElem hi) (List.getElem?_eq_getElem (by omega)), Bool.and_eq_true] at hg
    exact hg.1

theorem asc_of_next (ho : OrdOk ord) {xs : List α} (h : ∀ j y z, xs[j]? = some y → xs[j + 1]? = some z → ord y z < 0) : Asc ord xs := by
  rw [Asc, List.pairwise_iff_getElem]
  intro i j hi hj hij
  obtain ⟨d, rfl⟩ : ∃ d, j = i + 1 + d := ⟨j - (i + 1), by omega⟩
  induction d with
  | zero => exact h i _ _ (List.getElem?_eq_getElem hi) (List.getElem?_eq_getElem hj)
  | succ d ih => exact ho.trans _ _ _ (ih (by omega) (by omega)) (h (i + 1 + d) _ _ (List.getElem?_eq_getElem (by omega)) (List.getElem?_eq_getElem hj))

theorem ok_asc (ho : OrdOk ord) {m : Nat} {fit : α → Bool} {xs : List α} (h : okL m fit ord xs = true) : Asc ord xs := by
  refine asc_of_next ho (fun j y z hy hz => ?_)
  have hg := (okL_iff.1 h).2 (j + 1) (List.getElem?_eq_some_iff.1 hz).1
  rw [goodAt_succ hz hy, Bool.and_eq_true, decide_eq_true_eq] at hg
  exact hg.2

/-- An element put into its place. -/
def insL (ord : α → α → Int) (xs : List α) (x : α) : List α := xs.filter (fun y => decide (ord y x < 0)) ++ x :: xs.filter (fun y => decide (0 < ord y x))

theorem filter_lo {xs : List α} {x : α} (h : ∀ y ∈ xs, ord y x < 0) : xs.filter (fun y => decide (ord y x < 0)) = xs ∧ xs.filter (fun y => decide (0 < ord y x)) = [] := by
  refine ⟨List.filter_eq_self.2 (fun y hy => by simpa using h y hy), List.filter_eq_nil_iff.2 (fun y hy => ?_)⟩
  have := h y hy
  simp
  omega
theorem ins_len (xs : List α) (x : α) : (insL ord xs x).length ≤ xs.length + 1 := by
  have : ∀ ys : List α, (ys.filter (fun y => decide (ord y x < 0))).length + (ys.filter (fun y => decide (0 < ord y x))).length ≤ ys.length := by
    intro ys
    induction ys with
    | nil => simp
    | cons y ys ih =>
      simp only [List.filter_cons, List.length_cons]
      by_cases h1 : ord y x < 0
      · simp [h1, show ¬ 0 < ord y x by omega]; omega
      · by_cases h2 : 0 < ord y x
        · simp [h1, h2]; omega
        · simp [h1, h2]; omega
  have := this xs
  simp only [insL, List.length_append, List.length_cons]
  omega

theorem ins_asc (ho : OrdOk ord) {xs : List α} {x : α} (hs : Asc ord xs) : Asc ord (insL ord xs x) := by
  rw [Asc, insL, List.pairwise_append, List.pairwise_cons]
  refine ⟨hs.sublist List.filter_sublist, ⟨fun z hz => ?_, hs.sublist List.filter_sublist⟩, fun y hy z hz => ?_⟩
  · have := (List.mem_filter.1 hz).2
    simp at this
    exact (ho.flip x z).1 this
  · have h1 := (List.mem_filter.1 hy).2
    simp at h1
    rcases List.mem_cons.1 hz with rfl | hz
    · exact h1
    · have h2 := (List.mem_filter.1 hz).2
      simp at h2
      exact ho.trans _ _ _ h1 ((ho.flip x z).1 h2)

theorem ins_mem {xs : List α} {x y : α} : y ∈ insL ord xs x ↔ y = x ∨ (y ∈ xs ∧ ord y x ≠ 0) := by
  simp only [insL, List.mem_append, List.mem_cons, List.mem_filter, decide_eq_true_eq]
  constructor
  · rintro (⟨h, h1⟩ | rfl | ⟨h, h1⟩)
    · exact .inr ⟨h, by omega⟩
    · exact .inl rfl
    · exact .inr ⟨h, by omega⟩
  · rintro (rfl | ⟨h, h1⟩)
    · exact .inr (.inl rfl)
    · rcases (by omega : ord y x < 0 ∨ 0 < ord y x) with h2 | h2
      · exact .inl ⟨h, h2⟩
      · exact .inr (.inr ⟨h, h2⟩)

/-- Two ascending lists of the same elements are the same. -/
theorem asc_ext (ho : OrdOk ord) : ∀ {xs ys : List α}, Asc ord xs → Asc ord ys → (∀ z, z ∈ xs ↔ z ∈ ys) → xs = ys
  | [], [], _, _, _ => rfl
  | [], y :: ys, _, _, h => by have := (h y).2 (by simp); simp at this
  | x :: xs, [], _, _, h => by have := (h x).1 (by simp); simp at this
  | x :: xs, y :: ys, h1, h2, h => by
    have p1 := List.pairwise_cons.1 h1
    have p2 := List.pairwise_cons.1 h2
    have irr : ∀ z, ¬ ord z z < 0 := fun z hz => by have := ho.refl z; omega
    have e : x = y := by
      rcases List.mem_cons.1 ((h x).1 (by simp)) with e | e
      · exact e
      · rcases List.mem_cons.1 ((h y).2 (by simp)) with e' | e'
        · exact e'.symm
        · exact absurd (ho.trans _ _ _ (p1.1 y e') (p2.1 x e)) (irr x)
    subst e
    congr 1
    refine asc_ext ho p1.2 p2.2 (fun z => ⟨fun hz => ?_, fun hz => ?_⟩)
    · rcases List.mem_cons.1 ((h z).1 (List.mem_cons_of_mem _ hz)) with rfl | e
      · exact absurd (p1.1 _ hz) (irr _)
      · exact e
    · rcases List.mem_cons.1 ((h z).2 (List.mem_cons_of_mem _ hz)) with rfl | e
      · exact absurd (p2.1 _ hz) (irr _)
      · exact e
end

/-- Whether a number is within bounds. -/
def inI (n lo hi : Int) : Bool := decide (lo ≤ n) && decide (n ≤ hi)
def fitP (x : Pc) : Bool := inI x.1 1 99999 && (inI x.2.1 0 99999 && (inI x.2.2.1 1 99999 && inI x.2.2.2 0 99999))
def fitL (x : Lc) : Bool := inI x.1 0 3 && inI x.2 1 99999
def okP (xs : List Pc) : Bool := okL 60 fitP ordP xs
def okC (xs : List Lc) : Bool := okL 4 fitL ordL xs

end Go.Proofs.Ytdnojnkcmncffaa
