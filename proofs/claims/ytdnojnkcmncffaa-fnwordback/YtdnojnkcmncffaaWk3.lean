/- Contracts and plain facts that this claim leans on (texts BH); no statement of the seat is proved here. -/
import Derived.Test.YtdnojnkcmncffaaWk2
import Derived.Test.YtdnojnkcmncffaaWk1

/- Lists of elements of several cells in memory; what the laws' own helpers do with pieces: contracts; no statement of the seat is proved here. -/
namespace Go.Proofs.Ytdnojnkcmncffaa
open Go.RowKit

section
variable {α : Type} {f : α → List Value} {c : Nat}

theorem fm_len (hf : ∀ x, (f x).length = c) (xs : List α) : (xs.flatMap f).length = xs.length * c := by
  induction xs with
  | nil => simp
  | cons x xs ih => rw [List.flatMap_cons, List.length_append, hf, ih, List.length_cons, Nat.add_mul, Nat.one_mul, Nat.add_comm]

theorem fm_at (hf : ∀ x, (f x).length = c) : ∀ (xs : List α) (i : Nat) (x : α) (j : Nat), xs[i]? = some x → j < c → (xs.flatMap f)[i * c + j]? = (f x)[j]?
  | [], i, x, j, h, _ => by simp at h
  | y :: ys, 0, x, j, h, hj => by
    simp at h
    subst h
    rw [List.flatMap_cons, Nat.zero_mul, Nat.zero_add, List.getElem?_append_left (by rw [hf]; exact hj)]
  | y :: ys, i + 1, x, j, h, hj => by
    have e : (i + 1) * c + j = c + (i * c + j) := by rw [Nat.add_mul]; omega
    rw [List.flatMap_cons, e, List.getElem?_append_right (by rw [hf]; omega), hf, Nat.add_sub_cancel_left]
    exact fm_at hf ys i x j (by simpa using h) hj

theorem fm_ext (hf : ∀ x, (f x).length = c) (hc : 0 < c) (xs : List α) (cs : List Value) (hl : cs.length = xs.length * c) (h : ∀ i x j, xs[i]? = some x → j < c → cs[i * c + j]? = (f x)[j]?) : cs = xs.flatMap f := by
  apply List.ext_getElem?
  intro k
  by_cases hk : k < xs.length * c
  · have hi : k / c < xs.length := (Nat.div_lt_iff_lt_mul hc).2 hk
    obtain ⟨x, hx⟩ := getAt xs (k / c) hi
    have h1 := h (k / c) x (k % c) hx (Nat.mod_lt _ hc)
    have h2 := fm_at hf xs (k / c) x (k % c) hx (Nat.mod_lt _ hc)
    have e : k / c * c + k % c = k := by rw [Nat.mul_comm]; exact Nat.div_add_mod k c
    rw [e] at h1 h2
    rw [h1, h2]
  · rw [List.getElem?_eq_none (by omega), List.getElem?_eq_none (by rw [fm_len hf]; omega)]

theorem fm_one (hf : ∀ x, ∀ u ∈ f x, u.oneCell' = true) (xs : List α) : ∀ u ∈ xs.flatMap f, u.oneCell' = true := by
  intro u hu
  obtain ⟨x, _, h⟩ := List.mem_flatMap.1 hu
  exact hf x u h

/-- The cells of an element, in a later world. -/
theorem el_cell (hf : ∀ x, (f x).length = c) {w wr : World} {b o k : Nat} {xs : List α} {x : α} (hc : ∀ j u, (xs.flatMap f)[j]? = some u → w.cell? ⟨b, o + j, none⟩ = some u) (h : xs[k]? = some x) (hb : Below w.heap.size w wr)
    (j : Nat) (u : Value) (hj : (f x)[j]? = some u) : wr.cell? ⟨b, o + k * c + j, none⟩ = some u ∧ b < w.heap.size := by
  have hjc : j < c := by have := (List.getElem?_eq_some_iff.1 hj).1; rwa [hf] at this
  have g := hc (k * c + j) u (by rw [fm_at hf xs k x j h hjc]; exact hj)
  rw [← Nat.add_assoc] at g
  have l : b < w.heap.size := World.block_lt_of_cell? w _ g
  exact ⟨(hb.cell (p := ⟨b, o + k * c + j, none⟩) l).trans g, l⟩
end

/-- A piece: disk, block, epoch, data. -/
abbrev Pc := Int × Int × Int × Int
def pcell (x : Pc) : List Value := [.int .i64 x.1, .int .i64 x.2.1, .int .i64 x.2.2.1, .int .i64 x.2.2.2]
def pcells (xs : List Pc) : List Value := xs.flatMap pcell
theorem pcell_len (x : Pc) : (pcell x).length = 4 := rfl
theorem pcells_len (xs : List Pc) : (pcells xs).length = xs.length * 4 := fm_len pcell_len xs
theorem pcell_one (x : Pc) : ∀ u ∈ pcell x, u.oneCell' = true := by
  intro u hu
  simp only [pcell, List.mem_cons, List.not_mem_nil, or_false] at hu
  rcases hu with rfl | rfl | rfl | rfl <;> rfl
theorem pcells_one (xs : List Pc) : ∀ u ∈ pcells xs, u.oneCell' = true := fm_one pcell_one xs
theorem pcells_snoc (xs : List Pc) (x : Pc) : pcells (xs ++ [x]) = pcells xs ++ pcell x := by simp [pcells]

theorem pc_cells {w wr : World} {b o k : Nat} {xs : List Pc} {x : Pc} (hc : ∀ j u, (pcells xs)[j]? = some u → w.cell? ⟨b, o + j, none⟩ = some u) (h : xs[k]? = some x) (hb : Below w.heap.size w wr) :
    wr.cell? ⟨b, o + k * 4, none⟩ = some (.int .i64 x.1) ∧ wr.cell? ⟨b, o + k * 4 + 1, none⟩ = some (.int .i64 x.2.1) ∧ wr.cell? ⟨b, o + k * 4 + 2, none⟩ = some (.int .i64 x.2.2.1) ∧ wr.cell? ⟨b, o + k * 4 + 3, none⟩ = some (.int .i64 x.2.2.2) ∧ b < w.heap.size := by
  have g := fun j u => el_cell pcell_len hc h hb j u
  exact ⟨(g 0 _ rfl).1, (g 1 _ rfl).1, (g 2 _ rfl).1, (g 3 _ rfl).1, (g 0 _ rfl).2⟩

set_option maxHeartbeats 400000 in
theorem szBlkPieceS_any (so : Option Addr) (n sc : Nat) (left : Int) (w : World) (hn : n ≤ 9223372036854775807) (h1 : 0 ≤ left) (h2 : left ≤ 1048576) :
    Calls Try.prog 27 #[.slice so n sc, .int .i64 left] w fun e w' => ∃ r, e = .returned (.int .i64 r) ∧ Sized left r n ∧ Below w.heap.size w w' := by
  by_cases hneg : left - n < 0
  · go_enter Try.func27, Try.ntmps27
    go_wp2
    go_ret
    exact ⟨_, rfl, .inl (by omega), Below.refl _ _⟩
  · have hge : 0 ≤ left - n := by omega
    clear hneg
    go_enter Try.func27, Try.ntmps27
    go_wp2
    go_ret
    exact ⟨_, rfl, .inr ⟨rfl, hge⟩, Below.refl _ _⟩

set_option maxHeartbeats 400000 in
theorem toBlkPiece_any (d b p t : Int) (w : World) :
    Calls Try.prog 59 #[.agg #[.int .i64 d, .int .i64 b, .int .i64 p, .int .i64 t]] w fun e w' => e = .returned (.agg #[.int .i64 d, .int .i64 b, .int .i64 p, .int .i64 t]) ∧ Below w.heap.size w w' := by
  go_enter Try.func59, Try.ntmps59
  go_wp2
  exact bodyPost_ret (v := .agg #[.int .i64 d, .int .i64 b, .int .i64 p, .int .i64 t]) (by simp [results, Try.results59, go_sem]) rfl ⟨rfl, (((Below.refl _ _).alloc (Nat.le_refl _) _).alloc (by simp) _).alloc (by simp; omega) _⟩

theorem infoPc : (Try.prog.info? 83).map (fun i => (i.zero, i.size, i.bytes)) = some (some (.agg #[.int .i64 0, .int .i64 0, .int .i64 0, .int .i64 0]), 4, 32) := by kernel_rfl

/-- Four cells of a row, written one behind the other. -/
theorem set4 {cur : Array Value} {j k : Nat} (x y z t : Value) (hk : k * 4 + 3 < cur.size) :
    let c := (((cur.setIfInBounds (k * 4) x).setIfInBounds (k * 4 + 1) y).setIfInBounds (k * 4 + 2) z).setIfInBounds (k * 4 + 3) t
    (j = k → c[j * 4]? = some x ∧ c[j * 4 + 1]? = some y ∧ c[j * 4 + 2]? = some z ∧ c[j * 4 + 3]? = some t) ∧ (j ≠ k → c[j * 4]? = cur[j * 4]? ∧ c[j * 4 + 1]? = cur[j * 4 + 1]? ∧ c[j * 4 + 2]? = cur[j * 4 + 2]? ∧ c[j * 4 + 3]? = cur[j * 4 + 3]?) := by
  refine ⟨?_, fun h => ?_⟩
  · rintro rfl
    refine ⟨?_, ?_, ?_, ?_⟩
    · rw [Array.getElem?_setIfInBounds_ne (by omega), Array.getElem?_setIfInBounds_ne (by omega), Array.getElem?_setIfInBounds_ne (by omega), Array.getElem?_setIfInBounds_self_of_lt (by omega)]
    · rw [Array.getElem?_setIfInBounds_ne (by omega), Array.getElem?_setIfInBounds_ne (by omega), Array.getElem?_setIfInBounds_self_of_lt (by simp; omega)]
    · rw [Array.getElem?_setIfInBounds_ne (by omega), Array.getElem?_setIfInBounds_self_of_lt (by simp; omega)]
    · rw [Array.getElem?_setIfInBounds_self_of_lt (by simp; omega)]
  · refine ⟨?_, ?_, ?_, ?_⟩ <;> rw [Array.getElem?_setIfInBounds_ne (by omega), Array.getElem?_setIfInBounds_ne (by omega), Array.getElem?_setIfInBounds_ne (by omega), Array.getElem?_setIfInBounds_ne (by omega)]

/-- A list of cells that holds pieces at every place is theirs. -/
theorem pcells_ext (xs : List Pc) (cs : List Value) (hl : cs.length = xs.length * 4) (h : ∀ j x, xs[j]? = some x → cs[j * 4]? = some (.int .i64 x.1) ∧ cs[j * 4 + 1]? = some (.int .i64 x.2.1) ∧ cs[j * 4 + 2]? = some (.int .i64 x.2.2.1) ∧ cs[j * 4 + 3]? = some (.int .i64 x.2.2.2)) : cs = pcells xs := by
  refine fm_ext pcell_len (by omega) xs cs hl (fun i x j hx hj => ?_)
  obtain ⟨h0, h1, h2, h3⟩ := h i x hx
  rcases (by omega : j = 0 ∨ j = 1 ∨ j = 2 ∨ j = 3) with rfl | rfl | rfl | rfl
  · exact h0
  · exact h1
  · exact h2
  · exact h3

set_option maxHeartbeats 2000000 in
theorem toBlkPieceS_any (v : Value) (n : Nat) (ss : List Pc) (w : World) (hr : RowR w 4 v n (pcells ss)) (hn : n ≤ 1048576) :
    Calls Try.prog 37 #[v] w fun e w' => ∃ so', e = .returned (.slice so' n n) ∧ Row w' 83 4 (fun k => w.heap.size ≤ k) (.slice so' n n) n (pcells ss) ∧ Below w.heap.size w w' := by
  obtain ⟨ao, cap, rfl, hn', hl, hr⟩ := hr
  rw [pcells_len] at hl
  have Hl := hide hl
  clear hl
  have hmk := run_make_row2 (P := Try.prog) 31 83 (.agg #[.int .i64 0, .int .i64 0, .int .i64 0, .int .i64 0]) 4 32 Try.underlying31 infoPc .i64 .i64 n (by omega) (by omega)
  go_enter Try.func37, Try.ntmps37
  go_wp2
  clear hmk
  go_loopw [4] (fun i wr => ∃ (k : Nat) (cur : Array Value), k ≤ n ∧ i = .int .i64 k ∧ wr.heap[w.heap.size]? = some (.cells cur 83 (0, 0)) ∧ cur.size = n * 4 ∧ (∀ j x, j < k → ss[j]? = some x → cur[j * 4]? = some (.int .i64 x.1) ∧ cur[j * 4 + 1]? = some (.int .i64 x.2.1) ∧ cur[j * 4 + 2]? = some (.int .i64 x.2.2.1) ∧ cur[j * 4 + 3]? = some (.int .i64 x.2.2.2)) ∧ Below w.heap.size w wr) (fun i _ => n - (intOf i).toNat)
  case atStart => exact ⟨0, _, Nat.zero_le _, rfl, heap_alloc_new w _, size_madeCells _ _, fun j s hj => by omega, (Below.refl _ _).alloc (Nat.le_refl _) _⟩
  case round =>
    obtain ⟨k, cur, hk, rfl, hg, hcs, hmk, hbel⟩ := hrel
    have HM := hide hmk
    have HC := hide hcs
    have hcs' : n * 4 ≤ cur.size := by omega
    clear hmk hcs
    by_cases hlt : k < n
    · obtain ⟨b1, o1, rfl, hc1⟩ := hr (by omega)
      obtain ⟨⟨d, b, p, t⟩, hs⟩ := getAt ss k (by have := Hl.out; omega)
      have Hs := hide hs
      obtain ⟨f0, f1, f2, f3, l1⟩ := pc_cells hc1 hs hbel
      have hi : (k : Int) < (n : Int) := by omega
      have hk3 : k * 4 + 3 < cur.size := by omega
      obtain ⟨u, hu⟩ : ∃ u, cur[k * 4]? = some u := ⟨cur[k * 4]'(by omega), by simp [show k * 4 < cur.size by omega]⟩
      obtain ⟨u2, hu2⟩ : ∃ u, cur[k * 4 + 1]? = some u := ⟨cur[k * 4 + 1]'(by omega), by simp [show k * 4 + 1 < cur.size by omega]⟩
      obtain ⟨u3, hu3⟩ : ∃ u, cur[k * 4 + 2]? = some u := ⟨cur[k * 4 + 2]'(by omega), by simp [show k * 4 + 2 < cur.size by omega]⟩
      obtain ⟨u4, hu4⟩ : ∃ u, cur[k * 4 + 3]? = some u := ⟨cur[k * 4 + 3]'(by omega), by simp [show k * 4 + 3 < cur.size by omega]⟩
      have Hg := hide hg
      clear hr hc1 hs hg
      go_wp2_with fail
      refine (toBlkPiece_any d b p t _).mono ?_
      rintro e w1 ⟨rfl, hb1⟩
      have hg := bKeeps hb1 Hg.out
      have hcw : w1.cell? ⟨w.heap.size, k * 4, none⟩ = some u := (cell_of_row w1 _ _ cur _ (0, 0) hg).trans hu
      have hcw2 : w1.cell? ⟨w.heap.size, k * 4 + 1, none⟩ = some u2 := (cell_of_row w1 _ _ cur _ (0, 0) hg).trans hu2
      have hcw3 : w1.cell? ⟨w.heap.size, k * 4 + 2, none⟩ = some u3 := (cell_of_row w1 _ _ cur _ (0, 0) hg).trans hu3
      have hcw4 : w1.cell? ⟨w.heap.size, k * 4 + 3, none⟩ = some u4 := (cell_of_row w1 _ _ cur _ (0, 0) hg).trans hu4
      have hfw : w1.frozen? ⟨w.heap.size, k * 4, none⟩ = false := frozen_of_row w1 _ _ cur _ hg
      have hfw2 : w1.frozen? ⟨w.heap.size, k * 4 + 1, none⟩ = false := frozen_of_row w1 _ _ cur _ hg
      have hfw3 : w1.frozen? ⟨w.heap.size, k * 4 + 2, none⟩ = false := frozen_of_row w1 _ _ cur _ hg
      have hfw4 : w1.frozen? ⟨w.heap.size, k * 4 + 3, none⟩ = false := frozen_of_row w1 _ _ cur _ hg
      have Hg1 := hide hg
      clear hg hu hu2 hu3 hu4
      go_wp2
      go_roundw
      case rel =>
        refine ⟨k + 1, _, by omega, by go_num, row_set _ (row_set _ (row_set _ (row_set _ Hg1.out))), by simpa using HC.out, fun j x hj hx => ?_, ((((bAll hbel hb1).setCell (p := ⟨w.heap.size, k * 4, none⟩) (Nat.le_refl _) _).setCell (p := ⟨w.heap.size, k * 4 + 1, none⟩) (Nat.le_refl _) _).setCell (p := ⟨w.heap.size, k * 4 + 2, none⟩) (Nat.le_refl _) _).setCell (p := ⟨w.heap.size, k * 4 + 3, none⟩) (Nat.le_refl _) _⟩
        have h3 := set4 (cur := cur) (j := j) (k := k) (.int .i64 d) (.int .i64 b) (.int .i64 p) (.int .i64 t) hk3
        by_cases hjk : j = k
        · have h4 := h3.1 hjk
          subst hjk
          rw [Hs.out] at hx
          obtain rfl := Option.some.inj hx
          exact h4
        · have h4 := h3.2 hjk
          have h5 := HM.out j x (by omega) hx
          exact ⟨h4.1.trans h5.1, h4.2.1.trans h5.2.1, h4.2.2.1.trans h5.2.2.1, h4.2.2.2.trans h5.2.2.2⟩
      case measure => simp [intOf]; omega
    · go_wp2
      go_ret
      obtain rfl : k = n := by omega
      refine ⟨_, rfl, ⟨_, _, rfl, hn', by rw [pcells_len]; rw [← Hl.out], fun _ => ⟨_, cur, rfl, Nat.le_refl _, hg, ?_⟩⟩, hbel⟩
      have hl := Hl.out
      have hc := HC.out
      refine pcells_ext ss _ (by simp; omega) (fun j x hx => ?_)
      have hj := (List.getElem?_eq_some_iff.1 hx).1
      rw [List.getElem?_take_of_lt (by omega), List.getElem?_take_of_lt (by omega), List.getElem?_take_of_lt (by omega), List.getElem?_take_of_lt (by omega)]
      simpa using HM.out j x (by omega) hx

set_option maxHeartbeats 400000 in
theorem eqBlkPiece_true (x : Pc) (w : World) :
    Calls Try.prog 62 #[.agg #[.int .i64 x.1, .int .i64 x.2.1, .int .i64 x.2.2.1, .int .i64 x.2.2.2], .agg #[.int .i64 x.1, .int .i64 x.2.1, .int .i64 x.2.2.1, .int .i64 x.2.2.2]] w fun e w' => e = .returned (.bool true) ∧ Below w.heap.size w w' := by
  obtain ⟨d, b, p, t⟩ := x
  go_enter Try.func62, Try.ntmps62
  go_wp2
  go_ret
  exact ⟨rfl, ((Below.refl _ _).alloc (Nat.le_refl _) _).alloc (by simp) _⟩

set_option maxHeartbeats 400000 in
theorem eqBlkPieceS_true (va vb : Value) (n : Nat) (xs : List Pc) (w : World) (ha : RowR w 4 va n (pcells xs)) (hb : RowR w 4 vb n (pcells xs)) :
    Calls Try.prog 41 #[va, vb] w fun e w' => e = .returned (.bool true) ∧ Below w.heap.size w w' := by
  obtain ⟨ao, ca, rfl, hn, hl, ha⟩ := ha
  obtain ⟨bo, cb, rfl, _, _, hb⟩ := hb
  rw [pcells_len] at hl
  go_enter Try.func41, Try.ntmps41
  go_wp2
  go_loopw [5] (fun i wr => ∃ k : Nat, k ≤ n ∧ i = .int .i64 k ∧ Below w.heap.size w wr) (fun i _ => n - (intOf i).toNat)
  case atStart => exact ⟨0, Nat.zero_le _, rfl, Below.refl _ _⟩
  case round =>
    obtain ⟨k, hk, rfl, hbel⟩ := hrel
    by_cases hlt : k < n
    · obtain ⟨b1, o1, rfl, hc1⟩ := ha (by omega)
      obtain ⟨b2, o2, rfl, hc2⟩ := hb (by omega)
      obtain ⟨x, hx⟩ := getAt xs k (by omega)
      obtain ⟨f0, f1, f2, f3, l1⟩ := pc_cells hc1 hx hbel
      obtain ⟨g0, g1, g2, g3, l2⟩ := pc_cells hc2 hx hbel
      obtain ⟨d, b, p, t⟩ := x
      have hi : (k : Int) < (n : Int) := by omega
      clear ha hb hc1 hc2 hx hl
      go_wp2
      go_region_with (go_at_call 62; refine (eqBlkPiece_true (d, b, p, t) _).mono ?_; rintro e w1 ⟨rfl, hbm⟩; have hbm' : Below wr.heap.size wr w1 := bUndrew hbm)
      all_goals
        go_wp2
        go_roundw
        case rel => exact ⟨k + 1, by omega, by go_num, bAllTo hbel hbm'⟩
        case measure => simp [intOf]; omega
    · go_wp2
      go_ret
      exact ⟨rfl, hbel⟩

/-- The marks of n pieces from k on. -/
def mkP (k n : Nat) : List Pc := (List.range n).map fun i => ((k + i * 4 : Nat), (k + i * 4 + 1 : Nat), (k + i * 4 + 2 : Nat), (k + i * 4 + 3 : Nat))
theorem mkP_len (k n : Nat) : (mkP k n).length = n := by simp [mkP]
theorem mkP_get (k n i : Nat) (h : i < n) : (mkP k n)[i]? = some (((k + i * 4 : Nat) : Int), ((k + i * 4 + 1 : Nat) : Int), ((k + i * 4 + 2 : Nat) : Int), ((k + i * 4 + 3 : Nat) : Int)) := by simp [mkP, h]

set_option maxHeartbeats 2000000 in
theorem markBlkPieceS_any (S : Nat → Prop) (v : Value) (n : Nat) (cs : List Value) (k0 : Nat) (w : World) (hr : Row w 83 4 S v n cs) (h1 : 1 ≤ k0) (h2 : k0 + n * 4 ≤ 1099511627776) :
    Calls Try.prog 45 #[v, .int .i64 k0] w fun e w' => e = .returned (.int .i64 (k0 + n * 4 : Nat)) ∧ Row w' 83 4 S v n (pcells (mkP k0 n)) ∧ Upd S w w' := by
  obtain ⟨ao, cap, rfl, hn, hl, hr⟩ := hr
  rcases Nat.eq_zero_or_pos n with rfl | hpos
  · go_enter Try.func45, Try.ntmps45
    go_wp2
    refine wp_loop_rounds 1 ?_
    rw [rounds_succ]
    go_wp2
    go_ret
    exact ⟨rfl, ⟨ao, cap, rfl, hn, by simp [mkP, pcells], fun h => by omega⟩, Upd.refl _ _⟩
  · obtain ⟨g, cur, rfl, hS, hg, ht⟩ := hr hpos
    have hcs : n * 4 ≤ cur.size := by
      have := congrArg List.length ht
      simp [hl] at this
      omega
    clear hr ht hl
    go_enter Try.func45, Try.ntmps45
    go_wp2
    go_loopw [1, 5] (fun kv i wr => ∃ (k m : Nat) (cur' : Array Value), k ≤ n ∧ m = k0 + k * 4 ∧ i = .int .i64 k ∧ kv = .int .i64 (m : Nat) ∧ wr.heap[g]? = some (.cells cur' 83 (0, 0)) ∧ cur'.size = cur.size ∧ (∀ j, j < k → cur'[j * 4]? = some (.int .i64 (k0 + j * 4 : Nat)) ∧ cur'[j * 4 + 1]? = some (.int .i64 (k0 + j * 4 + 1 : Nat)) ∧ cur'[j * 4 + 2]? = some (.int .i64 (k0 + j * 4 + 2 : Nat)) ∧ cur'[j * 4 + 3]? = some (.int .i64 (k0 + j * 4 + 3 : Nat))) ∧ Upd S w wr) (fun _ i _ => n - (intOf i).toNat)
    case atStart => exact ⟨0, k0, cur, Nat.zero_le _, rfl, rfl, rfl, hg, rfl, fun j hj => by omega, Upd.refl _ _⟩
    case round =>
      obtain ⟨k, m, cur', hk, hm, rfl, rfl, hgr, hsz, hmk, hup⟩ := hrel
      have Hm := hide hm
      have hm2 : (m : Int) ≤ 1099511627776 := by omega
      clear hm
      have HM := hide hmk
      have HZ := hide hsz
      have hsz' : n * 4 ≤ cur'.size := by omega
      clear hmk hsz
      by_cases hlt : k < n
      · have hi : (k : Int) < (n : Int) := by omega
        have hk3 : k * 4 + 3 < cur'.size := by omega
        obtain ⟨u, hu⟩ : ∃ u, cur'[k * 4]? = some u := ⟨cur'[k * 4]'(by omega), by simp [show k * 4 < cur'.size by omega]⟩
        obtain ⟨u2, hu2⟩ : ∃ u, cur'[k * 4 + 1]? = some u := ⟨cur'[k * 4 + 1]'(by omega), by simp [show k * 4 + 1 < cur'.size by omega]⟩
        obtain ⟨u3, hu3⟩ : ∃ u, cur'[k * 4 + 2]? = some u := ⟨cur'[k * 4 + 2]'(by omega), by simp [show k * 4 + 2 < cur'.size by omega]⟩
        obtain ⟨u4, hu4⟩ : ∃ u, cur'[k * 4 + 3]? = some u := ⟨cur'[k * 4 + 3]'(by omega), by simp [show k * 4 + 3 < cur'.size by omega]⟩
        have hcw : wr.cell? ⟨g, k * 4, none⟩ = some u := (cell_of_row wr _ _ cur' _ (0, 0) hgr).trans hu
        have hcw2 : wr.cell? ⟨g, k * 4 + 1, none⟩ = some u2 := (cell_of_row wr _ _ cur' _ (0, 0) hgr).trans hu2
        have hcw3 : wr.cell? ⟨g, k * 4 + 2, none⟩ = some u3 := (cell_of_row wr _ _ cur' _ (0, 0) hgr).trans hu3
        have hcw4 : wr.cell? ⟨g, k * 4 + 3, none⟩ = some u4 := (cell_of_row wr _ _ cur' _ (0, 0) hgr).trans hu4
        have hfw : wr.frozen? ⟨g, k * 4, none⟩ = false := frozen_of_row wr _ _ cur' _ hgr
        have hfw2 : wr.frozen? ⟨g, k * 4 + 1, none⟩ = false := frozen_of_row wr _ _ cur' _ hgr
        have hfw3 : wr.frozen? ⟨g, k * 4 + 2, none⟩ = false := frozen_of_row wr _ _ cur' _ hgr
        have hfw4 : wr.frozen? ⟨g, k * 4 + 3, none⟩ = false := frozen_of_row wr _ _ cur' _ hgr
        have Hg := hide hgr
        clear hgr hu hu2 hu3 hu4
        go_wp2
        go_roundw
        case rel =>
          refine ⟨k + 1, m + 4, _, by omega, by rw [Hm.out]; omega, by go_num, by go_num, row_set _ (row_set _ (row_set _ (row_set _ Hg.out))), by simpa using HZ.out, fun j hj => ?_, (((hup.trans (Upd.setCell _ _ _ _ hS)).trans (Upd.setCell _ _ _ _ hS)).trans (Upd.setCell _ _ _ _ hS)).trans (Upd.setCell _ _ _ _ hS)⟩
          have h3 := set4 (cur := cur') (j := j) (k := k) (.int .i64 m) (.int .i64 (m + 1)) (.int .i64 (m + 1 + 1)) (.int .i64 (m + 1 + 1 + 1)) hk3
          by_cases hjk : j = k
          · have h4 := h3.1 hjk
            subst hjk
            have := Hm.out
            subst this
            refine ⟨h4.1.trans ?_, h4.2.1.trans ?_, h4.2.2.1.trans ?_, h4.2.2.2.trans ?_⟩ <;> (congr 2 <;> omega)
          · have h4 := h3.2 hjk
            have h5 := HM.out j (by omega)
            exact ⟨h4.1.trans h5.1, h4.2.1.trans h5.2.1, h4.2.2.1.trans h5.2.2.1, h4.2.2.2.trans h5.2.2.2⟩
        case measure => simp [intOf]; omega
      · go_wp2
        go_ret
        obtain rfl : k = n := by omega
        refine ⟨by rw [Hm.out]; rfl, ⟨_, cap, rfl, hn, by rw [pcells_len, mkP_len], fun _ => ⟨g, cur', rfl, hS, hgr, ?_⟩⟩, hup⟩
        have hz := HZ.out
        refine pcells_ext _ _ (by rw [mkP_len]; simp; omega) (fun j x hx => ?_)
        have hj := (List.getElem?_eq_some_iff.1 hx).1
        rw [mkP_len] at hj
        rw [mkP_get _ _ _ hj] at hx
        obtain rfl := Option.some.inj hx
        rw [List.getElem?_take_of_lt (by omega), List.getElem?_take_of_lt (by omega), List.getElem?_take_of_lt (by omega), List.getElem?_take_of_lt (by omega)]
        simpa using HM.out j hj

set_option maxHeartbeats 2000000 in
theorem heldBlkPieceS_ok (v : Value) (n k0 : Nat) (w : World) (hr : RowR w 4 v n (pcells (mkP k0 n))) (h1 : 1 ≤ k0) (h2 : k0 + n * 4 ≤ 1099511627776) :
    Calls Try.prog 50 #[v, .int .i64 k0] w fun e w' => e = .returned (.int .i64 (k0 + n * 4 : Nat)) ∧ Below w.heap.size w w' := by
  obtain ⟨ao, cap, rfl, hn, hl, hr⟩ := hr
  clear hl
  go_enter Try.func50, Try.ntmps50
  go_wp2
  go_loopw [1, 5] (fun kv i wr => ∃ k m : Nat, k ≤ n ∧ m = k0 + k * 4 ∧ i = .int .i64 k ∧ kv = .int .i64 (m : Nat) ∧ Below w.heap.size w wr) (fun _ i _ => n - (intOf i).toNat)
  case atStart => exact ⟨0, k0, Nat.zero_le _, rfl, rfl, rfl, Below.refl _ _⟩
  case round =>
    obtain ⟨k, m, hk, hm, rfl, rfl, hbel⟩ := hrel
    have Hm : Hid (m = k0 + k * 4) := hm
    have hm2 : (m : Int) ≤ 1099511627776 := by omega
    clear hm
    by_cases hlt : k < n
    · obtain ⟨b1, o1, rfl, hc1⟩ := hr (by omega)
      obtain ⟨f0, f1, f2, f3, l1⟩ := pc_cells hc1 (mkP_get k0 n k hlt) hbel
      rw [← Hm.out] at f0 f1 f2 f3
      simp only [Int.natCast_add, Int.natCast_one] at f1 f2 f3
      have hi : (k : Int) < (n : Int) := by omega
      have e2 : ((m : Int) + ((2 : Nat) : Int)) = (m : Int) + 1 + 1 := by omega
      have e3 : ((m : Int) + ((3 : Nat) : Int)) = (m : Int) + 1 + 1 + 1 := by omega
      rw [e2] at f2
      rw [e3] at f3
      clear hr hc1 e2 e3
      go_wp2
      go_roundw
      case rel => exact ⟨k + 1, m + 4, by omega, by rw [Hm.out]; omega, by go_num, by go_num, hbel⟩
      case measure => simp [intOf]; omega
    · go_wp2
      go_ret
      obtain rfl : k = n := by omega
      exact ⟨by rw [Hm.out]; rfl, hbel⟩

end Go.Proofs.Ytdnojnkcmncffaa
