/- Contracts and plain facts that this claim leans on (texts FW1, ST1, MG, MKV, FW6); no statement of the seat is proved here. -/
import Derived.Deep.DeepCutAuto
import Derived.Test.YteddhdbglciahaaTk2
import Derived.Test.YteddhdbglciahaaTk1

/- Rows of words that bear no lists: compared, marked, held: contracts; no statement of the seat is proved here. (Written by wip/tools/mkfw.py.) -/
namespace Go.Proofs.Yteddhdbglciahaa
open Go.RowKit

/-- A word without lists, as cells; rows of such. -/
def fwarr (x : Wd) : Array Value := (#[.int .i64 x.a0, .int .i64 x.a1, .int .i64 x.a2, .int .i64 x.a3, .int .i64 x.a4, .int .i64 x.a5, .int .i64 x.c0, .int .i64 x.c1, .int .i64 x.c2, .int .i64 x.c3, .int .i64 x.c4, .int .i64 x.c5, .int .i64 x.c6, .int .i64 x.c7, .int .i64 x.c8, .int .i64 x.c9, .int .i64 x.b0, .int .i64 x.b1, .int .i64 x.b2, .int .i64 x.b3, .int .i64 x.b4, .int .i64 x.b5, .int .i64 x.b6, .int .i64 x.b7, .slice none 0 0, .slice none 0 0] : Array Value)
def fwcell (x : Wd) : List Value := (fwarr x).toList
def fwcells (xs : List Wd) : List Value := xs.flatMap fwcell
theorem fwcell_len (x : Wd) : (fwcell x).length = 26 := rfl
theorem fwcells_len (xs : List Wd) : (fwcells xs).length = xs.length * 26 := fm_len fwcell_len xs
theorem fw_at {w wr : World} {b o k : Nat} {xs : List Wd} {p : Wd} (hc : ∀ j u, (fwcells xs)[j]? = some u → w.cell? ⟨b, o + j, none⟩ = some u) (h : xs[k]? = some p) (hb : Below w.heap.size w wr) :
    ∀ j u, (fwarr p)[j]? = some u → wr.cell? ⟨b, o + k * 26 + j, none⟩ = some u :=
  fun j u hj => (el_cell fwcell_len hc h hb j u (by simpa [fwcell] using hj)).1
theorem fwcells_ext (xs : List Wd) (cs : List Value) (hl : cs.length = xs.length * 26) (h : ∀ j p, xs[j]? = some p → ∀ r u, (fwarr p)[r]? = some u → cs[j * 26 + r]? = some u) : cs = fwcells xs := by
  apply List.ext_getElem?
  intro i
  by_cases hi : i < xs.length * 26
  · have hj : i / 26 < xs.length := by omega
    obtain ⟨p, hp⟩ := getAt xs (i / 26) hj
    have hr : i % 26 < (fwarr p).size := by show _ < 26; omega
    have g := h (i / 26) p hp (i % 26) _ (Array.getElem?_eq_getElem hr)
    have e : i / 26 * 26 + i % 26 = i := by omega
    rw [e] at g
    have f := fm_at fwcell_len xs (i / 26) p (i % 26) hp (by omega)
    rw [e] at f
    rw [g]
    show _ = (xs.flatMap fwcell)[i]?
    rw [f]
    simp [fwcell]
  · rw [List.getElem?_eq_none (by omega), List.getElem?_eq_none (by rw [fwcells_len]; omega)]

/-- Marks that are written one behind the other: so far. -/
structure MkI (V : World) (g : Nat) (cur0 : Array Value) (b c m : Nat) (t : TypeId) : Prop where
  ex : ∃ cur, V.heap[g]? = some (.cells cur t (0, 0)) ∧ cur.size = cur0.size ∧ (∀ r, r < c → cur[b + r]? = some (.int .i64 ((m + r : Nat) : Int))) ∧ ∀ i, i < b ∨ b + c ≤ i → cur[i]? = cur0[i]?
theorem MkI.cell {V : World} {g : Nat} {cur0 : Array Value} {b c m : Nat} {t : TypeId} (h : MkI V g cur0 b c m t) (hb : b + c < cur0.size) : ∃ u, V.cell? ⟨g, b + c, none⟩ = some u := by
  obtain ⟨cur, h1, h2, -, -⟩ := h.ex
  exact ⟨cur[b + c]'(by omega), (cell_of_row V _ _ cur _ (0, 0) h1).trans (by simp [show b + c < cur.size by omega])⟩
theorem MkI.fz {V : World} {g : Nat} {cur0 : Array Value} {b c m : Nat} {t : TypeId} {o : Nat} (h : MkI V g cur0 b c m t) : V.frozen? ⟨g, o, none⟩ = false := by
  obtain ⟨cur, h1, -, -, -⟩ := h.ex
  exact frozen_of_row V _ _ cur _ h1
theorem MkI.step {V : World} {g : Nat} {cur0 : Array Value} {b c m : Nat} {t : TypeId} (h : MkI V g cur0 b c m t) (hb : b + c < cur0.size) (V' : World) {z : Int} (e : V.setCell ⟨g, b + c, none⟩ (.int .i64 z) = V') (hz : z = ((m + c : Nat) : Int)) : MkI V' g cur0 b (c + 1) m t := by
  obtain ⟨cur, h1, h2, h3, h4⟩ := h.ex
  subst e hz
  refine ⟨_, row_set _ h1, by simpa using h2, fun r hr => ?_, fun i hi => ?_⟩
  · by_cases hrc : r = c
    · subst hrc
      rw [Array.getElem?_setIfInBounds_self_of_lt (by omega)]
    · rw [Array.getElem?_setIfInBounds_ne (by omega)]
      exact h3 r (by omega)
  · rw [Array.getElem?_setIfInBounds_ne (by omega)]
    exact h4 i (by omega)

/-- The marks of words without lists. -/
def mkFw (m : Nat) : Wd := { a0 := ((m + 0 : Nat) : Int), a1 := ((m + 1 : Nat) : Int), a2 := ((m + 2 : Nat) : Int), a3 := ((m + 3 : Nat) : Int), a4 := ((m + 4 : Nat) : Int), a5 := ((m + 5 : Nat) : Int), c0 := ((m + 6 : Nat) : Int), c1 := ((m + 7 : Nat) : Int), c2 := ((m + 8 : Nat) : Int), c3 := ((m + 9 : Nat) : Int), c4 := ((m + 10 : Nat) : Int), c5 := ((m + 11 : Nat) : Int), c6 := ((m + 12 : Nat) : Int), c7 := ((m + 13 : Nat) : Int), c8 := ((m + 14 : Nat) : Int), c9 := ((m + 15 : Nat) : Int), b0 := ((m + 16 : Nat) : Int), b1 := ((m + 17 : Nat) : Int), b2 := ((m + 18 : Nat) : Int), b3 := ((m + 19 : Nat) : Int), b4 := ((m + 20 : Nat) : Int), b5 := ((m + 21 : Nat) : Int), b6 := ((m + 22 : Nat) : Int), b7 := ((m + 23 : Nat) : Int), ps := [], ls := [] }
def mkF (k n : Nat) : List Wd := (List.range n).map fun i => mkFw (k + i * 24)
theorem mkF_len (k n : Nat) : (mkF k n).length = n := by simp [mkF]
theorem mkF_get (k n i : Nat) (h : i < n) : (mkF k n)[i]? = some (mkFw (k + i * 24)) := by simp [mkF, h]
set_option maxRecDepth 10000 in
theorem mkFw_at (m r : Nat) (h : r < 24) : (fwarr (mkFw m))[r]? = some (.int .i64 ((m + r : Nat) : Int)) := by
  rcases (by omega : r = 0 ∨ r = 1 ∨ r = 2 ∨ r = 3 ∨ r = 4 ∨ r = 5 ∨ r = 6 ∨ r = 7 ∨ r = 8 ∨ r = 9 ∨ r = 10 ∨ r = 11 ∨ r = 12 ∨ r = 13 ∨ r = 14 ∨ r = 15 ∨ r = 16 ∨ r = 17 ∨ r = 18 ∨ r = 19 ∨ r = 20 ∨ r = 21 ∨ r = 22 ∨ r = 23) with rfl | rfl | rfl | rfl | rfl | rfl | rfl | rfl | rfl | rfl | rfl | rfl | rfl | rfl | rfl | rfl | rfl | rfl | rfl | rfl | rfl | rfl | rfl | rfl <;> rfl
set_option maxRecDepth 100000 in
set_option maxHeartbeats 32000000 in
theorem markWordS_any (S : Nat → Prop) (v : Value) (n : Nat) (xs : List Wd) (k0 : Nat) (w : World) (hr : Row w 47 26 S v n (fwcells xs)) (hxl : xs.length = n) (_h1 : 1 ≤ k0) (h2 : k0 + n * 24 ≤ 1099511627776) :
    Calls Try.prog 18 #[v, .int .i64 k0] w fun e w' => e = .returned (.int .i64 (k0 + n * 24 : Nat)) ∧ Row w' 47 26 S v n (fwcells (mkF k0 n)) ∧ Upd S w w' := by
  obtain ⟨ao, cap, rfl, hn, hl, hr⟩ := hr
  rcases Nat.eq_zero_or_pos n with rfl | hpos
  · go_enter Try.func18, Try.ntmps18
    go_wp2
    refine wp_loop_rounds 1 ?_
    rw [rounds_succ]
    go_wp2
    go_ret
    exact ⟨rfl, ⟨ao, cap, rfl, hn, by simp [mkF, fwcells], fun h => by omega⟩, Upd.refl _ _⟩
  · obtain ⟨g, cur, rfl, hS, hg, ht⟩ := hr hpos
    have hcs : n * 26 ≤ cur.size := by
      have := congrArg List.length ht
      simp [hl] at this
      omega
    have hSl : ∀ j, j < n → cur[j * 26 + 24]? = some (.slice none 0 0) ∧ cur[j * 26 + 25]? = some (.slice none 0 0) := by
      intro j hj
      obtain ⟨x, hx⟩ := getAt xs j (by omega)
      have f24 := fm_at fwcell_len xs j x 24 hx (by omega)
      have f25 := fm_at fwcell_len xs j x 25 hx (by omega)
      have ht' : cur.toList.take (n * 26) = xs.flatMap fwcell := ht
      rw [← ht', List.getElem?_take_of_lt (by omega)] at f24 f25
      rw [show (fwcell x)[24]? = some (.slice none 0 0) from rfl] at f24
      rw [show (fwcell x)[25]? = some (.slice none 0 0) from rfl] at f25
      exact ⟨by simpa using f24, by simpa using f25⟩
    have HSL := hide hSl
    clear hr ht hl hSl
    go_enter Try.func18, Try.ntmps18
    go_wp2
    go_loopw [1, 5] (fun kv i wr => ∃ (k m : Nat) (cur' : Array Value), k ≤ n ∧ m = k0 + k * 24 ∧ i = .int .i64 k ∧ kv = .int .i64 (m : Nat) ∧ wr.heap[g]? = some (.cells cur' 47 (0, 0)) ∧ cur'.size = cur.size ∧ (∀ j r, j < k → r < 24 → cur'[j * 26 + r]? = some (.int .i64 (k0 + j * 24 + r : Nat))) ∧ (∀ j, j < n → cur'[j * 26 + 24]? = some (.slice none 0 0) ∧ cur'[j * 26 + 25]? = some (.slice none 0 0)) ∧ Upd S w wr) (fun _ i _ => n - (intOf i).toNat)
    case atStart => exact ⟨0, k0, cur, Nat.zero_le _, rfl, rfl, rfl, hg, rfl, fun j r hj => by omega, HSL.out, Upd.refl _ _⟩
    case round =>
      obtain ⟨k, m, cur', hk, hm, rfl, rfl, hgr, hsz, hmk, hsl, hup⟩ := hrel
      have Hm := hide hm
      have hm2 : (m : Int) ≤ 1099511627776 := by omega
      have hm3 : ((m + 24 : Nat) : Int) ≤ 1099511627776 ∨ k = n := by omega
      clear hm
      have HM := hide hmk
      have HL := hide hsl
      have HZ := hide hsz
      have hsz' : n * 26 ≤ cur'.size := by omega
      clear hmk hsz hsl
      by_cases hlt : k < n
      · have hi : (k : Int) < (n : Int) := by omega
        have hk3 : k * 26 + 26 ≤ cur'.size := by omega
        have I0 : MkI wr g cur' (k * 26) 0 m 47 := ⟨cur', hgr, rfl, fun r h => by omega, fun i _ => rfl⟩
        have U0 : Upd S wr wr := Upd.refl _ _
        have Hg := hide hgr
        have HK3 := hide hk3
        have HS' := hide hsz'
        have Hm0 : Hid (m = m + 0) := rfl
        clear hgr hsz'
        obtain ⟨u, c0⟩ := I0.cell (by omega)
        have c1 : wr.cell? ⟨g, k * 26, none⟩ = some u := c0
        have f1 : wr.frozen? ⟨g, k * 26, none⟩ = false := I0.fz
        clear c0
        go_upto_region 6 with fail
        generalize hV : World.setCell _ _ _ = V1
        have I1 := I0.step (by omega) V1 hV (by have := Hm0.out; omega)
        have U1 : Upd S wr V1 := U0.trans (by rw [← hV]; exact Upd.setCell _ _ _ _ hS)
        obtain ⟨m1, hm⟩ : ∃ q : Nat, q = m + 1 := ⟨_, rfl⟩
        have Hm1 := hide hm
        have hb1 : (m1 : Int) ≤ 1099511627776 := by omega
        rw [show (m : Int) + 1 = (m1 : Int) by have := Hm0.out; omega]
        clear hV c1 f1 hm I0 U0
        obtain ⟨u, c0⟩ := I1.cell (by omega)
        have c1 : V1.cell? ⟨g, k * 26 + 1, none⟩ = some u := c0
        have f1 : V1.frozen? ⟨g, k * 26 + 1, none⟩ = false := I1.fz
        clear c0
        go_upto_region 8 with fail
        generalize hV : World.setCell _ _ _ = V2
        have I2 := I1.step (by omega) V2 hV (by have := Hm1.out; omega)
        have U2 : Upd S wr V2 := U1.trans (by rw [← hV]; exact Upd.setCell _ _ _ _ hS)
        obtain ⟨m2, hm⟩ : ∃ q : Nat, q = m + 2 := ⟨_, rfl⟩
        have Hm2 := hide hm
        have hb2 : (m2 : Int) ≤ 1099511627776 := by omega
        rw [show (m1 : Int) + 1 = (m2 : Int) by have := Hm1.out; omega]
        clear hV c1 f1 hm I1 U1
        clear hb1 Hm1
        obtain ⟨u, c0⟩ := I2.cell (by omega)
        have c1 : V2.cell? ⟨g, k * 26 + 2, none⟩ = some u := c0
        have f1 : V2.frozen? ⟨g, k * 26 + 2, none⟩ = false := I2.fz
        clear c0
        go_upto_region 10 with fail
        generalize hV : World.setCell _ _ _ = V3
        have I3 := I2.step (by omega) V3 hV (by have := Hm2.out; omega)
        have U3 : Upd S wr V3 := U2.trans (by rw [← hV]; exact Upd.setCell _ _ _ _ hS)
        obtain ⟨m3, hm⟩ : ∃ q : Nat, q = m + 3 := ⟨_, rfl⟩
        have Hm3 := hide hm
        have hb3 : (m3 : Int) ≤ 1099511627776 := by omega
        rw [show (m2 : Int) + 1 = (m3 : Int) by have := Hm2.out; omega]
        clear hV c1 f1 hm I2 U2
        clear hb2 Hm2
        obtain ⟨u, c0⟩ := I3.cell (by omega)
        have c1 : V3.cell? ⟨g, k * 26 + 3, none⟩ = some u := c0
        have f1 : V3.frozen? ⟨g, k * 26 + 3, none⟩ = false := I3.fz
        clear c0
        go_upto_region 12 with fail
        generalize hV : World.setCell _ _ _ = V4
        have I4 := I3.step (by omega) V4 hV (by have := Hm3.out; omega)
        have U4 : Upd S wr V4 := U3.trans (by rw [← hV]; exact Upd.setCell _ _ _ _ hS)
        obtain ⟨m4, hm⟩ : ∃ q : Nat, q = m + 4 := ⟨_, rfl⟩
        have Hm4 := hide hm
        have hb4 : (m4 : Int) ≤ 1099511627776 := by omega
        rw [show (m3 : Int) + 1 = (m4 : Int) by have := Hm3.out; omega]
        clear hV c1 f1 hm I3 U3
        clear hb3 Hm3
        obtain ⟨u, c0⟩ := I4.cell (by omega)
        have c1 : V4.cell? ⟨g, k * 26 + 4, none⟩ = some u := c0
        have f1 : V4.frozen? ⟨g, k * 26 + 4, none⟩ = false := I4.fz
        clear c0
        go_upto_region 14 with fail
        generalize hV : World.setCell _ _ _ = V5
        have I5 := I4.step (by omega) V5 hV (by have := Hm4.out; omega)
        have U5 : Upd S wr V5 := U4.trans (by rw [← hV]; exact Upd.setCell _ _ _ _ hS)
        obtain ⟨m5, hm⟩ : ∃ q : Nat, q = m + 5 := ⟨_, rfl⟩
        have Hm5 := hide hm
        have hb5 : (m5 : Int) ≤ 1099511627776 := by omega
        rw [show (m4 : Int) + 1 = (m5 : Int) by have := Hm4.out; omega]
        clear hV c1 f1 hm I4 U4
        clear hb4 Hm4
        obtain ⟨u, c0⟩ := I5.cell (by omega)
        have c1 : V5.cell? ⟨g, k * 26 + 5, none⟩ = some u := c0
        have f1 : V5.frozen? ⟨g, k * 26 + 5, none⟩ = false := I5.fz
        clear c0
        go_upto_region 16 with fail
        generalize hV : World.setCell _ _ _ = V6
        have I6 := I5.step (by omega) V6 hV (by have := Hm5.out; omega)
        have U6 : Upd S wr V6 := U5.trans (by rw [← hV]; exact Upd.setCell _ _ _ _ hS)
        obtain ⟨m6, hm⟩ : ∃ q : Nat, q = m + 6 := ⟨_, rfl⟩
        have Hm6 := hide hm
        have hb6 : (m6 : Int) ≤ 1099511627776 := by omega
        rw [show (m5 : Int) + 1 = (m6 : Int) by have := Hm5.out; omega]
        clear hV c1 f1 hm I5 U5
        clear hb5 Hm5
        obtain ⟨u, c0⟩ := I6.cell (by omega)
        have c1 : V6.cell? ⟨g, k * 26 + 6, none⟩ = some u := c0
        have f1 : V6.frozen? ⟨g, k * 26 + 6, none⟩ = false := I6.fz
        clear c0
        go_upto_region 18 with fail
        generalize hV : World.setCell _ _ _ = V7
        have I7 := I6.step (by omega) V7 hV (by have := Hm6.out; omega)
        have U7 : Upd S wr V7 := U6.trans (by rw [← hV]; exact Upd.setCell _ _ _ _ hS)
        obtain ⟨m7, hm⟩ : ∃ q : Nat, q = m + 7 := ⟨_, rfl⟩
        have Hm7 := hide hm
        have hb7 : (m7 : Int) ≤ 1099511627776 := by omega
        rw [show (m6 : Int) + 1 = (m7 : Int) by have := Hm6.out; omega]
        clear hV c1 f1 hm I6 U6
        clear hb6 Hm6
        obtain ⟨u, c0⟩ := I7.cell (by omega)
        have c1 : V7.cell? ⟨g, k * 26 + 7, none⟩ = some u := c0
        have f1 : V7.frozen? ⟨g, k * 26 + 7, none⟩ = false := I7.fz
        clear c0
        go_upto_region 20 with fail
        generalize hV : World.setCell _ _ _ = V8
        have I8 := I7.step (by omega) V8 hV (by have := Hm7.out; omega)
        have U8 : Upd S wr V8 := U7.trans (by rw [← hV]; exact Upd.setCell _ _ _ _ hS)
        obtain ⟨m8, hm⟩ : ∃ q : Nat, q = m + 8 := ⟨_, rfl⟩
        have Hm8 := hide hm
        have hb8 : (m8 : Int) ≤ 1099511627776 := by omega
        rw [show (m7 : Int) + 1 = (m8 : Int) by have := Hm7.out; omega]
        clear hV c1 f1 hm I7 U7
        clear hb7 Hm7
        obtain ⟨u, c0⟩ := I8.cell (by omega)
        have c1 : V8.cell? ⟨g, k * 26 + 8, none⟩ = some u := c0
        have f1 : V8.frozen? ⟨g, k * 26 + 8, none⟩ = false := I8.fz
        clear c0
        go_upto_region 22 with fail
        generalize hV : World.setCell _ _ _ = V9
        have I9 := I8.step (by omega) V9 hV (by have := Hm8.out; omega)
        have U9 : Upd S wr V9 := U8.trans (by rw [← hV]; exact Upd.setCell _ _ _ _ hS)
        obtain ⟨m9, hm⟩ : ∃ q : Nat, q = m + 9 := ⟨_, rfl⟩
        have Hm9 := hide hm
        have hb9 : (m9 : Int) ≤ 1099511627776 := by omega
        rw [show (m8 : Int) + 1 = (m9 : Int) by have := Hm8.out; omega]
        clear hV c1 f1 hm I8 U8
        clear hb8 Hm8
        obtain ⟨u, c0⟩ := I9.cell (by omega)
        have c1 : V9.cell? ⟨g, k * 26 + 9, none⟩ = some u := c0
        have f1 : V9.frozen? ⟨g, k * 26 + 9, none⟩ = false := I9.fz
        clear c0
        go_upto_region 24 with fail
        generalize hV : World.setCell _ _ _ = V10
        have I10 := I9.step (by omega) V10 hV (by have := Hm9.out; omega)
        have U10 : Upd S wr V10 := U9.trans (by rw [← hV]; exact Upd.setCell _ _ _ _ hS)
        obtain ⟨m10, hm⟩ : ∃ q : Nat, q = m + 10 := ⟨_, rfl⟩
        have Hm10 := hide hm
        have hb10 : (m10 : Int) ≤ 1099511627776 := by omega
        rw [show (m9 : Int) + 1 = (m10 : Int) by have := Hm9.out; omega]
        clear hV c1 f1 hm I9 U9
        clear hb9 Hm9
        obtain ⟨u, c0⟩ := I10.cell (by omega)
        have c1 : V10.cell? ⟨g, k * 26 + 10, none⟩ = some u := c0
        have f1 : V10.frozen? ⟨g, k * 26 + 10, none⟩ = false := I10.fz
        clear c0
        go_upto_region 26 with fail
        generalize hV : World.setCell _ _ _ = V11
        have I11 := I10.step (by omega) V11 hV (by have := Hm10.out; omega)
        have U11 : Upd S wr V11 := U10.trans (by rw [← hV]; exact Upd.setCell _ _ _ _ hS)
        obtain ⟨m11, hm⟩ : ∃ q : Nat, q = m + 11 := ⟨_, rfl⟩
        have Hm11 := hide hm
        have hb11 : (m11 : Int) ≤ 1099511627776 := by omega
        rw [show (m10 : Int) + 1 = (m11 : Int) by have := Hm10.out; omega]
        clear hV c1 f1 hm I10 U10
        clear hb10 Hm10
        obtain ⟨u, c0⟩ := I11.cell (by omega)
        have c1 : V11.cell? ⟨g, k * 26 + 11, none⟩ = some u := c0
        have f1 : V11.frozen? ⟨g, k * 26 + 11, none⟩ = false := I11.fz
        clear c0
        go_upto_region 28 with fail
        generalize hV : World.setCell _ _ _ = V12
        have I12 := I11.step (by omega) V12 hV (by have := Hm11.out; omega)
        have U12 : Upd S wr V12 := U11.trans (by rw [← hV]; exact Upd.setCell _ _ _ _ hS)
        obtain ⟨m12, hm⟩ : ∃ q : Nat, q = m + 12 := ⟨_, rfl⟩
        have Hm12 := hide hm
        have hb12 : (m12 : Int) ≤ 1099511627776 := by omega
        rw [show (m11 : Int) + 1 = (m12 : Int) by have := Hm11.out; omega]
        clear hV c1 f1 hm I11 U11
        clear hb11 Hm11
        obtain ⟨u, c0⟩ := I12.cell (by omega)
        have c1 : V12.cell? ⟨g, k * 26 + 12, none⟩ = some u := c0
        have f1 : V12.frozen? ⟨g, k * 26 + 12, none⟩ = false := I12.fz
        clear c0
        go_upto_region 30 with fail
        generalize hV : World.setCell _ _ _ = V13
        have I13 := I12.step (by omega) V13 hV (by have := Hm12.out; omega)
        have U13 : Upd S wr V13 := U12.trans (by rw [← hV]; exact Upd.setCell _ _ _ _ hS)
        obtain ⟨m13, hm⟩ : ∃ q : Nat, q = m + 13 := ⟨_, rfl⟩
        have Hm13 := hide hm
        have hb13 : (m13 : Int) ≤ 1099511627776 := by omega
        rw [show (m12 : Int) + 1 = (m13 : Int) by have := Hm12.out; omega]
        clear hV c1 f1 hm I12 U12
        clear hb12 Hm12
        obtain ⟨u, c0⟩ := I13.cell (by omega)
        have c1 : V13.cell? ⟨g, k * 26 + 13, none⟩ = some u := c0
        have f1 : V13.frozen? ⟨g, k * 26 + 13, none⟩ = false := I13.fz
        clear c0
        go_upto_region 32 with fail
        generalize hV : World.setCell _ _ _ = V14
        have I14 := I13.step (by omega) V14 hV (by have := Hm13.out; omega)
        have U14 : Upd S wr V14 := U13.trans (by rw [← hV]; exact Upd.setCell _ _ _ _ hS)
        obtain ⟨m14, hm⟩ : ∃ q : Nat, q = m + 14 := ⟨_, rfl⟩
        have Hm14 := hide hm
        have hb14 : (m14 : Int) ≤ 1099511627776 := by omega
        rw [show (m13 : Int) + 1 = (m14 : Int) by have := Hm13.out; omega]
        clear hV c1 f1 hm I13 U13
        clear hb13 Hm13
        obtain ⟨u, c0⟩ := I14.cell (by omega)
        have c1 : V14.cell? ⟨g, k * 26 + 14, none⟩ = some u := c0
        have f1 : V14.frozen? ⟨g, k * 26 + 14, none⟩ = false := I14.fz
        clear c0
        go_upto_region 34 with fail
        generalize hV : World.setCell _ _ _ = V15
        have I15 := I14.step (by omega) V15 hV (by have := Hm14.out; omega)
        have U15 : Upd S wr V15 := U14.trans (by rw [← hV]; exact Upd.setCell _ _ _ _ hS)
        obtain ⟨m15, hm⟩ : ∃ q : Nat, q = m + 15 := ⟨_, rfl⟩
        have Hm15 := hide hm
        have hb15 : (m15 : Int) ≤ 1099511627776 := by omega
        rw [show (m14 : Int) + 1 = (m15 : Int) by have := Hm14.out; omega]
        clear hV c1 f1 hm I14 U14
        clear hb14 Hm14
        obtain ⟨u, c0⟩ := I15.cell (by omega)
        have c1 : V15.cell? ⟨g, k * 26 + 15, none⟩ = some u := c0
        have f1 : V15.frozen? ⟨g, k * 26 + 15, none⟩ = false := I15.fz
        clear c0
        go_upto_region 36 with fail
        generalize hV : World.setCell _ _ _ = V16
        have I16 := I15.step (by omega) V16 hV (by have := Hm15.out; omega)
        have U16 : Upd S wr V16 := U15.trans (by rw [← hV]; exact Upd.setCell _ _ _ _ hS)
        obtain ⟨m16, hm⟩ : ∃ q : Nat, q = m + 16 := ⟨_, rfl⟩
        have Hm16 := hide hm
        have hb16 : (m16 : Int) ≤ 1099511627776 := by omega
        rw [show (m15 : Int) + 1 = (m16 : Int) by have := Hm15.out; omega]
        clear hV c1 f1 hm I15 U15
        clear hb15 Hm15
        obtain ⟨u, c0⟩ := I16.cell (by omega)
        have c1 : V16.cell? ⟨g, k * 26 + 16, none⟩ = some u := c0
        have f1 : V16.frozen? ⟨g, k * 26 + 16, none⟩ = false := I16.fz
        clear c0
        go_upto_region 38 with fail
        generalize hV : World.setCell _ _ _ = V17
        have I17 := I16.step (by omega) V17 hV (by have := Hm16.out; omega)
        have U17 : Upd S wr V17 := U16.trans (by rw [← hV]; exact Upd.setCell _ _ _ _ hS)
        obtain ⟨m17, hm⟩ : ∃ q : Nat, q = m + 17 := ⟨_, rfl⟩
        have Hm17 := hide hm
        have hb17 : (m17 : Int) ≤ 1099511627776 := by omega
        rw [show (m16 : Int) + 1 = (m17 : Int) by have := Hm16.out; omega]
        clear hV c1 f1 hm I16 U16
        clear hb16 Hm16
        obtain ⟨u, c0⟩ := I17.cell (by omega)
        have c1 : V17.cell? ⟨g, k * 26 + 17, none⟩ = some u := c0
        have f1 : V17.frozen? ⟨g, k * 26 + 17, none⟩ = false := I17.fz
        clear c0
        go_upto_region 40 with fail
        generalize hV : World.setCell _ _ _ = V18
        have I18 := I17.step (by omega) V18 hV (by have := Hm17.out; omega)
        have U18 : Upd S wr V18 := U17.trans (by rw [← hV]; exact Upd.setCell _ _ _ _ hS)
        obtain ⟨m18, hm⟩ : ∃ q : Nat, q = m + 18 := ⟨_, rfl⟩
        have Hm18 := hide hm
        have hb18 : (m18 : Int) ≤ 1099511627776 := by omega
        rw [show (m17 : Int) + 1 = (m18 : Int) by have := Hm17.out; omega]
        clear hV c1 f1 hm I17 U17
        clear hb17 Hm17
        obtain ⟨u, c0⟩ := I18.cell (by omega)
        have c1 : V18.cell? ⟨g, k * 26 + 18, none⟩ = some u := c0
        have f1 : V18.frozen? ⟨g, k * 26 + 18, none⟩ = false := I18.fz
        clear c0
        go_upto_region 42 with fail
        generalize hV : World.setCell _ _ _ = V19
        have I19 := I18.step (by omega) V19 hV (by have := Hm18.out; omega)
        have U19 : Upd S wr V19 := U18.trans (by rw [← hV]; exact Upd.setCell _ _ _ _ hS)
        obtain ⟨m19, hm⟩ : ∃ q : Nat, q = m + 19 := ⟨_, rfl⟩
        have Hm19 := hide hm
        have hb19 : (m19 : Int) ≤ 1099511627776 := by omega
        rw [show (m18 : Int) + 1 = (m19 : Int) by have := Hm18.out; omega]
        clear hV c1 f1 hm I18 U18
        clear hb18 Hm18
        obtain ⟨u, c0⟩ := I19.cell (by omega)
        have c1 : V19.cell? ⟨g, k * 26 + 19, none⟩ = some u := c0
        have f1 : V19.frozen? ⟨g, k * 26 + 19, none⟩ = false := I19.fz
        clear c0
        go_upto_region 44 with fail
        generalize hV : World.setCell _ _ _ = V20
        have I20 := I19.step (by omega) V20 hV (by have := Hm19.out; omega)
        have U20 : Upd S wr V20 := U19.trans (by rw [← hV]; exact Upd.setCell _ _ _ _ hS)
        obtain ⟨m20, hm⟩ : ∃ q : Nat, q = m + 20 := ⟨_, rfl⟩
        have Hm20 := hide hm
        have hb20 : (m20 : Int) ≤ 1099511627776 := by omega
        rw [show (m19 : Int) + 1 = (m20 : Int) by have := Hm19.out; omega]
        clear hV c1 f1 hm I19 U19
        clear hb19 Hm19
        obtain ⟨u, c0⟩ := I20.cell (by omega)
        have c1 : V20.cell? ⟨g, k * 26 + 20, none⟩ = some u := c0
        have f1 : V20.frozen? ⟨g, k * 26 + 20, none⟩ = false := I20.fz
        clear c0
        go_upto_region 46 with fail
        generalize hV : World.setCell _ _ _ = V21
        have I21 := I20.step (by omega) V21 hV (by have := Hm20.out; omega)
        have U21 : Upd S wr V21 := U20.trans (by rw [← hV]; exact Upd.setCell _ _ _ _ hS)
        obtain ⟨m21, hm⟩ : ∃ q : Nat, q = m + 21 := ⟨_, rfl⟩
        have Hm21 := hide hm
        have hb21 : (m21 : Int) ≤ 1099511627776 := by omega
        rw [show (m20 : Int) + 1 = (m21 : Int) by have := Hm20.out; omega]
        clear hV c1 f1 hm I20 U20
        clear hb20 Hm20
        obtain ⟨u, c0⟩ := I21.cell (by omega)
        have c1 : V21.cell? ⟨g, k * 26 + 21, none⟩ = some u := c0
        have f1 : V21.frozen? ⟨g, k * 26 + 21, none⟩ = false := I21.fz
        clear c0
        go_upto_region 48 with fail
        generalize hV : World.setCell _ _ _ = V22
        have I22 := I21.step (by omega) V22 hV (by have := Hm21.out; omega)
        have U22 : Upd S wr V22 := U21.trans (by rw [← hV]; exact Upd.setCell _ _ _ _ hS)
        obtain ⟨m22, hm⟩ : ∃ q : Nat, q = m + 22 := ⟨_, rfl⟩
        have Hm22 := hide hm
        have hb22 : (m22 : Int) ≤ 1099511627776 := by omega
        rw [show (m21 : Int) + 1 = (m22 : Int) by have := Hm21.out; omega]
        clear hV c1 f1 hm I21 U21
        clear hb21 Hm21
        obtain ⟨u, c0⟩ := I22.cell (by omega)
        have c1 : V22.cell? ⟨g, k * 26 + 22, none⟩ = some u := c0
        have f1 : V22.frozen? ⟨g, k * 26 + 22, none⟩ = false := I22.fz
        clear c0
        go_upto_region 50 with fail
        generalize hV : World.setCell _ _ _ = V23
        have I23 := I22.step (by omega) V23 hV (by have := Hm22.out; omega)
        have U23 : Upd S wr V23 := U22.trans (by rw [← hV]; exact Upd.setCell _ _ _ _ hS)
        obtain ⟨m23, hm⟩ : ∃ q : Nat, q = m + 23 := ⟨_, rfl⟩
        have Hm23 := hide hm
        have hb23 : (m23 : Int) ≤ 1099511627776 := by omega
        rw [show (m22 : Int) + 1 = (m23 : Int) by have := Hm22.out; omega]
        clear hV c1 f1 hm I22 U22
        clear hb22 Hm22
        obtain ⟨u, c0⟩ := I23.cell (by omega)
        have c1 : V23.cell? ⟨g, k * 26 + 23, none⟩ = some u := c0
        have f1 : V23.frozen? ⟨g, k * 26 + 23, none⟩ = false := I23.fz
        clear c0
        go_upto_region 52 with fail
        generalize hV : World.setCell _ _ _ = V24
        have I24 := I23.step (by omega) V24 hV (by have := Hm23.out; omega)
        have U24 : Upd S wr V24 := U23.trans (by rw [← hV]; exact Upd.setCell _ _ _ _ hS)
        obtain ⟨m24, hm⟩ : ∃ q : Nat, q = m + 24 := ⟨_, rfl⟩
        have Hm24 := hide hm
        have hb24 : (m24 : Int) ≤ 1099511627776 := by omega
        rw [show (m23 : Int) + 1 = (m24 : Int) by have := Hm23.out; omega]
        clear hV c1 f1 hm I23 U23
        clear hb23 Hm23
        have e24 := Hm24.out
        obtain ⟨c24, G24, z24, q1, q2⟩ := I24.ex
        have S24 : Hid (∀ j, j < n → c24[j * 26 + 24]? = some (.slice none 0 0) ∧ c24[j * 26 + 25]? = some (.slice none 0 0)) := by
          show ∀ j, j < n → _
          intro j hj
          obtain ⟨p1, p2⟩ := HL.out j hj
          rw [q2 _ (by omega), q2 _ (by omega)]
          exact ⟨p1, p2⟩
        have HG24 := hide G24
        have Q1 := hide q1
        have Q2 := hide q2
        have Z24 := hide z24
        have s24 : V24.cell? ⟨g, k * 26 + 24, none⟩ = some (.slice none 0 0) := (cell_of_row V24 _ _ _ _ (0, 0) G24).trans (S24.out k hlt).1
        have E24 := hide e24
        clear e24 G24 q1 q2 z24 I24 Hm24
        go_wp2_with fail
        refine (markBlkPieceS_any (fun _ => False) _ 0 [] m24 V24 (Row.nil _ _ _ _) (by have := E24.out; omega) (by omega)).mono ?_
        rintro e V25 ⟨rfl, -, u25⟩
        have HG25 := hide (u25.keeps HG24.out (fun h => h))
        have s25 : V25.cell? ⟨g, k * 26 + 25, none⟩ = some (.slice none 0 0) := (cell_of_row V25 _ _ _ _ (0, 0) HG25.out).trans (S24.out k hlt).2
        clear s24 HG24
        go_wp2_with fail
        refine (markBlkLastS_any (fun _ => False) _ 0 [] m24 V25 (Row.nil _ _ _ _) (by have := E24.out; omega) (by omega)).mono ?_
        rintro e V26 ⟨rfl, -, u26⟩
        have HG26 := hide (u26.keeps HG25.out (fun h => h))
        clear s25 HG25
        go_wp2
        go_roundw
        case rel =>
          refine ⟨k + 1, m24, c24, by omega, by rw [E24.out, Hm.out]; omega, by go_num, rfl, HG26.out, by rw [Z24.out]; exact HZ.out, fun j r hj hr => ?_, S24.out, ((hup.trans U24).trans (u25.mono fun _ h => h.elim)).trans (u26.mono fun _ h => h.elim)⟩
          by_cases hjk : j = k
          · subst hjk
            rw [Q1.out r hr, Hm.out]
          · rw [Q2.out _ (by omega)]
            exact HM.out j r (by omega) hr
        case measure => simp [intOf]; omega
      · go_wp2
        go_ret
        obtain rfl : k = n := by omega
        refine ⟨by rw [Hm.out]; rfl, ⟨_, cap, rfl, hn, by rw [fwcells_len, mkF_len], fun _ => ⟨g, cur', rfl, hS, hgr, ?_⟩⟩, hup⟩
        have hz := HZ.out
        refine fwcells_ext _ _ (by rw [mkF_len]; simp; omega) (fun j p hp r u hu => ?_)
        have hj := (List.getElem?_eq_some_iff.1 hp).1
        rw [mkF_len] at hj
        rw [mkF_get _ _ _ hj] at hp
        obtain rfl := Option.some.inj hp
        have hr : r < 26 := (Array.getElem?_eq_some_iff.1 hu).1
        rw [← hu, List.getElem?_take_of_lt (by omega)]
        by_cases h24 : r < 24
        · rw [mkFw_at _ _ h24]
          simpa using HM.out j r hj h24
        · obtain ⟨q1, q2⟩ := HL.out j hj
          rcases (by omega : r = 24 ∨ r = 25) with rfl | rfl
          · rw [show (fwarr (mkFw (k0 + j * 24)))[24]? = some (.slice none 0 0) from rfl]
            simpa using q1
          · rw [show (fwarr (mkFw (k0 + j * 24)))[25]? = some (.slice none 0 0) from rfl]
            simpa using q2

end Go.Proofs.Yteddhdbglciahaa

/- SynStart of the specification: a contract; no statement of the seat is proved here. (Written by wip/tools/mkst.py.) -/
namespace Go.Proofs.Yteddhdbglciahaa
open Go.RowKit

/-- A council in which nothing has happened. -/
def zeroC : Cn := { vs := [(0, []), (0, []), (0, [])], rs := [0, 0, 0], ks := [zeroK, zeroK, zeroK], ws := [], ts := [] }
def vcell (x : Int × List Pp) : List Value := [.int .i64 x.1, .slice none 0 0]
def vcells (xs : List (Int × List Pp)) : List Value := xs.flatMap vcell
def kcell (k : Sk) : List Value := (skarr k (.slice none 0 0)).toList
def kcells (ks : List Sk) : List Value := ks.flatMap kcell
theorem vcell_len (x : Int × List Pp) : (vcell x).length = 2 := rfl
theorem kcell_len (k : Sk) : (kcell k).length = 26 := rfl
/-- Rows of voters, of seekers that hold nothing. -/
theorem rowO_vs {w : World} {S : Nat → Prop} {v : Value} {n : Nat} {xs : List (Int × List Pp)} (hf : ∀ x ∈ xs, x.2 = []) (hx : xs.length = n) (h : Row w 120 2 S v n (vcells xs)) : RowO w 120 2 S VxO v xs := by
  subst hx
  obtain ⟨ao, cap, rfl, hn, hl, h⟩ := h
  refine ⟨ao, cap, rfl, hn, fun h0 => ?_⟩
  obtain ⟨g, cur, rfl, hS, hg, ht⟩ := h h0
  refine ⟨g, cur, rfl, hS, hg, fun _ _ => False, fun _ _ h => h.elim, fun _ _ _ h => h.elim, fun j x hj => ⟨#[.int .i64 x.1, .slice none 0 0], rfl, all_of_list rfl, fun r u hr => ?_, none, 0, by rw [hf x (List.mem_of_getElem? hj)]; rfl, by rw [hf x (List.mem_of_getElem? hj)]; exact Nat.zero_le _, by rw [hf x (List.mem_of_getElem? hj)]; exact Row.nil _ _ _ _⟩⟩
  have hlt := (Array.getElem?_eq_some_iff.1 hr).1
  have hjl := (List.getElem?_eq_some_iff.1 hj).1
  have hr2 : r < 2 := hlt
  have f := fm_at vcell_len xs j x r hj hr2
  have ht' : cur.toList.take (xs.length * 2) = xs.flatMap vcell := ht
  rw [← ht', List.getElem?_take_of_lt (by omega)] at f
  have e : (vcell x)[r]? = some u := by rw [← hr]; simp [vcell]
  rw [e] at f
  simpa using f
theorem rowO_ks {w : World} {S : Nat → Prop} {v : Value} {n : Nat} {xs : List Sk} (hf : ∀ x ∈ xs, x.ys = []) (hx : xs.length = n) (h : Row w 39 26 S v n (kcells xs)) : RowO w 39 26 S SkO v xs := by
  subst hx
  obtain ⟨ao, cap, rfl, hn, hl, h⟩ := h
  refine ⟨ao, cap, rfl, hn, fun h0 => ?_⟩
  obtain ⟨g, cur, rfl, hS, hg, ht⟩ := h h0
  refine ⟨g, cur, rfl, hS, hg, fun _ _ => False, fun _ _ h => h.elim, fun _ _ _ h => h.elim, fun j x hj => ⟨skarr x (.slice none 0 0), rfl, all_of_list rfl, fun r u hr => ?_, none, 0, by rw [hf x (List.mem_of_getElem? hj)]; rfl, by rw [hf x (List.mem_of_getElem? hj)]; exact Row.nil _ _ _ _⟩⟩
  have hr2 : r < 26 := (Array.getElem?_eq_some_iff.1 hr).1
  have hjl := (List.getElem?_eq_some_iff.1 hj).1
  have f := fm_at kcell_len xs j x r hj hr2
  have ht' : cur.toList.take (xs.length * 26) = xs.flatMap kcell := ht
  rw [← ht', List.getElem?_take_of_lt (by omega)] at f
  have e : (kcell x)[r]? = some u := by rw [← hr]; simp [kcell]
  rw [e] at f
  simpa using f
theorem noRowO {α : Type} {w : World} {e : TypeId} {size : Nat} {S : Nat → Prop} {EO : World → (Nat → Prop) → Value → α → Prop} : RowO w e size S EO (.slice none 0 0) [] := ⟨none, 0, rfl, Nat.zero_le _, fun h => absurd h (Nat.lt_irrefl 0)⟩

def vv : Array Value := #[.int .i64 0, .slice none 0 0, .int .i64 0, .slice none 0 0, .int .i64 0, .slice none 0 0]
def rr : Array Value := #[.int .i64 0, .int .i64 0, .int .i64 0]
def kk : Array Value := #[.int .i64 0, .int .i64 0, .int .i64 0, .int .i64 0, .int .i64 0, .int .i64 0, .int .i64 0, .int .i64 0, .int .i64 0, .int .i64 0, .int .i64 0, .int .i64 0, .int .i64 0, .int .i64 0, .int .i64 0, .int .i64 0, .int .i64 0, .int .i64 0, .int .i64 0, .int .i64 0, .int .i64 0, .int .i64 0, .int .i64 0, .int .i64 0, .int .i64 0, .slice none 0 0, .int .i64 0, .int .i64 0, .int .i64 0, .int .i64 0, .int .i64 0, .int .i64 0, .int .i64 0, .int .i64 0, .int .i64 0, .int .i64 0, .int .i64 0, .int .i64 0, .int .i64 0, .int .i64 0, .int .i64 0, .int .i64 0, .int .i64 0, .int .i64 0, .int .i64 0, .int .i64 0, .int .i64 0, .int .i64 0, .int .i64 0, .int .i64 0, .int .i64 0, .slice none 0 0, .int .i64 0, .int .i64 0, .int .i64 0, .int .i64 0, .int .i64 0, .int .i64 0, .int .i64 0, .int .i64 0, .int .i64 0, .int .i64 0, .int .i64 0, .int .i64 0, .int .i64 0, .int .i64 0, .int .i64 0, .int .i64 0, .int .i64 0, .int .i64 0, .int .i64 0, .int .i64 0, .int .i64 0, .int .i64 0, .int .i64 0, .int .i64 0, .int .i64 0, .slice none 0 0]
theorem vv_cells : vv.toList.take (3 * 2) = vcells zeroC.vs := rfl
theorem rr_cells : rr.toList.take (3 * 1) = ints zeroC.rs := rfl
theorem kk_cells : kk.toList.take (3 * 26) = kcells zeroC.ks := rfl
theorem zeroC_reads {W : World} {g1 g2 g3 : Nat} (h1 : W.heap[g1]? = some (.cells vv 120 (0, 0))) (h2 : W.heap[g2]? = some (.cells rr 3 (0, 0))) (h3 : W.heap[g3]? = some (.cells kk 39 (0, 0))) :
    CnP W (.slice (some ⟨g1, 0, none⟩) 3 3) (.slice (some ⟨g2, 0, none⟩) 3 3) (.slice (some ⟨g3, 0, none⟩) 3 3) (.slice none 0 0) (.slice none 0 0) zeroC := by
  have r1 : Row W 120 2 (fun _ => True) (.slice (some ⟨g1, 0, none⟩) 3 3) 3 (vcells zeroC.vs) := ⟨_, _, rfl, by omega, rfl, fun _ => ⟨g1, vv, rfl, trivial, h1, vv_cells⟩⟩
  have r2 : Row W 3 1 (fun _ => True) (.slice (some ⟨g2, 0, none⟩) 3 3) 3 (ints zeroC.rs) := ⟨_, _, rfl, by omega, rfl, fun _ => ⟨g2, rr, rfl, trivial, h2, rr_cells⟩⟩
  have r3 : Row W 39 26 (fun _ => True) (.slice (some ⟨g3, 0, none⟩) 3 3) 3 (kcells zeroC.ks) := ⟨_, _, rfl, by omega, rfl, fun _ => ⟨g3, kk, rfl, trivial, h3, kk_cells⟩⟩
  exact ⟨(rowO_vs (by simp [zeroC]) rfl r1).reads (fun _ _ _ h => h.reads), r2.reads, (rowO_ks (by simp [zeroC, zeroK]) rfl r3).reads (fun _ _ _ h => h.reads), noRowO.reads (EO := WdO) (S := fun _ => True) (e := 47) (fun _ _ _ h => h.reads), (Row.nil _ 37 _ (fun _ => True)).reads⟩

theorem four_0 (w : World) (a b c d : Obj) : ((((w.alloc a).alloc b).alloc c).alloc d).drew.heap[w.heap.size]? = some a := bKeeps (bal (Below.refl _ _) d) (al3_0 w a b c)
theorem four_1 (w : World) (a b c d : Obj) : ((((w.alloc a).alloc b).alloc c).alloc d).drew.heap[w.heap.size + 1]? = some b := bKeeps (bal (Below.refl _ _) d) (bKeeps (bal (Below.refl _ _) c) (al2_1 w a b))
theorem four_2 (w : World) (a b c d : Obj) : ((((w.alloc a).alloc b).alloc c).alloc d).drew.heap[w.heap.size + 1 + 1]? = some c := bKeeps (bal (Below.refl _ _) d) (al3_2 w a b c)
theorem four_3 (w : World) (a b c d : Obj) : ((((w.alloc a).alloc b).alloc c).alloc d).drew.heap[w.heap.size + 1 + 1 + 1]? = some d := by have := al3_2 (w.alloc a) b c d; rw [World.size_alloc] at this; exact this
theorem makeV (w : World) : (Instr.makeSlice 61 (.int .i64 3) (.int .i64 3)).run Try.prog w = .ok (.slice (some ⟨w.heap.size, 0, none⟩) 3 3) (w.alloc (.cells vv 120)) := by kernel_rfl
theorem makeR (w : World) : (Instr.makeSlice 26 (.int .i64 3) (.int .i64 3)).run Try.prog w = .ok (.slice (some ⟨w.heap.size, 0, none⟩) 3 3) (w.alloc (.cells rr 3)) := by kernel_rfl
theorem makeK (w : World) : (Instr.makeSlice 62 (.int .i64 3) (.int .i64 3)).run Try.prog w = .ok (.slice (some ⟨w.heap.size, 0, none⟩) 3 3) (w.alloc (.cells kk 39)) := by kernel_rfl

set_option maxRecDepth 100000 in
set_option maxHeartbeats 8000000 in
theorem specSynStart_any (w : World) :
    Calls Try.prog 26 #[] w fun e w' => ∃ v0 v1 v2, e = .returned (.agg #[v0, v1, v2, .slice none 0 0, .slice none 0 0]) ∧ CnP w' v0 v1 v2 (.slice none 0 0) (.slice none 0 0) zeroC ∧ Below w.heap.size w w' := by
  have m1 := makeV
  have m2 := makeR
  have m3 := makeK
  go_enter Try.func26, Try.ntmps26
  go_wp2
  go_region
  all_goals
    try go_wp2
    refine bodyPost_ret (results_cell_row Try.results26 _ _ w.heap.size _ _ (0, 0) _ rfl (four_0 _ _ _ _ _) Try.underlying65 rfl infoCnI) rfl ?_
    refine ⟨_, _, _, rfl, zeroC_reads ?_ ?_ ?_, ?_⟩
    any_goals first | exact four_1 _ _ _ _ _ | exact four_2 _ _ _ _ _ | exact four_3 _ _ _ _ _
    exact (bal (bal (bal (bal (Below.refl _ _) _) _) _) _).drew

end Go.Proofs.Yteddhdbglciahaa

/- Marks in rows of elements that hold rows of their own: plain facts; no statement of the seat is proved here. (Written by wip/tools/mkmk.py.) -/
namespace Go.Proofs.Yteddhdbglciahaa
open Go.RowKit

/-- The mark of an element: what stands before it has its marks. -/
def offL {α : Type} (f : α → Nat) (k : Nat) (xs : List α) (j : Nat) : Nat := k + ((xs.take j).map f).sum
/-- The first n elements marked. -/
def mkU {α : Type} (f : α → Nat) (mk : Nat → α → α) : Nat → Nat → List α → List α
  | _, 0, xs => xs
  | _, _ + 1, [] => []
  | k, n + 1, x :: xs => mk k x :: mkU f mk (k + f x) n xs
theorem mkU_len {α : Type} {f : α → Nat} {mk : Nat → α → α} : ∀ (n k : Nat) (xs : List α), (mkU f mk k n xs).length = xs.length
  | 0, _, _ => rfl
  | _ + 1, _, [] => rfl
  | n + 1, k, x :: xs => by rw [mkU, List.length_cons, mkU_len n, List.length_cons]
theorem offL_zero {α : Type} {f : α → Nat} {k : Nat} {xs : List α} : offL f k xs 0 = k := by simp [offL]
theorem offL_zero' {α : Type} {f : α → Nat} {k n : Nat} : offL f k ([] : List α) n = k := by simp [offL]
theorem offL_cons {α : Type} {f : α → Nat} {k j : Nat} {x : α} {xs : List α} : offL f k (x :: xs) (j + 1) = offL f (k + f x) xs j := by simp [offL]; omega
theorem offL_succ {α : Type} {f : α → Nat} : ∀ {xs : List α} {k j : Nat} {x : α}, xs[j]? = some x → offL f k xs (j + 1) = offL f k xs j + f x
  | [], _, _, _, h => by simp at h
  | y :: ys, k, 0, x, h => by
    obtain rfl := Option.some.inj h
    rw [offL_cons, offL_zero, offL_zero]
  | y :: ys, k, j + 1, x, h => by
    rw [offL_cons, offL_cons]
    exact offL_succ (xs := ys) h
theorem offL_le {α : Type} {f : α → Nat} : ∀ {xs : List α} {k j : Nat}, offL f k xs j ≤ offL f k xs xs.length
  | [], k, j => by simp [offL]
  | y :: ys, k, 0 => by
    rw [offL_zero]
    simp only [offL]
    omega
  | y :: ys, k, j + 1 => by
    rw [offL_cons, List.length_cons, offL_cons]
    exact offL_le
theorem mkU_lt {α : Type} {f : α → Nat} {mk : Nat → α → α} : ∀ {n k j : Nat} {xs : List α} {x : α}, j < n → xs[j]? = some x → (mkU f mk k n xs)[j]? = some (mk (offL f k xs j) x)
  | 0, _, _, _, _, h, _ => by omega
  | _ + 1, _, _, [], _, _, h => by simp at h
  | n + 1, k, 0, y :: ys, x, _, h => by
    obtain rfl := Option.some.inj h
    rw [mkU, offL_zero]
    rfl
  | n + 1, k, j + 1, y :: ys, x, hj, h => by
    rw [mkU, offL_cons]
    exact mkU_lt (n := n) (xs := ys) (by omega) h
theorem mkU_ge {α : Type} {f : α → Nat} {mk : Nat → α → α} : ∀ {n k j : Nat} {xs : List α}, n ≤ j → (mkU f mk k n xs)[j]? = xs[j]?
  | 0, _, _, _, _ => rfl
  | _ + 1, _, _, [], _ => rfl
  | _ + 1, _, 0, _ :: _, h => by omega
  | n + 1, k, j + 1, y :: ys, h => by
    rw [mkU]
    exact mkU_ge (n := n) (xs := ys) (by omega)
theorem mkU_ne {α : Type} {f : α → Nat} {mk : Nat → α → α} {k k0 j : Nat} {xs : List α} (h : j ≠ k) : (mkU f mk k0 (k + 1) xs)[j]? = (mkU f mk k0 k xs)[j]? := by
  rcases Nat.lt_or_gt_of_ne h with h | h
  · cases hx : xs[j]? with
    | none =>
      have hl : xs.length ≤ j := List.getElem?_eq_none_iff.1 hx
      rw [List.getElem?_eq_none (by rw [mkU_len]; exact hl), List.getElem?_eq_none (by rw [mkU_len]; exact hl)]
    | some x => rw [mkU_lt (by omega) hx, mkU_lt h hx]
  · rw [mkU_ge (by omega), mkU_ge (by omega)]
/-- A row whose elements hold rows of their own, seen by its cells. -/
def Mid {α : Type} (w : World) (size : Nat) (EO : World → (Nat → Prop) → Value → α → Prop) (T : Nat → Nat → Prop) (cur : Array Value) (xs : List α) : Prop :=
  ∀ j x, xs[j]? = some x → ∃ cs : Array Value, cs.size = size ∧ cs.all (·.oneCell') = true ∧ (∀ r u, cs[r]? = some u → cur[j * size + r]? = some u) ∧ EO w (T j) (.agg cs) x
theorem Mid.step {α : Type} {f : α → Nat} {mk : Nat → α → α} {w w' : World} {size k0 k g : Nat} {EO : World → (Nat → Prop) → Value → α → Prop} {T : Nat → Nat → Prop} {cur cur' : Array Value} {xs : List α} {x : α} {cs : Array Value}
    (hE : ∀ (U R : Nat → Prop) v y, EO w U v y → Upd R w w' → (∀ b, U b → ¬ R b) → EO w' U v y) (h : Mid w size EO T cur (mkU f mk k0 k xs)) (hx : xs[k]? = some x) (u : Upd (fun b => b = g ∨ T k b) w w')
    (hT : ∀ j b, T j b → b ≠ g) (hT2 : ∀ i j b, T i b → T j b → i = j) (hc : ∀ i, i < k * size ∨ k * size + size ≤ i → cur'[i]? = cur[i]?)
    (h1 : cs.size = size) (h2 : cs.all (·.oneCell') = true) (h3 : ∀ r u, cs[r]? = some u → cur'[k * size + r]? = some u) (h4 : EO w' (T k) (.agg cs) (mk (offL f k0 xs k) x)) :
    Mid w' size EO T cur' (mkU f mk k0 (k + 1) xs) := by
  intro j y hy
  by_cases hj : j = k
  · subst hj
    rw [mkU_lt (by omega) hx] at hy
    obtain rfl := Option.some.inj hy
    exact ⟨cs, h1, h2, h3, h4⟩
  · rw [mkU_ne hj] at hy
    obtain ⟨ds, d1, d2, d3, d4⟩ := h j y hy
    refine ⟨ds, d1, d2, fun r v hr => ?_, hE _ _ _ _ d4 u (fun b hb hR => ?_)⟩
    · have hlt := (Array.getElem?_eq_some_iff.1 hr).1
      rw [hc _ ?_]
      · exact d3 r v hr
      · rcases Nat.lt_or_gt_of_ne hj with h | h
        · have := Nat.mul_le_mul_right size (show j + 1 ≤ k from h)
          rw [Nat.add_mul, Nat.one_mul] at this
          omega
        · have := Nat.mul_le_mul_right size (show k + 1 ≤ j from h)
          rw [Nat.add_mul, Nat.one_mul] at this
          omega
    · rcases hR with h | h
      · exact hT j b hb h
      · exact hj (hT2 _ _ _ hb h)

end Go.Proofs.Yteddhdbglciahaa

/- Marks in rows of SynVoter: contracts; no statement of the seat is proved here. (Written by wip/tools/mkmk.py.) -/
namespace Go.Proofs.Yteddhdbglciahaa
open Go.RowKit

def fVx (x : Int × List Pp) : Nat := 1 + x.2.length * 12
def mkVx (m : Nat) (x : Int × List Pp) : Int × List Pp := (((m : Nat) : Int), mkV (m + 1) x.2.length)
def mkVxA (m : Nat) (_x : Int × List Pp) (y : Value) : Array Value := (#[.int .i64 ((m : Nat) : Int), y] : Array Value)
set_option maxRecDepth 10000 in
theorem mkVx_at (m r : Nat) (x : Int × List Pp) (y : Value) (h : r < 1) : (mkVxA m x y)[r]? = some (.int .i64 ((m + r : Nat) : Int)) := by
  obtain rfl : r = 0 := by omega
  rfl
theorem mkVx_last (m : Nat) (x : Int × List Pp) (y : Value) : (mkVxA m x y)[1]? = some y := rfl
theorem mkVx_one (m : Nat) (x : Int × List Pp) (ao : Option Addr) (n c : Nat) : (mkVxA m x (.slice ao n c)).all (·.oneCell') = true := all_of_list rfl

set_option maxRecDepth 100000 in
set_option maxHeartbeats 32000000 in
theorem markSynVoterS_own (S : Nat → Prop) (v : Value) (xs : List (Int × List Pp)) (k0 : Nat) (w : World) (hr : RowO w 120 2 S VxO v xs) (_h1 : 1 ≤ k0) (h2 : offL fVx k0 xs xs.length ≤ 1099511627776) :
    Calls Try.prog 80 #[v, .int .i64 k0] w fun e w' => e = .returned (.int .i64 (offL fVx k0 xs xs.length : Nat)) ∧ RowO w' 120 2 S VxO v (mkU fVx mkVx k0 xs.length xs) ∧ Upd S w w' := by
  obtain ⟨ao, cap, rfl, hn, hr⟩ := hr
  obtain ⟨n, hxn⟩ : ∃ n, n = xs.length := ⟨_, rfl⟩
  rw [← hxn] at hr h2 hn ⊢
  rcases Nat.eq_zero_or_pos n with h0 | hpos
  · obtain rfl : xs = [] := by cases xs with
      | nil => rfl
      | cons a l => rw [List.length_cons] at hxn; omega
    subst h0
    rw [offL_zero']
    clear hr h2 hxn
    go_enter Try.func80, Try.ntmps80
    go_wp2
    refine wp_loop_rounds 1 ?_
    rw [rounds_succ]
    go_wp2
    go_ret
    exact ⟨rfl, ⟨ao, cap, rfl, by rw [mkU_len]; exact hn, fun h => by rw [mkU_len] at h; exact absurd h (Nat.lt_irrefl 0)⟩, Upd.refl _ _⟩
  · obtain ⟨g, cur, rfl, hS, hg, T, hT, hT2, hel⟩ := hr hpos
    have HXN := hide hxn
    have H2 := hide h2
    have HT := hide hT
    have HT2 := hide hT2
    clear hr hxn h2 hT hT2
    go_enter Try.func80, Try.ntmps80
    go_wp2
    go_loopw [1, 5] (fun kv i wr => ∃ (k m : Nat) (cur' : Array Value), k ≤ n ∧ m = offL fVx k0 xs k ∧ i = .int .i64 k ∧ kv = .int .i64 (m : Nat) ∧ wr.heap[g]? = some (.cells cur' 120 (0, 0)) ∧ Mid wr 2 VxO T cur' (mkU fVx mkVx k0 k xs) ∧ Upd S w wr) (fun _ i _ => n - (intOf i).toNat)
    case atStart => exact ⟨0, k0, cur, Nat.zero_le _, offL_zero.symm, rfl, rfl, hg, hel, Upd.refl _ _⟩
    case round =>
      obtain ⟨k, m, cur', hk, hm, rfl, rfl, hgr, hmid, hup⟩ := hrel
      have Hm := hide hm
      have hm0 : k0 ≤ m := by rw [hm, offL]; omega
      have hm2 : (m : Int) ≤ 1099511627776 := by
        have := offL_le (f := fVx) (k := k0) (xs := xs) (j := k)
        rw [← HXN.out] at this
        have := H2.out
        omega
      have HD := hide hmid
      clear hm hmid hel hg
      by_cases hlt : k < n
      · have hi : (k : Int) < (n : Int) := by omega
        obtain ⟨x, hx⟩ := getAt xs k (by have := HXN.out; omega)
        have hfx : m + (1 + x.2.length * 12) ≤ 1099511627776 := by
          have h3 := offL_le (f := fVx) (k := k0) (xs := xs) (j := k + 1)
          rw [offL_succ hx, ← HXN.out, ← Hm.out] at h3
          exact Nat.le_trans h3 H2.out
        have HX := hide hx
        obtain ⟨cs, s1, s2, s3, ao, cp, ecs, hcap, hrow⟩ := HD.out k x (by rw [mkU_ge (Nat.le_refl _)]; exact hx)
        injection ecs with ecs
        have last : cur'[k * 2 + 1]? = some (.slice ao x.2.length cp) := s3 1 _ (by rw [ecs]; rfl)
        have hk3 : k * 2 + 1 < cur'.size := (Array.getElem?_eq_some_iff.1 last).1
        have HR := hide hrow
        have HLa := hide last
        have HF := hide hfx
        have hm3 : ((m + 1 : Nat) : Int) ≤ 1099511627776 := by omega
        clear s1 s2 s3 ecs hrow hx last hfx
        have I0 : MkI wr g cur' (k * 2) 0 m 120 := ⟨cur', hgr, rfl, fun r h => by omega, fun i _ => rfl⟩
        have U0 : Upd (fun b => b = g) wr wr := Upd.refl _ _
        have Hm0 : Hid (m = m + 0) := rfl
        clear hgr
        obtain ⟨u, c0⟩ := I0.cell (by omega)
        have c1 : wr.cell? ⟨g, k * 2, none⟩ = some u := c0
        have f1 : wr.frozen? ⟨g, k * 2, none⟩ = false := I0.fz
        clear c0
        go_upto_region 6 with fail
        generalize hV : World.setCell _ _ _ = V1
        have I1 := I0.step (by omega) V1 hV (by have := Hm0.out; omega)
        have U1 : Upd (fun b => b = g) wr V1 := U0.trans (by rw [← hV]; exact Upd.setCell _ _ _ _ rfl)
        obtain ⟨m1, hm⟩ : ∃ q : Nat, q = m + 1 := ⟨_, rfl⟩
        have Hm1 := hide hm
        have hb1 : (m1 : Int) ≤ 1099511627776 := by omega
        rw [show (m : Int) + 1 = (m1 : Int) by have := Hm0.out; omega]
        clear hV c1 f1 hm I0 U0
        have e1 := Hm1.out
        obtain ⟨cN, GN, zN, q1, q2⟩ := I1.ex
        have sN : V1.cell? ⟨g, k * 2 + 1, none⟩ = some (.slice ao x.2.length cp) := (cell_of_row V1 _ _ _ _ (0, 0) GN).trans ((q2 _ (by omega)).trans HLa.out)
        have c := markSynPaperS_any (T k) _ _ _ m1 V1 (HR.out.keep U1 (fun b hb => (HT.out k b hb).2)) (by omega) (by have := HF.out; omega)
        obtain ⟨M, hM⟩ : ∃ M : Nat, M = m1 + x.2.length * 12 := ⟨_, rfl⟩
        rw [← hM] at c
        have HM := hide hM
        have hMb : (M : Int) ≤ 1099511627776 := by have := HF.out; omega
        have GH := hide GN
        have Q1 := hide q1
        have Q2 := hide q2
        have EN := hide e1
        clear hM GN zN q1 q2 I1 e1 Hm1 HF
        go_wp2_with fail
        refine c.mono ?_
        rintro e VE ⟨rfl, rE, uE⟩
        have GE := hide (uE.keeps GH.out (fun h => (HT.out k g h).2 rfl))
        have UE : Upd (fun b => b = g ∨ T k b) wr VE := (U1.mono (fun b h => Or.inl h)).trans (uE.mono (fun b h => Or.inr h))
        have RE := hide rE
        clear c sN GH uE rE U1
        go_wp2
        go_roundw
        case rel =>
          refine ⟨k + 1, M, cN, by omega, by rw [offL_succ HX.out, ← Hm.out, HM.out, EN.out, fVx]; omega, by go_num, rfl, GE.out, ?mid, hup.trans (UE.mono (fun b h => by rcases h with h | h; exact h ▸ hS; exact (HT.out k b h).1))⟩
          refine Mid.step (g := g) (cs := mkVxA m x (.slice ao x.2.length cp)) (fun U R v y h u hU => VxO.keep h u hU) HD.out HX.out UE (fun j b h => (HT.out j b h).2) HT2.out (fun i hi => Q2.out i (by omega)) rfl (mkVx_one _ _ _ _ _) (fun r u hu => ?_) ?_
          · by_cases hr : r < 1
            · rw [mkVx_at _ _ _ _ hr] at hu
              rw [Q1.out r hr, hu]
            · have hr2 : r < 2 := (Array.getElem?_eq_some_iff.1 hu).1
              obtain rfl : r = 1 := by omega
              rw [mkVx_last] at hu
              rw [Q2.out _ (by omega), HLa.out, hu]
          · rw [← Hm.out]
            have R1 := RE.out
            rw [EN.out] at R1
            exact ⟨ao, cp, by rw [show (mkVx m x).2.length = x.2.length from mkV_len _ _]; rfl, by rw [show (mkVx m x).2.length = x.2.length from mkV_len _ _]; exact hcap, by rw [show (mkVx m x).2.length = x.2.length from mkV_len _ _]; exact R1⟩
        case measure => simp [intOf]; omega
      · go_wp2
        go_ret
        obtain rfl : k = n := by omega
        exact ⟨by rw [Hm.out]; rfl, ⟨_, cap, by rw [mkU_len, ← HXN.out], by rw [mkU_len, ← HXN.out]; exact hn, fun _ => ⟨g, cur', rfl, hS, hgr, T, HT.out, HT2.out, HD.out⟩⟩, hup⟩

set_option maxRecDepth 100000 in
set_option maxHeartbeats 32000000 in
theorem heldSynVoterS_own (v : Value) (xs : List (Int × List Pp)) (k0 : Nat) (w : World) (hr : RowE w 2 VxR v (mkU fVx mkVx k0 xs.length xs)) (_h1 : 1 ≤ k0) (h2 : offL fVx k0 xs xs.length ≤ 1099511627776) :
    Calls Try.prog 83 #[v, .int .i64 k0] w fun e w' => e = .returned (.int .i64 (offL fVx k0 xs xs.length : Nat)) ∧ Below w.heap.size w w' := by
  obtain ⟨ao, cap, rfl⟩ := hr.shape
  have hn := hr.small
  rw [mkU_len] at hr hn ⊢
  obtain ⟨n, hxn⟩ : ∃ n, n = xs.length := ⟨_, rfl⟩
  rw [← hxn] at hr h2 hn ⊢
  have HXN := hide hxn
  have H2 := hide h2
  have HRo := hide hr
  clear hxn h2 hr
  go_enter Try.func83, Try.ntmps83
  go_wp2
  go_loopw [1, 5] (fun kv i wr => ∃ k m : Nat, k ≤ n ∧ m = offL fVx k0 xs k ∧ i = .int .i64 k ∧ kv = .int .i64 (m : Nat) ∧ Below w.heap.size w wr) (fun _ i _ => n - (intOf i).toNat)
  case atStart => exact ⟨0, k0, Nat.zero_le _, offL_zero.symm, rfl, rfl, Below.refl _ _⟩
  case round =>
    obtain ⟨k, m, hk, hm, rfl, rfl, hbel⟩ := hrel
    have Hm := hide hm
    have hm0 : k0 ≤ m := by rw [hm, offL]; omega
    have hm2 : (m : Int) ≤ 1099511627776 := by
      have := offL_le (f := fVx) (k := k0) (xs := xs) (j := k)
      rw [← HXN.out] at this
      have := H2.out
      omega
    clear hm
    by_cases hlt : k < n
    · have hi : (k : Int) < (n : Int) := by omega
      obtain ⟨x, hx⟩ := getAt xs k (by have := HXN.out; omega)
      have hfx : m + (1 + x.2.length * 12) ≤ 1099511627776 := by
        have h3 := offL_le (f := fVx) (k := k0) (xs := xs) (j := k + 1)
        rw [offL_succ hx, ← HXN.out, ← Hm.out] at h3
        exact Nat.le_trans h3 H2.out
      obtain ⟨-, b1, o1, rfl, cs, s1, s2, s3, a2, cp, ecs, hrow⟩ := HRo.out.elem (mkU_lt hlt hx)
      rw [← Hm.out] at ecs hrow
      injection ecs with ecs
      subst ecs
      have hl : (mkVx m x).2.length = x.2.length := mkV_len _ _
      rw [hl] at s3 hrow
      have HX := hide hx
      have F := hide s3
      have HF := hide hfx
      have hm3 : ((m + 1 : Nat) : Int) ≤ 1099511627776 := by omega
      have HR := hide hrow
      have HL := hide hl
      have K : ∀ r u, (mkVxA m x (.slice a2 x.2.length cp))[r]? = some u → wr.cell? ⟨b1, o1 + k * 2 + r, none⟩ = some u := fun r u h => (hbel.cell (p := ⟨b1, o1 + k * 2 + r, none⟩) (World.block_lt_of_cell? w _ (F.out r u h))).trans (F.out r u h)
      have HK := hide K
      have HLT : Hid (k + 1 ≤ n) := hlt
      have Hm0 : Hid (m = m + 0) := rfl
      clear s1 s2 s3 hrow hl hx hfx K
      have c1 : wr.cell? ⟨b1, o1 + k * 2, none⟩ = some (.int .i64 (m : Int)) := by
        have q := HK.out 0 _ (mkVx_at m 0 x _ (by omega))
        rw [← Hm0.out] at q
        exact q
      go_upto_region 7 with fail
      obtain ⟨m1, hm⟩ : ∃ q : Nat, q = m + 1 := ⟨_, rfl⟩
      have Hm1 := hide hm
      have hb1 : (m1 : Int) ≤ 1099511627776 := by omega
      rw [show (m : Int) + 1 = (m1 : Int) by have := Hm0.out; omega]
      clear c1 hm
      have e1 := Hm1.out
      have hrow := (HR.out.keep hbel)
      have hrow : RowR wr 12 (.slice a2 x.2.length cp) x.2.length (ppcells (mkV m1 x.2.length)) := by rw [e1]; exact hrow
      have c := heldSynPaperS_ok _ x.2.length m1 wr hrow (by omega) (by have := HF.out; omega)
      have sN : wr.cell? ⟨b1, o1 + k * 2 + 1, none⟩ = some (.slice a2 x.2.length cp) := HK.out 1 _ (mkVx_last _ _ _)
      obtain ⟨M, hM⟩ : ∃ M : Nat, M = m1 + x.2.length * 12 := ⟨_, rfl⟩
      rw [← hM] at c
      have HM := hide hM
      have hMb : (M : Int) ≤ 1099511627776 := by have := HF.out; omega
      have hneg : decide ((M : Int) < 0) = false := decide_eq_false (by omega)
      have EN := hide e1
      clear hM hrow e1 Hm1 HF hm0 hm2 hm3 hk hlt hb1
      go_wp2_with fail
      refine c.mono ?_
      rintro e VE ⟨rfl, bE⟩
      have hbE := bAll hbel bE
      clear c sN bE
      go_wp2
      go_roundw
      case rel => exact ⟨k + 1, M, HLT.out, by rw [offL_succ HX.out, ← Hm.out, HM.out, EN.out, fVx]; omega, by go_num, rfl, hbE⟩
      case measure => (have := HLT.out; simp [intOf]; omega)
    · go_wp2
      go_ret
      obtain rfl : k = n := by omega
      exact ⟨by rw [Hm.out]; rfl, hbel⟩

end Go.Proofs.Yteddhdbglciahaa

/- Marks in rows of numbers, in seekers: contracts; no statement of the seat is proved here. -/
namespace Go.Proofs.Yteddhdbglciahaa
open Go.RowKit

def mkN (k n : Nat) : List Int := (List.range n).map fun i => ((k + i : Nat) : Int)
theorem mkN_len (k n : Nat) : (mkN k n).length = n := by simp [mkN]
theorem mkN_get (k n i : Nat) (h : i < n) : (mkN k n)[i]? = some ((k + i : Nat) : Int) := by simp [mkN, h]

set_option maxRecDepth 100000 in
set_option maxHeartbeats 4000000 in
theorem markIntS_row (S : Nat → Prop) (v : Value) (n : Nat) (cs : List Value) (k0 : Nat) (w : World) (hr : Row w 3 1 S v n cs) (h2 : k0 + n ≤ 1099511627776) :
    Calls Try.prog 59 #[v, .int .i64 k0] w fun e w' => e = .returned (.int .i64 (k0 + n : Nat)) ∧ Row w' 3 1 S v n (ints (mkN k0 n)) ∧ Upd S w w' := by
  obtain ⟨ao, cap, rfl, hn, hl, hr⟩ := hr
  rcases Nat.eq_zero_or_pos n with rfl | hpos
  · go_enter Try.func59, Try.ntmps59
    go_wp2
    refine wp_loop_rounds 1 ?_
    rw [rounds_succ]
    go_wp2
    go_ret
    exact ⟨rfl, ⟨ao, cap, rfl, hn, by simp [mkN, ints], fun h => by omega⟩, Upd.refl _ _⟩
  · obtain ⟨g, cur, rfl, hS, hg, ht⟩ := hr hpos
    have hcs : n ≤ cur.size := by
      have := congrArg List.length ht
      simp [hl] at this
      omega
    clear hr ht hl
    go_enter Try.func59, Try.ntmps59
    go_wp2
    go_loopw [1, 5] (fun kv i wr => ∃ (k m : Nat) (cur' : Array Value), k ≤ n ∧ m = k0 + k ∧ i = .int .i64 k ∧ kv = .int .i64 (m : Nat) ∧ wr.heap[g]? = some (.cells cur' 3 (0, 0)) ∧ cur'.size = cur.size ∧ (∀ j, j < k → cur'[j]? = some (.int .i64 (k0 + j : Nat))) ∧ Upd S w wr) (fun _ i _ => n - (intOf i).toNat)
    case atStart => exact ⟨0, k0, cur, Nat.zero_le _, rfl, rfl, rfl, hg, rfl, fun j hj => by omega, Upd.refl _ _⟩
    case round =>
      obtain ⟨k, m, cur', hk, hm, rfl, rfl, hgr, hsz, hmk, hup⟩ := hrel
      have Hm := hide hm
      have hm2 : (m : Int) ≤ 1099511627776 := by omega
      clear hm
      have HM := hide hmk
      have HZ := hide hsz
      have hsz' : n ≤ cur'.size := by omega
      clear hmk hsz
      by_cases hlt : k < n
      · have hi : (k : Int) < (n : Int) := by omega
        obtain ⟨u0, hu0⟩ : ∃ u, cur'[k]? = some u := ⟨cur'[k]'(by omega), by simp [show k < cur'.size by omega]⟩
        have hcw0 : wr.cell? ⟨g, k, none⟩ = some u0 := (cell_of_row wr _ _ cur' _ (0, 0) hgr).trans hu0
        have hfw0 : wr.frozen? ⟨g, k, none⟩ = false := frozen_of_row wr _ _ cur' _ hgr
        have Hg := hide hgr
        have HS' := hide hsz'
        clear hgr hsz' hu0
        go_wp2
        go_roundw
        case rel =>
          refine ⟨k + 1, m + 1, cur'.setIfInBounds k (.int .i64 (m : Int)), by omega, by rw [Hm.out]; omega, by go_num, by go_num, row_set _ Hg.out, by simpa using HZ.out, fun j hj => ?_, hup.trans (Upd.setCell _ _ _ _ hS)⟩
          by_cases hjk : j = k
          · subst hjk
            rw [Array.getElem?_setIfInBounds_self_of_lt (by have := HS'.out; omega), Hm.out]
          · rw [Array.getElem?_setIfInBounds_ne (by omega)]
            exact HM.out j (by omega)
        case measure => simp [intOf]; omega
      · go_wp2
        go_ret
        obtain rfl : k = n := by omega
        refine ⟨by rw [Hm.out]; rfl, ⟨_, cap, rfl, hn, by simp [ints, mkN_len], fun _ => ⟨g, cur', rfl, hS, hgr, ?_⟩⟩, hup⟩
        have hz := HZ.out
        apply List.ext_getElem?
        intro j
        by_cases hj : j < k
        · rw [List.getElem?_take_of_lt (by omega), ints, List.getElem?_map, mkN_get _ _ _ hj]
          simpa using HM.out j hj
        · rw [List.getElem?_eq_none (by simp; omega), List.getElem?_eq_none (by simp [ints, mkN_len]; omega)]

set_option maxRecDepth 100000 in
set_option maxHeartbeats 4000000 in
theorem heldIntS_ok (v : Value) (n k0 : Nat) (w : World) (hr : RowR w 1 v n (ints (mkN k0 n))) (h2 : k0 + n ≤ 1099511627776) :
    Calls Try.prog 62 #[v, .int .i64 k0] w fun e w' => e = .returned (.int .i64 (k0 + n : Nat)) ∧ Below w.heap.size w w' := by
  obtain ⟨ao, cap, rfl, hn, hl, hr⟩ := hr
  clear hl
  go_enter Try.func62, Try.ntmps62
  go_wp2
  go_loopw [1, 5] (fun kv i wr => ∃ k m : Nat, k ≤ n ∧ m = k0 + k ∧ i = .int .i64 k ∧ kv = .int .i64 (m : Nat) ∧ Below w.heap.size w wr) (fun _ i _ => n - (intOf i).toNat)
  case atStart => exact ⟨0, k0, Nat.zero_le _, rfl, rfl, rfl, Below.refl _ _⟩
  case round =>
    obtain ⟨k, m, hk, hm, rfl, rfl, hbel⟩ := hrel
    have Hm : Hid (m = k0 + k) := hm
    have hm2 : (m : Int) ≤ 1099511627776 := by omega
    clear hm
    by_cases hlt : k < n
    · obtain ⟨b1, o1, rfl, hc1⟩ := hr (by omega)
      have f0 : wr.cell? ⟨b1, o1 + k, none⟩ = some (.int .i64 (m : Int)) := by
        have q := hc1 k (.int .i64 ((k0 + k : Nat) : Int)) (by rw [ints, List.getElem?_map, mkN_get _ _ _ hlt]; rfl)
        rw [Hm.out]
        exact (hbel.cell (p := ⟨b1, o1 + k, none⟩) (World.block_lt_of_cell? w _ q)).trans q
      have hi : (k : Int) < (n : Int) := by omega
      clear hr hc1
      go_wp2
      go_roundw
      case rel => exact ⟨k + 1, m + 1, by omega, by rw [Hm.out]; omega, by go_num, by go_num, hbel⟩
      case measure => simp [intOf]; omega
    · go_wp2
      go_ret
      obtain rfl : k = n := by omega
      exact ⟨by rw [Hm.out]; rfl, hbel⟩

end Go.Proofs.Yteddhdbglciahaa
