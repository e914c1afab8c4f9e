/- Contracts and plain facts that this claim leans on (texts FW1, VP3, SPut, XA, SE, Ints, SK1, FW6, VU, VR, VPa, VI); no statement of the seat is proved here. -/
import Derived.Deep.DeepCutAuto
import Derived.Test.YteddhdbglciahaaHk8
import Derived.Test.YteddhdbglciahaaHk7
import Derived.Test.YteddhdbglciahaaHk4
import Derived.Test.YteddhdbglciahaaHk2
import Derived.Test.YteddhdbglciahaaHk3
import Derived.Test.YteddhdbglciahaaHk1
import Derived.Laws.StructEq
import Derived.Test.YteddhdbglciahaaHk6
import Derived.Laws.ResultCell

/- Rows of words that bear no lists: compared, marked, held: contracts; no statement of the seat is proved here. (Written by wip/tools/mkfw.py.) -/
namespace Go.Proofs.Yteddhdbglciahaa
open Go.RowKit

/-- A word without lists, as cells; rows of such. -/
def fwarr (x : Wd) : Array Value := (#[.int .i64 x.a0, .int .i64 x.a1, .int .i64 x.a2, .int .i64 x.a3, .int .i64 x.a4, .int .i64 x.a5, .int .i64 x.c0, .int .i64 x.c1, .int .i64 x.c2, .int .i64 x.c3, .int .i64 x.c4, .int .i64 x.c5, .int .i64 x.c6, .int .i64 x.c7, .int .i64 x.c8, .int .i64 x.c9, .int .i64 x.b0, .int .i64 x.b1, .int .i64 x.b2, .int .i64 x.b3, .int .i64 x.b4, .int .i64 x.b5, .int .i64 x.b6, .int .i64 x.b7, .slice none 0 0, .slice none 0 0] : Array Value)
def fwcell (x : Wd) : List Value := (fwarr x).toList
def fwcells (xs : List Wd) : List Value := xs.flatMap fwcell
def Flat (x : Wd) : Prop := x.ps = [] ∧ x.ls = []
theorem fwcell_len (x : Wd) : (fwcell x).length = 26 := rfl
theorem fwcells_len (xs : List Wd) : (fwcells xs).length = xs.length * 26 := fm_len fwcell_len xs
theorem fw_one (x : Wd) : (fwarr x).all (·.oneCell') = true := all_of_list rfl
theorem fw_at {w wr : World} {b o k : Nat} {xs : List Wd} {p : Wd} (hc : ∀ j u, (fwcells xs)[j]? = some u → w.cell? ⟨b, o + j, none⟩ = some u) (h : xs[k]? = some p) (hb : Below w.heap.size w wr) :
    ∀ j u, (fwarr p)[j]? = some u → wr.cell? ⟨b, o + k * 26 + j, none⟩ = some u :=
  fun j u hj => (el_cell fwcell_len hc h hb j u (by simpa [fwcell] using hj)).1
theorem fwR {x : Wd} (w : World) (h : Flat x) : WdR w (.agg (fwarr x)) x :=
  ⟨none, 0, none, 0, by rw [h.1, h.2]; rfl, by rw [h.1]; exact RowR.nil _ _, by rw [h.2]; exact RowR.nil _ _⟩
theorem fwcells_ext (xs : List Wd) (cs : List Value) (hl : cs.length = xs.length * 26) (h : ∀ j p, xs[j]? = some p → ∀ r u, (fwarr p)[r]? = some u → cs[j * 26 + r]? = some u) : cs = fwcells xs := by
  apply List.ext_getElem?
  intro i
  by_cases hi : i < xs.length * 26
  · have hj : i / 26 < xs.length := by omega
    obtain ⟨p, hp⟩ := getAt xs (i / 26) hj
    have hr : i % 26 < (fwarr p).size := by show _ < 26; omega
    have g := h (i / 26) p hp (i % 26) _ (Array.getElem?_eq_getElem hr)
    have e : i / 26 * 26 + i % 26 = i := by omega
    rw [e] at g
    have f := fm_at fwcell_len xs (i / 26) p (i % 26) hp (by omega)
    rw [e] at f
    rw [g]
    show _ = (xs.flatMap fwcell)[i]?
    rw [f]
    simp [fwcell]
  · rw [List.getElem?_eq_none (by omega), List.getElem?_eq_none (by rw [fwcells_len]; omega)]

set_option maxRecDepth 100000 in
set_option maxHeartbeats 4000000 in
theorem eqWordS_true (va vb : Value) (n : Nat) (xs : List Wd) (w : World) (hf : ∀ x ∈ xs, Flat x) (ha : RowR w 26 va n (fwcells xs)) (hb : RowR w 26 vb n (fwcells xs)) :
    Calls Try.prog 14 #[va, vb] w fun e w' => e = .returned (.bool true) ∧ Below w.heap.size w w' := by
  obtain ⟨ao, ca, rfl, hn, hl, ha⟩ := ha
  obtain ⟨bo, cb, rfl, _, _, hb⟩ := hb
  rw [fwcells_len] at hl
  have Hl := hide hl
  clear hl
  go_enter Try.func14, Try.ntmps14
  go_wp2
  go_loopw [5] (fun i wr => ∃ k : Nat, k ≤ n ∧ i = .int .i64 k ∧ Below w.heap.size w wr) (fun i _ => n - (intOf i).toNat)
  case atStart => exact ⟨0, Nat.zero_le _, rfl, Below.refl _ _⟩
  case round =>
    obtain ⟨k, hk, rfl, hbel⟩ := hrel
    by_cases hlt : k < n
    · obtain ⟨b1, o1, rfl, hc1⟩ := ha (by omega)
      obtain ⟨b2, o2, rfl, hc2⟩ := hb (by omega)
      obtain ⟨x, hs⟩ := getAt xs k (by have := Hl.out; omega)
      have hx := hide (hf x (List.mem_of_getElem? hs))
      have K1 := hide (fun W (hW : Below w.heap.size w W) => fw_at hc1 hs hW)
      have K2 := hide (fun W (hW : Below w.heap.size w W) => fw_at hc2 hs hW)
      have hi : (k : Int) < (n : Int) := by omega
      clear ha hb hc1 hc2 hs
      have d1 := bDrewB hbel
      go_wp2
      refine wp_region_noPanic ?_
      refine wp_region_held_drew (S := (fun w' => (∀ j u, (fwarr x)[j]? = some u → w'.cell? ⟨b1, o1 + k * 26 + j, none⟩ = some u) ∧ (∀ j u, (fwarr x)[j]? = some u → w'.cell? ⟨b2, o2 + k * 26 + j, none⟩ = some u))) (by kernel_rfl) ?_ (fun hHeld => ?_)
      · exact ⟨K1.out _ d1, K2.out _ d1⟩
      refine wpAnyH_take (i := 0) (v := ?v1) rfl (by kernel_rfl) (by kernel_rfl) (by kernel_rfl) (fun _ _ _ h => h) (Or.inl ⟨by rfl, ?hy1⟩) (by assumption) ?rest1
      case hy1 => ((intro w hSw; (try dsimp only at hSw); (try simp only [List.getElem_toArray, List.getElem_cons_zero]); go_simp; first | done | (with_reducible rfl)))
      simp only [Act.put, List.getElem_toArray, List.getElem_cons_zero, List.setIfInBounds_toArray, List.set_cons_zero, List.set_cons_succ]
      refine wpAnyH_take (i := 1) (v := ?v2) rfl (by kernel_rfl) (by kernel_rfl) (by kernel_rfl) (fun _ _ _ h => h) (Or.inl ⟨by rfl, ?hy2⟩) (by assumption) ?rest2
      case hy2 => ((intro w hSw; (try dsimp only at hSw); (try simp only [List.getElem_toArray, List.getElem_cons_zero, List.getElem_cons_succ]); go_simp; first | done | (with_reducible rfl)))
      simp only [Act.put, List.getElem_toArray, List.getElem_cons_zero, List.getElem_cons_succ, List.setIfInBounds_toArray, List.set_cons_zero, List.set_cons_succ]
      refine wpAnyH_take (i := 2) (v := ?v3) rfl (by kernel_rfl) (by kernel_rfl) (by kernel_rfl) (fun _ _ _ h => h) (Or.inl ⟨by rfl, ?hy3⟩) (by assumption) ?rest3
      case hy3 => ((intro w hSw; (try dsimp only at hSw); (try simp only [List.getElem_toArray, List.getElem_cons_zero, List.getElem_cons_succ]); go_simp; first | done | (with_reducible rfl)))
      simp only [Act.put, List.getElem_toArray, List.getElem_cons_zero, List.getElem_cons_succ, List.setIfInBounds_toArray, List.set_cons_zero, List.set_cons_succ]
      refine wpAnyH_take (i := 3) (v := .agg (fwarr x)) rfl (by kernel_rfl) (by kernel_rfl) (by kernel_rfl) (fun _ _ _ h => h) (yields_at rfl 47 (.tmp 19) rfl (b1) (o1 + k * 26) rfl (fwarr x) _ (fun _ h => h.1) Try.underlying47 rfl infoWd) (by assumption) ?_
      simp only [Act.put, List.getElem_toArray, List.getElem_cons_zero, List.getElem_cons_succ, List.setIfInBounds_toArray, List.set_cons_zero, List.set_cons_succ]
      refine wpAnyH_take (i := 4) (v := ?v4) rfl (by kernel_rfl) (by kernel_rfl) (by kernel_rfl) (fun _ _ _ h => h) (Or.inl ⟨by rfl, ?hy4⟩) (by assumption) ?rest4
      case hy4 => ((intro w hSw; (try dsimp only at hSw); (try simp only [List.getElem_toArray, List.getElem_cons_zero, List.getElem_cons_succ]); go_simp; first | done | (with_reducible rfl)))
      simp only [Act.put, List.getElem_toArray, List.getElem_cons_zero, List.getElem_cons_succ, List.setIfInBounds_toArray, List.set_cons_zero, List.set_cons_succ]
      refine wpAnyH_take (i := 5) (v := ?v5) rfl (by kernel_rfl) (by kernel_rfl) (by kernel_rfl) (fun _ _ _ h => h) (Or.inl ⟨by rfl, ?hy5⟩) (by assumption) ?rest5
      case hy5 => ((intro w hSw; (try dsimp only at hSw); (try simp only [List.getElem_toArray, List.getElem_cons_zero, List.getElem_cons_succ]); go_simp; first | done | (with_reducible rfl)))
      simp only [Act.put, List.getElem_toArray, List.getElem_cons_zero, List.getElem_cons_succ, List.setIfInBounds_toArray, List.set_cons_zero, List.set_cons_succ]
      refine wpAnyH_take (i := 6) (v := ?v6) rfl (by kernel_rfl) (by kernel_rfl) (by kernel_rfl) (fun _ _ _ h => h) (Or.inl ⟨by rfl, ?hy6⟩) (by assumption) ?rest6
      case hy6 => ((intro w hSw; (try dsimp only at hSw); (try simp only [List.getElem_toArray, List.getElem_cons_zero, List.getElem_cons_succ]); go_simp; first | done | (with_reducible rfl)))
      simp only [Act.put, List.getElem_toArray, List.getElem_cons_zero, List.getElem_cons_succ, List.setIfInBounds_toArray, List.set_cons_zero, List.set_cons_succ]
      refine wpAnyH_take (i := 7) (v := .agg (fwarr x)) rfl (by kernel_rfl) (by kernel_rfl) (by kernel_rfl) (fun _ _ _ h => h) (yields_at rfl 47 (.tmp 23) rfl (b2) (o2 + k * 26) rfl (fwarr x) _ (fun _ h => h.2) Try.underlying47 rfl infoWd) (by assumption) ?_
      simp only [Act.put, List.getElem_toArray, List.getElem_cons_zero, List.getElem_cons_succ, List.setIfInBounds_toArray, List.set_cons_zero, List.set_cons_succ]
      refine wpAnyH_ready (rs := [8]) (by kernel_rfl) (by simp) ?_
      refine AllReadyH.cons rfl (fun K hK => ?_) AllReadyH.nil
      go_simp
      (go_at_call 15; refine (eqWord_true _ _ x _ (fwR _ hx.out) (fwR _ hx.out)).mono ?_; rintro e w1 ⟨rfl, b1'⟩; have c1 := bAll hbel (bUndrew b1'))
      refine hK.out _ _ ?_ (fun hHeld => ?_)
      · exact ⟨K1.out _ c1, K2.out _ c1⟩
      clear hK K
      refine wpAnyH_take (i := 9) (v := ?v7) rfl (by kernel_rfl) (by kernel_rfl) (by kernel_rfl) (fun _ _ _ h => h) (Or.inl ⟨by rfl, ?hy7⟩) (by assumption) ?rest7
      case hy7 => ((intro w hSw; (try dsimp only at hSw); (try simp only [List.getElem_toArray, List.getElem_cons_zero, List.getElem_cons_succ]); go_simp; first | done | (with_reducible rfl)))
      simp only [Act.put, List.getElem_toArray, List.getElem_cons_zero, List.getElem_cons_succ, List.setIfInBounds_toArray, List.set_cons_zero, List.set_cons_succ]
      refine wpAnyH_done (by kernel_rfl) ?_ _
      refine NoPanic.normal ?_
      go_wp2
      go_roundw
      case rel => exact ⟨k + 1, by omega, by go_num, c1⟩
      case measure => simp [intOf]; omega
    · go_wp2
      go_ret
      exact ⟨rfl, hbel⟩

/-- Marks that are written one behind the other: so far. -/
structure MkI (V : World) (g : Nat) (cur0 : Array Value) (b c m : Nat) (t : TypeId) : Prop where
  ex : ∃ cur, V.heap[g]? = some (.cells cur t (0, 0)) ∧ cur.size = cur0.size ∧ (∀ r, r < c → cur[b + r]? = some (.int .i64 ((m + r : Nat) : Int))) ∧ ∀ i, i < b ∨ b + c ≤ i → cur[i]? = cur0[i]?
theorem MkI.cell {V : World} {g : Nat} {cur0 : Array Value} {b c m : Nat} {t : TypeId} (h : MkI V g cur0 b c m t) (hb : b + c < cur0.size) : ∃ u, V.cell? ⟨g, b + c, none⟩ = some u := by
  obtain ⟨cur, h1, h2, -, -⟩ := h.ex
  exact ⟨cur[b + c]'(by omega), (cell_of_row V _ _ cur _ (0, 0) h1).trans (by simp [show b + c < cur.size by omega])⟩
theorem MkI.fz {V : World} {g : Nat} {cur0 : Array Value} {b c m : Nat} {t : TypeId} {o : Nat} (h : MkI V g cur0 b c m t) : V.frozen? ⟨g, o, none⟩ = false := by
  obtain ⟨cur, h1, -, -, -⟩ := h.ex
  exact frozen_of_row V _ _ cur _ h1
theorem MkI.step {V : World} {g : Nat} {cur0 : Array Value} {b c m : Nat} {t : TypeId} (h : MkI V g cur0 b c m t) (hb : b + c < cur0.size) (V' : World) {z : Int} (e : V.setCell ⟨g, b + c, none⟩ (.int .i64 z) = V') (hz : z = ((m + c : Nat) : Int)) : MkI V' g cur0 b (c + 1) m t := by
  obtain ⟨cur, h1, h2, h3, h4⟩ := h.ex
  subst e hz
  refine ⟨_, row_set _ h1, by simpa using h2, fun r hr => ?_, fun i hi => ?_⟩
  · by_cases hrc : r = c
    · subst hrc
      rw [Array.getElem?_setIfInBounds_self_of_lt (by omega)]
    · rw [Array.getElem?_setIfInBounds_ne (by omega)]
      exact h3 r (by omega)
  · rw [Array.getElem?_setIfInBounds_ne (by omega)]
    exact h4 i (by omega)

/-- The marks of words without lists. -/
def mkFw (m : Nat) : Wd := { a0 := ((m + 0 : Nat) : Int), a1 := ((m + 1 : Nat) : Int), a2 := ((m + 2 : Nat) : Int), a3 := ((m + 3 : Nat) : Int), a4 := ((m + 4 : Nat) : Int), a5 := ((m + 5 : Nat) : Int), c0 := ((m + 6 : Nat) : Int), c1 := ((m + 7 : Nat) : Int), c2 := ((m + 8 : Nat) : Int), c3 := ((m + 9 : Nat) : Int), c4 := ((m + 10 : Nat) : Int), c5 := ((m + 11 : Nat) : Int), c6 := ((m + 12 : Nat) : Int), c7 := ((m + 13 : Nat) : Int), c8 := ((m + 14 : Nat) : Int), c9 := ((m + 15 : Nat) : Int), b0 := ((m + 16 : Nat) : Int), b1 := ((m + 17 : Nat) : Int), b2 := ((m + 18 : Nat) : Int), b3 := ((m + 19 : Nat) : Int), b4 := ((m + 20 : Nat) : Int), b5 := ((m + 21 : Nat) : Int), b6 := ((m + 22 : Nat) : Int), b7 := ((m + 23 : Nat) : Int), ps := [], ls := [] }
def mkF (k n : Nat) : List Wd := (List.range n).map fun i => mkFw (k + i * 24)
theorem mkF_len (k n : Nat) : (mkF k n).length = n := by simp [mkF]
theorem mkF_get (k n i : Nat) (h : i < n) : (mkF k n)[i]? = some (mkFw (k + i * 24)) := by simp [mkF, h]
set_option maxRecDepth 10000 in
theorem mkFw_at (m r : Nat) (h : r < 24) : (fwarr (mkFw m))[r]? = some (.int .i64 ((m + r : Nat) : Int)) := by
  rcases (by omega : r = 0 ∨ r = 1 ∨ r = 2 ∨ r = 3 ∨ r = 4 ∨ r = 5 ∨ r = 6 ∨ r = 7 ∨ r = 8 ∨ r = 9 ∨ r = 10 ∨ r = 11 ∨ r = 12 ∨ r = 13 ∨ r = 14 ∨ r = 15 ∨ r = 16 ∨ r = 17 ∨ r = 18 ∨ r = 19 ∨ r = 20 ∨ r = 21 ∨ r = 22 ∨ r = 23) with rfl | rfl | rfl | rfl | rfl | rfl | rfl | rfl | rfl | rfl | rfl | rfl | rfl | rfl | rfl | rfl | rfl | rfl | rfl | rfl | rfl | rfl | rfl | rfl <;> rfl
set_option maxRecDepth 100000 in
set_option maxHeartbeats 32000000 in
theorem markWordS_any (S : Nat → Prop) (v : Value) (n : Nat) (xs : List Wd) (k0 : Nat) (w : World) (hr : Row w 47 26 S v n (fwcells xs)) (hxl : xs.length = n) (_h1 : 1 ≤ k0) (h2 : k0 + n * 24 ≤ 1099511627776) :
    Calls Try.prog 18 #[v, .int .i64 k0] w fun e w' => e = .returned (.int .i64 (k0 + n * 24 : Nat)) ∧ Row w' 47 26 S v n (fwcells (mkF k0 n)) ∧ Upd S w w' := by
  obtain ⟨ao, cap, rfl, hn, hl, hr⟩ := hr
  rcases Nat.eq_zero_or_pos n with rfl | hpos
  · go_enter Try.func18, Try.ntmps18
    go_wp2
    refine wp_loop_rounds 1 ?_
    rw [rounds_succ]
    go_wp2
    go_ret
    exact ⟨rfl, ⟨ao, cap, rfl, hn, by simp [mkF, fwcells], fun h => by omega⟩, Upd.refl _ _⟩
  · obtain ⟨g, cur, rfl, hS, hg, ht⟩ := hr hpos
    have hcs : n * 26 ≤ cur.size := by
      have := congrArg List.length ht
      simp [hl] at this
      omega
    have hSl : ∀ j, j < n → cur[j * 26 + 24]? = some (.slice none 0 0) ∧ cur[j * 26 + 25]? = some (.slice none 0 0) := by
      intro j hj
      obtain ⟨x, hx⟩ := getAt xs j (by omega)
      have f24 := fm_at fwcell_len xs j x 24 hx (by omega)
      have f25 := fm_at fwcell_len xs j x 25 hx (by omega)
      have ht' : cur.toList.take (n * 26) = xs.flatMap fwcell := ht
      rw [← ht', List.getElem?_take_of_lt (by omega)] at f24 f25
      rw [show (fwcell x)[24]? = some (.slice none 0 0) from rfl] at f24
      rw [show (fwcell x)[25]? = some (.slice none 0 0) from rfl] at f25
      exact ⟨by simpa using f24, by simpa using f25⟩
    have HSL := hide hSl
    clear hr ht hl hSl
    go_enter Try.func18, Try.ntmps18
    go_wp2
    go_loopw [1, 5] (fun kv i wr => ∃ (k m : Nat) (cur' : Array Value), k ≤ n ∧ m = k0 + k * 24 ∧ i = .int .i64 k ∧ kv = .int .i64 (m : Nat) ∧ wr.heap[g]? = some (.cells cur' 47 (0, 0)) ∧ cur'.size = cur.size ∧ (∀ j r, j < k → r < 24 → cur'[j * 26 + r]? = some (.int .i64 (k0 + j * 24 + r : Nat))) ∧ (∀ j, j < n → cur'[j * 26 + 24]? = some (.slice none 0 0) ∧ cur'[j * 26 + 25]? = some (.slice none 0 0)) ∧ Upd S w wr) (fun _ i _ => n - (intOf i).toNat)
    case atStart => exact ⟨0, k0, cur, Nat.zero_le _, rfl, rfl, rfl, hg, rfl, fun j r hj => by omega, HSL.out, Upd.refl _ _⟩
    case round =>
      obtain ⟨k, m, cur', hk, hm, rfl, rfl, hgr, hsz, hmk, hsl, hup⟩ := hrel
      have Hm := hide hm
      have hm2 : (m : Int) ≤ 1099511627776 := by omega
      have hm3 : ((m + 24 : Nat) : Int) ≤ 1099511627776 ∨ k = n := by omega
      clear hm
      have HM := hide hmk
      have HL := hide hsl
      have HZ := hide hsz
      have hsz' : n * 26 ≤ cur'.size := by omega
      clear hmk hsz hsl
      by_cases hlt : k < n
      · have hi : (k : Int) < (n : Int) := by omega
        have hk3 : k * 26 + 26 ≤ cur'.size := by omega
        have I0 : MkI wr g cur' (k * 26) 0 m 47 := ⟨cur', hgr, rfl, fun r h => by omega, fun i _ => rfl⟩
        have U0 : Upd S wr wr := Upd.refl _ _
        have Hg := hide hgr
        have HK3 := hide hk3
        have HS' := hide hsz'
        have Hm0 : Hid (m = m + 0) := rfl
        clear hgr hsz'
        obtain ⟨u, c0⟩ := I0.cell (by omega)
        have c1 : wr.cell? ⟨g, k * 26, none⟩ = some u := c0
        have f1 : wr.frozen? ⟨g, k * 26, none⟩ = false := I0.fz
        clear c0
        go_upto_region 6 with fail
        generalize hV : World.setCell _ _ _ = V1
        have I1 := I0.step (by omega) V1 hV (by have := Hm0.out; omega)
        have U1 : Upd S wr V1 := U0.trans (by rw [← hV]; exact Upd.setCell _ _ _ _ hS)
        obtain ⟨m1, hm⟩ : ∃ q : Nat, q = m + 1 := ⟨_, rfl⟩
        have Hm1 := hide hm
        have hb1 : (m1 : Int) ≤ 1099511627776 := by omega
        rw [show (m : Int) + 1 = (m1 : Int) by have := Hm0.out; omega]
        clear hV c1 f1 hm I0 U0
        obtain ⟨u, c0⟩ := I1.cell (by omega)
        have c1 : V1.cell? ⟨g, k * 26 + 1, none⟩ = some u := c0
        have f1 : V1.frozen? ⟨g, k * 26 + 1, none⟩ = false := I1.fz
        clear c0
        go_upto_region 8 with fail
        generalize hV : World.setCell _ _ _ = V2
        have I2 := I1.step (by omega) V2 hV (by have := Hm1.out; omega)
        have U2 : Upd S wr V2 := U1.trans (by rw [← hV]; exact Upd.setCell _ _ _ _ hS)
        obtain ⟨m2, hm⟩ : ∃ q : Nat, q = m + 2 := ⟨_, rfl⟩
        have Hm2 := hide hm
        have hb2 : (m2 : Int) ≤ 1099511627776 := by omega
        rw [show (m1 : Int) + 1 = (m2 : Int) by have := Hm1.out; omega]
        clear hV c1 f1 hm I1 U1
        clear hb1 Hm1
        obtain ⟨u, c0⟩ := I2.cell (by omega)
        have c1 : V2.cell? ⟨g, k * 26 + 2, none⟩ = some u := c0
        have f1 : V2.frozen? ⟨g, k * 26 + 2, none⟩ = false := I2.fz
        clear c0
        go_upto_region 10 with fail
        generalize hV : World.setCell _ _ _ = V3
        have I3 := I2.step (by omega) V3 hV (by have := Hm2.out; omega)
        have U3 : Upd S wr V3 := U2.trans (by rw [← hV]; exact Upd.setCell _ _ _ _ hS)
        obtain ⟨m3, hm⟩ : ∃ q : Nat, q = m + 3 := ⟨_, rfl⟩
        have Hm3 := hide hm
        have hb3 : (m3 : Int) ≤ 1099511627776 := by omega
        rw [show (m2 : Int) + 1 = (m3 : Int) by have := Hm2.out; omega]
        clear hV c1 f1 hm I2 U2
        clear hb2 Hm2
        obtain ⟨u, c0⟩ := I3.cell (by omega)
        have c1 : V3.cell? ⟨g, k * 26 + 3, none⟩ = some u := c0
        have f1 : V3.frozen? ⟨g, k * 26 + 3, none⟩ = false := I3.fz
        clear c0
        go_upto_region 12 with fail
        generalize hV : World.setCell _ _ _ = V4
        have I4 := I3.step (by omega) V4 hV (by have := Hm3.out; omega)
        have U4 : Upd S wr V4 := U3.trans (by rw [← hV]; exact Upd.setCell _ _ _ _ hS)
        obtain ⟨m4, hm⟩ : ∃ q : Nat, q = m + 4 := ⟨_, rfl⟩
        have Hm4 := hide hm
        have hb4 : (m4 : Int) ≤ 1099511627776 := by omega
        rw [show (m3 : Int) + 1 = (m4 : Int) by have := Hm3.out; omega]
        clear hV c1 f1 hm I3 U3
        clear hb3 Hm3
        obtain ⟨u, c0⟩ := I4.cell (by omega)
        have c1 : V4.cell? ⟨g, k * 26 + 4, none⟩ = some u := c0
        have f1 : V4.frozen? ⟨g, k * 26 + 4, none⟩ = false := I4.fz
        clear c0
        go_upto_region 14 with fail
        generalize hV : World.setCell _ _ _ = V5
        have I5 := I4.step (by omega) V5 hV (by have := Hm4.out; omega)
        have U5 : Upd S wr V5 := U4.trans (by rw [← hV]; exact Upd.setCell _ _ _ _ hS)
        obtain ⟨m5, hm⟩ : ∃ q : Nat, q = m + 5 := ⟨_, rfl⟩
        have Hm5 := hide hm
        have hb5 : (m5 : Int) ≤ 1099511627776 := by omega
        rw [show (m4 : Int) + 1 = (m5 : Int) by have := Hm4.out; omega]
        clear hV c1 f1 hm I4 U4
        clear hb4 Hm4
        obtain ⟨u, c0⟩ := I5.cell (by omega)
        have c1 : V5.cell? ⟨g, k * 26 + 5, none⟩ = some u := c0
        have f1 : V5.frozen? ⟨g, k * 26 + 5, none⟩ = false := I5.fz
        clear c0
        go_upto_region 16 with fail
        generalize hV : World.setCell _ _ _ = V6
        have I6 := I5.step (by omega) V6 hV (by have := Hm5.out; omega)
        have U6 : Upd S wr V6 := U5.trans (by rw [← hV]; exact Upd.setCell _ _ _ _ hS)
        obtain ⟨m6, hm⟩ : ∃ q : Nat, q = m + 6 := ⟨_, rfl⟩
        have Hm6 := hide hm
        have hb6 : (m6 : Int) ≤ 1099511627776 := by omega
        rw [show (m5 : Int) + 1 = (m6 : Int) by have := Hm5.out; omega]
        clear hV c1 f1 hm I5 U5
        clear hb5 Hm5
        obtain ⟨u, c0⟩ := I6.cell (by omega)
        have c1 : V6.cell? ⟨g, k * 26 + 6, none⟩ = some u := c0
        have f1 : V6.frozen? ⟨g, k * 26 + 6, none⟩ = false := I6.fz
        clear c0
        go_upto_region 18 with fail
        generalize hV : World.setCell _ _ _ = V7
        have I7 := I6.step (by omega) V7 hV (by have := Hm6.out; omega)
        have U7 : Upd S wr V7 := U6.trans (by rw [← hV]; exact Upd.setCell _ _ _ _ hS)
        obtain ⟨m7, hm⟩ : ∃ q : Nat, q = m + 7 := ⟨_, rfl⟩
        have Hm7 := hide hm
        have hb7 : (m7 : Int) ≤ 1099511627776 := by omega
        rw [show (m6 : Int) + 1 = (m7 : Int) by have := Hm6.out; omega]
        clear hV c1 f1 hm I6 U6
        clear hb6 Hm6
        obtain ⟨u, c0⟩ := I7.cell (by omega)
        have c1 : V7.cell? ⟨g, k * 26 + 7, none⟩ = some u := c0
        have f1 : V7.frozen? ⟨g, k * 26 + 7, none⟩ = false := I7.fz
        clear c0
        go_upto_region 20 with fail
        generalize hV : World.setCell _ _ _ = V8
        have I8 := I7.step (by omega) V8 hV (by have := Hm7.out; omega)
        have U8 : Upd S wr V8 := U7.trans (by rw [← hV]; exact Upd.setCell _ _ _ _ hS)
        obtain ⟨m8, hm⟩ : ∃ q : Nat, q = m + 8 := ⟨_, rfl⟩
        have Hm8 := hide hm
        have hb8 : (m8 : Int) ≤ 1099511627776 := by omega
        rw [show (m7 : Int) + 1 = (m8 : Int) by have := Hm7.out; omega]
        clear hV c1 f1 hm I7 U7
        clear hb7 Hm7
        obtain ⟨u, c0⟩ := I8.cell (by omega)
        have c1 : V8.cell? ⟨g, k * 26 + 8, none⟩ = some u := c0
        have f1 : V8.frozen? ⟨g, k * 26 + 8, none⟩ = false := I8.fz
        clear c0
        go_upto_region 22 with fail
        generalize hV : World.setCell _ _ _ = V9
        have I9 := I8.step (by omega) V9 hV (by have := Hm8.out; omega)
        have U9 : Upd S wr V9 := U8.trans (by rw [← hV]; exact Upd.setCell _ _ _ _ hS)
        obtain ⟨m9, hm⟩ : ∃ q : Nat, q = m + 9 := ⟨_, rfl⟩
        have Hm9 := hide hm
        have hb9 : (m9 : Int) ≤ 1099511627776 := by omega
        rw [show (m8 : Int) + 1 = (m9 : Int) by have := Hm8.out; omega]
        clear hV c1 f1 hm I8 U8
        clear hb8 Hm8
        obtain ⟨u, c0⟩ := I9.cell (by omega)
        have c1 : V9.cell? ⟨g, k * 26 + 9, none⟩ = some u := c0
        have f1 : V9.frozen? ⟨g, k * 26 + 9, none⟩ = false := I9.fz
        clear c0
        go_upto_region 24 with fail
        generalize hV : World.setCell _ _ _ = V10
        have I10 := I9.step (by omega) V10 hV (by have := Hm9.out; omega)
        have U10 : Upd S wr V10 := U9.trans (by rw [← hV]; exact Upd.setCell _ _ _ _ hS)
        obtain ⟨m10, hm⟩ : ∃ q : Nat, q = m + 10 := ⟨_, rfl⟩
        have Hm10 := hide hm
        have hb10 : (m10 : Int) ≤ 1099511627776 := by omega
        rw [show (m9 : Int) + 1 = (m10 : Int) by have := Hm9.out; omega]
        clear hV c1 f1 hm I9 U9
        clear hb9 Hm9
        obtain ⟨u, c0⟩ := I10.cell (by omega)
        have c1 : V10.cell? ⟨g, k * 26 + 10, none⟩ = some u := c0
        have f1 : V10.frozen? ⟨g, k * 26 + 10, none⟩ = false := I10.fz
        clear c0
        go_upto_region 26 with fail
        generalize hV : World.setCell _ _ _ = V11
        have I11 := I10.step (by omega) V11 hV (by have := Hm10.out; omega)
        have U11 : Upd S wr V11 := U10.trans (by rw [← hV]; exact Upd.setCell _ _ _ _ hS)
        obtain ⟨m11, hm⟩ : ∃ q : Nat, q = m + 11 := ⟨_, rfl⟩
        have Hm11 := hide hm
        have hb11 : (m11 : Int) ≤ 1099511627776 := by omega
        rw [show (m10 : Int) + 1 = (m11 : Int) by have := Hm10.out; omega]
        clear hV c1 f1 hm I10 U10
        clear hb10 Hm10
        obtain ⟨u, c0⟩ := I11.cell (by omega)
        have c1 : V11.cell? ⟨g, k * 26 + 11, none⟩ = some u := c0
        have f1 : V11.frozen? ⟨g, k * 26 + 11, none⟩ = false := I11.fz
        clear c0
        go_upto_region 28 with fail
        generalize hV : World.setCell _ _ _ = V12
        have I12 := I11.step (by omega) V12 hV (by have := Hm11.out; omega)
        have U12 : Upd S wr V12 := U11.trans (by rw [← hV]; exact Upd.setCell _ _ _ _ hS)
        obtain ⟨m12, hm⟩ : ∃ q : Nat, q = m + 12 := ⟨_, rfl⟩
        have Hm12 := hide hm
        have hb12 : (m12 : Int) ≤ 1099511627776 := by omega
        rw [show (m11 : Int) + 1 = (m12 : Int) by have := Hm11.out; omega]
        clear hV c1 f1 hm I11 U11
        clear hb11 Hm11
        obtain ⟨u, c0⟩ := I12.cell (by omega)
        have c1 : V12.cell? ⟨g, k * 26 + 12, none⟩ = some u := c0
        have f1 : V12.frozen? ⟨g, k * 26 + 12, none⟩ = false := I12.fz
        clear c0
        go_upto_region 30 with fail
        generalize hV : World.setCell _ _ _ = V13
        have I13 := I12.step (by omega) V13 hV (by have := Hm12.out; omega)
        have U13 : Upd S wr V13 := U12.trans (by rw [← hV]; exact Upd.setCell _ _ _ _ hS)
        obtain ⟨m13, hm⟩ : ∃ q : Nat, q = m + 13 := ⟨_, rfl⟩
        have Hm13 := hide hm
        have hb13 : (m13 : Int) ≤ 1099511627776 := by omega
        rw [show (m12 : Int) + 1 = (m13 : Int) by have := Hm12.out; omega]
        clear hV c1 f1 hm I12 U12
        clear hb12 Hm12
        obtain ⟨u, c0⟩ := I13.cell (by omega)
        have c1 : V13.cell? ⟨g, k * 26 + 13, none⟩ = some u := c0
        have f1 : V13.frozen? ⟨g, k * 26 + 13, none⟩ = false := I13.fz
        clear c0
        go_upto_region 32 with fail
        generalize hV : World.setCell _ _ _ = V14
        have I14 := I13.step (by omega) V14 hV (by have := Hm13.out; omega)
        have U14 : Upd S wr V14 := U13.trans (by rw [← hV]; exact Upd.setCell _ _ _ _ hS)
        obtain ⟨m14, hm⟩ : ∃ q : Nat, q = m + 14 := ⟨_, rfl⟩
        have Hm14 := hide hm
        have hb14 : (m14 : Int) ≤ 1099511627776 := by omega
        rw [show (m13 : Int) + 1 = (m14 : Int) by have := Hm13.out; omega]
        clear hV c1 f1 hm I13 U13
        clear hb13 Hm13
        obtain ⟨u, c0⟩ := I14.cell (by omega)
        have c1 : V14.cell? ⟨g, k * 26 + 14, none⟩ = some u := c0
        have f1 : V14.frozen? ⟨g, k * 26 + 14, none⟩ = false := I14.fz
        clear c0
        go_upto_region 34 with fail
        generalize hV : World.setCell _ _ _ = V15
        have I15 := I14.step (by omega) V15 hV (by have := Hm14.out; omega)
        have U15 : Upd S wr V15 := U14.trans (by rw [← hV]; exact Upd.setCell _ _ _ _ hS)
        obtain ⟨m15, hm⟩ : ∃ q : Nat, q = m + 15 := ⟨_, rfl⟩
        have Hm15 := hide hm
        have hb15 : (m15 : Int) ≤ 1099511627776 := by omega
        rw [show (m14 : Int) + 1 = (m15 : Int) by have := Hm14.out; omega]
        clear hV c1 f1 hm I14 U14
        clear hb14 Hm14
        obtain ⟨u, c0⟩ := I15.cell (by omega)
        have c1 : V15.cell? ⟨g, k * 26 + 15, none⟩ = some u := c0
        have f1 : V15.frozen? ⟨g, k * 26 + 15, none⟩ = false := I15.fz
        clear c0
        go_upto_region 36 with fail
        generalize hV : World.setCell _ _ _ = V16
        have I16 := I15.step (by omega) V16 hV (by have := Hm15.out; omega)
        have U16 : Upd S wr V16 := U15.trans (by rw [← hV]; exact Upd.setCell _ _ _ _ hS)
        obtain ⟨m16, hm⟩ : ∃ q : Nat, q = m + 16 := ⟨_, rfl⟩
        have Hm16 := hide hm
        have hb16 : (m16 : Int) ≤ 1099511627776 := by omega
        rw [show (m15 : Int) + 1 = (m16 : Int) by have := Hm15.out; omega]
        clear hV c1 f1 hm I15 U15
        clear hb15 Hm15
        obtain ⟨u, c0⟩ := I16.cell (by omega)
        have c1 : V16.cell? ⟨g, k * 26 + 16, none⟩ = some u := c0
        have f1 : V16.frozen? ⟨g, k * 26 + 16, none⟩ = false := I16.fz
        clear c0
        go_upto_region 38 with fail
        generalize hV : World.setCell _ _ _ = V17
        have I17 := I16.step (by omega) V17 hV (by have := Hm16.out; omega)
        have U17 : Upd S wr V17 := U16.trans (by rw [← hV]; exact Upd.setCell _ _ _ _ hS)
        obtain ⟨m17, hm⟩ : ∃ q : Nat, q = m + 17 := ⟨_, rfl⟩
        have Hm17 := hide hm
        have hb17 : (m17 : Int) ≤ 1099511627776 := by omega
        rw [show (m16 : Int) + 1 = (m17 : Int) by have := Hm16.out; omega]
        clear hV c1 f1 hm I16 U16
        clear hb16 Hm16
        obtain ⟨u, c0⟩ := I17.cell (by omega)
        have c1 : V17.cell? ⟨g, k * 26 + 17, none⟩ = some u := c0
        have f1 : V17.frozen? ⟨g, k * 26 + 17, none⟩ = false := I17.fz
        clear c0
        go_upto_region 40 with fail
        generalize hV : World.setCell _ _ _ = V18
        have I18 := I17.step (by omega) V18 hV (by have := Hm17.out; omega)
        have U18 : Upd S wr V18 := U17.trans (by rw [← hV]; exact Upd.setCell _ _ _ _ hS)
        obtain ⟨m18, hm⟩ : ∃ q : Nat, q = m + 18 := ⟨_, rfl⟩
        have Hm18 := hide hm
        have hb18 : (m18 : Int) ≤ 1099511627776 := by omega
        rw [show (m17 : Int) + 1 = (m18 : Int) by have := Hm17.out; omega]
        clear hV c1 f1 hm I17 U17
        clear hb17 Hm17
        obtain ⟨u, c0⟩ := I18.cell (by omega)
        have c1 : V18.cell? ⟨g, k * 26 + 18, none⟩ = some u := c0
        have f1 : V18.frozen? ⟨g, k * 26 + 18, none⟩ = false := I18.fz
        clear c0
        go_upto_region 42 with fail
        generalize hV : World.setCell _ _ _ = V19
        have I19 := I18.step (by omega) V19 hV (by have := Hm18.out; omega)
        have U19 : Upd S wr V19 := U18.trans (by rw [← hV]; exact Upd.setCell _ _ _ _ hS)
        obtain ⟨m19, hm⟩ : ∃ q : Nat, q = m + 19 := ⟨_, rfl⟩
        have Hm19 := hide hm
        have hb19 : (m19 : Int) ≤ 1099511627776 := by omega
        rw [show (m18 : Int) + 1 = (m19 : Int) by have := Hm18.out; omega]
        clear hV c1 f1 hm I18 U18
        clear hb18 Hm18
        obtain ⟨u, c0⟩ := I19.cell (by omega)
        have c1 : V19.cell? ⟨g, k * 26 + 19, none⟩ = some u := c0
        have f1 : V19.frozen? ⟨g, k * 26 + 19, none⟩ = false := I19.fz
        clear c0
        go_upto_region 44 with fail
        generalize hV : World.setCell _ _ _ = V20
        have I20 := I19.step (by omega) V20 hV (by have := Hm19.out; omega)
        have U20 : Upd S wr V20 := U19.trans (by rw [← hV]; exact Upd.setCell _ _ _ _ hS)
        obtain ⟨m20, hm⟩ : ∃ q : Nat, q = m + 20 := ⟨_, rfl⟩
        have Hm20 := hide hm
        have hb20 : (m20 : Int) ≤ 1099511627776 := by omega
        rw [show (m19 : Int) + 1 = (m20 : Int) by have := Hm19.out; omega]
        clear hV c1 f1 hm I19 U19
        clear hb19 Hm19
        obtain ⟨u, c0⟩ := I20.cell (by omega)
        have c1 : V20.cell? ⟨g, k * 26 + 20, none⟩ = some u := c0
        have f1 : V20.frozen? ⟨g, k * 26 + 20, none⟩ = false := I20.fz
        clear c0
        go_upto_region 46 with fail
        generalize hV : World.setCell _ _ _ = V21
        have I21 := I20.step (by omega) V21 hV (by have := Hm20.out; omega)
        have U21 : Upd S wr V21 := U20.trans (by rw [← hV]; exact Upd.setCell _ _ _ _ hS)
        obtain ⟨m21, hm⟩ : ∃ q : Nat, q = m + 21 := ⟨_, rfl⟩
        have Hm21 := hide hm
        have hb21 : (m21 : Int) ≤ 1099511627776 := by omega
        rw [show (m20 : Int) + 1 = (m21 : Int) by have := Hm20.out; omega]
        clear hV c1 f1 hm I20 U20
        clear hb20 Hm20
        obtain ⟨u, c0⟩ := I21.cell (by omega)
        have c1 : V21.cell? ⟨g, k * 26 + 21, none⟩ = some u := c0
        have f1 : V21.frozen? ⟨g, k * 26 + 21, none⟩ = false := I21.fz
        clear c0
        go_upto_region 48 with fail
        generalize hV : World.setCell _ _ _ = V22
        have I22 := I21.step (by omega) V22 hV (by have := Hm21.out; omega)
        have U22 : Upd S wr V22 := U21.trans (by rw [← hV]; exact Upd.setCell _ _ _ _ hS)
        obtain ⟨m22, hm⟩ : ∃ q : Nat, q = m + 22 := ⟨_, rfl⟩
        have Hm22 := hide hm
        have hb22 : (m22 : Int) ≤ 1099511627776 := by omega
        rw [show (m21 : Int) + 1 = (m22 : Int) by have := Hm21.out; omega]
        clear hV c1 f1 hm I21 U21
        clear hb21 Hm21
        obtain ⟨u, c0⟩ := I22.cell (by omega)
        have c1 : V22.cell? ⟨g, k * 26 + 22, none⟩ = some u := c0
        have f1 : V22.frozen? ⟨g, k * 26 + 22, none⟩ = false := I22.fz
        clear c0
        go_upto_region 50 with fail
        generalize hV : World.setCell _ _ _ = V23
        have I23 := I22.step (by omega) V23 hV (by have := Hm22.out; omega)
        have U23 : Upd S wr V23 := U22.trans (by rw [← hV]; exact Upd.setCell _ _ _ _ hS)
        obtain ⟨m23, hm⟩ : ∃ q : Nat, q = m + 23 := ⟨_, rfl⟩
        have Hm23 := hide hm
        have hb23 : (m23 : Int) ≤ 1099511627776 := by omega
        rw [show (m22 : Int) + 1 = (m23 : Int) by have := Hm22.out; omega]
        clear hV c1 f1 hm I22 U22
        clear hb22 Hm22
        obtain ⟨u, c0⟩ := I23.cell (by omega)
        have c1 : V23.cell? ⟨g, k * 26 + 23, none⟩ = some u := c0
        have f1 : V23.frozen? ⟨g, k * 26 + 23, none⟩ = false := I23.fz
        clear c0
        go_upto_region 52 with fail
        generalize hV : World.setCell _ _ _ = V24
        have I24 := I23.step (by omega) V24 hV (by have := Hm23.out; omega)
        have U24 : Upd S wr V24 := U23.trans (by rw [← hV]; exact Upd.setCell _ _ _ _ hS)
        obtain ⟨m24, hm⟩ : ∃ q : Nat, q = m + 24 := ⟨_, rfl⟩
        have Hm24 := hide hm
        have hb24 : (m24 : Int) ≤ 1099511627776 := by omega
        rw [show (m23 : Int) + 1 = (m24 : Int) by have := Hm23.out; omega]
        clear hV c1 f1 hm I23 U23
        clear hb23 Hm23
        have e24 := Hm24.out
        obtain ⟨c24, G24, z24, q1, q2⟩ := I24.ex
        have S24 : Hid (∀ j, j < n → c24[j * 26 + 24]? = some (.slice none 0 0) ∧ c24[j * 26 + 25]? = some (.slice none 0 0)) := by
          show ∀ j, j < n → _
          intro j hj
          obtain ⟨p1, p2⟩ := HL.out j hj
          rw [q2 _ (by omega), q2 _ (by omega)]
          exact ⟨p1, p2⟩
        have HG24 := hide G24
        have Q1 := hide q1
        have Q2 := hide q2
        have Z24 := hide z24
        have s24 : V24.cell? ⟨g, k * 26 + 24, none⟩ = some (.slice none 0 0) := (cell_of_row V24 _ _ _ _ (0, 0) G24).trans (S24.out k hlt).1
        have E24 := hide e24
        clear e24 G24 q1 q2 z24 I24 Hm24
        go_wp2_with fail
        refine (markBlkPieceS_any (fun _ => False) _ 0 [] m24 V24 (Row.nil _ _ _ _) (by have := E24.out; omega) (by omega)).mono ?_
        rintro e V25 ⟨rfl, -, u25⟩
        have HG25 := hide (u25.keeps HG24.out (fun h => h))
        have s25 : V25.cell? ⟨g, k * 26 + 25, none⟩ = some (.slice none 0 0) := (cell_of_row V25 _ _ _ _ (0, 0) HG25.out).trans (S24.out k hlt).2
        clear s24 HG24
        go_wp2_with fail
        refine (markBlkLastS_any (fun _ => False) _ 0 [] m24 V25 (Row.nil _ _ _ _) (by have := E24.out; omega) (by omega)).mono ?_
        rintro e V26 ⟨rfl, -, u26⟩
        have HG26 := hide (u26.keeps HG25.out (fun h => h))
        clear s25 HG25
        go_wp2
        go_roundw
        case rel =>
          refine ⟨k + 1, m24, c24, by omega, by rw [E24.out, Hm.out]; omega, by go_num, rfl, HG26.out, by rw [Z24.out]; exact HZ.out, fun j r hj hr => ?_, S24.out, ((hup.trans U24).trans (u25.mono fun _ h => h.elim)).trans (u26.mono fun _ h => h.elim)⟩
          by_cases hjk : j = k
          · subst hjk
            rw [Q1.out r hr, Hm.out]
          · rw [Q2.out _ (by omega)]
            exact HM.out j r (by omega) hr
        case measure => simp [intOf]; omega
      · go_wp2
        go_ret
        obtain rfl : k = n := by omega
        refine ⟨by rw [Hm.out]; rfl, ⟨_, cap, rfl, hn, by rw [fwcells_len, mkF_len], fun _ => ⟨g, cur', rfl, hS, hgr, ?_⟩⟩, hup⟩
        have hz := HZ.out
        refine fwcells_ext _ _ (by rw [mkF_len]; simp; omega) (fun j p hp r u hu => ?_)
        have hj := (List.getElem?_eq_some_iff.1 hp).1
        rw [mkF_len] at hj
        rw [mkF_get _ _ _ hj] at hp
        obtain rfl := Option.some.inj hp
        have hr : r < 26 := (Array.getElem?_eq_some_iff.1 hu).1
        rw [← hu, List.getElem?_take_of_lt (by omega)]
        by_cases h24 : r < 24
        · rw [mkFw_at _ _ h24]
          simpa using HM.out j r hj h24
        · obtain ⟨q1, q2⟩ := HL.out j hj
          rcases (by omega : r = 24 ∨ r = 25) with rfl | rfl
          · rw [show (fwarr (mkFw (k0 + j * 24)))[24]? = some (.slice none 0 0) from rfl]
            simpa using q1
          · rw [show (fwarr (mkFw (k0 + j * 24)))[25]? = some (.slice none 0 0) from rfl]
            simpa using q2

end Go.Proofs.Yteddhdbglciahaa

/- Papers, by the specification and by the program: contracts; no statement of the seat is proved here. -/
namespace Go.Proofs.Yteddhdbglciahaa
open Go.RowKit

def ppI (p : Pp) : Bool := inI p.1 1 60 && (inI p.2.1 1 99999 && cmdI p.2.2)
set_option maxRecDepth 100000 in
set_option maxHeartbeats 4000000 in
theorem l21PaperOk_any (s b : Int) (x : Wd) (w : World) :
    Calls Try.prog 71 #[.agg (#[.int .i64 s, .int .i64 b, .int .i64 x.c0, .int .i64 x.c1, .int .i64 x.c2, .int .i64 x.c3, .int .i64 x.c4, .int .i64 x.c5, .int .i64 x.c6, .int .i64 x.c7, .int .i64 x.c8, .int .i64 x.c9] : Array Value) ] w fun e w' => e = .returned (.bool (ppI (s, b, x))) ∧ Below w.heap.size w w' := by
  have al := bal (Below.refl w.heap.size w) (.cells (#[.int .i64 s, .int .i64 b, .int .i64 x.c0, .int .i64 x.c1, .int .i64 x.c2, .int .i64 x.c3, .int .i64 x.c4, .int .i64 x.c5, .int .i64 x.c6, .int .i64 x.c7, .int .i64 x.c8, .int .i64 x.c9] : Array Value) 37)
  obtain ⟨i1, h1⟩ : ∃ i, inI s 1 60 = i := ⟨_, rfl⟩
  obtain ⟨i2, h2⟩ : ∃ i, inI b 1 99999 = i := ⟨_, rfl⟩
  obtain ⟨i3, h3⟩ : ∃ i, cmdI x = i := ⟨_, rfl⟩
  have hf : ppI (s, b, x) = (i1 && (i2 && i3)) := by simp only [ppI, h1, h2, h3]
  rw [hf]
  have c1 := fun w => l6In_inI s 1 60 w
  have c2 := fun w => l6In_inI b 1 99999 w
  have c3 := fun w => l11CmdOk_any x w
  rw [h1] at c1
  rw [h2] at c2
  rw [h3] at c3
  clear h1 h2 h3 hf
  go_enter Try.func71, Try.ntmps71
  go_wp2_with fail
  refine (c1 _).mono ?_
  rintro e w' ⟨rfl, rfl⟩
  cases i1
  · go_wp2
    go_ret
    exact ⟨rfl, al⟩
  go_wp2_with fail
  refine (c2 _).mono ?_
  rintro e w' ⟨rfl, rfl⟩
  cases i2
  · go_wp2
    go_ret
    exact ⟨rfl, al⟩
  go_wp2_with fail
  refine (c3 _).mono ?_
  rintro e w' ⟨rfl, b3⟩
  go_wp2
  go_ret
  exact ⟨rfl, bAll al b3⟩

set_option maxRecDepth 100000 in
set_option maxHeartbeats 4000000 in
theorem synInForm_any (s b : Int) (x : Wd) (w : World) :
    Calls Try.prog 103 #[.agg (#[.int .i64 s, .int .i64 b, .int .i64 x.c0, .int .i64 x.c1, .int .i64 x.c2, .int .i64 x.c3, .int .i64 x.c4, .int .i64 x.c5, .int .i64 x.c6, .int .i64 x.c7, .int .i64 x.c8, .int .i64 x.c9] : Array Value) ] w fun e w' => e = .returned (.bool (ppI (s, b, x))) ∧ Below w.heap.size w w' := by
  have al := bal (Below.refl w.heap.size w) (.cells (#[.int .i64 s, .int .i64 b, .int .i64 x.c0, .int .i64 x.c1, .int .i64 x.c2, .int .i64 x.c3, .int .i64 x.c4, .int .i64 x.c5, .int .i64 x.c6, .int .i64 x.c7, .int .i64 x.c8, .int .i64 x.c9] : Array Value) 37)
  obtain ⟨i1, h1⟩ : ∃ i, inI s 1 60 = i := ⟨_, rfl⟩
  obtain ⟨i2, h2⟩ : ∃ i, inI b 1 99999 = i := ⟨_, rfl⟩
  obtain ⟨i3, h3⟩ : ∃ i, cmdI x = i := ⟨_, rfl⟩
  have hf : ppI (s, b, x) = (i1 && (i2 && i3)) := by simp only [ppI, h1, h2, h3]
  rw [hf]
  have c1 := fun w => blkWithin_any s 1 60 w
  have c2 := fun w => blkWithin_any b 1 99999 w
  have c3 := fun w => cmdInForm_any x w
  rw [h1] at c1
  rw [h2] at c2
  rw [h3] at c3
  clear h1 h2 h3 hf
  go_enter Try.func103, Try.ntmps103
  go_wp2_with fail
  refine (c1 _).mono ?_
  rintro e w' ⟨rfl, rfl⟩
  cases i1
  · go_wp2
    go_ret
    exact ⟨rfl, al⟩
  go_wp2_with fail
  refine (c2 _).mono ?_
  rintro e w' ⟨rfl, rfl⟩
  cases i2
  · go_wp2
    go_ret
    exact ⟨rfl, al⟩
  go_wp2_with fail
  refine (c3 _).mono ?_
  rintro e w' ⟨rfl, b3⟩
  go_wp2
  go_ret
  exact ⟨rfl, bAll al b3⟩

end Go.Proofs.Yteddhdbglciahaa

/- What SecPut of the specification does: a contract; no statement of the seat is proved here. -/
namespace Go.Proofs.Yteddhdbglciahaa
open Go.RowKit

/-- Whether a write may wait. -/
def putB (kept : List ByteArray) (wait : List (Int × ByteArray)) (a : Int) (s : ByteArray) : Bool := okB kept wait && (writeOkB kept.length (a, s) && decide (wait.length < 600))
/-- What is kept, and what waits, behind a write. -/
def putK (kept : List ByteArray) (wait : List (Int × ByteArray)) : List ByteArray := if okB kept wait = true then kept else []
def putW (kept : List ByteArray) (wait : List (Int × ByteArray)) (a : Int) (s : ByteArray) : List (Int × ByteArray) :=
  if okB kept wait = true then (if putB kept wait a s = true then wait ++ [(a, s)] else wait) else []

theorem typed_box {w W : World} {S : Nat → Prop} {e t : TypeId} {B : Nat} {xs : Array Value} (h : w.heap[B]? = some (.cells xs t (0, 0))) (he : t ≠ e) (hW : W.heap[B]? = w.heap[B]?) : ¬ typed W S e B := by
  rintro ⟨_, c, hc⟩
  rw [hW, h] at hc
  simp at hc
  exact he hc.2

end Go.Proofs.Yteddhdbglciahaa

/- All numbers of a word, as the specification lists them: a contract; no statement of the seat is proved here. -/
namespace Go.Proofs.Yteddhdbglciahaa
open Go.RowKit

theorem RowA.base {w : World} {b b' : Nat} {e : TypeId} {size : Nat} {v : Value} {n : Nat} {cs : List Value} (h : RowA w b e size v n cs) (hb : b' ≤ b) : RowA w b' e size v n cs := by
  rcases h with h | h
  · exact .inl ⟨h.1, h.2.imp id (fun ⟨g, cap, cur, e, hg, rest⟩ => ⟨g, cap, cur, e, Nat.le_trans hb hg, rest⟩)⟩
  · exact .inr h
theorem updCell {S : Nat → Prop} {w w' : World} {b o : Nat} {v : Value} (u : Upd S w w') (h : w.cell? ⟨b, o, none⟩ = some v) (hS : ¬ S b) : w'.cell? ⟨b, o, none⟩ = some v :=
  (World.cell?_of_block (a := ⟨b, o, none⟩) (u.block b (World.block_lt_of_cell? w _ h) hS)).trans h

end Go.Proofs.Yteddhdbglciahaa

/- Commands and papers held against nothing: laws of one program; no statement of the seat is proved here. -/
namespace Go.Proofs.Yteddhdbglciahaa
open Go.RowKit

/-- A command that is nothing. -/
def isZ (x : Wd) : Bool := x.c0 == 0 && (x.c1 == 0 && (x.c2 == 0 && (x.c3 == 0 && (x.c4 == 0 && (x.c5 == 0 && (x.c6 == 0 && (x.c7 == 0 && (x.c8 == 0 && x.c9 == 0))))))))
/-- A paper that is nothing. -/
def isZP (p : Pp) : Bool := p.1 == 0 && (p.2.1 == 0 && isZ p.2.2)

set_option maxRecDepth 10000 in
theorem eqlCmd (d : Nat) (x : Wd) (w : World) : (Op.equalIn (d + 1 + 1) 35 (.agg #[.int .i64 x.c0, .int .i64 x.c1, .int .i64 x.c2, .int .i64 x.c3, .int .i64 x.c4, .int .i64 x.c5, .int .i64 x.c6, .int .i64 x.c7, .int .i64 x.c8, .int .i64 x.c9]) (.agg #[.int .i64 0, .int .i64 0, .int .i64 0, .int .i64 0, .int .i64 0, .int .i64 0, .int .i64 0, .int .i64 0, .int .i64 0, .int .i64 0])).run Try.prog w = .ok (isZ x) w := by
  have u3 := Try.underlying3
  have a3 := Try.isAgg3
  have z3 := Try.sizeOf3
  have hS : Try.prog.underlying 35 = some (.struct (Try.prog.fieldsOf 35)) := by kernel_rfl
  rw [run_equalIn_agg w (d + 1) 35 _ _ hS (by kernel_rfl)]
  simp only [Program.fieldsOf, Try.underlying35 ]
  go_simp
  unfold isZ
  clear u3 a3 z3 hS
  repeat' split
  all_goals simp [*]

theorem eqlCmd0 (x : Wd) (w : World) : (binOp .eql 35 (.agg #[.int .i64 x.c0, .int .i64 x.c1, .int .i64 x.c2, .int .i64 x.c3, .int .i64 x.c4, .int .i64 x.c5, .int .i64 x.c6, .int .i64 x.c7, .int .i64 x.c8, .int .i64 x.c9]) (.agg #[.int .i64 0, .int .i64 0, .int .i64 0, .int .i64 0, .int .i64 0, .int .i64 0, .int .i64 0, .int .i64 0, .int .i64 0, .int .i64 0])).run Try.prog w = .ok (.bool (isZ x)) w := by
  rw [run_eql_struct, show (10000 : Nat) = 9998 + 1 + 1 from rfl, eqlCmd]
  rfl

theorem ifB {a : Int} {c : Bool} (w : World) (R : Result Value) (h : R = .ok (.bool c) w) : (if a = 0 then R else .ok (.bool false) w) = .ok (.bool (a == 0 && c)) w := by
  by_cases ha : a = 0
  · rw [if_pos ha, h, ha]
    rfl
  · rw [if_neg ha, show (a == 0) = false by simpa using ha]
    rfl

set_option maxRecDepth 10000 in
theorem eqlPaper0 (s b : Int) (x : Wd) (w : World) : (binOp .eql 37 (.agg (#[.int .i64 s, .int .i64 b, .int .i64 x.c0, .int .i64 x.c1, .int .i64 x.c2, .int .i64 x.c3, .int .i64 x.c4, .int .i64 x.c5, .int .i64 x.c6, .int .i64 x.c7, .int .i64 x.c8, .int .i64 x.c9] : Array Value)) (.agg #[.int .i64 0, .int .i64 0, .int .i64 0, .int .i64 0, .int .i64 0, .int .i64 0, .int .i64 0, .int .i64 0, .int .i64 0, .int .i64 0, .int .i64 0, .int .i64 0])).run Try.prog w = .ok (.bool (isZP (s, b, x))) w := by
  have u3 := Try.underlying3
  have a3 := Try.isAgg3
  have z3 := Try.sizeOf3
  have hS : Try.prog.underlying 37 = some (.struct (Try.prog.fieldsOf 37)) := by kernel_rfl
  rw [run_eql_struct, show (10000 : Nat) = 9999 + 1 from rfl, run_equalIn_agg w 9999 37 _ _ hS (by kernel_rfl)]
  simp only [Program.fieldsOf, Try.underlying37 ]
  go_simp
  unfold isZP isZ
  clear u3 a3 z3 hS
  iterate 11 refine ifB w _ ?_
  by_cases h : x.c9 = 0 <;> simp [h]

theorem guardCmd (w : World) (x y : Operand) (xs ys : Array Value) : (eqGuard .eql 35 x y (.agg xs) (.agg ys)).run Try.prog w = .ok () w := run_eqGuard_agg w _ _ _ _ _ _ (by kernel_rfl)
theorem guardPaper (w : World) (x y : Operand) (xs ys : Array Value) : (eqGuard .eql 37 x y (.agg xs) (.agg ys)).run Try.prog w = .ok () w := run_eqGuard_agg w _ _ _ _ _ _ (by kernel_rfl)

end Go.Proofs.Yteddhdbglciahaa

/- What the laws' own helpers do with numbers: contracts; no statement of the seat is proved here. -/
namespace Go.Proofs.Yteddhdbglciahaa
open Go.RowKit

theorem infoInt : (Try.prog.info? 3).map (fun i => (i.zero, i.size, i.bytes)) = some (some (.int .i64 0), 1, 8) := by kernel_rfl

set_option maxHeartbeats 1000000 in
theorem toIntS_any (v : Value) (n : Nat) (ss : List Int) (w : World) (hr : RowR w 1 v n (ss.map (Value.int .i64))) (hn : n ≤ 1048576) :
    Calls Try.prog 46 #[v] w fun e w' => ∃ v', e = .returned v' ∧ Row w' 3 1 (fun k => w.heap.size ≤ k) v' n (ss.map (Value.int .i64)) ∧ Below w.heap.size w w' := by
  obtain ⟨ao, cap, rfl, hn', hl, hr⟩ := hr
  simp only [List.length_map, Nat.mul_one] at hl
  have Hl := hide hl
  clear hl
  have hmk := run_make_row' (P := Try.prog) 26 3 (.int .i64 0) 8 Try.underlying26 infoInt rfl .i64 .i64 n (by omega) (by omega)
  go_enter Try.func46, Try.ntmps46
  go_wp2
  clear hmk
  go_loopw [4] (fun i wr => ∃ (k : Nat) (cur : Array Value), k ≤ n ∧ i = .int .i64 k ∧ wr.heap[w.heap.size]? = some (.cells cur 3 (0, 0)) ∧ cur.size = n ∧ (∀ j s, j < k → ss[j]? = some s → cur[j]? = some (.int .i64 s)) ∧ Below w.heap.size w wr) (fun i _ => n - (intOf i).toNat)
  case atStart => exact ⟨0, _, Nat.zero_le _, rfl, heap_alloc_new w _, size_madeCells _ _, fun j s hj => by omega, (Below.refl _ _).alloc (Nat.le_refl _) _⟩
  case round =>
    obtain ⟨k, cur, hk, rfl, hg, hcs, hmk, hbel⟩ := hrel
    have HM := hide hmk
    have HC := hide hcs
    have hcs' : n ≤ cur.size := by omega
    clear hmk hcs
    by_cases hlt : k < n
    · obtain ⟨b1, o1, rfl, hc1⟩ := hr (by omega)
      obtain ⟨s, hs⟩ := getAt ss k (by have := Hl.out; omega)
      have Hs := hide hs
      have g1 := hc1 k (.int .i64 s) (by simp [hs])
      have f1 : wr.cell? ⟨b1, o1 + k, none⟩ = some (.int .i64 s) := (hbel.cell (p := ⟨b1, o1 + k, none⟩) (World.block_lt_of_cell? w _ g1)).trans g1
      have hi : (k : Int) < (n : Int) := by omega
      obtain ⟨u, hu⟩ : ∃ u, cur[k]? = some u := ⟨cur[k]'(by omega), by simp [show k < cur.size by omega]⟩
      have hcw : wr.cell? ⟨w.heap.size, k, none⟩ = some u := (cell_of_row wr _ k cur _ (0, 0) hg).trans hu
      have hfw : wr.frozen? ⟨w.heap.size, k, none⟩ = false := frozen_of_row wr _ k cur _ hg
      have Hg := hide hg
      clear hr hc1 g1 hs hg
      go_wp2
      go_roundw
      case rel =>
        refine ⟨k + 1, _, by omega, by go_num, row_set _ Hg.out, by simpa using HC.out, fun j t hj ht => ?_, hbel.setCell (p := ⟨w.heap.size, k, none⟩) (Nat.le_refl _) _⟩
        by_cases hjk : j = k
        · subst hjk
          rw [Hs.out] at ht
          rw [Array.getElem?_setIfInBounds_self_of_lt (by omega)]
          rw [Option.some.inj ht]
        · rw [Array.getElem?_setIfInBounds_ne (by omega)]
          exact HM.out j t (by omega) ht
      case measure => simp [intOf]; omega
    · go_wp2
      go_ret
      obtain rfl : k = n := by omega
      refine ⟨_, rfl, ⟨_, _, rfl, hn', by simp [Hl.out], fun _ => ⟨_, cur, rfl, Nat.le_refl _, hg, ?_⟩⟩, hbel⟩
      apply List.ext_getElem?
      intro j
      have hl := Hl.out
      by_cases hj : j < k
      · rw [List.getElem?_take_of_lt (by omega)]
        obtain ⟨s, hs⟩ := getAt ss j (by omega)
        simpa [hs] using HM.out j s hj hs
      · rw [List.getElem?_eq_none (by simp; omega), List.getElem?_eq_none (by simp; omega)]

set_option maxHeartbeats 400000 in
theorem eqIntS_true (va vb : Value) (n : Nat) (ss : List Int) (w : World) (ha : RowR w 1 va n (ss.map (Value.int .i64))) (hb : RowR w 1 vb n (ss.map (Value.int .i64))) :
    Calls Try.prog 56 #[va, vb] w fun e w' => e = .returned (.bool true) ∧ Below w.heap.size w w' := by
  obtain ⟨ao, ca, rfl, hn, hl, ha⟩ := ha
  obtain ⟨bo, cb, rfl, _, _, hb⟩ := hb
  go_enter Try.func56, Try.ntmps56
  go_wp2
  go_loopw [5] (fun i wr => ∃ k : Nat, k ≤ n ∧ i = .int .i64 k ∧ Below w.heap.size w wr) (fun i _ => n - (intOf i).toNat)
  case atStart => exact ⟨0, Nat.zero_le _, rfl, Below.refl _ _⟩
  case round =>
    obtain ⟨k, hk, rfl, hbel⟩ := hrel
    by_cases hlt : k < n
    · obtain ⟨b1, o1, rfl, hc1⟩ := ha (by omega)
      obtain ⟨b2, o2, rfl, hc2⟩ := hb (by omega)
      obtain ⟨s, hs⟩ : ∃ s, (ss.map (Value.int .i64))[k]? = some (.int .i64 s) := by
        simp only [List.length_map, Nat.mul_one] at hl
        exact ⟨ss[k]'(by omega), by simp [show k < ss.length by omega]⟩
      have g1 := hc1 k _ hs
      have g2 := hc2 k _ hs
      have f1 : wr.cell? ⟨b1, o1 + k, none⟩ = some (.int .i64 s) := (hbel.cell (p := ⟨b1, o1 + k, none⟩) (World.block_lt_of_cell? w _ g1)).trans g1
      have f2 : wr.cell? ⟨b2, o2 + k, none⟩ = some (.int .i64 s) := (hbel.cell (p := ⟨b2, o2 + k, none⟩) (World.block_lt_of_cell? w _ g2)).trans g2
      have hi : (k : Int) < (n : Int) := by omega
      clear ha hb hc1 hc2 hs g1 g2 hl
      go_wp2
      go_quiet (fail)
      go_wp2
      go_roundw
      case rel => exact ⟨k + 1, by omega, by go_num, below_drewN hbel _⟩
      case measure => simp [intOf]; omega
    · go_wp2
      go_ret
      exact ⟨rfl, hbel⟩

end Go.Proofs.Yteddhdbglciahaa

/- Seekers: what they read, and what the laws' own helpers do with them: contracts; no statement of the seat is proved here. -/
namespace Go.Proofs.Yteddhdbglciahaa
open Go.RowKit

/-- A seeker: slot, ballot, phase, its own command (that of a word), the best paper, who said yes. -/
structure Sk where
  s : Int
  b : Int
  ph : Int
  m : Wd
  p : Pp
  ys : List Int
def skarr (k : Sk) (y : Value) : Array Value := (#[.int .i64 k.s, .int .i64 k.b, .int .i64 k.ph, .int .i64 k.m.c0, .int .i64 k.m.c1, .int .i64 k.m.c2, .int .i64 k.m.c3, .int .i64 k.m.c4, .int .i64 k.m.c5, .int .i64 k.m.c6, .int .i64 k.m.c7, .int .i64 k.m.c8, .int .i64 k.m.c9, .int .i64 k.p.1, .int .i64 k.p.2.1, .int .i64 k.p.2.2.c0, .int .i64 k.p.2.2.c1, .int .i64 k.p.2.2.c2, .int .i64 k.p.2.2.c3, .int .i64 k.p.2.2.c4, .int .i64 k.p.2.2.c5, .int .i64 k.p.2.2.c6, .int .i64 k.p.2.2.c7, .int .i64 k.p.2.2.c8, .int .i64 k.p.2.2.c9, y] : Array Value)
def ints (xs : List Int) : List Value := xs.map (Value.int .i64)
/-- What a seeker reads. -/
def SkR (w : World) (v : Value) (k : Sk) : Prop := ∃ yo yc, v = .agg (skarr k (.slice yo k.ys.length yc)) ∧ RowR w 1 (.slice yo k.ys.length yc) k.ys.length (ints k.ys)
def SkO (w : World) (S : Nat → Prop) (v : Value) (k : Sk) : Prop := ∃ yo yc, v = .agg (skarr k (.slice yo k.ys.length yc)) ∧ Row w 3 1 S (.slice yo k.ys.length yc) k.ys.length (ints k.ys)
theorem SkR.keep {w w' : World} {v : Value} {k : Sk} (h : SkR w v k) (hb : Below w.heap.size w w') : SkR w' v k := by
  obtain ⟨yo, yc, e, h⟩ := h
  exact ⟨yo, yc, e, h.keep hb⟩
theorem SkO.reads {w : World} {S : Nat → Prop} {v : Value} {k : Sk} (h : SkO w S v k) : SkR w v k := by
  obtain ⟨yo, yc, e, h⟩ := h
  exact ⟨yo, yc, e, h.reads⟩
theorem SkO.keep {w w' : World} {S T : Nat → Prop} {v : Value} {k : Sk} (h : SkO w S v k) (u : Upd T w w') (hT : ∀ j, S j → ¬ T j) : SkO w' S v k := by
  obtain ⟨yo, yc, e, h⟩ := h
  exact ⟨yo, yc, e, h.keep u hT⟩
theorem SkO.keepB {w w' : World} {S : Nat → Prop} {v : Value} {k : Sk} (h : SkO w S v k) (b : Below w.heap.size w w') : SkO w' S v k := by
  obtain ⟨yo, yc, e, h⟩ := h
  exact ⟨yo, yc, e, h.keepB b⟩
theorem SkO.mono {w : World} {S T : Nat → Prop} {v : Value} {k : Sk} (h : SkO w S v k) (hST : ∀ j, j < w.heap.size → S j → T j) : SkO w T v k := by
  obtain ⟨yo, yc, e, h⟩ := h
  exact ⟨yo, yc, e, h.mono hST⟩
theorem skarr_one (k : Sk) (yo : Option Addr) (n yc : Nat) : (skarr k (.slice yo n yc)).all (·.oneCell') = true := all_of_list rfl
theorem infoSk : (Try.prog.info? 39).map (·.size) = some 26 := by kernel_rfl
theorem infoLk : (Try.prog.info? 28).map (·.size) = some 26 := by kernel_rfl

/-- The cells of a seeker in a block. -/
theorem sk_cells {V : World} {g : Nat} {k : Sk} {y : Value} {t : TypeId} (h : V.heap[g]? = some (.cells (skarr k y) t (0, 0))) :
    V.cell? ⟨g, 0, none⟩ = some (.int .i64 k.s) ∧ V.cell? ⟨g, 1, none⟩ = some (.int .i64 k.b) ∧ V.cell? ⟨g, 2, none⟩ = some (.int .i64 k.ph) ∧ (∀ j z, (#[.int .i64 k.m.c0, .int .i64 k.m.c1, .int .i64 k.m.c2, .int .i64 k.m.c3, .int .i64 k.m.c4, .int .i64 k.m.c5, .int .i64 k.m.c6, .int .i64 k.m.c7, .int .i64 k.m.c8, .int .i64 k.m.c9] : Array Value)[j]? = some z → V.cell? ⟨g, 3 + j, none⟩ = some z) ∧
    (∀ j z, (pparr k.p)[j]? = some z → V.cell? ⟨g, 13 + j, none⟩ = some z) ∧ V.cell? ⟨g, 13, none⟩ = some (.int .i64 k.p.1) ∧ V.cell? ⟨g, 14, none⟩ = some (.int .i64 k.p.2.1) ∧ V.cell? ⟨g, 25, none⟩ = some y := by
  refine ⟨boxAt h 0, boxAt h 1, boxAt h 2, fun j z hj => ?_, fun j z hj => ?_, boxAt h 13, boxAt h 14, boxAt h 25⟩
  · have hj' : j < 10 := (Array.getElem?_eq_some_iff.1 hj).1
    refine (boxAt h (3 + j)).trans ?_
    rcases (by omega : j = 0 ∨ j = 1 ∨ j = 2 ∨ j = 3 ∨ j = 4 ∨ j = 5 ∨ j = 6 ∨ j = 7 ∨ j = 8 ∨ j = 9) with rfl | rfl | rfl | rfl | rfl | rfl | rfl | rfl | rfl | rfl <;> exact hj
  · have hj' : j < 12 := (Array.getElem?_eq_some_iff.1 hj).1
    refine (boxAt h (13 + j)).trans ?_
    rcases (by omega : j = 0 ∨ j = 1 ∨ j = 2 ∨ j = 3 ∨ j = 4 ∨ j = 5 ∨ j = 6 ∨ j = 7 ∨ j = 8 ∨ j = 9 ∨ j = 10 ∨ j = 11) with rfl | rfl | rfl | rfl | rfl | rfl | rfl | rfl | rfl | rfl | rfl | rfl <;> exact hj

set_option maxHeartbeats 400000 in
theorem szIntS_any (so : Option Addr) (n sc : Nat) (left : Int) (w : World) (hn : n ≤ 9223372036854775807) (h1 : 0 ≤ left) (h2 : left ≤ 1048576) :
    Calls Try.prog 35 #[.slice so n sc, .int .i64 left] w fun e w' => ∃ r, e = .returned (.int .i64 r) ∧ Sized left r n ∧ Below w.heap.size w w' := by
  by_cases hneg : left - n < 0
  · go_enter Try.func35, Try.ntmps35
    go_wp2
    go_ret
    exact ⟨_, rfl, .inl (by omega), Below.refl _ _⟩
  · have hge : 0 ≤ left - n := by omega
    clear hneg
    go_enter Try.func35, Try.ntmps35
    go_wp2
    go_ret
    exact ⟨_, rfl, .inr ⟨rfl, hge⟩, Below.refl _ _⟩

set_option maxRecDepth 100000 in
theorem szSynSeeker_any (v : Value) (k : Sk) (left : Int) (w : World) (h : SkR w v k) (h1 : 0 ≤ left) (h2 : left ≤ 1048576) :
    Calls Try.prog 7 #[v, .int .i64 left] w fun e w' => ∃ r, e = .returned (.int .i64 r) ∧ Sized left r k.ys.length ∧ Below w.heap.size w w' := by
  obtain ⟨yo, yc, rfl, hr⟩ := h
  have hn : k.ys.length ≤ 9223372036854775807 := by obtain ⟨_, _, _, h, _⟩ := hr; exact h
  have al := bal (Below.refl w.heap.size w) (.cells (skarr k (.slice yo k.ys.length yc)) 28)
  have B0 := hide (heap_alloc_new w (.cells (skarr k (.slice yo k.ys.length yc)) 28))
  go_enter Try.func7, Try.ntmps7
  go_upto_region 1 with fail
  generalize World.alloc _ _ = W at al B0 ⊢
  have g := (sk_cells B0.out).2.2.2.2.2.2.2
  go_wp2_with fail
  refine (szIntS_any _ _ _ left _ hn h1 h2).mono ?_
  rintro e w1 ⟨r, rfl, hs, b1⟩
  rcases hs with hneg | ⟨hr2, hp⟩
  · go_wp2
    go_ret
    exact ⟨_, rfl, .inl (by omega), bAll al b1⟩
  · have hge : ¬ r < 0 := by omega
    have HR2 := hide hr2
    clear hr2
    go_wp2
    go_ret
    exact ⟨_, rfl, .inr ⟨by have := HR2.out; omega, by omega⟩, bAll al b1⟩

set_option maxRecDepth 100000 in
set_option maxHeartbeats 4000000 in
theorem eqSynSeeker_true (va vb : Value) (k : Sk) (w : World) (ha : SkR w va k) (hb : SkR w vb k) :
    Calls Try.prog 13 #[va, vb] w fun e w' => e = .returned (.bool true) ∧ Below w.heap.size w w' := by
  obtain ⟨ao, ca, rfl, ha⟩ := ha
  obtain ⟨bo, cb, rfl, hb⟩ := hb
  have al := bal (bal (Below.refl w.heap.size w) (.cells (skarr k (.slice ao k.ys.length ca)) 39)) (.cells (skarr k (.slice bo k.ys.length cb)) 39)
  have A0 := hide (al2_0 w (.cells (skarr k (.slice ao k.ys.length ca)) 39) (.cells (skarr k (.slice bo k.ys.length cb)) 39))
  have B0 := hide (al2_1 w (.cells (skarr k (.slice ao k.ys.length ca)) 39) (.cells (skarr k (.slice bo k.ys.length cb)) 39))
  have HA := hide (ha.keep al)
  have HB := hide (hb.keep al)
  clear ha hb
  go_enter Try.func13, Try.ntmps13
  go_upto_region 1 with fail
  generalize World.alloc _ _ = W at al A0 B0 HA HB ⊢
  have r0 := Below.refl W.heap.size W
  obtain ⟨x0, x1, x2, xm, -, -, -, -⟩ := sk_cells A0.out
  obtain ⟨y0, y1, y2, ym, -, -, -, -⟩ := sk_cells B0.out
  go_wp2_with (first
    | (refine wpList_load_at rfl 35 (.tmp 20) rfl w.heap.size 3 rfl #[.int .i64 k.m.c0, .int .i64 k.m.c1, .int .i64 k.m.c2, .int .i64 k.m.c3, .int .i64 k.m.c4, .int .i64 k.m.c5, .int .i64 k.m.c6, .int .i64 k.m.c7, .int .i64 k.m.c8, .int .i64 k.m.c9] _ xm Try.underlying35 rfl infoCm10 ?_)
    | (refine wpList_load_at rfl 35 (.tmp 22) rfl (w.heap.size + 1) 3 rfl #[.int .i64 k.m.c0, .int .i64 k.m.c1, .int .i64 k.m.c2, .int .i64 k.m.c3, .int .i64 k.m.c4, .int .i64 k.m.c5, .int .i64 k.m.c6, .int .i64 k.m.c7, .int .i64 k.m.c8, .int .i64 k.m.c9] _ ym Try.underlying35 rfl infoCm10 ?_))
  refine (eqCmd_true k.m _).mono ?_
  rintro e w1 ⟨rfl, b1⟩
  have xp := (sk_cells (bKeeps b1 A0.out)).2.2.2.2.1
  have yp := (sk_cells (bKeeps b1 B0.out)).2.2.2.2.1
  clear x0 x1 x2 y0 y1 y2 xm ym
  go_wp2_with (first
    | (refine wpList_load_at rfl 37 (.tmp 26) rfl w.heap.size 13 rfl (pparr k.p) _ xp Try.underlying37 rfl infoPpS ?_)
    | (refine wpList_load_at rfl 37 (.tmp 28) rfl (w.heap.size + 1) 13 rfl (pparr k.p) _ yp Try.underlying37 rfl infoPpS ?_))
  refine (eqSynPaper_true k.p.1 k.p.2.1 k.p.2.2 _).mono ?_
  rintro e w2 ⟨rfl, b2⟩
  have c2 := bAll b1 b2
  have x3 := (sk_cells (bKeeps c2 A0.out)).2.2.2.2.2.2.2
  have y3 := (sk_cells (bKeeps c2 B0.out)).2.2.2.2.2.2.2
  clear xp yp
  go_wp2_with fail
  refine (eqIntS_true _ _ _ k.ys _ (HA.out.keep c2) (HB.out.keep c2)).mono ?_
  rintro e w3 ⟨rfl, b3⟩
  go_wp2
  go_ret
  exact ⟨rfl, bAll al (bAll c2 b3)⟩

end Go.Proofs.Yteddhdbglciahaa

/- Marks in rows of numbers, in seekers: contracts; no statement of the seat is proved here. -/
namespace Go.Proofs.Yteddhdbglciahaa
open Go.RowKit

def mkN (k n : Nat) : List Int := (List.range n).map fun i => ((k + i : Nat) : Int)
theorem mkN_len (k n : Nat) : (mkN k n).length = n := by simp [mkN]
theorem mkN_get (k n i : Nat) (h : i < n) : (mkN k n)[i]? = some ((k + i : Nat) : Int) := by simp [mkN, h]

set_option maxRecDepth 100000 in
set_option maxHeartbeats 4000000 in
theorem markIntS_row (S : Nat → Prop) (v : Value) (n : Nat) (cs : List Value) (k0 : Nat) (w : World) (hr : Row w 3 1 S v n cs) (h2 : k0 + n ≤ 1099511627776) :
    Calls Try.prog 59 #[v, .int .i64 k0] w fun e w' => e = .returned (.int .i64 (k0 + n : Nat)) ∧ Row w' 3 1 S v n (ints (mkN k0 n)) ∧ Upd S w w' := by
  obtain ⟨ao, cap, rfl, hn, hl, hr⟩ := hr
  rcases Nat.eq_zero_or_pos n with rfl | hpos
  · go_enter Try.func59, Try.ntmps59
    go_wp2
    refine wp_loop_rounds 1 ?_
    rw [rounds_succ]
    go_wp2
    go_ret
    exact ⟨rfl, ⟨ao, cap, rfl, hn, by simp [mkN, ints], fun h => by omega⟩, Upd.refl _ _⟩
  · obtain ⟨g, cur, rfl, hS, hg, ht⟩ := hr hpos
    have hcs : n ≤ cur.size := by
      have := congrArg List.length ht
      simp [hl] at this
      omega
    clear hr ht hl
    go_enter Try.func59, Try.ntmps59
    go_wp2
    go_loopw [1, 5] (fun kv i wr => ∃ (k m : Nat) (cur' : Array Value), k ≤ n ∧ m = k0 + k ∧ i = .int .i64 k ∧ kv = .int .i64 (m : Nat) ∧ wr.heap[g]? = some (.cells cur' 3 (0, 0)) ∧ cur'.size = cur.size ∧ (∀ j, j < k → cur'[j]? = some (.int .i64 (k0 + j : Nat))) ∧ Upd S w wr) (fun _ i _ => n - (intOf i).toNat)
    case atStart => exact ⟨0, k0, cur, Nat.zero_le _, rfl, rfl, rfl, hg, rfl, fun j hj => by omega, Upd.refl _ _⟩
    case round =>
      obtain ⟨k, m, cur', hk, hm, rfl, rfl, hgr, hsz, hmk, hup⟩ := hrel
      have Hm := hide hm
      have hm2 : (m : Int) ≤ 1099511627776 := by omega
      clear hm
      have HM := hide hmk
      have HZ := hide hsz
      have hsz' : n ≤ cur'.size := by omega
      clear hmk hsz
      by_cases hlt : k < n
      · have hi : (k : Int) < (n : Int) := by omega
        obtain ⟨u0, hu0⟩ : ∃ u, cur'[k]? = some u := ⟨cur'[k]'(by omega), by simp [show k < cur'.size by omega]⟩
        have hcw0 : wr.cell? ⟨g, k, none⟩ = some u0 := (cell_of_row wr _ _ cur' _ (0, 0) hgr).trans hu0
        have hfw0 : wr.frozen? ⟨g, k, none⟩ = false := frozen_of_row wr _ _ cur' _ hgr
        have Hg := hide hgr
        have HS' := hide hsz'
        clear hgr hsz' hu0
        go_wp2
        go_roundw
        case rel =>
          refine ⟨k + 1, m + 1, cur'.setIfInBounds k (.int .i64 (m : Int)), by omega, by rw [Hm.out]; omega, by go_num, by go_num, row_set _ Hg.out, by simpa using HZ.out, fun j hj => ?_, hup.trans (Upd.setCell _ _ _ _ hS)⟩
          by_cases hjk : j = k
          · subst hjk
            rw [Array.getElem?_setIfInBounds_self_of_lt (by have := HS'.out; omega), Hm.out]
          · rw [Array.getElem?_setIfInBounds_ne (by omega)]
            exact HM.out j (by omega)
        case measure => simp [intOf]; omega
      · go_wp2
        go_ret
        obtain rfl : k = n := by omega
        refine ⟨by rw [Hm.out]; rfl, ⟨_, cap, rfl, hn, by simp [ints, mkN_len], fun _ => ⟨g, cur', rfl, hS, hgr, ?_⟩⟩, hup⟩
        have hz := HZ.out
        apply List.ext_getElem?
        intro j
        by_cases hj : j < k
        · rw [List.getElem?_take_of_lt (by omega), ints, List.getElem?_map, mkN_get _ _ _ hj]
          simpa using HM.out j hj
        · rw [List.getElem?_eq_none (by simp; omega), List.getElem?_eq_none (by simp [ints, mkN_len]; omega)]

set_option maxRecDepth 100000 in
set_option maxHeartbeats 4000000 in
theorem heldIntS_ok (v : Value) (n k0 : Nat) (w : World) (hr : RowR w 1 v n (ints (mkN k0 n))) (h2 : k0 + n ≤ 1099511627776) :
    Calls Try.prog 62 #[v, .int .i64 k0] w fun e w' => e = .returned (.int .i64 (k0 + n : Nat)) ∧ Below w.heap.size w w' := by
  obtain ⟨ao, cap, rfl, hn, hl, hr⟩ := hr
  clear hl
  go_enter Try.func62, Try.ntmps62
  go_wp2
  go_loopw [1, 5] (fun kv i wr => ∃ k m : Nat, k ≤ n ∧ m = k0 + k ∧ i = .int .i64 k ∧ kv = .int .i64 (m : Nat) ∧ Below w.heap.size w wr) (fun _ i _ => n - (intOf i).toNat)
  case atStart => exact ⟨0, k0, Nat.zero_le _, rfl, rfl, rfl, Below.refl _ _⟩
  case round =>
    obtain ⟨k, m, hk, hm, rfl, rfl, hbel⟩ := hrel
    have Hm : Hid (m = k0 + k) := hm
    have hm2 : (m : Int) ≤ 1099511627776 := by omega
    clear hm
    by_cases hlt : k < n
    · obtain ⟨b1, o1, rfl, hc1⟩ := hr (by omega)
      have f0 : wr.cell? ⟨b1, o1 + k, none⟩ = some (.int .i64 (m : Int)) := by
        have q := hc1 k (.int .i64 ((k0 + k : Nat) : Int)) (by rw [ints, List.getElem?_map, mkN_get _ _ _ hlt]; rfl)
        rw [Hm.out]
        exact (hbel.cell (p := ⟨b1, o1 + k, none⟩) (World.block_lt_of_cell? w _ q)).trans q
      have hi : (k : Int) < (n : Int) := by omega
      clear hr hc1
      go_wp2
      go_roundw
      case rel => exact ⟨k + 1, m + 1, by omega, by rw [Hm.out]; omega, by go_num, by go_num, hbel⟩
      case measure => simp [intOf]; omega
    · go_wp2
      go_ret
      obtain rfl : k = n := by omega
      exact ⟨by rw [Hm.out]; rfl, hbel⟩

set_option maxRecDepth 100000 in
set_option maxHeartbeats 4000000 in
theorem markSynSeeker_any (S : Nat → Prop) (v : Value) (k : Sk) (k0 : Nat) (w : World) (h : SkO w S v k) (h2 : k0 + k.ys.length ≤ 1099511627776) :
    Calls Try.prog 16 #[v, .int .i64 k0] w fun e w' => e = .returned (.int .i64 (k0 + k.ys.length : Nat)) ∧ SkO w' S v { k with ys := mkN k0 k.ys.length } ∧ Upd S w w' := by
  obtain ⟨yo, yc, rfl, hr⟩ := h
  have al := bal (Below.refl w.heap.size w) (.cells (skarr k (.slice yo k.ys.length yc)) 39)
  have HR := hide (hr.keepB al)
  have x := (sk_cells (heap_alloc_new w (.cells (skarr k (.slice yo k.ys.length yc)) 39))).2.2.2.2.2.2.2
  clear hr
  go_enter Try.func16, Try.ntmps16
  go_upto_region 1 with fail
  generalize hW : World.alloc _ _ = W at al HR x ⊢
  clear hW
  go_wp2_with fail
  refine (markIntS_row S _ _ _ k0 _ HR.out h2).mono ?_
  rintro e w1 ⟨rfl, r1, u1⟩
  go_wp2
  go_ret
  exact ⟨rfl, ⟨yo, yc, by rw [mkN_len]; rfl, by rw [mkN_len]; exact r1⟩, (Upd.ofBelow al).trans u1⟩

set_option maxRecDepth 100000 in
set_option maxHeartbeats 4000000 in
theorem heldSynSeeker_ok (v : Value) (k : Sk) (n k0 : Nat) (w : World) (h : SkR w v { k with ys := mkN k0 n }) (h2 : k0 + n ≤ 1099511627776) :
    Calls Try.prog 19 #[v, .int .i64 k0] w fun e w' => e = .returned (.int .i64 (k0 + n : Nat)) ∧ Below w.heap.size w w' := by
  obtain ⟨yo, yc, rfl, hr⟩ := h
  simp only [mkN_len] at hr ⊢
  have al := bal (Below.refl w.heap.size w) (.cells (skarr { k with ys := mkN k0 n } (.slice yo n yc)) 39)
  have HR := hide (heldIntS_ok _ n k0 _ (hr.keep al) h2)
  have x := (sk_cells (heap_alloc_new w (.cells (skarr { k with ys := mkN k0 n } (.slice yo n yc)) 39))).2.2.2.2.2.2.2
  obtain ⟨M, hM⟩ : ∃ M : Nat, M = k0 + n := ⟨_, rfl⟩
  rw [← hM] at HR ⊢
  have hMn : ¬ (M : Int) < 0 := by omega
  clear hr hM
  go_enter Try.func19, Try.ntmps19
  go_upto_region 1 with fail
  generalize hW : World.alloc _ _ = W at al HR x ⊢
  clear hW
  go_wp2_with fail
  refine HR.out.mono ?_
  rintro e w1 ⟨rfl, b1⟩
  go_wp2
  go_ret
  exact ⟨rfl, bAll al b1⟩

end Go.Proofs.Yteddhdbglciahaa

/- Words that are nothing, copies, results: laws; no statement of the seat is proved here. -/
namespace Go.Proofs.Yteddhdbglciahaa
open Go.RowKit

theorem results_row_tmp {P : Program} {fn : Func} {p u : Tmp} {ty : TypeId} (h : fn.results = #[.cell p ty, .tmp u]) (tmps : Array Value) (w : World) (g : Nat) (t : TypeId) (cs : Array Value) (fr : Nat × Nat) (d : TypeDesc) (b : Value)
    (hp : tmps.getD p undef = .pointer (some ⟨g, 0, none⟩)) (hb : tmps.getD u undef = b) (hg : w.heap[g]? = some (.cells cs t fr))
    (hu : P.underlying ty = some d) (hd : (match d with | .struct _ | .array _ _ => true | _ => false) = true) (hi : (P.info? ty).map (·.size) = some cs.size) :
    (results fn tmps).run P w = .ok (.tuple #[.agg cs, b]) w := by
  rw [results_cell_tmp h, hp, hb]
  simp [asAddr, Result.andThen, run_loadVar_row w g t ty cs fr d hg hu hd hi]
theorem wpList_load_rowG {P : Program} {ops : Array Oper} {rest : List Oper} {o : Oper} {a : Act} {w : World} {Q : Exit → Act → World → Prop} (hgd : Region.wanted o (yielded ops a.tmps) = true) (ty : TypeId) (x : Operand) (ho : o.op = .load ty x)
    (g : Nat) (hx : a.eval x = .pointer (some ⟨g, 0, none⟩)) (t : TypeId) (cs : Array Value) (fr : Nat × Nat) (d : TypeDesc) (hg : w.heap[g]? = some (.cells cs t fr))
    (hu : P.underlying ty = some d) (hd : (match d with | .struct _ | .array _ _ => true | _ => false) = true) (hi : (P.info? ty).map (·.size) = some cs.size)
    (h : wpList P ops Q rest (a.put o.dst (.agg cs)) w) : wpList P ops Q (o :: rest) a w :=
  wpList_step fun _ hK => by rw [if_pos hgd]; exact wp_load_row ty x ho g hx t cs fr d hg hu hd hi (hK _ _ h)
theorem roomA {w : World} {base : Nat} {e : TypeId} {size : Nat} {v : Value} {n : Nat} {cs : List Value} (h : RowA w base e size v n cs) : ∃ ao ca, v = .slice ao n ca ∧ n ≤ ca := by
  rcases h with h | ⟨rfl, _, ao, rfl⟩
  · exact owns_shape h
  · exact ⟨ao, 0, rfl, Nat.le_refl _⟩

end Go.Proofs.Yteddhdbglciahaa

/- Laws for functions that give two structs and a truth; what a voter's answer is; no statement of the seat is proved here. -/
namespace Go.Proofs.Yteddhdbglciahaa
open Go.RowKit

theorem yields_build {P : Program} {ops : Array Oper} {S : World → Prop} {op : Oper} {a : Act} (hw : Region.wanted op (yielded ops a.tmps) = true) (ty : TypeId) (parts : Array (Nat × Operand)) (ho : op.op = .build ty parts)
    (ps : List (Nat × Value)) (cells : Array Value) (hp : (parts.map fun (i, x) => (i, a.eval x)).toList = ps) (hb : P.built ty ps = some cells) : YieldsIf P ops S op (.agg cells) a :=
  .inl ⟨hw, fun w _ => by
    unfold execOp
    simp only [ho, Sem.run_bind, run_build w ty _ cells (by rw [hp]; exact hb), Result.andThen_ok]
    rfl⟩

theorem updRow (w : World) (g : Nat) (cs : Array Value) : Upd (fun j => j = g) w (w.setRow g cs) := ⟨rfl, rfl, rfl, by simp, fun _ _ h => setRow_other _ _ _ _ h⟩

/-- What is read of a word, of its numbers and its command. -/
theorem WdR.cells {w : World} {cs : Array Value} {x : Wd} (h : WdR w (.agg cs) x) : cs[0]? = some (.int .i64 x.a0) ∧ cs[1]? = some (.int .i64 x.a1) ∧ cs[3]? = some (.int .i64 x.a3) ∧ cs[4]? = some (.int .i64 x.a4) ∧ cs[5]? = some (.int .i64 x.a5) ∧ ∀ j z, (#[.int .i64 x.c0, .int .i64 x.c1, .int .i64 x.c2, .int .i64 x.c3, .int .i64 x.c4, .int .i64 x.c5, .int .i64 x.c6, .int .i64 x.c7, .int .i64 x.c8, .int .i64 x.c9] : Array Value)[j]? = some z → cs[6 + j]? = some z := by
  obtain ⟨po, pc, lo, lc, e, -, -⟩ := h
  injection e with e
  subst e
  refine ⟨rfl, rfl, rfl, rfl, rfl, fun j z hj => ?_⟩
  have hj' : j < 10 := (Array.getElem?_eq_some_iff.1 hj).1
  rcases (by omega : j = 0 ∨ j = 1 ∨ j = 2 ∨ j = 3 ∨ j = 4 ∨ j = 5 ∨ j = 6 ∨ j = 7 ∨ j = 8 ∨ j = 9) with rfl | rfl | rfl | rfl | rfl | rfl | rfl | rfl | rfl | rfl <;> exact hj

theorem typed_keeps {V V' : World} {S : Nat → Prop} {e f : TypeId} {g : Nat} {c : Array Value} (hne : e ≠ f) (hu : Upd (typed V S e) V V') (h : V.heap[g]? = some (.cells c f (0, 0))) : V'.heap[g]? = some (.cells c f (0, 0)) :=
  hu.keeps h (fun ⟨_, c', hc⟩ => by rw [h] at hc; simp at hc; exact hne hc.2.symm)
theorem builtPaper (s b : Int) (x : Wd) : Try.prog.built 37 [(0, .int .i64 s), (1, .int .i64 b), (2, .agg #[.int .i64 x.c0, .int .i64 x.c1, .int .i64 x.c2, .int .i64 x.c3, .int .i64 x.c4, .int .i64 x.c5, .int .i64 x.c6, .int .i64 x.c7, .int .i64 x.c8, .int .i64 x.c9])] = some (#[.int .i64 s, .int .i64 b, .int .i64 x.c0, .int .i64 x.c1, .int .i64 x.c2, .int .i64 x.c3, .int .i64 x.c4, .int .i64 x.c5, .int .i64 x.c6, .int .i64 x.c7, .int .i64 x.c8, .int .i64 x.c9] : Array Value) := by kernel_rfl
theorem pparr_cmd {s b : Int} {x : Wd} {j : Nat} {z : Value} (hj : (#[.int .i64 x.c0, .int .i64 x.c1, .int .i64 x.c2, .int .i64 x.c3, .int .i64 x.c4, .int .i64 x.c5, .int .i64 x.c6, .int .i64 x.c7, .int .i64 x.c8, .int .i64 x.c9] : Array Value)[j]? = some z) : (pparr (s, b, x))[2 + j]? = some z := by
  have hj' : j < 10 := (Array.getElem?_eq_some_iff.1 hj).1
  rcases (by omega : j = 0 ∨ j = 1 ∨ j = 2 ∨ j = 3 ∨ j = 4 ∨ j = 5 ∨ j = 6 ∨ j = 7 ∨ j = 8 ∨ j = 9) with rfl | rfl | rfl | rfl | rfl | rfl | rfl | rfl | rfl | rfl <;> exact hj

end Go.Proofs.Yteddhdbglciahaa

/- The paper of a slot, by the program: a contract; no statement of the seat is proved here. -/
namespace Go.Proofs.Yteddhdbglciahaa
open Go.RowKit

/-- What turned later, in blocks that are new, is no change of the old ones. -/
theorem upd_late {S T : Nat → Prop} {a b c : World} (h : Upd S a b) (k : Upd T b c) (hT : ∀ j, T j → a.heap.size ≤ j) : Upd S a c :=
  ⟨k.os.trans h.os, k.tape.trans h.tape, k.output.trans h.output, Nat.le_trans h.size k.size,
    fun i hi hS => (k.block i (Nat.lt_of_lt_of_le hi h.size) (fun ht => by have := hT i ht; omega)).trans (h.block i hi hS)⟩

end Go.Proofs.Yteddhdbglciahaa

/- What a voter does with a word, by the program: contracts; no statement of the seat is proved here. -/
namespace Go.Proofs.Yteddhdbglciahaa
open Go.RowKit

set_option maxHeartbeats 400000 in
theorem synIsVoter_any (n : Int) (w : World) :
    Calls Try.prog 112 #[.int .i64 n] w fun e w' => e = .returned (.bool (inI n 0 2)) ∧ w' = w := by
  go_enter Try.func112, Try.ntmps112
  go_wp2_with fail
  refine (blkWithin_any n 0 2 _).mono ?_
  rintro e w1 ⟨rfl, rfl⟩
  go_wp2
  go_ret
  exact ⟨rfl, rfl⟩

end Go.Proofs.Yteddhdbglciahaa
