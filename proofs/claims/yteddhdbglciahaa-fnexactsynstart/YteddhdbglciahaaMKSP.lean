/- Marks in rows of SynSeeker: contracts; no statement of the seat is proved here. (Written by wip/tools/mkmk.py.) -/
import Derived.Deep.DeepCutAuto
import Derived.Test.YteddhdbglciahaaTk3
import Derived.Test.YteddhdbglciahaaTk2
namespace Go.Proofs.Yteddhdbglciahaa
open Go.RowKit

def fSk (x : Sk) : Nat := 25 + x.ys.length
def mkSk (m : Nat) (x : Sk) : Sk := { s := ((m + 0 : Nat) : Int), b := ((m + 1 : Nat) : Int), ph := ((m + 2 : Nat) : Int), m := { zeroW with c0 := ((m + 3 : Nat) : Int), c1 := ((m + 4 : Nat) : Int), c2 := ((m + 5 : Nat) : Int), c3 := ((m + 6 : Nat) : Int), c4 := ((m + 7 : Nat) : Int), c5 := ((m + 8 : Nat) : Int), c6 := ((m + 9 : Nat) : Int), c7 := ((m + 10 : Nat) : Int), c8 := ((m + 11 : Nat) : Int), c9 := ((m + 12 : Nat) : Int) }, p := (((m + 13 : Nat) : Int), ((m + 14 : Nat) : Int), { zeroW with c0 := ((m + 15 : Nat) : Int), c1 := ((m + 16 : Nat) : Int), c2 := ((m + 17 : Nat) : Int), c3 := ((m + 18 : Nat) : Int), c4 := ((m + 19 : Nat) : Int), c5 := ((m + 20 : Nat) : Int), c6 := ((m + 21 : Nat) : Int), c7 := ((m + 22 : Nat) : Int), c8 := ((m + 23 : Nat) : Int), c9 := ((m + 24 : Nat) : Int) }), ys := mkN (m + 25) x.ys.length }
def mkSkA (m : Nat) (x : Sk) (y : Value) : Array Value := (skarr (mkSk m x) y)
set_option maxRecDepth 10000 in
theorem mkSk_at (m r : Nat) (x : Sk) (y : Value) (h : r < 25) : (mkSkA m x y)[r]? = some (.int .i64 ((m + r : Nat) : Int)) := by
  rcases (by omega : r = 0 ∨ r = 1 ∨ r = 2 ∨ r = 3 ∨ r = 4 ∨ r = 5 ∨ r = 6 ∨ r = 7 ∨ r = 8 ∨ r = 9 ∨ r = 10 ∨ r = 11 ∨ r = 12 ∨ r = 13 ∨ r = 14 ∨ r = 15 ∨ r = 16 ∨ r = 17 ∨ r = 18 ∨ r = 19 ∨ r = 20 ∨ r = 21 ∨ r = 22 ∨ r = 23 ∨ r = 24) with rfl | rfl | rfl | rfl | rfl | rfl | rfl | rfl | rfl | rfl | rfl | rfl | rfl | rfl | rfl | rfl | rfl | rfl | rfl | rfl | rfl | rfl | rfl | rfl | rfl <;> rfl
theorem mkSk_last (m : Nat) (x : Sk) (y : Value) : (mkSkA m x y)[25]? = some y := rfl
theorem mkSk_one (m : Nat) (x : Sk) (ao : Option Addr) (n c : Nat) : (mkSkA m x (.slice ao n c)).all (·.oneCell') = true := all_of_list rfl

set_option maxRecDepth 100000 in
set_option maxHeartbeats 32000000 in
theorem markSynSeekerS_own (S : Nat → Prop) (v : Value) (xs : List (Sk)) (k0 : Nat) (w : World) (hr : RowO w 39 26 S SkO v xs) (h1 : 1 ≤ k0) (h2 : offL fSk k0 xs xs.length ≤ 1099511627776) :
    Calls Try.prog 81 #[v, .int .i64 k0] w fun e w' => e = .returned (.int .i64 (offL fSk k0 xs xs.length : Nat)) ∧ RowO w' 39 26 S SkO v (mkU fSk mkSk k0 xs.length xs) ∧ Upd S w w' := by
  obtain ⟨ao, cap, rfl, hn, hr⟩ := hr
  obtain ⟨n, hxn⟩ : ∃ n, n = xs.length := ⟨_, rfl⟩
  rw [← hxn] at hr h2 hn ⊢
  rcases Nat.eq_zero_or_pos n with h0 | hpos
  · obtain rfl : xs = [] := by cases xs with
      | nil => rfl
      | cons a l => rw [List.length_cons] at hxn; omega
    subst h0
    rw [offL_zero']
    clear hr h2 hxn
    go_enter Try.func81, Try.ntmps81
    go_wp2
    refine wp_loop_rounds 1 ?_
    rw [rounds_succ]
    go_wp2
    go_ret
    exact ⟨rfl, ⟨ao, cap, rfl, by rw [mkU_len]; exact hn, fun h => by rw [mkU_len] at h; exact absurd h (Nat.lt_irrefl 0)⟩, Upd.refl _ _⟩
  · obtain ⟨g, cur, rfl, hS, hg, T, hT, hT2, hel⟩ := hr hpos
    have HXN := hide hxn
    have H2 := hide h2
    have HT := hide hT
    have HT2 := hide hT2
    clear hr hxn h2 hT hT2
    go_enter Try.func81, Try.ntmps81
    go_wp2
    go_loopw [1, 5] (fun kv i wr => ∃ (k m : Nat) (cur' : Array Value), k ≤ n ∧ m = offL fSk k0 xs k ∧ i = .int .i64 k ∧ kv = .int .i64 (m : Nat) ∧ wr.heap[g]? = some (.cells cur' 39 (0, 0)) ∧ Mid wr 26 SkO T cur' (mkU fSk mkSk k0 k xs) ∧ Upd S w wr) (fun _ i _ => n - (intOf i).toNat)
    case atStart => exact ⟨0, k0, cur, Nat.zero_le _, offL_zero.symm, rfl, rfl, hg, hel, Upd.refl _ _⟩
    case round =>
      obtain ⟨k, m, cur', hk, hm, rfl, rfl, hgr, hmid, hup⟩ := hrel
      have Hm := hide hm
      have hm0 : k0 ≤ m := by rw [hm, offL]; omega
      have hm2 : (m : Int) ≤ 1099511627776 := by
        have := offL_le (f := fSk) (k := k0) (xs := xs) (j := k)
        rw [← HXN.out] at this
        have := H2.out
        omega
      have HD := hide hmid
      clear hm hmid hel hg
      by_cases hlt : k < n
      · have hi : (k : Int) < (n : Int) := by omega
        obtain ⟨x, hx⟩ := getAt xs k (by have := HXN.out; omega)
        have hfx : m + (25 + x.ys.length) ≤ 1099511627776 := by
          have h3 := offL_le (f := fSk) (k := k0) (xs := xs) (j := k + 1)
          rw [offL_succ hx, ← HXN.out, ← Hm.out] at h3
          exact Nat.le_trans h3 H2.out
        have HX := hide hx
        obtain ⟨cs, s1, s2, s3, ao, cp, ecs, hrow⟩ := HD.out k x (by rw [mkU_ge (Nat.le_refl _)]; exact hx)
        injection ecs with ecs
        have last : cur'[k * 26 + 25]? = some (.slice ao x.ys.length cp) := s3 25 _ (by rw [ecs]; rfl)
        have hk3 : k * 26 + 25 < cur'.size := (Array.getElem?_eq_some_iff.1 last).1
        have HR := hide hrow
        have HLa := hide last
        have HF := hide hfx
        have hm3 : ((m + 25 : Nat) : Int) ≤ 1099511627776 := by omega
        clear s1 s2 s3 ecs hrow hx last hfx
        have I0 : MkI wr g cur' (k * 26) 0 m 39 := ⟨cur', hgr, rfl, fun r h => by omega, fun i _ => rfl⟩
        have U0 : Upd (fun b => b = g) wr wr := Upd.refl _ _
        have Hm0 : Hid (m = m + 0) := rfl
        clear hgr
        obtain ⟨u, c0⟩ := I0.cell (by omega)
        have c1 : wr.cell? ⟨g, k * 26, none⟩ = some u := c0
        have f1 : wr.frozen? ⟨g, k * 26, none⟩ = false := I0.fz
        clear c0
        go_upto_region 6 with fail
        generalize hV : World.setCell _ _ _ = V1
        have I1 := I0.step (by omega) V1 hV (by have := Hm0.out; omega)
        have U1 : Upd (fun b => b = g) wr V1 := U0.trans (by rw [← hV]; exact Upd.setCell _ _ _ _ rfl)
        obtain ⟨m1, hm⟩ : ∃ q : Nat, q = m + 1 := ⟨_, rfl⟩
        have Hm1 := hide hm
        have hb1 : (m1 : Int) ≤ 1099511627776 := by omega
        rw [show (m : Int) + 1 = (m1 : Int) by have := Hm0.out; omega]
        clear hV c1 f1 hm I0 U0
        obtain ⟨u, c0⟩ := I1.cell (by omega)
        have c1 : V1.cell? ⟨g, k * 26 + 1, none⟩ = some u := c0
        have f1 : V1.frozen? ⟨g, k * 26 + 1, none⟩ = false := I1.fz
        clear c0
        go_upto_region 8 with fail
        generalize hV : World.setCell _ _ _ = V2
        have I2 := I1.step (by omega) V2 hV (by have := Hm1.out; omega)
        have U2 : Upd (fun b => b = g) wr V2 := U1.trans (by rw [← hV]; exact Upd.setCell _ _ _ _ rfl)
        obtain ⟨m2, hm⟩ : ∃ q : Nat, q = m + 2 := ⟨_, rfl⟩
        have Hm2 := hide hm
        have hb2 : (m2 : Int) ≤ 1099511627776 := by omega
        rw [show (m1 : Int) + 1 = (m2 : Int) by have := Hm1.out; omega]
        clear hV c1 f1 hm I1 U1
        clear hb1 Hm1
        obtain ⟨u, c0⟩ := I2.cell (by omega)
        have c1 : V2.cell? ⟨g, k * 26 + 2, none⟩ = some u := c0
        have f1 : V2.frozen? ⟨g, k * 26 + 2, none⟩ = false := I2.fz
        clear c0
        go_upto_region 10 with fail
        generalize hV : World.setCell _ _ _ = V3
        have I3 := I2.step (by omega) V3 hV (by have := Hm2.out; omega)
        have U3 : Upd (fun b => b = g) wr V3 := U2.trans (by rw [← hV]; exact Upd.setCell _ _ _ _ rfl)
        obtain ⟨m3, hm⟩ : ∃ q : Nat, q = m + 3 := ⟨_, rfl⟩
        have Hm3 := hide hm
        have hb3 : (m3 : Int) ≤ 1099511627776 := by omega
        rw [show (m2 : Int) + 1 = (m3 : Int) by have := Hm2.out; omega]
        clear hV c1 f1 hm I2 U2
        clear hb2 Hm2
        obtain ⟨u, c0⟩ := I3.cell (by omega)
        have c1 : V3.cell? ⟨g, k * 26 + 3, none⟩ = some u := c0
        have f1 : V3.frozen? ⟨g, k * 26 + 3, none⟩ = false := I3.fz
        clear c0
        go_upto_region 12 with fail
        generalize hV : World.setCell _ _ _ = V4
        have I4 := I3.step (by omega) V4 hV (by have := Hm3.out; omega)
        have U4 : Upd (fun b => b = g) wr V4 := U3.trans (by rw [← hV]; exact Upd.setCell _ _ _ _ rfl)
        obtain ⟨m4, hm⟩ : ∃ q : Nat, q = m + 4 := ⟨_, rfl⟩
        have Hm4 := hide hm
        have hb4 : (m4 : Int) ≤ 1099511627776 := by omega
        rw [show (m3 : Int) + 1 = (m4 : Int) by have := Hm3.out; omega]
        clear hV c1 f1 hm I3 U3
        clear hb3 Hm3
        obtain ⟨u, c0⟩ := I4.cell (by omega)
        have c1 : V4.cell? ⟨g, k * 26 + 4, none⟩ = some u := c0
        have f1 : V4.frozen? ⟨g, k * 26 + 4, none⟩ = false := I4.fz
        clear c0
        go_upto_region 14 with fail
        generalize hV : World.setCell _ _ _ = V5
        have I5 := I4.step (by omega) V5 hV (by have := Hm4.out; omega)
        have U5 : Upd (fun b => b = g) wr V5 := U4.trans (by rw [← hV]; exact Upd.setCell _ _ _ _ rfl)
        obtain ⟨m5, hm⟩ : ∃ q : Nat, q = m + 5 := ⟨_, rfl⟩
        have Hm5 := hide hm
        have hb5 : (m5 : Int) ≤ 1099511627776 := by omega
        rw [show (m4 : Int) + 1 = (m5 : Int) by have := Hm4.out; omega]
        clear hV c1 f1 hm I4 U4
        clear hb4 Hm4
        obtain ⟨u, c0⟩ := I5.cell (by omega)
        have c1 : V5.cell? ⟨g, k * 26 + 5, none⟩ = some u := c0
        have f1 : V5.frozen? ⟨g, k * 26 + 5, none⟩ = false := I5.fz
        clear c0
        go_upto_region 16 with fail
        generalize hV : World.setCell _ _ _ = V6
        have I6 := I5.step (by omega) V6 hV (by have := Hm5.out; omega)
        have U6 : Upd (fun b => b = g) wr V6 := U5.trans (by rw [← hV]; exact Upd.setCell _ _ _ _ rfl)
        obtain ⟨m6, hm⟩ : ∃ q : Nat, q = m + 6 := ⟨_, rfl⟩
        have Hm6 := hide hm
        have hb6 : (m6 : Int) ≤ 1099511627776 := by omega
        rw [show (m5 : Int) + 1 = (m6 : Int) by have := Hm5.out; omega]
        clear hV c1 f1 hm I5 U5
        clear hb5 Hm5
        obtain ⟨u, c0⟩ := I6.cell (by omega)
        have c1 : V6.cell? ⟨g, k * 26 + 6, none⟩ = some u := c0
        have f1 : V6.frozen? ⟨g, k * 26 + 6, none⟩ = false := I6.fz
        clear c0
        go_upto_region 18 with fail
        generalize hV : World.setCell _ _ _ = V7
        have I7 := I6.step (by omega) V7 hV (by have := Hm6.out; omega)
        have U7 : Upd (fun b => b = g) wr V7 := U6.trans (by rw [← hV]; exact Upd.setCell _ _ _ _ rfl)
        obtain ⟨m7, hm⟩ : ∃ q : Nat, q = m + 7 := ⟨_, rfl⟩
        have Hm7 := hide hm
        have hb7 : (m7 : Int) ≤ 1099511627776 := by omega
        rw [show (m6 : Int) + 1 = (m7 : Int) by have := Hm6.out; omega]
        clear hV c1 f1 hm I6 U6
        clear hb6 Hm6
        obtain ⟨u, c0⟩ := I7.cell (by omega)
        have c1 : V7.cell? ⟨g, k * 26 + 7, none⟩ = some u := c0
        have f1 : V7.frozen? ⟨g, k * 26 + 7, none⟩ = false := I7.fz
        clear c0
        go_upto_region 20 with fail
        generalize hV : World.setCell _ _ _ = V8
        have I8 := I7.step (by omega) V8 hV (by have := Hm7.out; omega)
        have U8 : Upd (fun b => b = g) wr V8 := U7.trans (by rw [← hV]; exact Upd.setCell _ _ _ _ rfl)
        obtain ⟨m8, hm⟩ : ∃ q : Nat, q = m + 8 := ⟨_, rfl⟩
        have Hm8 := hide hm
        have hb8 : (m8 : Int) ≤ 1099511627776 := by omega
        rw [show (m7 : Int) + 1 = (m8 : Int) by have := Hm7.out; omega]
        clear hV c1 f1 hm I7 U7
        clear hb7 Hm7
        obtain ⟨u, c0⟩ := I8.cell (by omega)
        have c1 : V8.cell? ⟨g, k * 26 + 8, none⟩ = some u := c0
        have f1 : V8.frozen? ⟨g, k * 26 + 8, none⟩ = false := I8.fz
        clear c0
        go_upto_region 22 with fail
        generalize hV : World.setCell _ _ _ = V9
        have I9 := I8.step (by omega) V9 hV (by have := Hm8.out; omega)
        have U9 : Upd (fun b => b = g) wr V9 := U8.trans (by rw [← hV]; exact Upd.setCell _ _ _ _ rfl)
        obtain ⟨m9, hm⟩ : ∃ q : Nat, q = m + 9 := ⟨_, rfl⟩
        have Hm9 := hide hm
        have hb9 : (m9 : Int) ≤ 1099511627776 := by omega
        rw [show (m8 : Int) + 1 = (m9 : Int) by have := Hm8.out; omega]
        clear hV c1 f1 hm I8 U8
        clear hb8 Hm8
        obtain ⟨u, c0⟩ := I9.cell (by omega)
        have c1 : V9.cell? ⟨g, k * 26 + 9, none⟩ = some u := c0
        have f1 : V9.frozen? ⟨g, k * 26 + 9, none⟩ = false := I9.fz
        clear c0
        go_upto_region 24 with fail
        generalize hV : World.setCell _ _ _ = V10
        have I10 := I9.step (by omega) V10 hV (by have := Hm9.out; omega)
        have U10 : Upd (fun b => b = g) wr V10 := U9.trans (by rw [← hV]; exact Upd.setCell _ _ _ _ rfl)
        obtain ⟨m10, hm⟩ : ∃ q : Nat, q = m + 10 := ⟨_, rfl⟩
        have Hm10 := hide hm
        have hb10 : (m10 : Int) ≤ 1099511627776 := by omega
        rw [show (m9 : Int) + 1 = (m10 : Int) by have := Hm9.out; omega]
        clear hV c1 f1 hm I9 U9
        clear hb9 Hm9
        obtain ⟨u, c0⟩ := I10.cell (by omega)
        have c1 : V10.cell? ⟨g, k * 26 + 10, none⟩ = some u := c0
        have f1 : V10.frozen? ⟨g, k * 26 + 10, none⟩ = false := I10.fz
        clear c0
        go_upto_region 26 with fail
        generalize hV : World.setCell _ _ _ = V11
        have I11 := I10.step (by omega) V11 hV (by have := Hm10.out; omega)
        have U11 : Upd (fun b => b = g) wr V11 := U10.trans (by rw [← hV]; exact Upd.setCell _ _ _ _ rfl)
        obtain ⟨m11, hm⟩ : ∃ q : Nat, q = m + 11 := ⟨_, rfl⟩
        have Hm11 := hide hm
        have hb11 : (m11 : Int) ≤ 1099511627776 := by omega
        rw [show (m10 : Int) + 1 = (m11 : Int) by have := Hm10.out; omega]
        clear hV c1 f1 hm I10 U10
        clear hb10 Hm10
        obtain ⟨u, c0⟩ := I11.cell (by omega)
        have c1 : V11.cell? ⟨g, k * 26 + 11, none⟩ = some u := c0
        have f1 : V11.frozen? ⟨g, k * 26 + 11, none⟩ = false := I11.fz
        clear c0
        go_upto_region 28 with fail
        generalize hV : World.setCell _ _ _ = V12
        have I12 := I11.step (by omega) V12 hV (by have := Hm11.out; omega)
        have U12 : Upd (fun b => b = g) wr V12 := U11.trans (by rw [← hV]; exact Upd.setCell _ _ _ _ rfl)
        obtain ⟨m12, hm⟩ : ∃ q : Nat, q = m + 12 := ⟨_, rfl⟩
        have Hm12 := hide hm
        have hb12 : (m12 : Int) ≤ 1099511627776 := by omega
        rw [show (m11 : Int) + 1 = (m12 : Int) by have := Hm11.out; omega]
        clear hV c1 f1 hm I11 U11
        clear hb11 Hm11
        obtain ⟨u, c0⟩ := I12.cell (by omega)
        have c1 : V12.cell? ⟨g, k * 26 + 12, none⟩ = some u := c0
        have f1 : V12.frozen? ⟨g, k * 26 + 12, none⟩ = false := I12.fz
        clear c0
        go_upto_region 30 with fail
        generalize hV : World.setCell _ _ _ = V13
        have I13 := I12.step (by omega) V13 hV (by have := Hm12.out; omega)
        have U13 : Upd (fun b => b = g) wr V13 := U12.trans (by rw [← hV]; exact Upd.setCell _ _ _ _ rfl)
        obtain ⟨m13, hm⟩ : ∃ q : Nat, q = m + 13 := ⟨_, rfl⟩
        have Hm13 := hide hm
        have hb13 : (m13 : Int) ≤ 1099511627776 := by omega
        rw [show (m12 : Int) + 1 = (m13 : Int) by have := Hm12.out; omega]
        clear hV c1 f1 hm I12 U12
        clear hb12 Hm12
        obtain ⟨u, c0⟩ := I13.cell (by omega)
        have c1 : V13.cell? ⟨g, k * 26 + 13, none⟩ = some u := c0
        have f1 : V13.frozen? ⟨g, k * 26 + 13, none⟩ = false := I13.fz
        clear c0
        go_upto_region 32 with fail
        generalize hV : World.setCell _ _ _ = V14
        have I14 := I13.step (by omega) V14 hV (by have := Hm13.out; omega)
        have U14 : Upd (fun b => b = g) wr V14 := U13.trans (by rw [← hV]; exact Upd.setCell _ _ _ _ rfl)
        obtain ⟨m14, hm⟩ : ∃ q : Nat, q = m + 14 := ⟨_, rfl⟩
        have Hm14 := hide hm
        have hb14 : (m14 : Int) ≤ 1099511627776 := by omega
        rw [show (m13 : Int) + 1 = (m14 : Int) by have := Hm13.out; omega]
        clear hV c1 f1 hm I13 U13
        clear hb13 Hm13
        obtain ⟨u, c0⟩ := I14.cell (by omega)
        have c1 : V14.cell? ⟨g, k * 26 + 14, none⟩ = some u := c0
        have f1 : V14.frozen? ⟨g, k * 26 + 14, none⟩ = false := I14.fz
        clear c0
        go_upto_region 34 with fail
        generalize hV : World.setCell _ _ _ = V15
        have I15 := I14.step (by omega) V15 hV (by have := Hm14.out; omega)
        have U15 : Upd (fun b => b = g) wr V15 := U14.trans (by rw [← hV]; exact Upd.setCell _ _ _ _ rfl)
        obtain ⟨m15, hm⟩ : ∃ q : Nat, q = m + 15 := ⟨_, rfl⟩
        have Hm15 := hide hm
        have hb15 : (m15 : Int) ≤ 1099511627776 := by omega
        rw [show (m14 : Int) + 1 = (m15 : Int) by have := Hm14.out; omega]
        clear hV c1 f1 hm I14 U14
        clear hb14 Hm14
        obtain ⟨u, c0⟩ := I15.cell (by omega)
        have c1 : V15.cell? ⟨g, k * 26 + 15, none⟩ = some u := c0
        have f1 : V15.frozen? ⟨g, k * 26 + 15, none⟩ = false := I15.fz
        clear c0
        go_upto_region 36 with fail
        generalize hV : World.setCell _ _ _ = V16
        have I16 := I15.step (by omega) V16 hV (by have := Hm15.out; omega)
        have U16 : Upd (fun b => b = g) wr V16 := U15.trans (by rw [← hV]; exact Upd.setCell _ _ _ _ rfl)
        obtain ⟨m16, hm⟩ : ∃ q : Nat, q = m + 16 := ⟨_, rfl⟩
        have Hm16 := hide hm
        have hb16 : (m16 : Int) ≤ 1099511627776 := by omega
        rw [show (m15 : Int) + 1 = (m16 : Int) by have := Hm15.out; omega]
        clear hV c1 f1 hm I15 U15
        clear hb15 Hm15
        obtain ⟨u, c0⟩ := I16.cell (by omega)
        have c1 : V16.cell? ⟨g, k * 26 + 16, none⟩ = some u := c0
        have f1 : V16.frozen? ⟨g, k * 26 + 16, none⟩ = false := I16.fz
        clear c0
        go_upto_region 38 with fail
        generalize hV : World.setCell _ _ _ = V17
        have I17 := I16.step (by omega) V17 hV (by have := Hm16.out; omega)
        have U17 : Upd (fun b => b = g) wr V17 := U16.trans (by rw [← hV]; exact Upd.setCell _ _ _ _ rfl)
        obtain ⟨m17, hm⟩ : ∃ q : Nat, q = m + 17 := ⟨_, rfl⟩
        have Hm17 := hide hm
        have hb17 : (m17 : Int) ≤ 1099511627776 := by omega
        rw [show (m16 : Int) + 1 = (m17 : Int) by have := Hm16.out; omega]
        clear hV c1 f1 hm I16 U16
        clear hb16 Hm16
        obtain ⟨u, c0⟩ := I17.cell (by omega)
        have c1 : V17.cell? ⟨g, k * 26 + 17, none⟩ = some u := c0
        have f1 : V17.frozen? ⟨g, k * 26 + 17, none⟩ = false := I17.fz
        clear c0
        go_upto_region 40 with fail
        generalize hV : World.setCell _ _ _ = V18
        have I18 := I17.step (by omega) V18 hV (by have := Hm17.out; omega)
        have U18 : Upd (fun b => b = g) wr V18 := U17.trans (by rw [← hV]; exact Upd.setCell _ _ _ _ rfl)
        obtain ⟨m18, hm⟩ : ∃ q : Nat, q = m + 18 := ⟨_, rfl⟩
        have Hm18 := hide hm
        have hb18 : (m18 : Int) ≤ 1099511627776 := by omega
        rw [show (m17 : Int) + 1 = (m18 : Int) by have := Hm17.out; omega]
        clear hV c1 f1 hm I17 U17
        clear hb17 Hm17
        obtain ⟨u, c0⟩ := I18.cell (by omega)
        have c1 : V18.cell? ⟨g, k * 26 + 18, none⟩ = some u := c0
        have f1 : V18.frozen? ⟨g, k * 26 + 18, none⟩ = false := I18.fz
        clear c0
        go_upto_region 42 with fail
        generalize hV : World.setCell _ _ _ = V19
        have I19 := I18.step (by omega) V19 hV (by have := Hm18.out; omega)
        have U19 : Upd (fun b => b = g) wr V19 := U18.trans (by rw [← hV]; exact Upd.setCell _ _ _ _ rfl)
        obtain ⟨m19, hm⟩ : ∃ q : Nat, q = m + 19 := ⟨_, rfl⟩
        have Hm19 := hide hm
        have hb19 : (m19 : Int) ≤ 1099511627776 := by omega
        rw [show (m18 : Int) + 1 = (m19 : Int) by have := Hm18.out; omega]
        clear hV c1 f1 hm I18 U18
        clear hb18 Hm18
        obtain ⟨u, c0⟩ := I19.cell (by omega)
        have c1 : V19.cell? ⟨g, k * 26 + 19, none⟩ = some u := c0
        have f1 : V19.frozen? ⟨g, k * 26 + 19, none⟩ = false := I19.fz
        clear c0
        go_upto_region 44 with fail
        generalize hV : World.setCell _ _ _ = V20
        have I20 := I19.step (by omega) V20 hV (by have := Hm19.out; omega)
        have U20 : Upd (fun b => b = g) wr V20 := U19.trans (by rw [← hV]; exact Upd.setCell _ _ _ _ rfl)
        obtain ⟨m20, hm⟩ : ∃ q : Nat, q = m + 20 := ⟨_, rfl⟩
        have Hm20 := hide hm
        have hb20 : (m20 : Int) ≤ 1099511627776 := by omega
        rw [show (m19 : Int) + 1 = (m20 : Int) by have := Hm19.out; omega]
        clear hV c1 f1 hm I19 U19
        clear hb19 Hm19
        obtain ⟨u, c0⟩ := I20.cell (by omega)
        have c1 : V20.cell? ⟨g, k * 26 + 20, none⟩ = some u := c0
        have f1 : V20.frozen? ⟨g, k * 26 + 20, none⟩ = false := I20.fz
        clear c0
        go_upto_region 46 with fail
        generalize hV : World.setCell _ _ _ = V21
        have I21 := I20.step (by omega) V21 hV (by have := Hm20.out; omega)
        have U21 : Upd (fun b => b = g) wr V21 := U20.trans (by rw [← hV]; exact Upd.setCell _ _ _ _ rfl)
        obtain ⟨m21, hm⟩ : ∃ q : Nat, q = m + 21 := ⟨_, rfl⟩
        have Hm21 := hide hm
        have hb21 : (m21 : Int) ≤ 1099511627776 := by omega
        rw [show (m20 : Int) + 1 = (m21 : Int) by have := Hm20.out; omega]
        clear hV c1 f1 hm I20 U20
        clear hb20 Hm20
        obtain ⟨u, c0⟩ := I21.cell (by omega)
        have c1 : V21.cell? ⟨g, k * 26 + 21, none⟩ = some u := c0
        have f1 : V21.frozen? ⟨g, k * 26 + 21, none⟩ = false := I21.fz
        clear c0
        go_upto_region 48 with fail
        generalize hV : World.setCell _ _ _ = V22
        have I22 := I21.step (by omega) V22 hV (by have := Hm21.out; omega)
        have U22 : Upd (fun b => b = g) wr V22 := U21.trans (by rw [← hV]; exact Upd.setCell _ _ _ _ rfl)
        obtain ⟨m22, hm⟩ : ∃ q : Nat, q = m + 22 := ⟨_, rfl⟩
        have Hm22 := hide hm
        have hb22 : (m22 : Int) ≤ 1099511627776 := by omega
        rw [show (m21 : Int) + 1 = (m22 : Int) by have := Hm21.out; omega]
        clear hV c1 f1 hm I21 U21
        clear hb21 Hm21
        obtain ⟨u, c0⟩ := I22.cell (by omega)
        have c1 : V22.cell? ⟨g, k * 26 + 22, none⟩ = some u := c0
        have f1 : V22.frozen? ⟨g, k * 26 + 22, none⟩ = false := I22.fz
        clear c0
        go_upto_region 50 with fail
        generalize hV : World.setCell _ _ _ = V23
        have I23 := I22.step (by omega) V23 hV (by have := Hm22.out; omega)
        have U23 : Upd (fun b => b = g) wr V23 := U22.trans (by rw [← hV]; exact Upd.setCell _ _ _ _ rfl)
        obtain ⟨m23, hm⟩ : ∃ q : Nat, q = m + 23 := ⟨_, rfl⟩
        have Hm23 := hide hm
        have hb23 : (m23 : Int) ≤ 1099511627776 := by omega
        rw [show (m22 : Int) + 1 = (m23 : Int) by have := Hm22.out; omega]
        clear hV c1 f1 hm I22 U22
        clear hb22 Hm22
        obtain ⟨u, c0⟩ := I23.cell (by omega)
        have c1 : V23.cell? ⟨g, k * 26 + 23, none⟩ = some u := c0
        have f1 : V23.frozen? ⟨g, k * 26 + 23, none⟩ = false := I23.fz
        clear c0
        go_upto_region 52 with fail
        generalize hV : World.setCell _ _ _ = V24
        have I24 := I23.step (by omega) V24 hV (by have := Hm23.out; omega)
        have U24 : Upd (fun b => b = g) wr V24 := U23.trans (by rw [← hV]; exact Upd.setCell _ _ _ _ rfl)
        obtain ⟨m24, hm⟩ : ∃ q : Nat, q = m + 24 := ⟨_, rfl⟩
        have Hm24 := hide hm
        have hb24 : (m24 : Int) ≤ 1099511627776 := by omega
        rw [show (m23 : Int) + 1 = (m24 : Int) by have := Hm23.out; omega]
        clear hV c1 f1 hm I23 U23
        clear hb23 Hm23
        obtain ⟨u, c0⟩ := I24.cell (by omega)
        have c1 : V24.cell? ⟨g, k * 26 + 24, none⟩ = some u := c0
        have f1 : V24.frozen? ⟨g, k * 26 + 24, none⟩ = false := I24.fz
        clear c0
        go_upto_region 54 with fail
        generalize hV : World.setCell _ _ _ = V25
        have I25 := I24.step (by omega) V25 hV (by have := Hm24.out; omega)
        have U25 : Upd (fun b => b = g) wr V25 := U24.trans (by rw [← hV]; exact Upd.setCell _ _ _ _ rfl)
        obtain ⟨m25, hm⟩ : ∃ q : Nat, q = m + 25 := ⟨_, rfl⟩
        have Hm25 := hide hm
        have hb25 : (m25 : Int) ≤ 1099511627776 := by omega
        rw [show (m24 : Int) + 1 = (m25 : Int) by have := Hm24.out; omega]
        clear hV c1 f1 hm I24 U24
        clear hb24 Hm24
        have e25 := Hm25.out
        obtain ⟨cN, GN, zN, q1, q2⟩ := I25.ex
        have sN : V25.cell? ⟨g, k * 26 + 25, none⟩ = some (.slice ao x.ys.length cp) := (cell_of_row V25 _ _ _ _ (0, 0) GN).trans ((q2 _ (by omega)).trans HLa.out)
        have c := markIntS_row (T k) _ _ _ m25 V25 (HR.out.keep U25 (fun b hb => (HT.out k b hb).2)) (by have := HF.out; omega)
        obtain ⟨M, hM⟩ : ∃ M : Nat, M = m25 + x.ys.length := ⟨_, rfl⟩
        rw [← hM] at c
        have HM := hide hM
        have hMb : (M : Int) ≤ 1099511627776 := by have := HF.out; omega
        have GH := hide GN
        have Q1 := hide q1
        have Q2 := hide q2
        have EN := hide e25
        clear hM GN zN q1 q2 I25 e25 Hm25 HF
        go_wp2_with fail
        refine c.mono ?_
        rintro e VE ⟨rfl, rE, uE⟩
        have GE := hide (uE.keeps GH.out (fun h => (HT.out k g h).2 rfl))
        have UE : Upd (fun b => b = g ∨ T k b) wr VE := (U25.mono (fun b h => Or.inl h)).trans (uE.mono (fun b h => Or.inr h))
        have RE := hide rE
        clear c sN GH uE rE U25
        go_wp2
        go_roundw
        case rel =>
          refine ⟨k + 1, M, cN, by omega, by rw [offL_succ HX.out, ← Hm.out, HM.out, EN.out, fSk]; omega, by go_num, rfl, GE.out, ?mid, hup.trans (UE.mono (fun b h => by rcases h with h | h; exact h ▸ hS; exact (HT.out k b h).1))⟩
          refine Mid.step (g := g) (cs := mkSkA m x (.slice ao x.ys.length cp)) (fun U R v y h u hU => SkO.keep h u hU) HD.out HX.out UE (fun j b h => (HT.out j b h).2) HT2.out (fun i hi => Q2.out i (by omega)) rfl (mkSk_one _ _ _ _ _) (fun r u hu => ?_) ?_
          · by_cases hr : r < 25
            · rw [mkSk_at _ _ _ _ hr] at hu
              rw [Q1.out r hr, hu]
            · have hr2 : r < 26 := (Array.getElem?_eq_some_iff.1 hu).1
              obtain rfl : r = 25 := by omega
              rw [mkSk_last] at hu
              rw [Q2.out _ (by omega), HLa.out, hu]
          · rw [← Hm.out]
            have R1 := RE.out
            rw [EN.out] at R1
            exact ⟨ao, cp, by rw [show (mkSk m x).ys.length = x.ys.length from mkN_len _ _]; rfl, by rw [show (mkSk m x).ys.length = x.ys.length from mkN_len _ _]; exact R1⟩
        case measure => simp [intOf]; omega
      · go_wp2
        go_ret
        obtain rfl : k = n := by omega
        exact ⟨by rw [Hm.out]; rfl, ⟨_, cap, by rw [mkU_len, ← HXN.out], by rw [mkU_len, ← HXN.out]; exact hn, fun _ => ⟨g, cur', rfl, hS, hgr, T, HT.out, HT2.out, HD.out⟩⟩, hup⟩

set_option maxRecDepth 100000 in
set_option maxHeartbeats 32000000 in
theorem heldSynSeekerS_own (v : Value) (xs : List (Sk)) (k0 : Nat) (w : World) (hr : RowE w 26 SkR v (mkU fSk mkSk k0 xs.length xs)) (h1 : 1 ≤ k0) (h2 : offL fSk k0 xs xs.length ≤ 1099511627776) :
    Calls Try.prog 84 #[v, .int .i64 k0] w fun e w' => e = .returned (.int .i64 (offL fSk k0 xs xs.length : Nat)) ∧ Below w.heap.size w w' := by
  obtain ⟨ao, cap, rfl⟩ := hr.shape
  have hn := hr.small
  rw [mkU_len] at hr hn ⊢
  obtain ⟨n, hxn⟩ : ∃ n, n = xs.length := ⟨_, rfl⟩
  rw [← hxn] at hr h2 hn ⊢
  have HXN := hide hxn
  have H2 := hide h2
  have HRo := hide hr
  clear hxn h2 hr
  go_enter Try.func84, Try.ntmps84
  go_wp2
  go_loopw [1, 5] (fun kv i wr => ∃ k m : Nat, k ≤ n ∧ m = offL fSk k0 xs k ∧ i = .int .i64 k ∧ kv = .int .i64 (m : Nat) ∧ Below w.heap.size w wr) (fun _ i _ => n - (intOf i).toNat)
  case atStart => exact ⟨0, k0, Nat.zero_le _, offL_zero.symm, rfl, rfl, Below.refl _ _⟩
  case round =>
    obtain ⟨k, m, hk, hm, rfl, rfl, hbel⟩ := hrel
    have Hm := hide hm
    have hm0 : k0 ≤ m := by rw [hm, offL]; omega
    have hm2 : (m : Int) ≤ 1099511627776 := by
      have := offL_le (f := fSk) (k := k0) (xs := xs) (j := k)
      rw [← HXN.out] at this
      have := H2.out
      omega
    clear hm
    by_cases hlt : k < n
    · have hi : (k : Int) < (n : Int) := by omega
      obtain ⟨x, hx⟩ := getAt xs k (by have := HXN.out; omega)
      have hfx : m + (25 + x.ys.length) ≤ 1099511627776 := by
        have h3 := offL_le (f := fSk) (k := k0) (xs := xs) (j := k + 1)
        rw [offL_succ hx, ← HXN.out, ← Hm.out] at h3
        exact Nat.le_trans h3 H2.out
      obtain ⟨-, b1, o1, rfl, cs, s1, s2, s3, a2, cp, ecs, hrow⟩ := HRo.out.elem (mkU_lt hlt hx)
      rw [← Hm.out] at ecs hrow
      injection ecs with ecs
      subst ecs
      have hl : (mkSk m x).ys.length = x.ys.length := mkN_len _ _
      rw [hl] at s3 hrow
      have HX := hide hx
      have F := hide s3
      have HF := hide hfx
      have hm3 : ((m + 25 : Nat) : Int) ≤ 1099511627776 := by omega
      have HR := hide hrow
      have HL := hide hl
      have K : ∀ r u, (mkSkA m x (.slice a2 x.ys.length cp))[r]? = some u → wr.cell? ⟨b1, o1 + k * 26 + r, none⟩ = some u := fun r u h => (hbel.cell (p := ⟨b1, o1 + k * 26 + r, none⟩) (World.block_lt_of_cell? w _ (F.out r u h))).trans (F.out r u h)
      have HK := hide K
      have HLT : Hid (k + 1 ≤ n) := hlt
      have Hm0 : Hid (m = m + 0) := rfl
      clear s1 s2 s3 hrow hl hx hfx K
      have c1 : wr.cell? ⟨b1, o1 + k * 26, none⟩ = some (.int .i64 (m : Int)) := by
        have q := HK.out 0 _ (mkSk_at m 0 x _ (by omega))
        rw [← Hm0.out] at q
        exact q
      go_upto_region 7 with fail
      obtain ⟨m1, hm⟩ : ∃ q : Nat, q = m + 1 := ⟨_, rfl⟩
      have Hm1 := hide hm
      have hb1 : (m1 : Int) ≤ 1099511627776 := by omega
      rw [show (m : Int) + 1 = (m1 : Int) by have := Hm0.out; omega]
      clear c1 hm
      have c1 : wr.cell? ⟨b1, o1 + k * 26 + 1, none⟩ = some (.int .i64 (m1 : Int)) := by
        have q := HK.out 1 _ (mkSk_at m 1 x _ (by omega))
        rw [← Hm1.out] at q
        exact q
      go_upto_region 10 with fail
      obtain ⟨m2, hm⟩ : ∃ q : Nat, q = m + 2 := ⟨_, rfl⟩
      have Hm2 := hide hm
      have hb2 : (m2 : Int) ≤ 1099511627776 := by omega
      rw [show (m1 : Int) + 1 = (m2 : Int) by have := Hm1.out; omega]
      clear c1 hm
      clear hb1 Hm1
      have c1 : wr.cell? ⟨b1, o1 + k * 26 + 2, none⟩ = some (.int .i64 (m2 : Int)) := by
        have q := HK.out 2 _ (mkSk_at m 2 x _ (by omega))
        rw [← Hm2.out] at q
        exact q
      go_upto_region 13 with fail
      obtain ⟨m3, hm⟩ : ∃ q : Nat, q = m + 3 := ⟨_, rfl⟩
      have Hm3 := hide hm
      have hb3 : (m3 : Int) ≤ 1099511627776 := by omega
      rw [show (m2 : Int) + 1 = (m3 : Int) by have := Hm2.out; omega]
      clear c1 hm
      clear hb2 Hm2
      have c1 : wr.cell? ⟨b1, o1 + k * 26 + 3, none⟩ = some (.int .i64 (m3 : Int)) := by
        have q := HK.out 3 _ (mkSk_at m 3 x _ (by omega))
        rw [← Hm3.out] at q
        exact q
      go_upto_region 16 with fail
      obtain ⟨m4, hm⟩ : ∃ q : Nat, q = m + 4 := ⟨_, rfl⟩
      have Hm4 := hide hm
      have hb4 : (m4 : Int) ≤ 1099511627776 := by omega
      rw [show (m3 : Int) + 1 = (m4 : Int) by have := Hm3.out; omega]
      clear c1 hm
      clear hb3 Hm3
      have c1 : wr.cell? ⟨b1, o1 + k * 26 + 4, none⟩ = some (.int .i64 (m4 : Int)) := by
        have q := HK.out 4 _ (mkSk_at m 4 x _ (by omega))
        rw [← Hm4.out] at q
        exact q
      go_upto_region 19 with fail
      obtain ⟨m5, hm⟩ : ∃ q : Nat, q = m + 5 := ⟨_, rfl⟩
      have Hm5 := hide hm
      have hb5 : (m5 : Int) ≤ 1099511627776 := by omega
      rw [show (m4 : Int) + 1 = (m5 : Int) by have := Hm4.out; omega]
      clear c1 hm
      clear hb4 Hm4
      have c1 : wr.cell? ⟨b1, o1 + k * 26 + 5, none⟩ = some (.int .i64 (m5 : Int)) := by
        have q := HK.out 5 _ (mkSk_at m 5 x _ (by omega))
        rw [← Hm5.out] at q
        exact q
      go_upto_region 22 with fail
      obtain ⟨m6, hm⟩ : ∃ q : Nat, q = m + 6 := ⟨_, rfl⟩
      have Hm6 := hide hm
      have hb6 : (m6 : Int) ≤ 1099511627776 := by omega
      rw [show (m5 : Int) + 1 = (m6 : Int) by have := Hm5.out; omega]
      clear c1 hm
      clear hb5 Hm5
      have c1 : wr.cell? ⟨b1, o1 + k * 26 + 6, none⟩ = some (.int .i64 (m6 : Int)) := by
        have q := HK.out 6 _ (mkSk_at m 6 x _ (by omega))
        rw [← Hm6.out] at q
        exact q
      go_upto_region 25 with fail
      obtain ⟨m7, hm⟩ : ∃ q : Nat, q = m + 7 := ⟨_, rfl⟩
      have Hm7 := hide hm
      have hb7 : (m7 : Int) ≤ 1099511627776 := by omega
      rw [show (m6 : Int) + 1 = (m7 : Int) by have := Hm6.out; omega]
      clear c1 hm
      clear hb6 Hm6
      have c1 : wr.cell? ⟨b1, o1 + k * 26 + 7, none⟩ = some (.int .i64 (m7 : Int)) := by
        have q := HK.out 7 _ (mkSk_at m 7 x _ (by omega))
        rw [← Hm7.out] at q
        exact q
      go_upto_region 28 with fail
      obtain ⟨m8, hm⟩ : ∃ q : Nat, q = m + 8 := ⟨_, rfl⟩
      have Hm8 := hide hm
      have hb8 : (m8 : Int) ≤ 1099511627776 := by omega
      rw [show (m7 : Int) + 1 = (m8 : Int) by have := Hm7.out; omega]
      clear c1 hm
      clear hb7 Hm7
      have c1 : wr.cell? ⟨b1, o1 + k * 26 + 8, none⟩ = some (.int .i64 (m8 : Int)) := by
        have q := HK.out 8 _ (mkSk_at m 8 x _ (by omega))
        rw [← Hm8.out] at q
        exact q
      go_upto_region 31 with fail
      obtain ⟨m9, hm⟩ : ∃ q : Nat, q = m + 9 := ⟨_, rfl⟩
      have Hm9 := hide hm
      have hb9 : (m9 : Int) ≤ 1099511627776 := by omega
      rw [show (m8 : Int) + 1 = (m9 : Int) by have := Hm8.out; omega]
      clear c1 hm
      clear hb8 Hm8
      have c1 : wr.cell? ⟨b1, o1 + k * 26 + 9, none⟩ = some (.int .i64 (m9 : Int)) := by
        have q := HK.out 9 _ (mkSk_at m 9 x _ (by omega))
        rw [← Hm9.out] at q
        exact q
      go_upto_region 34 with fail
      obtain ⟨m10, hm⟩ : ∃ q : Nat, q = m + 10 := ⟨_, rfl⟩
      have Hm10 := hide hm
      have hb10 : (m10 : Int) ≤ 1099511627776 := by omega
      rw [show (m9 : Int) + 1 = (m10 : Int) by have := Hm9.out; omega]
      clear c1 hm
      clear hb9 Hm9
      have c1 : wr.cell? ⟨b1, o1 + k * 26 + 10, none⟩ = some (.int .i64 (m10 : Int)) := by
        have q := HK.out 10 _ (mkSk_at m 10 x _ (by omega))
        rw [← Hm10.out] at q
        exact q
      go_upto_region 37 with fail
      obtain ⟨m11, hm⟩ : ∃ q : Nat, q = m + 11 := ⟨_, rfl⟩
      have Hm11 := hide hm
      have hb11 : (m11 : Int) ≤ 1099511627776 := by omega
      rw [show (m10 : Int) + 1 = (m11 : Int) by have := Hm10.out; omega]
      clear c1 hm
      clear hb10 Hm10
      have c1 : wr.cell? ⟨b1, o1 + k * 26 + 11, none⟩ = some (.int .i64 (m11 : Int)) := by
        have q := HK.out 11 _ (mkSk_at m 11 x _ (by omega))
        rw [← Hm11.out] at q
        exact q
      go_upto_region 40 with fail
      obtain ⟨m12, hm⟩ : ∃ q : Nat, q = m + 12 := ⟨_, rfl⟩
      have Hm12 := hide hm
      have hb12 : (m12 : Int) ≤ 1099511627776 := by omega
      rw [show (m11 : Int) + 1 = (m12 : Int) by have := Hm11.out; omega]
      clear c1 hm
      clear hb11 Hm11
      have c1 : wr.cell? ⟨b1, o1 + k * 26 + 12, none⟩ = some (.int .i64 (m12 : Int)) := by
        have q := HK.out 12 _ (mkSk_at m 12 x _ (by omega))
        rw [← Hm12.out] at q
        exact q
      go_upto_region 43 with fail
      obtain ⟨m13, hm⟩ : ∃ q : Nat, q = m + 13 := ⟨_, rfl⟩
      have Hm13 := hide hm
      have hb13 : (m13 : Int) ≤ 1099511627776 := by omega
      rw [show (m12 : Int) + 1 = (m13 : Int) by have := Hm12.out; omega]
      clear c1 hm
      clear hb12 Hm12
      have c1 : wr.cell? ⟨b1, o1 + k * 26 + 13, none⟩ = some (.int .i64 (m13 : Int)) := by
        have q := HK.out 13 _ (mkSk_at m 13 x _ (by omega))
        rw [← Hm13.out] at q
        exact q
      go_upto_region 46 with fail
      obtain ⟨m14, hm⟩ : ∃ q : Nat, q = m + 14 := ⟨_, rfl⟩
      have Hm14 := hide hm
      have hb14 : (m14 : Int) ≤ 1099511627776 := by omega
      rw [show (m13 : Int) + 1 = (m14 : Int) by have := Hm13.out; omega]
      clear c1 hm
      clear hb13 Hm13
      have c1 : wr.cell? ⟨b1, o1 + k * 26 + 14, none⟩ = some (.int .i64 (m14 : Int)) := by
        have q := HK.out 14 _ (mkSk_at m 14 x _ (by omega))
        rw [← Hm14.out] at q
        exact q
      go_upto_region 49 with fail
      obtain ⟨m15, hm⟩ : ∃ q : Nat, q = m + 15 := ⟨_, rfl⟩
      have Hm15 := hide hm
      have hb15 : (m15 : Int) ≤ 1099511627776 := by omega
      rw [show (m14 : Int) + 1 = (m15 : Int) by have := Hm14.out; omega]
      clear c1 hm
      clear hb14 Hm14
      have c1 : wr.cell? ⟨b1, o1 + k * 26 + 15, none⟩ = some (.int .i64 (m15 : Int)) := by
        have q := HK.out 15 _ (mkSk_at m 15 x _ (by omega))
        rw [← Hm15.out] at q
        exact q
      go_upto_region 52 with fail
      obtain ⟨m16, hm⟩ : ∃ q : Nat, q = m + 16 := ⟨_, rfl⟩
      have Hm16 := hide hm
      have hb16 : (m16 : Int) ≤ 1099511627776 := by omega
      rw [show (m15 : Int) + 1 = (m16 : Int) by have := Hm15.out; omega]
      clear c1 hm
      clear hb15 Hm15
      have c1 : wr.cell? ⟨b1, o1 + k * 26 + 16, none⟩ = some (.int .i64 (m16 : Int)) := by
        have q := HK.out 16 _ (mkSk_at m 16 x _ (by omega))
        rw [← Hm16.out] at q
        exact q
      go_upto_region 55 with fail
      obtain ⟨m17, hm⟩ : ∃ q : Nat, q = m + 17 := ⟨_, rfl⟩
      have Hm17 := hide hm
      have hb17 : (m17 : Int) ≤ 1099511627776 := by omega
      rw [show (m16 : Int) + 1 = (m17 : Int) by have := Hm16.out; omega]
      clear c1 hm
      clear hb16 Hm16
      have c1 : wr.cell? ⟨b1, o1 + k * 26 + 17, none⟩ = some (.int .i64 (m17 : Int)) := by
        have q := HK.out 17 _ (mkSk_at m 17 x _ (by omega))
        rw [← Hm17.out] at q
        exact q
      go_upto_region 58 with fail
      obtain ⟨m18, hm⟩ : ∃ q : Nat, q = m + 18 := ⟨_, rfl⟩
      have Hm18 := hide hm
      have hb18 : (m18 : Int) ≤ 1099511627776 := by omega
      rw [show (m17 : Int) + 1 = (m18 : Int) by have := Hm17.out; omega]
      clear c1 hm
      clear hb17 Hm17
      have c1 : wr.cell? ⟨b1, o1 + k * 26 + 18, none⟩ = some (.int .i64 (m18 : Int)) := by
        have q := HK.out 18 _ (mkSk_at m 18 x _ (by omega))
        rw [← Hm18.out] at q
        exact q
      go_upto_region 61 with fail
      obtain ⟨m19, hm⟩ : ∃ q : Nat, q = m + 19 := ⟨_, rfl⟩
      have Hm19 := hide hm
      have hb19 : (m19 : Int) ≤ 1099511627776 := by omega
      rw [show (m18 : Int) + 1 = (m19 : Int) by have := Hm18.out; omega]
      clear c1 hm
      clear hb18 Hm18
      have c1 : wr.cell? ⟨b1, o1 + k * 26 + 19, none⟩ = some (.int .i64 (m19 : Int)) := by
        have q := HK.out 19 _ (mkSk_at m 19 x _ (by omega))
        rw [← Hm19.out] at q
        exact q
      go_upto_region 64 with fail
      obtain ⟨m20, hm⟩ : ∃ q : Nat, q = m + 20 := ⟨_, rfl⟩
      have Hm20 := hide hm
      have hb20 : (m20 : Int) ≤ 1099511627776 := by omega
      rw [show (m19 : Int) + 1 = (m20 : Int) by have := Hm19.out; omega]
      clear c1 hm
      clear hb19 Hm19
      have c1 : wr.cell? ⟨b1, o1 + k * 26 + 20, none⟩ = some (.int .i64 (m20 : Int)) := by
        have q := HK.out 20 _ (mkSk_at m 20 x _ (by omega))
        rw [← Hm20.out] at q
        exact q
      go_upto_region 67 with fail
      obtain ⟨m21, hm⟩ : ∃ q : Nat, q = m + 21 := ⟨_, rfl⟩
      have Hm21 := hide hm
      have hb21 : (m21 : Int) ≤ 1099511627776 := by omega
      rw [show (m20 : Int) + 1 = (m21 : Int) by have := Hm20.out; omega]
      clear c1 hm
      clear hb20 Hm20
      have c1 : wr.cell? ⟨b1, o1 + k * 26 + 21, none⟩ = some (.int .i64 (m21 : Int)) := by
        have q := HK.out 21 _ (mkSk_at m 21 x _ (by omega))
        rw [← Hm21.out] at q
        exact q
      go_upto_region 70 with fail
      obtain ⟨m22, hm⟩ : ∃ q : Nat, q = m + 22 := ⟨_, rfl⟩
      have Hm22 := hide hm
      have hb22 : (m22 : Int) ≤ 1099511627776 := by omega
      rw [show (m21 : Int) + 1 = (m22 : Int) by have := Hm21.out; omega]
      clear c1 hm
      clear hb21 Hm21
      have c1 : wr.cell? ⟨b1, o1 + k * 26 + 22, none⟩ = some (.int .i64 (m22 : Int)) := by
        have q := HK.out 22 _ (mkSk_at m 22 x _ (by omega))
        rw [← Hm22.out] at q
        exact q
      go_upto_region 73 with fail
      obtain ⟨m23, hm⟩ : ∃ q : Nat, q = m + 23 := ⟨_, rfl⟩
      have Hm23 := hide hm
      have hb23 : (m23 : Int) ≤ 1099511627776 := by omega
      rw [show (m22 : Int) + 1 = (m23 : Int) by have := Hm22.out; omega]
      clear c1 hm
      clear hb22 Hm22
      have c1 : wr.cell? ⟨b1, o1 + k * 26 + 23, none⟩ = some (.int .i64 (m23 : Int)) := by
        have q := HK.out 23 _ (mkSk_at m 23 x _ (by omega))
        rw [← Hm23.out] at q
        exact q
      go_upto_region 76 with fail
      obtain ⟨m24, hm⟩ : ∃ q : Nat, q = m + 24 := ⟨_, rfl⟩
      have Hm24 := hide hm
      have hb24 : (m24 : Int) ≤ 1099511627776 := by omega
      rw [show (m23 : Int) + 1 = (m24 : Int) by have := Hm23.out; omega]
      clear c1 hm
      clear hb23 Hm23
      have c1 : wr.cell? ⟨b1, o1 + k * 26 + 24, none⟩ = some (.int .i64 (m24 : Int)) := by
        have q := HK.out 24 _ (mkSk_at m 24 x _ (by omega))
        rw [← Hm24.out] at q
        exact q
      go_upto_region 79 with fail
      obtain ⟨m25, hm⟩ : ∃ q : Nat, q = m + 25 := ⟨_, rfl⟩
      have Hm25 := hide hm
      have hb25 : (m25 : Int) ≤ 1099511627776 := by omega
      rw [show (m24 : Int) + 1 = (m25 : Int) by have := Hm24.out; omega]
      clear c1 hm
      clear hb24 Hm24
      have e25 := Hm25.out
      have hrow := (HR.out.keep hbel)
      have hrow : RowR wr 1 (.slice a2 x.ys.length cp) x.ys.length (ints (mkN m25 x.ys.length)) := by rw [e25]; exact hrow
      have c := heldIntS_ok _ x.ys.length m25 wr hrow (by have := HF.out; omega)
      have sN : wr.cell? ⟨b1, o1 + k * 26 + 25, none⟩ = some (.slice a2 x.ys.length cp) := HK.out 25 _ (mkSk_last _ _ _)
      obtain ⟨M, hM⟩ : ∃ M : Nat, M = m25 + x.ys.length := ⟨_, rfl⟩
      rw [← hM] at c
      have HM := hide hM
      have hMb : (M : Int) ≤ 1099511627776 := by have := HF.out; omega
      have hneg : decide ((M : Int) < 0) = false := decide_eq_false (by omega)
      have EN := hide e25
      clear hM hrow e25 Hm25 HF hm0 hm2 hm3 hk hlt hb25
      go_wp2_with fail
      refine c.mono ?_
      rintro e VE ⟨rfl, bE⟩
      have hbE := bAll hbel bE
      clear c sN bE
      go_wp2
      go_roundw
      case rel => exact ⟨k + 1, M, HLT.out, by rw [offL_succ HX.out, ← Hm.out, HM.out, EN.out, fSk]; omega, by go_num, rfl, hbE⟩
      case measure => (have := HLT.out; simp [intOf]; omega)
    · go_wp2
      go_ret
      obtain rfl : k = n := by omega
      exact ⟨by rw [Hm.out]; rfl, hbel⟩

end Go.Proofs.Yteddhdbglciahaa
