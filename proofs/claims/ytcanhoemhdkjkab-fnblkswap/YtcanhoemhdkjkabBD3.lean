/- Last calls that are drawn; the laws' comparison of two lists: contracts; no statement of the seat is proved here. -/
import Derived.Test.YtcanhoemhdkjkabBD2
import Derived.Test.YtcanhoemhdkjkabBT9
namespace Go.Proofs.Ytcanhoemhdkjkab
open Go.RowKit

set_option maxRecDepth 100000 in
set_option maxHeartbeats 2000000 in
theorem l72Last_any (w0 w : World) (R p : Nat) (hr : Rd w0 w R p) (hp : p ≤ 800000) :
    Calls Try.prog 37 #[.pointer (some ⟨R, 0, none⟩)] w fun e w' => ∃ v xs p', e = .returned v ∧ RowA w' w.heap.size 61 2 v xs.length (lcells xs) ∧ xs.length ≤ 61 ∧ Rd w0 w' R p' ∧ p' ≤ p + 1000 ∧ Upd (fun j => j = R) w w' := by
  obtain ⟨i1, gi, gz0, gz1, gz2⟩ := info_parts infoLc
  obtain ⟨hRl, hR0, hw0⟩ := hr.lt
  have hT : ∀ j, w.heap.size ≤ j → ¬ j = R := fun j h e => by omega
  have al0 : Below w.heap.size w (w.alloc (.cells #[] 61)) := (Below.refl _ _).alloc (Nat.le_refl _) _
  have hr0 := hr.keepB al0
  go_enter Try.func37, Try.ntmps37
  go_wp2_with fail
  refine (pick_any w0 _ R p 5 hr0 (by omega) (by omega) (by omega)).mono ?_
  rintro e w1 ⟨q, rfl, hq, hr1, hu1⟩
  have U1 : Upd (fun j => j = R) w w1 := (Upd.ofBelow al0).trans hu1
  go_wp2
  go_loopw [3, 4] (fun o n wr => ∃ (xs : List Lc) (p' k : Nat), n = .int .i64 k ∧ k ≤ 100 ∧ RowA wr w.heap.size 61 2 o xs.length (lcells xs) ∧ xs.length ≤ 60 ∧ Rd w0 wr R p' ∧ p' + 4 * k ≤ p + 900 ∧ Upd (fun j => j = R) w wr) (fun _ n _ => (intOf n).toNat)
  case atStart => exact ⟨[], p + 1, q, rfl, by omega, .inr ⟨rfl, rfl, _, rfl⟩, by simp, hr1, by omega, U1⟩
  case round =>
    obtain ⟨xs, p', k, rfl, hk, hrow, hl, hrr, hpp, hu⟩ := hrel
    cases k with
    | zero =>
      have HW := hide hrow
      have HL := hide hl
      clear hrow hl
      go_wp2_with fail
      refine (pick_any w0 _ R p' 14 hrr (by omega) (by omega) (by omega)).mono ?_
      rintro e w2 ⟨q2, rfl, hq2, hr2, hu2⟩
      have U2 := hu.trans hu2
      by_cases h0 : q2 = 0
      · subst h0
        go_wp2_with fail
        refine (pick_any w0 _ R (p' + 1) 5 hr2 (by omega) (by omega) (by omega)).mono ?_
        rintro e w3 ⟨q3, rfl, hq3, hr3, hu3⟩
        go_wp2_with fail
        refine (pick_any w0 _ R (p' + 1 + 1) 2 hr3 (by omega) (by omega) (by omega)).mono ?_
        rintro e w4 ⟨q4, rfl, hq4, hr4, hu4⟩
        have U4 := U2.trans (hu3.trans hu4)
        have z4 := U4.size
        have HW4 := hide (HW.out.keep (hu2.trans (hu3.trans hu4)) hT)
        have al := (Below.refl w4.heap.size w4).alloc (Nat.le_refl _) (.cells #[.int .i64 (q3 : Int), .int .i64 (q4 : Int)] 61)
        go_wp2_with (at_builtin; refine wpList_appendW w4 _ rfl _ _ 37 rfl w.heap.size 61 i1 (.agg #[.int .i64 0, .int .i64 0]) 2 16 Try.underlying37 gi gz0 gz1 gz2 rfl (by decide) _ xs.length (lcells xs) rfl HW4.out ?qb ⟨w4.heap.size, 0, none⟩ 1 1 (lcell ((q3 : Int), (q4 : Int))) rfl rfl ?qn (lcell_one _) (by decide) ?q63 ?qby ?_)
        case qb => exact ⟨al, z4⟩
        case qn => first | exact fun _ _ h => h | exact newC_cells _ _ _
        case q63 => have := HL.out; unfold maxLen; omega
        case qby => have := HL.out; omega
        intro v5 w5 hown u5
        have U5 : Upd (fun j => w.heap.size ≤ j) w4 w5 := (Upd.ofBelow al).trans (u5.mono (fun _ h => h.1))
        go_wp2
        go_ret
        exact ⟨v5, xs ++ [((q3 : Int), (q4 : Int))], p' + 1 + 1 + 1, rfl, .inl (by rw [List.length_append, lcells_snoc]; exact hown), by have := HL.out; simp; omega, hr4.keep U5 (by omega) (fun k h => by omega), by omega, U4.transN U5 (fun i h => h)⟩
      · have e0 : ((q2 : Int) == 0) = false := by simpa using h0
        go_wp2
        go_ret
        exact ⟨_, xs, p' + 1, rfl, HW.out.keep hu2 hT, by have := HL.out; omega, hr2, by omega, U2⟩
    | succ k =>
      have HW := hide hrow
      have HL := hide hl
      obtain ⟨ao, ca, rfl⟩ := hrow.shape
      clear hrow hl
      go_wp2_with fail
      refine (pick_any w0 _ R p' 4 hrr (by omega) (by omega) (by omega)).mono ?_
      rintro e w2 ⟨q2, rfl, hq2, hr2, hu2⟩
      go_wp2_with fail
      refine (pick_any w0 _ R (p' + 1) 9 hr2 (by omega) (by omega) (by omega)).mono ?_
      rintro e w3 ⟨q3, rfl, hq3, hr3, hu3⟩
      have u3 : Upd (fun j => j = R) wr w3 := hu2.trans hu3
      have z3 := u3.size
      have zw := hu.size
      have HR := hide ((HW.out.keep u3 hT).row (by have := HL.out; omega)).reads
      go_wp2_with fail
      refine (specBlkMark_any ao ca xs _ _ w3 HR.out).mono ?_
      rintro e w6 ⟨v6, rfl, hrow6, b6⟩
      go_wp2
      go_roundw
      case rel => exact ⟨_, p' + 1 + 1, k, by first | go_num | (simp; omega), by omega, hrow6.mono (by omega), markR_len _ _ _, hr3.keepB b6, by omega, (hu.trans u3).trans (Upd.ofBelow b6)⟩
      case measure => first | (simp [intOf]; done) | (simp [intOf]; omega)

set_option maxRecDepth 100000 in
set_option maxHeartbeats 2000000 in
theorem drawBlkMark_any (w : World) (bo : Option Addr) (n cap : Nat) (bs : List Nat) (h : BytesIn w bo n cap bs) (hn : n ≤ 1048576) :
    Calls Try.prog 20 #[.slice bo n cap] w fun e w' => ∃ (ao : Option Addr) (ca : Nat) (xs : List Lc) (c : Int) (l : Nat), e = .returned (.tuple #[.slice ao xs.length ca, .int .i64 c, .int .i64 (l : Int)]) ∧ l ≤ 11 ∧ RowR w' 2 (.slice ao xs.length ca) xs.length (lcells xs) ∧ xs.length ≤ ca ∧ xs.length ≤ 61 ∧ Below w.heap.size w w' := by
  have HB := hide h
  clear h
  go_enter Try.func20, Try.ntmps20
  go_wp2_with fail
  refine (l6Open_any _ bo n cap bs HB.out hn).mono ?_
  rintro e w1 ⟨rfl, hr1, b1⟩
  have z1 := b1.size
  have hRl := hr1.lt.1
  have hT : ∀ j, w1.heap.size ≤ j → ¬ j = w.heap.size := fun j h e => by omega
  go_wp2_with fail
  refine (l72Last_any _ w1 w.heap.size 0 hr1 (by omega)).mono ?_
  rintro e w2 ⟨v2, xs, p2, rfl, hrow2, hl2, hr2, hp2, hu2⟩
  obtain ⟨ao, ca, rfl, hca⟩ := hrow2.room
  have HW := hide hrow2
  clear hrow2
  go_wp2_with fail
  refine (pick_any _ _ _ p2 5 hr2 (by omega) (by omega) (by omega)).mono ?_
  rintro e w3 ⟨q3, rfl, hq3, hr3, hu3⟩
  go_wp2_with fail
  refine (pick_any _ _ _ (p2 + 1) 12 hr3 (by omega) (by omega) (by omega)).mono ?_
  rintro e w4 ⟨q4, rfl, hq4, hr4, hu4⟩
  go_wp2_with fail
  refine (pick_any _ _ _ (p2 + 1 + 1) 12 hr4 (by omega) (by omega) (by omega)).mono ?_
  rintro e w5 ⟨q5, rfl, hq5, hr5, hu5⟩
  have u5 : Upd (fun j => j = w.heap.size) w2 w5 := hu3.trans (hu4.trans hu5)
  go_wp2
  refine bodyPost_ret (v := .tuple #[.slice ao xs.length ca, _, .int .i64 (q5 : Int)]) (by simp [results, Try.results20, go_sem]; rfl) rfl ⟨ao, ca, xs, _, q5, rfl, by omega, ((HW.out.keep u5 hT).row (by omega)).reads, hca, hl2, b1.trans ((hu2.trans u5).below (by omega) (fun k h => by omega))⟩

set_option maxHeartbeats 1000000 in
theorem lpPieces_true (va vb : Value) (n : Nat) (xs : List Pc) (w : World) (ha : RowR w 4 va n (pcells xs)) (hb : RowR w 4 vb n (pcells xs)) :
    Calls Try.prog 13 #[va, vb] w fun e w' => e = .returned (.bool true) ∧ Below w.heap.size w w' := by
  obtain ⟨ao, ca, rfl, hn, hl, ha⟩ := ha
  obtain ⟨bo, cb, rfl, _, _, hb⟩ := hb
  rw [pcells_len] at hl
  go_enter Try.func13, Try.ntmps13
  go_wp2
  go_loopw [5] (fun i wr => ∃ k : Nat, k ≤ n ∧ i = .int .i64 k ∧ Below w.heap.size w wr) (fun i _ => n - (intOf i).toNat)
  case atStart => exact ⟨0, Nat.zero_le _, rfl, Below.refl _ _⟩
  case round =>
    obtain ⟨k, hk, rfl, hbel⟩ := hrel
    by_cases hlt : k < n
    · obtain ⟨b1, o1, rfl, hc1⟩ := ha (by omega)
      obtain ⟨b2, o2, rfl, hc2⟩ := hb (by omega)
      obtain ⟨x, hx⟩ := getAt xs k (by omega)
      obtain ⟨f0, f1, f2, f3, l1⟩ := pc_cells hc1 hx hbel
      obtain ⟨g0, g1, g2, g3, l2⟩ := pc_cells hc2 hx hbel
      obtain ⟨d, b, p, t⟩ := x
      have hi : (k : Int) < (n : Int) := by omega
      clear ha hb hc1 hc2 hx hl
      go_wp2
      go_region
      all_goals
        go_wp2
        go_roundw
        case rel => exact ⟨k + 1, by omega, by go_num, hbel.drew⟩
        case measure => simp [intOf]; omega
    · go_wp2
      go_ret
      exact ⟨rfl, hbel⟩

set_option maxHeartbeats 1000000 in
theorem lpLast_true (va vb : Value) (n : Nat) (xs : List Lc) (w : World) (ha : RowR w 2 va n (lcells xs)) (hb : RowR w 2 vb n (lcells xs)) :
    Calls Try.prog 23 #[va, vb] w fun e w' => e = .returned (.bool true) ∧ Below w.heap.size w w' := by
  obtain ⟨ao, ca, rfl, hn, hl, ha⟩ := ha
  obtain ⟨bo, cb, rfl, _, _, hb⟩ := hb
  rw [lcells_len] at hl
  go_enter Try.func23, Try.ntmps23
  go_wp2
  go_loopw [5] (fun i wr => ∃ k : Nat, k ≤ n ∧ i = .int .i64 k ∧ Below w.heap.size w wr) (fun i _ => n - (intOf i).toNat)
  case atStart => exact ⟨0, Nat.zero_le _, rfl, Below.refl _ _⟩
  case round =>
    obtain ⟨k, hk, rfl, hbel⟩ := hrel
    by_cases hlt : k < n
    · obtain ⟨b1, o1, rfl, hc1⟩ := ha (by omega)
      obtain ⟨b2, o2, rfl, hc2⟩ := hb (by omega)
      obtain ⟨x, hx⟩ := getAt xs k (by omega)
      obtain ⟨f0, f1, l1⟩ := lc_cells hc1 hx hbel
      obtain ⟨g0, g1, l2⟩ := lc_cells hc2 hx hbel
      obtain ⟨d, b⟩ := x
      have hi : (k : Int) < (n : Int) := by omega
      clear ha hb hc1 hc2 hx hl
      go_wp2
      go_region
      all_goals
        go_wp2
        go_roundw
        case rel => exact ⟨k + 1, by omega, by go_num, hbel.drew⟩
        case measure => simp [intOf]; omega
    · go_wp2
      go_ret
      exact ⟨rfl, hbel⟩

end Go.Proofs.Ytcanhoemhdkjkab
