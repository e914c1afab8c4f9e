/- Pieces that are drawn: contracts; no statement of the seat is proved here. -/
import Derived.Test.YtcanhoemhdkjkabBS9
import Derived.Test.YtcanhoemhdkjkabDraw
namespace Go.Proofs.Ytcanhoemhdkjkab
open Go.RowKit

theorem RowA.room {w : World} {base : Nat} {e : TypeId} {size : Nat} {v : Value} {n : Nat} {cs : List Value} (h : RowA w base e size v n cs) : ∃ ao ca, v = .slice ao n ca ∧ n ≤ ca := by
  rcases h with h | ⟨rfl, _, ao, rfl⟩
  · exact owns_shape h
  · exact ⟨ao, 0, rfl, Nat.le_refl _⟩

set_option maxRecDepth 100000 in
set_option maxHeartbeats 2000000 in
theorem l72Pieces_any (w0 w : World) (R p m : Nat) (hr : Rd w0 w R p) (hp : p ≤ 900000) (hm : 1 ≤ m) (hm' : m ≤ 100) :
    Calls Try.prog 45 #[.pointer (some ⟨R, 0, none⟩), .int .i64 m] w fun e w' => ∃ v xs p', e = .returned v ∧ RowA w' w.heap.size 31 4 v xs.length (pcells xs) ∧ xs.length ≤ 60 ∧ Rd w0 w' R p' ∧ p' ≤ p + 1000 ∧ Upd (fun j => j = R) w w' := by
  obtain ⟨hRl, hR0, hw0⟩ := hr.lt
  have al0 : Below w.heap.size w (w.alloc (.cells #[] 31)) := (Below.refl _ _).alloc (Nat.le_refl _) _
  have hr0 := hr.keepB al0
  go_enter Try.func45, Try.ntmps45
  go_wp2_with fail
  refine (pick_any w0 _ R p m hr0 hm (by omega) (by omega)).mono ?_
  rintro e w1 ⟨q, rfl, hq, hr1, hu1⟩
  have U1 : Upd (fun j => j = R) w w1 := (Upd.ofBelow al0).trans hu1
  go_wp2
  go_loopw [5, 6] (fun o n wr => ∃ (xs : List Pc) (p' k : Nat), n = .int .i64 k ∧ k ≤ 100 ∧ RowA wr w.heap.size 31 4 o xs.length (pcells xs) ∧ xs.length ≤ 60 ∧ Rd w0 wr R p' ∧ p' + 4 * k ≤ p + 1000 ∧ Upd (fun j => j = R) w wr) (fun _ n _ => (intOf n).toNat)
  case atStart => exact ⟨[], p + 1, q, rfl, by omega, .inr ⟨rfl, rfl, _, rfl⟩, by simp, hr1, by omega, U1⟩
  case round =>
    obtain ⟨xs, p', k, rfl, hk, hrow, hl, hrr, hpp, hu⟩ := hrel
    have hT : ∀ j, w.heap.size ≤ j → ¬ j = R := fun j h e => by omega
    cases k with
    | zero =>
      go_wp2
      go_ret
      exact ⟨_, xs, p', rfl, hrow, hl, hrr, by omega, hu⟩
    | succ k =>
      have HW := hide hrow
      have HL := hide hl
      obtain ⟨ao, ca, rfl⟩ := hrow.shape
      clear hrow hl
      go_wp2_with fail
      refine (pick_any w0 _ R p' 3 hrr (by omega) (by omega) (by omega)).mono ?_
      rintro e w2 ⟨q2, rfl, hq2, hr2, hu2⟩
      go_wp2_with fail
      refine (pick_any w0 _ R (p' + 1) 3 hr2 (by omega) (by omega) (by omega)).mono ?_
      rintro e w3 ⟨q3, rfl, hq3, hr3, hu3⟩
      go_wp2_with fail
      refine (pick_any w0 _ R (p' + 1 + 1) 3 hr3 (by omega) (by omega) (by omega)).mono ?_
      rintro e w4 ⟨q4, rfl, hq4, hr4, hu4⟩
      go_wp2_with fail
      refine (pick_any w0 _ R (p' + 1 + 1 + 1) 100 hr4 (by omega) (by omega) (by omega)).mono ?_
      rintro e w5 ⟨q5, rfl, hq5, hr5, hu5⟩
      have u5 : Upd (fun j => j = R) wr w5 := hu2.trans (hu3.trans (hu4.trans hu5))
      have z5 := u5.size
      have zw := hu.size
      have HR := hide ((HW.out.keep u5 hT).row (by have := HL.out; omega)).reads
      go_wp2_with fail
      refine (specBlkPut_any ao ca xs _ _ _ _ w5 HR.out).mono ?_
      rintro e w6 ⟨v6, rfl, hrow6, b6⟩
      go_wp2
      go_roundw
      case rel => exact ⟨_, p' + 1 + 1 + 1 + 1, k, by first | go_num | (simp; omega), by omega, hrow6.mono (by omega), putR_len _ _, hr5.keepB b6, by omega, (hu.trans u5).trans (Upd.ofBelow b6)⟩
      case measure => first | (simp [intOf]; done) | (simp [intOf]; omega)

theorem ten_cells (w : World) (a b c d x f g h i j : Int) (t : TypeId) :
    ∀ k, k < 10 → ∃ y : Int, (w.alloc (.cells #[.int .i64 a, .int .i64 b, .int .i64 c, .int .i64 d, .int .i64 x, .int .i64 f, .int .i64 g, .int .i64 h, .int .i64 i, .int .i64 j] t)).cell? ⟨w.heap.size, k, none⟩ = some (.int .i64 y) := by
  intro k hk
  have h := fun k => cell_of_row _ w.heap.size k _ _ (0, 0) (al1_0 w (.cells #[.int .i64 a, .int .i64 b, .int .i64 c, .int .i64 d, .int .i64 x, .int .i64 f, .int .i64 g, .int .i64 h, .int .i64 i, .int .i64 j] t))
  rcases (by omega : k = 0 ∨ k = 1 ∨ k = 2 ∨ k = 3 ∨ k = 4 ∨ k = 5 ∨ k = 6 ∨ k = 7 ∨ k = 8 ∨ k = 9) with rfl | rfl | rfl | rfl | rfl | rfl | rfl | rfl | rfl | rfl
  · exact ⟨_, (h 0).trans rfl⟩
  · exact ⟨_, (h 1).trans rfl⟩
  · exact ⟨_, (h 2).trans rfl⟩
  · exact ⟨_, (h 3).trans rfl⟩
  · exact ⟨_, (h 4).trans rfl⟩
  · exact ⟨_, (h 5).trans rfl⟩
  · exact ⟨_, (h 6).trans rfl⟩
  · exact ⟨_, (h 7).trans rfl⟩
  · exact ⟨_, (h 8).trans rfl⟩
  · exact ⟨_, (h 9).trans rfl⟩

set_option maxRecDepth 100000 in
set_option maxHeartbeats 2000000 in
theorem l72Num_any (w0 w : World) (R p : Nat) (hr : Rd w0 w R p) (hp : p ≤ 900000) :
    Calls Try.prog 28 #[.pointer (some ⟨R, 0, none⟩)] w fun e w' => ∃ x : Int, e = .returned (.int .i64 x) ∧ Rd w0 w' R (p + 3) ∧ Upd (fun j => j = R) w w' := by
  go_enter Try.func28, Try.ntmps28
  go_wp2_with fail
  refine (pick_any w0 _ R p 200 hr (by omega) (by omega) (by omega)).mono ?_
  rintro e w1 ⟨q1, rfl, hq1, hr1, hu1⟩
  go_wp2_with fail
  refine (pick_any w0 _ R (p + 1) 30000 hr1 (by omega) (by omega) (by omega)).mono ?_
  rintro e w2 ⟨q2, rfl, hq2, hr2, hu2⟩
  have hRl := hr2.lt.1
  have al := fun o : Obj => (Below.refl w2.heap.size w2).alloc (Nat.le_refl _) o
  have T := fun a b c d x f g h i j t => hide (ten_cells w2 a b c d x f g h i j t)
  go_wp2_with fail
  refine (pick_any w0 _ R (p + 1 + 1) 10 (hr2.keepB (al _)) (by omega) (by omega) (by omega)).mono ?_
  rintro e w3 ⟨q3, rfl, hq3, hr3, hu3⟩
  obtain ⟨y, hy⟩ := (T _ _ _ _ _ _ _ _ _ _ _).out q3 hq3
  have f1 : w3.cell? ⟨w2.heap.size, q3, none⟩ = some (.int .i64 y) := (World.cell?_of_block (a := ⟨w2.heap.size, q3, none⟩) (hu3.block w2.heap.size (by simp) (by omega))).trans hy
  have hi : (q3 : Int) < 10 := by omega
  clear hy T
  go_wp2
  go_ret
  exact ⟨y, rfl, hr3, (hu1.trans hu2).trans ((Upd.ofBelow (al _)).trans hu3)⟩

end Go.Proofs.Ytcanhoemhdkjkab
