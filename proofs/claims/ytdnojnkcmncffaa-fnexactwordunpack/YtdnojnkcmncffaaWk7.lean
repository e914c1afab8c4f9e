/- Contracts and plain facts that this claim leans on (texts BS, BS2); no statement of the seat is proved here. -/
import Derived.Test.YtdnojnkcmncffaaWk4
import Derived.Deep.RegionHeld3

/- What the specification's and the program's small functions on pieces do: contracts; no statement of the seat is proved here. -/
namespace Go.Proofs.Ytdnojnkcmncffaa
open Go.RowKit

set_option maxHeartbeats 400000 in
theorem l6In_inI (n lo hi : Int) (w : World) :
    Calls Try.prog 31 #[.int .i64 n, .int .i64 lo, .int .i64 hi] w fun e w' => e = .returned (.bool (inI n lo hi)) ∧ w' = w := by
  by_cases h1 : lo ≤ n
  · by_cases h2 : n ≤ hi
    · have H : inI n lo hi = true := by simp [inI, h1, h2]
      go_enter Try.func31, Try.ntmps31
      go_wp2
      go_ret
      exact ⟨by first | rfl | (rw [H]; rfl), rfl⟩
    · have H : inI n lo hi = false := by simp [inI, h2]
      go_enter Try.func31, Try.ntmps31
      go_wp2
      go_ret
      exact ⟨by first | rfl | (rw [H]; rfl), rfl⟩
  · have H : inI n lo hi = false := by simp [inI, h1]
    go_enter Try.func31, Try.ntmps31
    go_wp2
    go_ret
    exact ⟨by first | rfl | (rw [H]; rfl), rfl⟩

set_option maxHeartbeats 400000 in
theorem blkWithin_any (n lo hi : Int) (w : World) :
    Calls Try.prog 76 #[.int .i64 n, .int .i64 lo, .int .i64 hi] w fun e w' => e = .returned (.bool (inI n lo hi)) ∧ w' = w := by
  by_cases h1 : lo ≤ n
  · by_cases h2 : n ≤ hi
    · have H : inI n lo hi = true := by simp [inI, h1, h2]
      go_enter Try.func76, Try.ntmps76
      go_wp2
      go_ret
      exact ⟨by first | rfl | (rw [H]; rfl), rfl⟩
    · have H : inI n lo hi = false := by simp [inI, h2]
      go_enter Try.func76, Try.ntmps76
      go_wp2
      go_ret
      exact ⟨by first | rfl | (rw [H]; rfl), rfl⟩
  · have H : inI n lo hi = false := by simp [inI, h1]
    go_enter Try.func76, Try.ntmps76
    go_wp2
    go_ret
    exact ⟨by first | rfl | (rw [H]; rfl), rfl⟩

theorem isNaN_any (n : Int) (w : World) :
    Calls Try.prog 118 #[.int .i64 n] w fun e w' => e = .returned (.bool false) ∧ w' = w := by
  go_enter Try.func118, Try.ntmps118
  go_wp2
  go_ret
  exact ⟨rfl, rfl⟩

set_option maxHeartbeats 400000 in
theorem compare_any (a b : Int) (w : World) :
    Calls Try.prog 117 #[.int .i64 a, .int .i64 b] w fun e w' => e = .returned (.int .i64 (cmpI a b)) ∧ w' = w := by
  go_enter Try.func117, Try.ntmps117
  go_wp2_with fail
  refine (isNaN_any _ _).mono ?_
  rintro e w' ⟨rfl, rfl⟩
  go_wp2_with fail
  refine (isNaN_any _ _).mono ?_
  rintro e w' ⟨rfl, rfl⟩
  by_cases h1 : a < b
  · have H : cmpI a b = -1 := by simp [cmpI, h1]
    go_wp2
    go_ret
    exact ⟨by first | rfl | (rw [H]; rfl), rfl⟩
  · by_cases h2 : b < a
    · have H : cmpI a b = 1 := by simp [cmpI, h1, h2]
      go_wp2
      go_ret
      exact ⟨by first | rfl | (rw [H]; rfl), rfl⟩
    · have H : cmpI a b = 0 := by simp [cmpI, h1, h2]
      go_wp2
      go_ret
      exact ⟨by first | rfl | (rw [H]; rfl), rfl⟩

set_option maxHeartbeats 1000000 in
theorem or3_any (x y z : Int) (v : Value) (w : World) (hr : RowR w 1 v 3 [.int .i64 x, .int .i64 y, .int .i64 z]) :
    Calls Try.prog 116 #[v] w fun e w' => e = .returned (.int .i64 (if x ≠ 0 then x else if y ≠ 0 then y else z)) ∧ w' = w := by
  obtain ⟨ao, cap, rfl, hn, hl, hr⟩ := hr
  obtain ⟨b, o, rfl, hc⟩ := hr (by omega)
  have c0 : w.cell? ⟨b, o, none⟩ = some (.int .i64 x) := hc 0 _ rfl
  have c1 : w.cell? ⟨b, o + 1, none⟩ = some (.int .i64 y) := hc 1 _ rfl
  have c2 : w.cell? ⟨b, o + 2, none⟩ = some (.int .i64 z) := hc 2 _ rfl
  clear hc hr hn hl
  by_cases hx : x = 0
  · subst hx
    by_cases hy : y = 0
    · subst hy
      by_cases hz : z = 0
      · subst hz
        go_enter Try.func116, Try.ntmps116
        go_wp2
        refine wp_loop_rounds 4 ?_
        rw [rounds_succ]
        go_wp2
        rw [rounds_succ]
        go_wp2
        rw [rounds_succ]
        go_wp2
        rw [rounds_succ]
        go_wp2
        go_ret
        exact ⟨by simp, rfl⟩
      · go_enter Try.func116, Try.ntmps116
        go_wp2
        refine wp_loop_rounds 3 ?_
        rw [rounds_succ]
        go_wp2
        rw [rounds_succ]
        go_wp2
        rw [rounds_succ]
        go_wp2
        go_ret
        exact ⟨by simp, rfl⟩
    · go_enter Try.func116, Try.ntmps116
      go_wp2
      refine wp_loop_rounds 2 ?_
      rw [rounds_succ]
      go_wp2
      rw [rounds_succ]
      go_wp2
      go_ret
      exact ⟨by simp, rfl⟩
  · go_enter Try.func116, Try.ntmps116
    go_wp2
    refine wp_loop_rounds 1 ?_
    rw [rounds_succ]
    go_wp2
    go_ret
    exact ⟨by simp, rfl⟩

set_option maxHeartbeats 400000 in
theorem l3Before_any (x : Pc) (d b p : Int) (w : World) :
    Calls Try.prog 58 #[.agg #[.int .i64 x.1, .int .i64 x.2.1, .int .i64 x.2.2.1, .int .i64 x.2.2.2], .int .i64 d, .int .i64 b, .int .i64 p] w fun e w' => e = .returned (.bool (decide (ordP x (d, b, p, 0) < 0))) ∧ Below w.heap.size w w' := by
  obtain ⟨d', b', p', t'⟩ := x
  have h := @ordP_neg (d', b', p', t') (d, b, p, 0)
  simp only at h
  have hal : ∀ o, Below w.heap.size w (w.alloc o) := fun o => (Below.refl _ _).alloc (Nat.le_refl _) _
  by_cases h1 : d' = d
  · by_cases h2 : b' = b
    · have H : decide (ordP (d', b', p', t') (d, b, p, 0) < 0) = decide (p' < p) := by rw [decide_eq_decide]; omega
      go_enter Try.func58, Try.ntmps58
      go_wp2
      go_ret
      exact ⟨by first | rfl | (rw [H]; rfl), hal _⟩
    · have H : decide (ordP (d', b', p', t') (d, b, p, 0) < 0) = decide (b' < b) := by rw [decide_eq_decide]; omega
      go_enter Try.func58, Try.ntmps58
      go_wp2
      go_ret
      exact ⟨by first | rfl | (rw [H]; rfl), hal _⟩
  · have H : decide (ordP (d', b', p', t') (d, b, p, 0) < 0) = decide (d' < d) := by rw [decide_eq_decide]; omega
    go_enter Try.func58, Try.ntmps58
    go_wp2
    go_ret
    exact ⟨by first | rfl | (rw [H]; rfl), hal _⟩

end Go.Proofs.Ytdnojnkcmncffaa

/- What the program's orders of pieces do: contracts; no statement of the seat is proved here. -/
namespace Go.Proofs.Ytdnojnkcmncffaa
open Go.RowKit

set_option maxHeartbeats 1000000 in
theorem pieceFits_any (x : Pc) (w : World) :
    Calls Try.prog 110 #[.agg #[.int .i64 x.1, .int .i64 x.2.1, .int .i64 x.2.2.1, .int .i64 x.2.2.2]] w fun e w' => e = .returned (.bool (fitP x)) ∧ Below w.heap.size w w' := by
  obtain ⟨d, b, p, t⟩ := x
  have hal : ∀ o, Below w.heap.size w (w.alloc o) := fun o => (Below.refl _ _).alloc (Nat.le_refl _) _
  obtain ⟨i1, h1⟩ : ∃ i, inI d 1 99999 = i := ⟨_, rfl⟩
  obtain ⟨i2, h2⟩ : ∃ i, inI b 0 99999 = i := ⟨_, rfl⟩
  obtain ⟨i3, h3⟩ : ∃ i, inI p 1 99999 = i := ⟨_, rfl⟩
  obtain ⟨i4, h4⟩ : ∃ i, inI t 0 99999 = i := ⟨_, rfl⟩
  have H : Hid (fitP (d, b, p, t) = (i1 && (i2 && (i3 && i4)))) := by show _ = _; simp only [fitP, h1, h2, h3, h4]
  have c1 := fun w => blkWithin_any d 1 99999 w
  have c2 := fun w => blkWithin_any b 0 99999 w
  have c3 := fun w => blkWithin_any p 1 99999 w
  have c4 := fun w => blkWithin_any t 0 99999 w
  rw [h1] at c1
  rw [h2] at c2
  rw [h3] at c3
  rw [h4] at c4
  clear h1 h2 h3 h4
  cases i1
  · go_enter Try.func110, Try.ntmps110
    go_wp2_with (go_at_call 76; refine (c1 _).mono ?_; rintro e w' ⟨rfl, rfl⟩)
    go_ret
    exact ⟨by rw [H.out]; rfl, hal _⟩
  cases i3
  · go_enter Try.func110, Try.ntmps110
    go_wp2_with fail
    refine (c1 _).mono ?_
    rintro e w' ⟨rfl, rfl⟩
    go_wp2_with fail
    refine (c3 _).mono ?_
    rintro e w' ⟨rfl, rfl⟩
    go_wp2
    go_ret
    exact ⟨by rw [H.out]; cases i2 <;> rfl, hal _⟩
  cases i2
  · go_enter Try.func110, Try.ntmps110
    go_wp2_with fail
    refine (c1 _).mono ?_
    rintro e w' ⟨rfl, rfl⟩
    go_wp2_with fail
    refine (c3 _).mono ?_
    rintro e w' ⟨rfl, rfl⟩
    go_wp2_with fail
    refine (c2 _).mono ?_
    rintro e w' ⟨rfl, rfl⟩
    go_wp2
    go_ret
    exact ⟨by rw [H.out]; rfl, hal _⟩
  · go_enter Try.func110, Try.ntmps110
    go_wp2_with fail
    refine (c1 _).mono ?_
    rintro e w' ⟨rfl, rfl⟩
    go_wp2_with fail
    refine (c3 _).mono ?_
    rintro e w' ⟨rfl, rfl⟩
    go_wp2_with fail
    refine (c2 _).mono ?_
    rintro e w' ⟨rfl, rfl⟩
    go_wp2_with fail
    refine (c4 _).mono ?_
    rintro e w' ⟨rfl, rfl⟩
    go_wp2
    go_ret
    exact ⟨by rw [H.out]; rfl, hal _⟩

theorem keep6 {W w' : World} {a b i0 i1 i2 j0 j1 j2 : Nat} {x0 x1 x2 y0 y1 y2 : Value} (c0 : W.cell? ⟨a, i0, none⟩ = some x0) (c1 : W.cell? ⟨a, i1, none⟩ = some x1) (c2 : W.cell? ⟨a, i2, none⟩ = some x2) (e0 : W.cell? ⟨b, j0, none⟩ = some y0) (e1 : W.cell? ⟨b, j1, none⟩ = some y1) (e2 : W.cell? ⟨b, j2, none⟩ = some y2) (ha : a < W.heap.size) (hb : b < W.heap.size) (h : Below W.heap.size W w') :
    (w'.cell? ⟨a, i0, none⟩ = some x0 ∧ w'.cell? ⟨a, i1, none⟩ = some x1 ∧ w'.cell? ⟨a, i2, none⟩ = some x2) ∧ (w'.cell? ⟨b, j0, none⟩ = some y0 ∧ w'.cell? ⟨b, j1, none⟩ = some y1 ∧ w'.cell? ⟨b, j2, none⟩ = some y2) :=
  ⟨⟨(h.cell (p := ⟨a, i0, none⟩) ha).trans c0, (h.cell (p := ⟨a, i1, none⟩) ha).trans c1, (h.cell (p := ⟨a, i2, none⟩) ha).trans c2⟩, ⟨(h.cell (p := ⟨b, j0, none⟩) hb).trans e0, (h.cell (p := ⟨b, j1, none⟩) hb).trans e1, (h.cell (p := ⟨b, j2, none⟩) hb).trans e2⟩⟩

theorem row3 (w : World) (x y z : Int) (t : TypeId) : RowR (w.alloc (.cells #[.int .i64 x, .int .i64 y, .int .i64 z] t)) 1 (.slice (some ⟨w.heap.size, 0, none⟩) 3 3) 3 [.int .i64 x, .int .i64 y, .int .i64 z] := by
  refine ⟨_, _, rfl, by omega, rfl, fun _ => ⟨_, _, rfl, fun j u hj => ?_⟩⟩
  rw [Nat.zero_add, cell_of_row _ _ j _ _ (0, 0) (al1_0 w _)]
  simpa using hj

set_option maxRecDepth 100000 in
set_option maxHeartbeats 2000000 in
theorem byBlock_any (x y : Pc) (w : World) :
    Calls Try.prog 111 #[.agg #[.int .i64 x.1, .int .i64 x.2.1, .int .i64 x.2.2.1, .int .i64 x.2.2.2], .agg #[.int .i64 y.1, .int .i64 y.2.1, .int .i64 y.2.2.1, .int .i64 y.2.2.2]] w fun e w' => e = .returned (.int .i64 (ordP x y)) ∧ Below w.heap.size w w' := by
  obtain ⟨d, b, p, t⟩ := x
  obtain ⟨d', b', p', t'⟩ := y
  obtain ⟨A, hA⟩ : ∃ A, Hid (cmpI d d' = A) := ⟨_, rfl⟩
  obtain ⟨B, hB⟩ : ∃ A, Hid (cmpI b b' = A) := ⟨_, rfl⟩
  obtain ⟨C, hC⟩ : ∃ A, Hid (cmpI p p' = A) := ⟨_, rfl⟩
  have H : Hid (ordP (d, b, p, t) (d', b', p', t') = if A ≠ 0 then A else if B ≠ 0 then B else C) := by show _ = _; rw [← hA.out, ← hB.out, ← hC.out]; rfl
  obtain ⟨R, hR⟩ : ∃ R, (if A ≠ 0 then A else if B ≠ 0 then B else C) = R := ⟨_, rfl⟩
  rw [hR] at H
  have cO := fun v w h => or3_any A B C v w h
  simp only [hR] at cO
  clear hR
  have hal : Below w.heap.size w ((w.alloc (.cells #[.int .i64 d, .int .i64 b, .int .i64 p, .int .i64 t] 83)).alloc (.cells #[.int .i64 d', .int .i64 b', .int .i64 p', .int .i64 t'] 83)) := ((Below.refl _ _).alloc (Nat.le_refl _) _).alloc (by simp) _
  obtain ⟨W, hW⟩ : ∃ W, W = ((w.alloc (.cells #[.int .i64 d, .int .i64 b, .int .i64 p, .int .i64 t] 83)).alloc (.cells #[.int .i64 d', .int .i64 b', .int .i64 p', .int .i64 t'] 83)) := ⟨_, rfl⟩
  have B0 : W.heap[w.heap.size]? = some (.cells #[.int .i64 d, .int .i64 b, .int .i64 p, .int .i64 t] 83 (0, 0)) := by rw [hW]; exact al2_0 w _ _
  have B1 : W.heap[w.heap.size + 1]? = some (.cells #[.int .i64 d', .int .i64 b', .int .i64 p', .int .i64 t'] 83 (0, 0)) := by rw [hW]; exact al2_1 w _ _
  rw [← hW] at hal
  have c0 : W.cell? ⟨w.heap.size, 0, none⟩ = some (.int .i64 d) := (cell_of_row W _ 0 _ _ (0, 0) B0).trans rfl
  have c1 : W.cell? ⟨w.heap.size, 1, none⟩ = some (.int .i64 b) := (cell_of_row W _ 1 _ _ (0, 0) B0).trans rfl
  have c2 : W.cell? ⟨w.heap.size, 2, none⟩ = some (.int .i64 p) := (cell_of_row W _ 2 _ _ (0, 0) B0).trans rfl
  have e0 : W.cell? ⟨w.heap.size + 1, 0, none⟩ = some (.int .i64 d') := (cell_of_row W _ 0 _ _ (0, 0) B1).trans rfl
  have e1 : W.cell? ⟨w.heap.size + 1, 1, none⟩ = some (.int .i64 b') := (cell_of_row W _ 1 _ _ (0, 0) B1).trans rfl
  have e2 : W.cell? ⟨w.heap.size + 1, 2, none⟩ = some (.int .i64 p') := (cell_of_row W _ 2 _ _ (0, 0) B1).trans rfl
  have k0 : w.heap.size < W.heap.size := heap_lt B0
  have k1 : w.heap.size + 1 < W.heap.size := heap_lt B1
  go_enter Try.func111, Try.ntmps111
  go_wp2
  rw [← hW]
  clear hW B0 B1
  go_region_held3 (fun w' => (w'.cell? ⟨w.heap.size, 0, none⟩ = some (.int .i64 d) ∧ w'.cell? ⟨w.heap.size, 1, none⟩ = some (.int .i64 b) ∧ w'.cell? ⟨w.heap.size, 2, none⟩ = some (.int .i64 p)) ∧ (w'.cell? ⟨w.heap.size + 1, 0, none⟩ = some (.int .i64 d') ∧ w'.cell? ⟨w.heap.size + 1, 1, none⟩ = some (.int .i64 b') ∧ w'.cell? ⟨w.heap.size + 1, 2, none⟩ = some (.int .i64 p')))
    ((refine keep6 c0 c1 c2 e0 e1 e2 k0 k1 ?_; (repeat (first | exact Below.refl _ _ | refine bAlloc ?_ _ | refine Below.drew ?_)); done))
    (first
    | (go_at_call 116; refine (cO _ _ ((row3 W A B C _).keep ((Below.refl _ _).drew))).mono ?_; rintro e w1 ⟨rfl, rfl⟩)
    | (go_at_call 117; refine (compare_any _ _ _).mono ?_; rintro e w' ⟨rfl, rfl⟩; (try rw [hA.out]); (try rw [hB.out]); (try rw [hC.out])))
  all_goals
    go_wp2
    go_ret
    exact ⟨by rw [H.out]; rfl, bAll hal (((Below.refl _ _).drew).alloc (Nat.le_refl _) _)⟩

end Go.Proofs.Ytdnojnkcmncffaa
