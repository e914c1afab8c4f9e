/- Disks that are drawn, also ones that are not ok: contracts; no statement of the seat is proved here. -/
import Derived.Test.YtiffpgnmnahelaaDraw
import Derived.Test.YtiffpgnmnahelaaPut
import Derived.Test.YtiffpgnmnahelaaInts
namespace Go.Proofs.Ytiffpgnmnahelaa
open Go.RowKit

theorem Small.mono {d d' : Nat} {kept : List ByteArray} {wait : List (Int × ByteArray)} (h : Small d kept wait) (hd : d ≤ d') : Small d' kept wait := ⟨by have := h.kl; omega, h.ks, by have := h.wl; omega, h.ws⟩

theorem Small.snocW {d : Nat} {kept : List ByteArray} {wait : List (Int × ByteArray)} (h : Small d kept wait) (a : Int) (s : ByteArray) (hs : s.size ≤ 1000) : Small (d + 1) kept (wait ++ [(a, s)]) := by
  refine ⟨by have := h.kl; omega, h.ks, by have := h.wl; simp; omega, fun x hx => ?_⟩
  rcases List.mem_append.1 hx with hx | hx
  · exact h.ws x hx
  · rw [List.mem_singleton] at hx
    subst hx
    exact hs

theorem Small.snocK {d : Nat} {kept : List ByteArray} {wait : List (Int × ByteArray)} (h : Small d kept wait) (s : ByteArray) (hs : s.size ≤ 1000) : Small (d + 1) (kept ++ [s]) wait := by
  refine ⟨by have := h.kl; simp; omega, fun x hx => ?_, by have := h.wl; omega, h.ws⟩
  rcases List.mem_append.1 hx with hx | hx
  · exact h.ks x hx
  · rw [List.mem_singleton] at hx
    subst hx
    exact hs

theorem l6Many_at (s : ByteArray) (a : Int) (k B : Nat) (w : World) (ha : a = k) (hk : k ≤ 1000000) (hB : s.size * k ≤ B) (hB' : B ≤ 1000000) :
    Calls Try.prog 52 #[.string s, .int .i64 a] w fun e w' => ∃ t, e = .returned (.string t) ∧ t.size ≤ B ∧ w' = w := by
  subst ha
  exact l6Many_any s k B w hk hB hB'

theorem wrap16 (q : Nat) (h : q < 2) : IntKind.i64.wrap (16 + (q : Int)) = ((16 + q : Nat) : Int) := by
  rcases (by omega : q = 0 ∨ q = 1) with rfl | rfl <;> decide

theorem new_cell1 {W : World} {A : Nat} (s : ByteArray) (e : TypeId) (hA : A = W.heap.size) : ∀ j u, [Value.string s][j]? = some u → (W.alloc (.cells #[.string s] e)).cell? ((⟨A, 0, none⟩ : Addr).add j) = some u := by
  subst hA
  intro j u h
  rw [Addr.add_lit, Nat.zero_add, cell_of_row _ _ j _ _ (0, 0) (al1_0 W _)]
  simpa using h

theorem one_str (s : ByteArray) : ∀ u ∈ [Value.string s], u.oneCell' = true := by
  intro u hu
  rw [List.mem_singleton] at hu
  subst hu
  rfl

theorem two_cells (q : Nat) (hq : q < 2) (a b : Int) (t : TypeId) : ∃ x : Int, #[Value.int .i64 a, .int .i64 b][q]? = some (.int .i64 x) ∧ ∀ w : World, (w.alloc (.cells #[.int .i64 a, .int .i64 b] t)).cell? ⟨w.heap.size, q, none⟩ = some (.int .i64 x) := by
  rcases (by omega : q = 0 ∨ q = 1) with rfl | rfl
  · exact ⟨a, rfl, fun w => (cell_of_row _ _ 0 _ _ (0, 0) (al1_0 w _)).trans rfl⟩
  · exact ⟨b, rfl, fun w => (cell_of_row _ _ 1 _ _ (0, 0) (al1_0 w _)).trans rfl⟩

theorem two_kept {w3 w4 : World} {R q : Nat} {x a b : Int} {t : TypeId} (hu : Upd (fun j => j = R) (w3.alloc (.cells #[.int .i64 a, .int .i64 b] t)).drew w4) (hR : ¬ w3.heap.size = R)
    (hxw : ∀ w : World, (w.alloc (.cells #[.int .i64 a, .int .i64 b] t)).cell? ⟨w.heap.size, q, none⟩ = some (.int .i64 x)) : w4.cell? ⟨w3.heap.size, q, none⟩ = some (.int .i64 x) := by
  have h1 : w4.heap[w3.heap.size]? = (w3.alloc (.cells #[.int .i64 a, .int .i64 b] t)).heap[w3.heap.size]? := hu.block w3.heap.size (by show w3.heap.size < (w3.alloc (.cells #[.int .i64 a, .int .i64 b] t)).heap.size; simp) hR
  exact (World.cell?_of_block (a := ⟨w3.heap.size, q, none⟩) h1).trans (hxw w3)

theorem new_cells' {W : World} {A : Nat} (a : Int) (s : ByteArray) (e : TypeId) (hA : A = W.heap.size) : ∀ j u, [Value.int .i64 a, .string s][j]? = some u → (W.alloc (.cells #[.int .i64 a, .string s] e)).cell? ((⟨A, 0, none⟩ : Addr).add j) = some u := by
  subst hA
  exact new_cells W a s e

theorem bAlloc' {W w : World} (h : Below W.heap.size W w) (o : Obj) : Below W.heap.size W (w.alloc o) := h.alloc h.size o

set_option maxRecDepth 100000 in
set_option maxHeartbeats 16000000 in
theorem l72SecAny_any (w0 w : World) (R p : Nat) (hr : Rd w0 w R p) (hp : p ≤ 800000) :
    Calls Try.prog 27 #[.pointer (some ⟨R, 0, none⟩)] w fun e w' => ∃ v kept wait p', e = .returned v ∧ DiskAA w' w.heap.size v kept wait ∧ Small 1 kept wait ∧ Rd w0 w' R p' ∧ p' ≤ p + 200 ∧ Upd (fun j => j = R) w w' := by
  obtain ⟨hRl, hR0, hw0⟩ := hr.lt
  have al0 : Below w.heap.size w (w.alloc (.cells #[.slice none 0 0, .slice none 0 0] 26)) := (Below.refl _ _).alloc (Nat.le_refl _) _
  have H0 := hide (al1_0 w (.cells #[.slice none 0 0, .slice none 0 0] 26))
  have hr0 := hr.keepB al0
  go_enter Try.func27, Try.ntmps27
  go_wp2_with fail
  refine (l72Sec_any w0 _ R p hr0 (by omega)).mono ?_
  rintro e w1 ⟨v1, kept, wait, p1, rfl, d1, sm1, hr1, hp1, hu1⟩
  obtain ⟨ao, ca, ao', ca', rfl⟩ := d1.shape
  have U1 : Upd (fun j => j = R) w w1 := (Upd.ofBelow al0).trans hu1
  have z1 := hu1.size
  simp only [World.size_alloc] at z1 d1
  replace H0 := hide (hu1.keeps H0.out (by omega))
  have al2 : Below w1.heap.size w1 (w1.alloc (.cells #[.slice ao kept.length ca, .slice ao' wait.length ca'] 26)) := (Below.refl _ _).alloc (Nat.le_refl _) _
  have H2 := hide (al1_0 w1 (.cells #[.slice ao kept.length ca, .slice ao' wait.length ca'] 26))
  have hr2 := hr1.keepB al2
  have d2 := d1.keepB al2
  replace H0 := hide (bKeeps al2 H0.out)
  go_wp2_with fail
  refine (pick_any w0 _ R p1 16 hr2 (by omega) (by omega) (by omega)).mono ?_
  rintro e w3 ⟨q, rfl, hq, hr3, hu3⟩
  have U3 : Upd (fun j => j = R) w w3 := (U1.trans (Upd.ofBelow al2)).trans hu3
  have z3 := hu3.size
  simp only [World.size_alloc] at z3
  replace H0 := hide (hu3.keeps H0.out (by omega))
  replace H2 := hide (hu3.keeps H2.out (by omega))
  have d3 := d2.keepU hu3 (fun k ht e => by subst e; exact hr2.apart (by decide) ht) (fun k ht e => by subst e; exact hr2.apart (by decide) ht)
  clear d1 d2 hr0 hr1 hr2
  obtain ⟨t0, t1, tl⟩ := box2 H2.out
  obtain ⟨t2, t3⟩ := box2f H2.out
  obtain ⟨q0, q1, ql⟩ := box2 H0.out
  obtain ⟨q2, q3⟩ := box2f H0.out
  have hkl := sm1.kl
  have hwl := sm1.wl
  obtain ⟨dk, dw, ed, dk3, dw3⟩ := d3
  simp only [Value.agg.injEq, Array.mk.injEq, List.cons.injEq, and_true] at ed
  obtain ⟨rfl, rfl⟩ := ed
  obtain ⟨i1, gi, gz0, gz1, gz2⟩ := info_parts infoWr
  obtain ⟨i0, hi, hz0, hz1, hz2⟩ := info_parts infoStr
  by_cases c0 : q = 0
  · subst c0
    go_wp2
    go_region_law (first
      | (refine step_appendA rfl _ _ 24 rfl (w.heap.size + 1) 34 i1 (.agg #[.int .i64 0, .string ⟨#[]⟩]) 2 24 Try.underlying24 gi gz0 gz1 gz2 rfl (by decide) _ wait.length (wcells wait) rfl ((dw3.keepT u4 (fun k ht e => by subst e; exact hr3.apart (by decide) ht)).keepB (by repeat (first | exact Below.refl _ _ | assumption | refine bAlloc' ?_ _ | refine Below.drew ?_))) ⟨_, 0, none⟩ 1 1 [.int .i64 x, .string ⟨#[]⟩] rfl rfl (new_cells' x _ _ (by simp)) (new_one x _) (by decide) (by unfold maxLen; omega) (by omega) (by have := u4.size; simp; omega) ?_; intro v5 w5 hown u5; obtain ⟨mo', cm', rfl⟩ := (Row.ofOwns hown (by omega)).shape; have u5' := upd_append (w := w4) (by repeat (first | exact Below.refl _ _ | assumption | refine bAlloc' ?_ _ | refine Below.drew ?_)) u5; have k5 := u5'.keeps k4 (typed_box k4 (by decide) rfl); obtain ⟨y0, y1, yl⟩ := box2 k5; obtain ⟨y2, y3⟩ := box2f k5)
      | (go_simp; go_at_call 39; refine (pick_any w0 _ R (p1 + 1) 2 (hr3.keepB (by repeat (first | exact Below.refl _ _ | assumption | refine bAlloc' ?_ _ | refine Below.drew ?_))) (by omega) (by omega) (by omega)).mono ?_; rintro e w4 ⟨q4, rfl, hq4, hr4, hu4⟩; have u4 : Upd (fun j => j = R) w3 w4 := (Upd.ofBelow (by repeat (first | exact Below.refl _ _ | assumption | refine bAlloc' ?_ _ | refine Below.drew ?_))).trans hu4; have k4 := u4.keeps H2.out (by omega); have tl4 := heap_lt k4; have hq4i : (q4 : Int) < 2 := (by omega); have s0 : w4.cell? ⟨w1.heap.size, 0, none⟩ = some (.slice ao kept.length ca) := (cell_of_row w4 _ 0 _ _ (0, 0) k4).trans rfl; have s1 : w4.cell? ⟨w1.heap.size, 1, none⟩ = some (.slice ao' wait.length ca') := (cell_of_row w4 _ 1 _ _ (0, 0) k4).trans rfl; obtain ⟨x, hx, hxw⟩ := two_cells q4 hq4 (-1) kept.length 3; have hxa := hxw w4; have hq4' : (q4 : Int) < 2 := (by omega); try (have hxb := two_kept hu4 (by omega) hxw)))
    all_goals
      have z4 := u4.size
      have z5 := u5'.size
      have k0 := u5'.keeps (u4.keeps H0.out (by omega)) (typed_box (u4.keeps H0.out (by omega)) (by decide) rfl)
      have r5 := (hr4.keep u5' (hr4.apart (by decide)) (fun k h => by have := h.1; omega))
      have U5 : Upd (fun j => j = R) w w5 := (U3.trans u4).transN u5' (fun k h => by have := h.1; omega)
      clear q0 q1 ql q2 q3 t0 t1 tl t2 t3
      obtain ⟨q0, q1, ql⟩ := box2 k0
      obtain ⟨q2, q3⟩ := box2f k0
      have hne : ¬ w.heap.size = w1.heap.size := by omega
      have hne' : ¬ w1.heap.size = w.heap.size := by omega
      have K0 := hide k0
      have K5 := hide k5
      clear k0 k4 k5
      go_wp2
      have hu := (Upd.setCell (S := fun k => k = w1.heap.size ∨ k = w.heap.size) w5 w1.heap.size 1 (.slice mo' (wait.length + 1) cm') (.inl rfl)).trans ((upd_set2 _ w.heap.size 0 1 (.slice ao kept.length ca) (.slice mo' (wait.length + 1) cm')).mono (fun k h => .inr h))
      refine bodyPost_ret (v := .agg #[.slice ao kept.length ca, .slice mo' (wait.length + 1) cm']) (by simp [results, Try.results27, go_sem, q0, q1]) rfl ⟨_, kept, wait ++ [(x, ⟨#[]⟩)], p1 + 1 + 1, rfl, ?_, sm1.snocW x ⟨#[]⟩ (by show (0 : Nat) ≤ 1000; omega), r5.keep hu (by omega) (fun k h => by omega), by omega, U5.transN hu (fun k h => by omega)⟩
      have ta : ∀ (e : TypeId), e ≠ 26 → ∀ k, typed w5 (fun k => w.heap.size + 1 ≤ k) e k → ¬ (k = w1.heap.size ∨ k = w.heap.size) := by
        rintro e he k ht (rfl | rfl)
        · exact typed_box K5.out (fun h => he h.symm) rfl ht
        · exact typed_box K0.out (fun h => he h.symm) rfl ht
      refine ⟨_, _, rfl, ?_, ?_⟩
      · exact (((dk3.keepT u4 (fun k ht e => by subst e; exact hr3.apart (by decide) ht)).keepT u5' (fun k => typed_apart (by decide) k)).keepT hu (ta _ (by decide))).mono (by omega)
      · rw [wcells_snoc, List.length_append]
        exact (RowA.keepT (.inl hown) hu (ta _ (by decide))).mono (by omega)
  by_cases c1 : q = 1
  · subst c1
    go_wp2
    go_region_law (first
      | (refine step_appendA rfl _ _ 24 rfl (w.heap.size + 1) 34 i1 (.agg #[.int .i64 0, .string ⟨#[]⟩]) 2 24 Try.underlying24 gi gz0 gz1 gz2 rfl (by decide) _ wait.length (wcells wait) rfl ((dw3.keepT u4 (fun k ht e => by subst e; exact hr3.apart (by decide) ht)).keepB (by repeat (first | exact Below.refl _ _ | assumption | refine bAlloc' ?_ _ | refine Below.drew ?_))) ⟨_, 0, none⟩ 1 1 [.int .i64 0, .string s4] rfl rfl (new_cells' 0 _ _ (by simp)) (new_one 0 _) (by decide) (by unfold maxLen; omega) (by omega) (by have := u4.size; simp; omega) ?_; intro v5 w5 hown u5; obtain ⟨mo', cm', rfl⟩ := (Row.ofOwns hown (by omega)).shape; have u5' := upd_append (w := w4) (by repeat (first | exact Below.refl _ _ | assumption | refine bAlloc' ?_ _ | refine Below.drew ?_)) u5; have k5 := u5'.keeps k4 (typed_box k4 (by decide) rfl); obtain ⟨y0, y1, yl⟩ := box2 k5; obtain ⟨y2, y3⟩ := box2f k5)
      | (go_simp; go_at_call 39; refine (pick_any w0 _ R (p1 + 1) 2 (hr3.keepB (by repeat (first | exact Below.refl _ _ | assumption | refine bAlloc' ?_ _ | refine Below.drew ?_))) (by omega) (by omega) (by omega)).mono ?_; rintro e w4 ⟨q4, rfl, hq4, hr4, hu4⟩; have u4 : Upd (fun j => j = R) w3 w4 := (Upd.ofBelow (by repeat (first | exact Below.refl _ _ | assumption | refine bAlloc' ?_ _ | refine Below.drew ?_))).trans hu4; have k4 := u4.keeps H2.out (by omega); have tl4 := heap_lt k4; have hq4i : (q4 : Int) < 2 := (by omega); have s0 : w4.cell? ⟨w1.heap.size, 0, none⟩ = some (.slice ao kept.length ca) := (cell_of_row w4 _ 0 _ _ (0, 0) k4).trans rfl; have s1 : w4.cell? ⟨w1.heap.size, 1, none⟩ = some (.slice ao' wait.length ca') := (cell_of_row w4 _ 1 _ _ (0, 0) k4).trans rfl)
      | (go_simp; go_at_call 52; refine (l6Many_at ⟨#[120]⟩ _ (16 + q4) 17 w4 (by first | omega | exact wrap16 q4 hq4) (by omega) (by show 1 * (16 + q4) ≤ 17; omega) (by omega)).mono ?_; rintro e w4' ⟨s4, rfl, hs4, hw4⟩; have hw4' := hw4.symm; clear hw4; subst hw4'))
    all_goals
      have z4 := u4.size
      have z5 := u5'.size
      have k0 := u5'.keeps (u4.keeps H0.out (by omega)) (typed_box (u4.keeps H0.out (by omega)) (by decide) rfl)
      have r5 := (hr4.keep u5' (hr4.apart (by decide)) (fun k h => by have := h.1; omega))
      have U5 : Upd (fun j => j = R) w w5 := (U3.trans u4).transN u5' (fun k h => by have := h.1; omega)
      clear q0 q1 ql q2 q3 t0 t1 tl t2 t3
      obtain ⟨q0, q1, ql⟩ := box2 k0
      obtain ⟨q2, q3⟩ := box2f k0
      have hne : ¬ w.heap.size = w1.heap.size := by omega
      have hne' : ¬ w1.heap.size = w.heap.size := by omega
      have K0 := hide k0
      have K5 := hide k5
      clear k0 k4 k5
      go_wp2
      have hu := (Upd.setCell (S := fun k => k = w1.heap.size ∨ k = w.heap.size) w5 w1.heap.size 1 (.slice mo' (wait.length + 1) cm') (.inl rfl)).trans ((upd_set2 _ w.heap.size 0 1 (.slice ao kept.length ca) (.slice mo' (wait.length + 1) cm')).mono (fun k h => .inr h))
      refine bodyPost_ret (v := .agg #[.slice ao kept.length ca, .slice mo' (wait.length + 1) cm']) (by simp [results, Try.results27, go_sem, q0, q1]) rfl ⟨_, kept, wait ++ [(0, s4)], p1 + 1 + 1, rfl, ?_, sm1.snocW 0 s4 (by omega), r5.keep hu (by omega) (fun k h => by omega), by omega, U5.transN hu (fun k h => by omega)⟩
      have ta : ∀ (e : TypeId), e ≠ 26 → ∀ k, typed w5 (fun k => w.heap.size + 1 ≤ k) e k → ¬ (k = w1.heap.size ∨ k = w.heap.size) := by
        rintro e he k ht (rfl | rfl)
        · exact typed_box K5.out (fun h => he h.symm) rfl ht
        · exact typed_box K0.out (fun h => he h.symm) rfl ht
      refine ⟨_, _, rfl, ?_, ?_⟩
      · exact (((dk3.keepT u4 (fun k ht e => by subst e; exact hr3.apart (by decide) ht)).keepT u5' (fun k => typed_apart (by decide) k)).keepT hu (ta _ (by decide))).mono (by omega)
      · rw [wcells_snoc, List.length_append]
        exact (RowA.keepT (.inl hown) hu (ta _ (by decide))).mono (by omega)
  by_cases c2 : q = 2
  · subst c2
    go_wp2
    go_region_law (first
      | (refine step_appendA rfl _ _ 23 rfl (w.heap.size + 1) 9 i0 (.string ⟨#[]⟩) 1 16 Try.underlying23 hi hz0 hz1 hz2 rfl (by decide) _ kept.length (kept.map Value.string) rfl ((dk3.keepT u4 (fun k ht e => by subst e; exact hr3.apart (by decide) ht)).keepB (by repeat (first | exact Below.refl _ _ | assumption | refine bAlloc' ?_ _ | refine Below.drew ?_))) ⟨_, 0, none⟩ 1 1 [.string s4] rfl rfl (new_cell1 s4 _ (by simp)) (one_str s4) (by decide) (by unfold maxLen; omega) (by omega) (by have := u4.size; simp; omega) ?_; intro v5 w5 hown u5; obtain ⟨mo', cm', rfl⟩ := (Row.ofOwns hown (by omega)).shape; have u5' := upd_append (w := w4) (by repeat (first | exact Below.refl _ _ | assumption | refine bAlloc' ?_ _ | refine Below.drew ?_)) u5; have k5 := u5'.keeps k4 (typed_box k4 (by decide) rfl); obtain ⟨y0, y1, yl⟩ := box2 k5; obtain ⟨y2, y3⟩ := box2f k5)
      | (go_simp; go_at_call 39; refine (pick_any w0 _ R (p1 + 1) 2 (hr3.keepB (by repeat (first | exact Below.refl _ _ | assumption | refine bAlloc' ?_ _ | refine Below.drew ?_))) (by omega) (by omega) (by omega)).mono ?_; rintro e w4 ⟨q4, rfl, hq4, hr4, hu4⟩; have u4 : Upd (fun j => j = R) w3 w4 := (Upd.ofBelow (by repeat (first | exact Below.refl _ _ | assumption | refine bAlloc' ?_ _ | refine Below.drew ?_))).trans hu4; have k4 := u4.keeps H2.out (by omega); have tl4 := heap_lt k4; have hq4i : (q4 : Int) < 2 := (by omega); have s0 : w4.cell? ⟨w1.heap.size, 0, none⟩ = some (.slice ao kept.length ca) := (cell_of_row w4 _ 0 _ _ (0, 0) k4).trans rfl; have s1 : w4.cell? ⟨w1.heap.size, 1, none⟩ = some (.slice ao' wait.length ca') := (cell_of_row w4 _ 1 _ _ (0, 0) k4).trans rfl)
      | (go_simp; go_at_call 52; refine (l6Many_at ⟨#[120]⟩ _ (16 + q4) 17 w4 (by first | omega | exact wrap16 q4 hq4) (by omega) (by show 1 * (16 + q4) ≤ 17; omega) (by omega)).mono ?_; rintro e w4' ⟨s4, rfl, hs4, hw4⟩; have hw4' := hw4.symm; clear hw4; subst hw4'))
    all_goals
      have z4 := u4.size
      have z5 := u5'.size
      have k0 := u5'.keeps (u4.keeps H0.out (by omega)) (typed_box (u4.keeps H0.out (by omega)) (by decide) rfl)
      have r5 := (hr4.keep u5' (hr4.apart (by decide)) (fun k h => by have := h.1; omega))
      have U5 : Upd (fun j => j = R) w w5 := (U3.trans u4).transN u5' (fun k h => by have := h.1; omega)
      clear q0 q1 ql q2 q3 t0 t1 tl t2 t3
      obtain ⟨q0, q1, ql⟩ := box2 k0
      obtain ⟨q2, q3⟩ := box2f k0
      have hne : ¬ w.heap.size = w1.heap.size := by omega
      have hne' : ¬ w1.heap.size = w.heap.size := by omega
      have K0 := hide k0
      have K5 := hide k5
      clear k0 k4 k5
      go_wp2
      have hu := (Upd.setCell (S := fun k => k = w1.heap.size ∨ k = w.heap.size) w5 w1.heap.size 0 (.slice mo' (kept.length + 1) cm') (.inl rfl)).trans ((upd_set2 _ w.heap.size 0 1 (.slice mo' (kept.length + 1) cm') (.slice ao' wait.length ca')).mono (fun k h => .inr h))
      refine bodyPost_ret (v := .agg #[.slice mo' (kept.length + 1) cm', .slice ao' wait.length ca']) (by simp [results, Try.results27, go_sem, q0, q1]) rfl ⟨_, kept ++ [s4], wait, p1 + 1 + 1, rfl, ?_, sm1.snocK s4 (by omega), r5.keep hu (by omega) (fun k h => by omega), by omega, U5.transN hu (fun k h => by omega)⟩
      have ta : ∀ (e : TypeId), e ≠ 26 → ∀ k, typed w5 (fun k => w.heap.size + 1 ≤ k) e k → ¬ (k = w1.heap.size ∨ k = w.heap.size) := by
        rintro e he k ht (rfl | rfl)
        · exact typed_box K5.out (fun h => he h.symm) rfl ht
        · exact typed_box K0.out (fun h => he h.symm) rfl ht
      refine ⟨_, _, rfl, ?_, ?_⟩
      · rw [List.map_append, List.length_append]
        exact (RowA.keepT (.inl hown) hu (ta _ (by decide))).mono (by omega)
      · exact (((dw3.keepT u4 (fun k ht e => by subst e; exact hr3.apart (by decide) ht)).keepT u5' (fun k => typed_apart (by decide) k)).keepT hu (ta _ (by decide))).mono (by omega)
  by_cases c3 : q = 3
  · subst c3
    go_wp2_with fail
    refine (pick_any w0 w3 R (p1 + 1) 2 hr3 (by omega) (by omega) (by omega)).mono ?_
    rintro e w4 ⟨q4, rfl, hq4, hr4, u4⟩
    obtain ⟨n, hn, hnn⟩ : ∃ n : Nat, n ≤ 513 ∧ (512 : Int) + (q4 : Int) = (n : Int) := ⟨512 + q4, by omega, by simp⟩
    have hmk := run_make_row' (P := Try.prog) 23 9 (.string ⟨#[]⟩) 16 Try.underlying23 infoStr rfl .i64 .i64 n (by omega) (by omega)
    have z4 := u4.size
    have k4 := u4.keeps H2.out (by omega)
    have k0 := u4.keeps H0.out (by omega)
    have U4 := U3.trans u4
    clear q0 q1 ql q2 q3 t0 t1 tl t2 t3
    obtain ⟨q0, q1, ql⟩ := box2 k0
    obtain ⟨q2, q3⟩ := box2f k0
    obtain ⟨y0, y1, yl⟩ := box2 k4
    obtain ⟨y2, y3⟩ := box2f k4
    have hne : ¬ w.heap.size = w1.heap.size := by omega
    have hne' : ¬ w1.heap.size = w.heap.size := by omega
    have K0 := hide k0
    have K4 := hide k4
    clear k0 k4
    go_wp2
    obtain ⟨W3, hW3⟩ : ∃ W3, W3 = ((w4.setCell ⟨w1.heap.size, 0, none⟩ (.slice (some ⟨w4.heap.size, 0, none⟩) n n)).setCell ⟨w.heap.size, 0, none⟩ (.slice (some ⟨w4.heap.size, 0, none⟩) n n)).setCell ⟨w.heap.size, 1, none⟩ (.slice ao' wait.length ca') := ⟨_, rfl⟩
    have hu : Upd (fun k => k = w1.heap.size ∨ k = w.heap.size) w4 W3 := by
      rw [hW3]
      exact (Upd.setCell (S := fun k => k = w1.heap.size ∨ k = w.heap.size) w4 w1.heap.size 0 _ (.inl rfl)).trans ((upd_set2 _ w.heap.size 0 1 _ _).mono (fun k h => .inr h))
    have hsz : W3.heap.size = w4.heap.size := by rw [hW3]; simp
    have al5 : Below W3.heap.size W3 (W3.alloc (.cells (madeCells #[.string ⟨#[]⟩] n) 9)) := (Below.refl _ _).alloc (Nat.le_refl _) _
    have hown := World.ownsRow_lit (base := w.heap.size) (e := 9) (size := 1) W3 (madeCells #[.string ⟨#[]⟩] n) n (by omega) (by unfold maxLen; omega) (by rw [size_madeCells]; simp)
    rw [toList_madeCells_one, hsz] at hown
    have r5 := (hr4.keep hu (by omega) (fun k h => by omega)).keepB al5
    have U5 := (U4.transN hu (fun k h => by omega)).trans (Upd.ofBelow al5)
    have s5 := (((dw3.keepT u4 (fun k ht e => by subst e; exact hr3.apart (by decide) ht)).keepT hu (by rintro k ht (rfl | rfl); exact typed_box K4.out (by decide) rfl ht; exact typed_box K0.out (by decide) rfl ht)).keepB al5).mono (base' := w.heap.size) (by omega)
    have kk : W3.heap[w.heap.size]? = some (.cells #[.slice (some ⟨w4.heap.size, 0, none⟩) n n, .slice ao' wait.length ca'] 26 (0, 0)) := by
      rw [hW3]
      exact row_set _ (row_set _ ((Upd.setCell (S := fun k => k = w1.heap.size) w4 w1.heap.size 0 _ rfl).keeps K0.out hne))
    obtain ⟨x0, x1, xl⟩ := box2 (bKeeps al5 kk)
    rw [← hW3]
    refine bodyPost_ret (v := .agg #[.slice (some ⟨w4.heap.size, 0, none⟩) n n, .slice ao' wait.length ca']) (by simp [results, Try.results27, go_sem, x0, x1]) rfl ⟨_, List.replicate n ⟨#[]⟩, wait, p1 + 1 + 1, rfl, ?_, ⟨by simp; omega, ?_, by have := sm1.wl; omega, sm1.ws⟩, ?_, by omega, ?_⟩
    · refine ⟨_, _, rfl, ?_, s5⟩
      simp only [List.length_replicate, List.map_replicate]
      exact .inl hown
    · intro x hx
      rw [(List.mem_replicate.1 hx).2]
      show (0 : Nat) ≤ 1000
      omega
    · exact r5
    · exact U5
  · have d0 : ((q : Int) == 0) = false := by simp; omega
    have d1 : ((q : Int) == 1) = false := by simp; omega
    have d2 : ((q : Int) == 2) = false := by simp; omega
    have d3 : ((q : Int) == 3) = false := by simp; omega
    have hne : ¬ w.heap.size = w1.heap.size := by omega
    have hne' : ¬ w1.heap.size = w.heap.size := by omega
    go_wp2
    have hu := upd_set2 w3 w.heap.size 0 1 (.slice ao kept.length ca) (.slice ao' wait.length ca')
    refine bodyPost_ret (v := .agg #[.slice ao kept.length ca, .slice ao' wait.length ca']) (by simp [results, Try.results27, go_sem, q0, q1]) rfl ⟨_, kept, wait, p1 + 1, rfl, ?_, sm1.mono (by omega), hr3.keep hu (by omega) (fun k h => by omega), by omega, U3.transN hu (fun k h => by omega)⟩
    exact ⟨_, _, rfl, (dk3.keep hu (fun k hk h => by omega)).mono (by omega), (dw3.keep hu (fun k hk h => by omega)).mono (by omega)⟩

end Go.Proofs.Ytiffpgnmnahelaa
