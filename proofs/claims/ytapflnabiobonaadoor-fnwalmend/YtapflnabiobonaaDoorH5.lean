/- What the laws' own helpers do with a disk that came in: a copy of it; contracts; no statement of the seat is proved here. -/
import Derived.Test.YtapflnabiobonaaDoorH4
namespace Go.Proofs.YtapflnabiobonaaDoor
open Go.RowKit

theorem getAt {α : Type} (ss : List α) (k : Nat) (h : k < ss.length) : ∃ s, ss[k]? = some s := ⟨ss[k], by simp [h]⟩

set_option maxHeartbeats 1000000 in
theorem toStringS_any (v : Value) (n : Nat) (ss : List ByteArray) (w : World) (hr : RowR w 1 v n (ss.map Value.string)) (hn : n ≤ 1048576) :
    Calls Tryd.prog 25 #[v] w fun e w' => ∃ v', e = .returned v' ∧ Row w' 9 1 (fun k => w.heap.size ≤ k) v' n (ss.map Value.string) ∧ Below w.heap.size w w' := by
  obtain ⟨ao, cap, rfl, hn', hl, hr⟩ := hr
  simp only [List.length_map, Nat.mul_one] at hl
  have Hl := hide hl
  clear hl
  have hmk := run_make_row' (P := Tryd.prog) 22 9 (.string ⟨#[]⟩) 16 Tryd.underlying22 infoStr rfl .i64 .i64 n (by omega) (by omega)
  go_enter Tryd.func25, Tryd.ntmps25
  go_wp2
  clear hmk
  go_loopw [4] (fun i wr => ∃ (k : Nat) (cur : Array Value), k ≤ n ∧ i = .int .i64 k ∧ wr.heap[w.heap.size]? = some (.cells cur 9 (0, 0)) ∧ cur.size = n ∧ (∀ j s, j < k → ss[j]? = some s → cur[j]? = some (.string s)) ∧ Below w.heap.size w wr) (fun i _ => n - (intOf i).toNat)
  case atStart => exact ⟨0, _, Nat.zero_le _, rfl, heap_alloc_new w _, size_madeCells _ _, fun j s hj => by omega, (Below.refl _ _).alloc (Nat.le_refl _) _⟩
  case round =>
    obtain ⟨k, cur, hk, rfl, hg, hcs, hmk, hbel⟩ := hrel
    have HM := hide hmk
    have HC := hide hcs
    have hcs' : n ≤ cur.size := by omega
    clear hmk hcs
    by_cases hlt : k < n
    · obtain ⟨b1, o1, rfl, hc1⟩ := hr (by omega)
      obtain ⟨s, hs⟩ := getAt ss k (by have := Hl.out; omega)
      have Hs := hide hs
      have g1 := hc1 k (.string s) (by simp [hs])
      have f1 : wr.cell? ⟨b1, o1 + k, none⟩ = some (.string s) := (hbel.cell (p := ⟨b1, o1 + k, none⟩) (World.block_lt_of_cell? w _ g1)).trans g1
      have hi : (k : Int) < (n : Int) := by omega
      obtain ⟨u, hu⟩ : ∃ u, cur[k]? = some u := ⟨cur[k]'(by omega), by simp [show k < cur.size by omega]⟩
      have hcw : wr.cell? ⟨w.heap.size, k, none⟩ = some u := (cell_of_row wr _ k cur _ (0, 0) hg).trans hu
      have hfw : wr.frozen? ⟨w.heap.size, k, none⟩ = false := frozen_of_row wr _ k cur _ hg
      have Hg := hide hg
      clear hr hc1 g1 hs hg
      go_wp2
      go_roundw
      case rel =>
        refine ⟨k + 1, _, by omega, by go_num, row_set _ Hg.out, by simpa using HC.out, fun j t hj ht => ?_, hbel.setCell (p := ⟨w.heap.size, k, none⟩) (Nat.le_refl _) _⟩
        by_cases hjk : j = k
        · subst hjk
          rw [Hs.out] at ht
          rw [Array.getElem?_setIfInBounds_self_of_lt (by omega)]
          rw [Option.some.inj ht]
        · rw [Array.getElem?_setIfInBounds_ne (by omega)]
          exact HM.out j t (by omega) ht
      case measure => simp [intOf]; omega
    · go_wp2
      go_ret
      obtain rfl : k = n := by omega
      refine ⟨_, rfl, ⟨_, _, rfl, hn', by simp [Hl.out], fun _ => ⟨_, cur, rfl, Nat.le_refl _, hg, ?_⟩⟩, hbel⟩
      apply List.ext_getElem?
      intro j
      have hl := Hl.out
      by_cases hj : j < k
      · rw [List.getElem?_take_of_lt (by omega)]
        obtain ⟨s, hs⟩ := getAt ss j (by omega)
        simpa [hs] using HM.out j s hj hs
      · rw [List.getElem?_eq_none (by simp; omega), List.getElem?_eq_none (by simp; omega)]

theorem infoWr : (Tryd.prog.info? 63).map (fun i => (i.zero, i.size, i.bytes)) = some (some (.agg #[.int .i64 0, .string ⟨#[]⟩]), 2, 24) := by kernel_rfl

theorem run_make_row2 {P : Program} (t e : TypeId) (z : Value) (size bytes : Nat) (ht : P.underlying t = some (.slice e)) (hinfo : (P.info? e).map (fun i => (i.zero, i.size, i.bytes)) = some (some z, size, bytes))
    (kl kc : IntKind) (n : Nat) (hbytes : bytes * n ≤ 281474976710656) (h63 : n ≤ 9223372036854775807) (w : World) :
    (Instr.makeSlice t (.int kl (n : Int)) (.int kc (n : Int))).run P w = .ok (.slice (some ⟨w.heap.size, 0, none⟩) n n) (w.alloc (.cells (madeCells z.cells (n * size)) e)) := by
  obtain ⟨i, hi, h1, rfl, rfl⟩ := info_parts hinfo
  have hb' : (i.bytes : Int) * (n : Int) ≤ 281474976710656 := by
    have h : ((i.bytes * n : Nat) : Int) ≤ 281474976710656 := by omega
    rwa [Int.natCast_mul] at h
  have hr := run_make (P := P) w t e i z ht hi h1 kl kc n n (by omega) (Int.le_refl _) hb' (by omega)
  simpa only [Int.toNat_natCast] using hr

set_option maxHeartbeats 400000 in
theorem toSecWrite_any (a : Int) (s : ByteArray) (w : World) :
    Calls Tryd.prog 68 #[.agg #[.int .i64 a, .string s]] w fun e w' => e = .returned (.agg #[.int .i64 a, .string s]) ∧ Below w.heap.size w w' := by
  go_enter Tryd.func68, Tryd.ntmps68
  go_wp2
  exact bodyPost_ret (v := .agg #[.int .i64 a, .string s]) (by simp [results, Tryd.results68, go_sem]) rfl ⟨rfl, (((Below.refl _ _).alloc (Nat.le_refl _) _).alloc (by simp) _).alloc (by simp; omega) _⟩

set_option maxHeartbeats 1000000 in
theorem toSecWriteS_any (v : Value) (n : Nat) (ss : List (Int × ByteArray)) (w : World) (hr : RowR w 2 v n (wcells ss)) (hn : n ≤ 1048576) :
    Calls Tryd.prog 37 #[v] w fun e w' => ∃ v', e = .returned v' ∧ Row w' 63 2 (fun k => w.heap.size ≤ k) v' n (wcells ss) ∧ Below w.heap.size w w' := by
  obtain ⟨ao, cap, rfl, hn', hl, hr⟩ := hr
  rw [wcells_len] at hl
  have Hl := hide hl
  clear hl
  have hmk := run_make_row2 (P := Tryd.prog) 29 63 (.agg #[.int .i64 0, .string ⟨#[]⟩]) 2 24 Tryd.underlying29 infoWr .i64 .i64 n (by omega) (by omega)
  go_enter Tryd.func37, Tryd.ntmps37
  go_wp2
  clear hmk
  go_loopw [4] (fun i wr => ∃ (k : Nat) (cur : Array Value), k ≤ n ∧ i = .int .i64 k ∧ wr.heap[w.heap.size]? = some (.cells cur 63 (0, 0)) ∧ cur.size = n * 2 ∧ (∀ j x, j < k → ss[j]? = some x → cur[2 * j]? = some (.int .i64 x.1) ∧ cur[2 * j + 1]? = some (.string x.2)) ∧ Below w.heap.size w wr) (fun i _ => n - (intOf i).toNat)
  case atStart => exact ⟨0, _, Nat.zero_le _, rfl, heap_alloc_new w _, size_madeCells _ _, fun j s hj => by omega, (Below.refl _ _).alloc (Nat.le_refl _) _⟩
  case round =>
    obtain ⟨k, cur, hk, rfl, hg, hcs, hmk, hbel⟩ := hrel
    have HM := hide hmk
    have HC := hide hcs
    have hcs' : n * 2 ≤ cur.size := by omega
    clear hmk hcs
    by_cases hlt : k < n
    · obtain ⟨b1, o1, rfl, hc1⟩ := hr (by omega)
      obtain ⟨⟨a, s⟩, hs⟩ := getAt ss k (by have := Hl.out; omega)
      have Hs := hide hs
      obtain ⟨e0, e1⟩ := wcells_at ss k (a, s) hs
      have g1 := hc1 _ _ e0
      have g2 := hc1 _ _ e1
      have l1 : b1 < w.heap.size := World.block_lt_of_cell? w _ g1
      have f1 : wr.cell? ⟨b1, o1 + k * 2, none⟩ = some (.int .i64 a) := by rw [Nat.mul_comm k 2]; exact (hbel.cell (p := ⟨b1, o1 + 2 * k, none⟩) l1).trans g1
      have f2 : wr.cell? ⟨b1, o1 + k * 2 + 1, none⟩ = some (.string s) := by rw [Nat.mul_comm k 2]; exact (hbel.cell (p := ⟨b1, o1 + (2 * k + 1), none⟩) l1).trans g2
      have hi : (k : Int) < (n : Int) := by omega
      obtain ⟨u, hu⟩ : ∃ u, cur[k * 2]? = some u := ⟨cur[k * 2]'(by omega), by simp [show k * 2 < cur.size by omega]⟩
      obtain ⟨u2, hu2⟩ : ∃ u, cur[k * 2 + 1]? = some u := ⟨cur[k * 2 + 1]'(by omega), by simp [show k * 2 + 1 < cur.size by omega]⟩
      have Hg := hide hg
      clear hr hc1 g1 g2 e0 e1 hs hg
      go_wp2_with fail
      refine (toSecWrite_any a s _).mono ?_
      rintro e w1 ⟨rfl, hb1⟩
      have hg := bKeeps hb1 Hg.out
      have hcw : w1.cell? ⟨w.heap.size, k * 2, none⟩ = some u := (cell_of_row w1 _ _ cur _ (0, 0) hg).trans hu
      have hcw2 : w1.cell? ⟨w.heap.size, k * 2 + 1, none⟩ = some u2 := (cell_of_row w1 _ _ cur _ (0, 0) hg).trans hu2
      have hfw : w1.frozen? ⟨w.heap.size, k * 2, none⟩ = false := frozen_of_row w1 _ _ cur _ hg
      have hfw2 : w1.frozen? ⟨w.heap.size, k * 2 + 1, none⟩ = false := frozen_of_row w1 _ _ cur _ hg
      have Hg1 := hide hg
      clear hg hu hu2
      go_wp2
      go_roundw
      case rel =>
        refine ⟨k + 1, _, by omega, by go_num, row_set _ (row_set _ Hg1.out), by simpa using HC.out, fun j x hj hx => ?_, ((bAll hbel hb1).setCell (p := ⟨w.heap.size, k * 2, none⟩) (Nat.le_refl _) _).setCell (p := ⟨w.heap.size, k * 2 + 1, none⟩) (Nat.le_refl _) _⟩
        by_cases hjk : j = k
        · subst hjk
          rw [Hs.out] at hx
          obtain rfl := Option.some.inj hx
          rw [Nat.mul_comm 2 j, Array.getElem?_setIfInBounds_ne (by omega), Array.getElem?_setIfInBounds_self_of_lt (by omega), Array.getElem?_setIfInBounds_self_of_lt (by simp; omega)]
          exact ⟨rfl, rfl⟩
        · rw [Array.getElem?_setIfInBounds_ne (by omega), Array.getElem?_setIfInBounds_ne (by omega), Array.getElem?_setIfInBounds_ne (by omega), Array.getElem?_setIfInBounds_ne (by omega)]
          exact HM.out j x (by omega) hx
      case measure => simp [intOf]; omega
    · go_wp2
      go_ret
      obtain rfl : k = n := by omega
      refine ⟨_, rfl, ⟨_, _, rfl, hn', by rw [wcells_len]; exact Hl.out, fun _ => ⟨_, cur, rfl, Nat.le_refl _, hg, ?_⟩⟩, hbel⟩
      have hl := Hl.out
      apply List.ext_getElem?
      intro j
      by_cases hj : j < k * 2
      · rw [List.getElem?_take_of_lt (by omega)]
        obtain ⟨s, hs⟩ := getAt ss (j / 2) (by omega)
        have h1 := HM.out (j / 2) s (by omega) hs
        have h2 := wcells_at ss (j / 2) s hs
        rcases Nat.mod_two_eq_zero_or_one j with e | e
        · rw [show 2 * (j / 2) = j by omega] at h1 h2
          simpa [h2.1] using h1.1
        · rw [show 2 * (j / 2) + 1 = j by omega] at h1 h2
          simpa [h2.2] using h1.2
      · rw [List.getElem?_eq_none (by simp; omega), List.getElem?_eq_none (by rw [wcells_len]; omega)]

set_option maxHeartbeats 400000 in
theorem toSecDisk_any (v : Value) (kept : List ByteArray) (wait : List (Int × ByteArray)) (w : World) (hr : DiskR w v kept wait) (hk : kept.length ≤ 1048576) (hw : wait.length ≤ 1048576) :
    Calls Tryd.prog 11 #[v] w fun e w' => ∃ v', e = .returned v' ∧ DiskO w' (fun k => w.heap.size ≤ k) v' kept wait ∧ Below w.heap.size w w' := by
  obtain ⟨ak, aw, rfl, a1, a2⟩ := hr
  have hal : Below w.heap.size w (((w.alloc (.cells #[ak, aw] 25)).alloc (.cells #[.slice none 0 0, .slice none 0 0] 31)).alloc (.cells #[.slice none 0 0, .slice none 0 0] 31)) :=
    (((Below.refl _ _).alloc (Nat.le_refl _) _).alloc (by simp) _).alloc (by simp; omega) _
  have k1 := a1.keep hal
  have k2 := a2
  obtain ⟨ao, ca, rfl, -⟩ := a1
  obtain ⟨ao2, ca2, rfl, -⟩ := a2
  go_enter Tryd.func11, Tryd.ntmps11
  go_wp2_with fail
  refine (toStringS_any _ _ kept _ k1 hk).mono ?_
  rintro e w1 ⟨v1, rfl, r1, b1⟩
  obtain ⟨bo, cb, rfl⟩ : ∃ bo cb, v1 = .slice bo kept.length cb := by obtain ⟨bo, cb, h, -⟩ := r1; exact ⟨bo, cb, h⟩
  have z1 := b1.size
  simp only [World.size_alloc] at z1 r1
  have B0 : w1.heap[w.heap.size]? = some (.cells #[.slice ao kept.length ca, .slice ao2 wait.length ca2] 25 (0, 0)) :=
    bKeeps b1 (al3_0 w _ _ _)
  have B1 : w1.heap[w.heap.size + 1]? = some (.cells #[.slice none 0 0, .slice none 0 0] 31 (0, 0)) :=
    bKeeps b1 (al3_1 w _ _ _)
  have B2 : w1.heap[w.heap.size + 1 + 1]? = some (.cells #[.slice none 0 0, .slice none 0 0] 31 (0, 0)) :=
    bKeeps b1 (al3_2 w _ _ _)
  obtain ⟨c00, c01, c0l⟩ := box2 B0
  obtain ⟨c20, c21, c2l⟩ := box2 B2
  obtain ⟨f20, f21⟩ := box2f B2
  have H1 := hide B1
  have H2 := hide B2
  clear B0 B1 B2
  go_wp2_with fail
  clear c00 c01 c0l c20 c21 c2l f20 f21
  have hw1 : Below w.heap.size w (w1.setCell ⟨w.heap.size + 1 + 1, 0, none⟩ (.slice bo kept.length cb)) := (bAll hal b1).setCell (p := ⟨w.heap.size + 1 + 1, 0, none⟩) (by show _ ≤ w.heap.size + 1 + 1; omega) _
  have B1 : (w1.setCell ⟨w.heap.size + 1 + 1, 0, none⟩ (.slice bo kept.length cb)).heap[w.heap.size + 1]? = _ := (Below.heap_setCell _ _ _ _ (by show _ ≠ w.heap.size + 1 + 1; omega)).trans H1.out
  have B2 := row_set (j := 0) (.slice bo kept.length cb) H2.out
  have r1' := r1.keep (Upd.setCell (S := fun k => k = w.heap.size + 1 + 1) w1 _ 0 (.slice bo kept.length cb) rfl) (by intro k hk; omega)
  refine (toSecWriteS_any _ _ wait _ (k2.keep hw1) hw).mono ?_
  rintro e w2 ⟨v2, rfl, r2, b2⟩
  obtain ⟨do', cd, rfl⟩ : ∃ bo cb, v2 = .slice bo wait.length cb := by obtain ⟨bo, cb, h, -⟩ := r2; exact ⟨bo, cb, h⟩
  replace B1 := bKeeps b2 B1
  replace B2 : w2.heap[w.heap.size + 1 + 1]? = some (.cells #[.slice bo kept.length cb, .slice none 0 0] 31 (0, 0)) := bKeeps b2 B2
  obtain ⟨c10, c11, c1l⟩ := box2 B1
  obtain ⟨f10, f11⟩ := box2f B1
  obtain ⟨c20, c21, c2l⟩ := box2 B2
  obtain ⟨f20, f21⟩ := box2f B2
  clear B1 B2 H1 H2
  go_wp2
  have hu : Upd (fun k => k = w.heap.size + 1 ∨ k = w.heap.size + 1 + 1) w2 (((w2.setCell ⟨w.heap.size + 1 + 1, 1, none⟩ (.slice do' wait.length cd)).setCell ⟨w.heap.size + 1, 0, none⟩ (.slice bo kept.length cb)).setCell ⟨w.heap.size + 1, 1, none⟩ (.slice do' wait.length cd)) :=
    ((Upd.setCell _ _ _ _ (.inr rfl)).trans (Upd.setCell _ _ _ _ (.inl rfl))).trans (Upd.setCell _ _ _ _ (.inl rfl))
  simp only [World.size_setCell] at r2
  refine bodyPost_ret (v := .agg #[.slice bo kept.length cb, .slice do' wait.length cd]) (by simp [results, Tryd.results11, go_sem, c10, c11]) rfl ⟨_, rfl, ⟨_, _, rfl, ?_, ?_⟩, ?_⟩
  · exact ((r1'.keepB b2).keep hu (by intro k hk; omega)).mono (fun k _ hk => by omega)
  · exact (r2.keep hu (by intro k hk; omega)).mono (fun k _ hk => by omega)
  · exact (bAll hw1 b2).trans (hu.below (by have := b2.size; simp only [World.size_setCell] at this; omega) (by intro k hk; omega))

end Go.Proofs.YtapflnabiobonaaDoor
