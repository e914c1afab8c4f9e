/- The specification's reader of bytes: how it is opened, texts that are drawn; contracts; no statement of the seat is proved here. -/
import Derived.Test.YtapflnabiobonaaDoorRd
namespace Go.Proofs.YtapflnabiobonaaDoor
open Go.RowKit

/-- Bytes that came in. -/
structure BytesIn (w : World) (bo : Option Addr) (n cap : Nat) (bs : List Nat) : Prop where
  reads : RowR w 1 (.slice bo n cap) n (bs.map fun b : Nat => Value.int .u8 (b : Int))
  small : ∀ b ∈ bs, b < 256
  room : n ≤ cap

theorem BytesIn.keep {w w' : World} {bo : Option Addr} {n cap : Nat} {bs : List Nat} (h : BytesIn w bo n cap bs) (hb : Below w.heap.size w w') : BytesIn w' bo n cap bs := ⟨h.reads.keep hb, h.small, h.room⟩

set_option maxHeartbeats 1000000 in
theorem l6Open_any (w : World) (bo : Option Addr) (n cap : Nat) (bs : List Nat) (h : BytesIn w bo n cap bs) (hn : n ≤ 1048576) :
    Calls Tryd.prog 52 #[.slice bo n cap] w fun e w' => e = .returned (.pointer (some ⟨w.heap.size, 0, none⟩)) ∧ Rd w w' w.heap.size 0 ∧ Below w.heap.size w w' := by
  obtain ⟨h1, h2, h3⟩ := h
  have hal := fun o : Obj => (Below.refl w.heap.size w).alloc (Nat.le_refl _) o
  by_cases hbig : (n : Int) > 2000
  · have hR : RowR w 1 (.slice bo 2000 cap) 2000 ((bs.take 2000).map fun b : Nat => Value.int .u8 (b : Int)) := by
      obtain ⟨ao, cap', e, _, hl, h⟩ := h1
      simp only [Value.slice.injEq, true_and] at e
      obtain ⟨rfl, rfl⟩ := e
      refine ⟨bo, cap, rfl, by omega, by simp at hl ⊢; omega, fun _ => ?_⟩
      obtain ⟨b, off, rfl, hc⟩ := h (by omega)
      refine ⟨b, off, rfl, fun j u hj => hc j u ?_⟩
      have hj' := (List.getElem?_eq_some_iff.1 hj).1
      simp at hj'
      rw [List.getElem?_map, List.getElem?_take_of_lt (by omega)] at hj
      rw [List.getElem?_map]
      exact hj
    have hS : Hid (∀ b ∈ bs.take 2000, b < 256) := fun b hb => h2 b (List.mem_of_mem_take hb)
    obtain ⟨b, off, rfl⟩ : ∃ b off, bo = some ⟨b, off, none⟩ := by
      obtain ⟨ao, cap', e, _, hl, h⟩ := h1
      simp only [Value.slice.injEq, true_and] at e
      obtain ⟨rfl, rfl⟩ := e
      obtain ⟨b, off, rfl, _⟩ := h (by omega)
      exact ⟨b, off, rfl⟩
    have HRR := hide hR
    clear hR h1 h2
    have hc : (2000 : Int) ≤ (cap : Int) := by omega
    go_enter Tryd.func52, Tryd.ntmps52
    go_wp2
    go_ret
    exact ⟨rfl, ⟨_, 2000, cap, bs.take 2000, by omega, HRR.out, hS.out, al1_0 w _, Nat.le_refl _, hal _⟩, hal _⟩
  · have H1 := hide h1
    have H2 := hide h2
    clear h1 h2
    go_enter Tryd.func52, Tryd.ntmps52
    go_wp2
    go_ret
    exact ⟨rfl, ⟨_, n, cap, bs, by omega, H1.out, H2.out, al1_0 w _, Nat.le_refl _, hal _⟩, hal _⟩

set_option maxHeartbeats 1000000 in
theorem l6Many_any (s : ByteArray) (k B : Nat) (w : World) (hk : k ≤ 1000000) (hB : s.size * k ≤ B) (hB' : B ≤ 1000000) :
    Calls Tryd.prog 56 #[.string s, .int .i64 k] w fun e w' => ∃ t, e = .returned (.string t) ∧ t.size ≤ B ∧ w' = w := by
  go_enter Tryd.func56, Tryd.ntmps56
  go_wp2
  go_loopw [0, 1, 5] (fun sv kv ov wr => ∃ (t o : ByteArray) (j : Nat), sv = .string t ∧ kv = .int .i64 j ∧ ov = .string o ∧ o.size + t.size * j ≤ B ∧ j ≤ 1000000 ∧ wr = w) (fun _ kv _ _ => (intOf kv).toNat)
  case atStart => exact ⟨s, ⟨#[]⟩, k, rfl, rfl, rfl, by show 0 + _ ≤ _; omega, hk, rfl⟩
  case round =>
    obtain ⟨t, o, j, rfl, rfl, rfl, hle, hj, rfl⟩ := hrel
    by_cases hp : 0 < j
    · have ht : t.size ≤ B := by
        have : t.size * 1 ≤ t.size * j := Nat.mul_le_mul_left _ hp
        omega
      have ho : o.size ≤ B := by omega
      obtain ⟨i, hi⟩ : ∃ i, j = 2 * i ∨ j = 2 * i + 1 := ⟨j / 2, by omega⟩
      have hX : t.size * (2 * i) = 2 * (t.size * i) := Nat.mul_left_comm _ _ _
      have hX1 : t.size * (2 * i + 1) = 2 * (t.size * i) + t.size := by rw [Nat.mul_add, hX]; omega
      have hY : (t.size + t.size) * i = 2 * (t.size * i) := by rw [Nat.add_mul]; omega
      have hdiv : j / 2 = i := by omega
      rcases hi with rfl | rfl
      · have hodd : (((2 * i : Nat) : Int) % 2 == 1) = false := by simp
        have Hle := hide hle
        have HXs := hide (And.intro hX hY)
        clear hle hX hX1 hY
        go_wp2
        all_goals
          go_roundw
          case rel => exact ⟨_, o, i, rfl, by go_num, rfl, by have := HXs.out; have := Hle.out; simp only [ByteArray.size_append]; omega, by omega, by first | rfl | trivial⟩
          case measure => simp [intOf]; omega
      · have hodd : (((2 * i + 1 : Nat) : Int) % 2 == 1) = true := by simp
        have Hle := hide hle
        have HXs := hide (And.intro hX1 hY)
        clear hle hX hX1 hY
        go_wp2
        all_goals
          go_roundw
          case rel => exact ⟨_, _, i, rfl, by go_num, rfl, by have := HXs.out; have := Hle.out; simp only [ByteArray.size_append]; omega, by omega, by first | rfl | trivial⟩
          case measure => simp [intOf]; omega
    · go_wp2
      go_ret
      obtain rfl : j = 0 := by omega
      exact ⟨o, rfl, by omega, rfl⟩

set_option maxHeartbeats 1000000 in
theorem of_any (w0 w : World) (R p g c : Nat) (hr : Rd w0 w R p) (hp : p ≤ 1073741824) (hg : g ≠ R) (hc : ∀ j, j < 4 → ∃ s : ByteArray, s.size ≤ 1 ∧ w.cell? ⟨g, j, none⟩ = some (.string s)) :
    Calls Tryd.prog 80 #[.pointer (some ⟨R, 0, none⟩), .slice (some ⟨g, 0, none⟩) 4 c] w fun e w' => ∃ s : ByteArray, e = .returned (.string s) ∧ s.size ≤ 1 ∧ Rd w0 w' R (p + 1) ∧ Upd (fun j => j = R) w w' := by
  have Hc := hide hc
  clear hc
  go_enter Tryd.func80, Tryd.ntmps80
  go_wp2_with fail
  refine (pick_any w0 w R p 4 hr (by omega) (by omega) hp).mono ?_
  rintro e w1 ⟨q, rfl, hq, hr1, hu1⟩
  obtain ⟨s, hs, hcs⟩ := Hc.out q hq
  have f1 : w1.cell? ⟨g, q, none⟩ = some (.string s) := (World.cell?_of_block (a := ⟨g, q, none⟩) (hu1.block g (World.block_lt_of_cell? w _ hcs) hg)).trans hcs
  have hq' : (q : Int) < 4 := by omega
  go_wp2
  go_ret
  exact ⟨s, rfl, hs, hr1, hu1⟩

theorem four_cells (w : World) (a b c d : ByteArray) (t : TypeId) (ha : a.size ≤ 1) (hb : b.size ≤ 1) (hc : c.size ≤ 1) (hd : d.size ≤ 1) :
    ∀ j, j < 4 → ∃ s : ByteArray, s.size ≤ 1 ∧ (w.alloc (.cells #[.string a, .string b, .string c, .string d] t)).cell? ⟨w.heap.size, j, none⟩ = some (.string s) := by
  intro j hj
  have h := fun j => cell_of_row _ w.heap.size j _ _ (0, 0) (al1_0 w (.cells #[.string a, .string b, .string c, .string d] t))
  rcases (by omega : j = 0 ∨ j = 1 ∨ j = 2 ∨ j = 3) with rfl | rfl | rfl | rfl
  · exact ⟨a, ha, (h 0).trans rfl⟩
  · exact ⟨b, hb, (h 1).trans rfl⟩
  · exact ⟨c, hc, (h 2).trans rfl⟩
  · exact ⟨d, hd, (h 3).trans rfl⟩

set_option maxRecDepth 10000 in
set_option maxHeartbeats 1000000 in
theorem l72Text_any (w0 w : World) (R p m : Nat) (hr : Rd w0 w R p) (hp : p ≤ 1000000) (hm : m ≤ 100) :
    Calls Tryd.prog 82 #[.pointer (some ⟨R, 0, none⟩), .int .i64 m] w fun e w' => ∃ s : ByteArray, e = .returned (.string s) ∧ s.size ≤ 1000 ∧ Rd w0 w' R (p + 3) ∧ Upd (fun j => j = R) w w' := by
  have hRl : R < w.heap.size := by obtain ⟨_, _, _, _, _, _, _, h, _⟩ := hr; exact heap_lt h
  have al1 : Below w.heap.size w (w.alloc (.cells #[.string ⟨#[97]⟩, .string ⟨#[98]⟩, .string ⟨#[0]⟩, .string ⟨#[122]⟩] 9)) := (Below.refl _ _).alloc (Nat.le_refl _) _
  have hr1 := hr.keepB al1
  have H4 := hide (four_cells w ⟨#[97]⟩ ⟨#[98]⟩ ⟨#[0]⟩ ⟨#[122]⟩ 9 (by decide) (by decide) (by decide) (by decide))
  go_enter Tryd.func82, Tryd.ntmps82
  go_wp2_with fail
  refine (of_any w0 _ R p w.heap.size _ hr1 (by omega) (by omega) H4.out).mono ?_
  rintro e w1 ⟨t, rfl, ht, hr2, hu1⟩
  go_wp2_with fail
  refine (pick_any w0 w1 R (p + 1) 4 hr2 (by omega) (by omega) (by omega)).mono ?_
  rintro e w2 ⟨q1, rfl, hq1, hr3, hu2⟩
  go_wp2_with fail
  have hk : ((m : Int) / 3 + 1) = ((m / 3 + 1 : Nat) : Int) := by simp
  rw [hk]
  clear hk
  refine (pick_any w0 w2 R (p + 1 + 1) (m / 3 + 1) hr3 (by omega) (by omega) (by omega)).mono ?_
  rintro e w3 ⟨q2, rfl, hq2, hr4, hu3⟩
  obtain ⟨Q, hQ⟩ : ∃ Q, q1 * q2 = Q := ⟨_, rfl⟩
  have hQb : Q ≤ 3 * 100 := by rw [← hQ]; exact Nat.mul_le_mul (by omega) (by omega)
  have hQi : (q1 : Int) * (q2 : Int) = (Q : Int) := by rw [← hQ]; exact (Int.natCast_mul q1 q2).symm
  have hb : t.size * Q ≤ 300 := by
    have h : t.size * Q ≤ 1 * 300 := Nat.mul_le_mul ht hQb
    omega
  have Hb := hide hb
  clear hQ hb
  go_wp2_with fail
  refine (l6Many_any t Q 300 w3 (by omega) Hb.out (by omega)).mono ?_
  rintro e w4 ⟨s, rfl, hs, rfl⟩
  go_wp2
  go_ret
  exact ⟨s, rfl, by omega, hr4, (Upd.ofBelow al1).trans (hu1.trans (hu2.trans hu3))⟩

end Go.Proofs.YtapflnabiobonaaDoor
