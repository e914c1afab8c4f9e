/- What the laws' own helpers do with a disk that came in: its size, a copy of it; contracts; no statement of the seat is proved here. -/
import Derived.Test.YtapflnabiobonaaDoorNew
namespace Go.Proofs.YtapflnabiobonaaDoor
open Go.RowKit

/-- How many bytes texts have together. -/
def bytesS (ss : List ByteArray) : Nat := (ss.map (·.size)).sum
def bytesW (xs : List (Int × ByteArray)) : Nat := (xs.map (·.2.size)).sum

theorem bytesS_take (ss : List ByteArray) (k : Nat) (h : k < ss.length) : bytesS (ss.take (k + 1)) = bytesS (ss.take k) + (ss[k]'h).size := by
  rw [List.take_succ_eq_append_getElem h]
  simp only [bytesS, List.map_append, List.sum_append, List.map_cons, List.map_nil, List.sum_cons, List.sum_nil, Nat.add_zero]
theorem bytesW_take (ss : List (Int × ByteArray)) (k : Nat) (h : k < ss.length) : bytesW (ss.take (k + 1)) = bytesW (ss.take k) + (ss[k]'h).2.size := by
  rw [List.take_succ_eq_append_getElem h]
  simp only [bytesW, List.map_append, List.sum_append, List.map_cons, List.map_nil, List.sum_cons, List.sum_nil, Nat.add_zero]

/-- What the measure of a size comes to: below 0, or what is left. -/
def Sized (left r : Int) (t : Nat) : Prop := r < 0 ∨ (r = left - t ∧ 0 ≤ r)

set_option maxHeartbeats 1000000 in
theorem szStringS_any (v : Value) (n : Nat) (ss : List ByteArray) (left : Int) (w : World) (hr : RowR w 1 v n (ss.map Value.string)) (hs : ∀ s ∈ ss, s.size ≤ 9223372036854775807) (h1 : 0 ≤ left) (h2 : left ≤ 1048576) :
    Calls Tryd.prog 23 #[v, .int .i64 left] w fun e w' => ∃ r, e = .returned (.int .i64 r) ∧ Sized left r (n + bytesS ss) ∧ Below w.heap.size w w' := by
  obtain ⟨ao, cap, rfl, hn, hl, hr⟩ := hr
  simp only [List.length_map, Nat.mul_one] at hl
  by_cases hneg : left - n < 0
  · go_enter Tryd.func23, Tryd.ntmps23
    go_wp2
    go_ret
    exact ⟨_, rfl, .inl (by omega), Below.refl _ _⟩
  · have hge : 0 ≤ left - n := by omega
    clear hneg
    have Hl := hide hl
    have Hs := hide hs
    clear hl hs
    go_enter Tryd.func23, Tryd.ntmps23
    go_wp2
    go_loopw [1, 5] (fun lv i wr => ∃ (k : Nat) (m : Int), k ≤ n ∧ 0 ≤ m ∧ m ≤ 1048576 ∧ m = left - (n + bytesS (ss.take k) : Nat) ∧ i = .int .i64 k ∧ lv = .int .i64 m ∧ Below w.heap.size w wr) (fun _ i _ => n - (intOf i).toNat)
    case atStart => exact ⟨0, left - n, Nat.zero_le _, hge, by omega, by simp [bytesS], rfl, rfl, Below.refl _ _⟩
    case round =>
      obtain ⟨k, m, hk, hm0, hm1, hm, rfl, rfl, hbel⟩ := hrel
      have Hm := hide hm
      clear hm
      by_cases hlt : k < n
      · obtain ⟨b1, o1, rfl, hc1⟩ := hr (by omega)
        have hlk : k < ss.length := by have := Hl.out; omega
        obtain ⟨s, hsk⟩ : ∃ s, ss[k]'hlk = s := ⟨_, rfl⟩
        have g1 := hc1 k (.string s) (by simp [hlk, hsk])
        have hsz : s.size ≤ 9223372036854775807 := Hs.out s (by rw [← hsk]; exact List.getElem_mem hlk)
        have hbt := hide (bytesS_take ss k hlk)
        rw [hsk] at hbt
        have f1 : wr.cell? ⟨b1, o1 + k, none⟩ = some (.string s) := (hbel.cell (p := ⟨b1, o1 + k, none⟩) (World.block_lt_of_cell? w _ g1)).trans g1
        have hi : (k : Int) < (n : Int) := by omega
        clear hr hc1 hsk g1
        by_cases hneg : m - s.size < 0
        · go_wp2
          go_ret
          exact ⟨_, rfl, .inl (by omega), hbel⟩
        · have hge2 : 0 ≤ m - s.size := by omega
          clear hneg
          go_wp2
          go_roundw
          case rel => exact ⟨k + 1, m - s.size, by omega, hge2, by omega, by have := hbt.out; have := Hm.out; omega, by go_num, rfl, hbel⟩
          case measure => simp [intOf]; omega
      · go_wp2
        go_ret
        obtain rfl : k = n := by omega
        refine ⟨_, rfl, .inr ⟨?_, hm0⟩, hbel⟩
        have h3 := Hm.out
        rw [List.take_of_length_le (by have := Hl.out; omega)] at h3
        exact h3

set_option maxHeartbeats 400000 in
theorem szSecWrite_any (a : Int) (s : ByteArray) (left : Int) (w : World) (hs : s.size ≤ 9223372036854775807) (h1 : 0 ≤ left) (h2 : left ≤ 1048576) :
    Calls Tryd.prog 66 #[.agg #[.int .i64 a, .string s], .int .i64 left] w fun e w' => ∃ r, e = .returned (.int .i64 r) ∧ Sized left r s.size ∧ Below w.heap.size w w' := by
  by_cases hneg : left - s.size < 0
  · go_enter Tryd.func66, Tryd.ntmps66
    go_wp2
    go_ret
    exact ⟨_, rfl, .inl (by omega), (Below.refl _ _).alloc (Nat.le_refl _) _⟩
  · have hge : 0 ≤ left - s.size := by omega
    clear hneg
    go_enter Tryd.func66, Tryd.ntmps66
    go_wp2
    go_ret
    exact ⟨_, rfl, .inr ⟨by omega, by omega⟩, (Below.refl _ _).alloc (Nat.le_refl _) _⟩

set_option maxHeartbeats 1000000 in
theorem szSecWriteS_any (v : Value) (n : Nat) (ss : List (Int × ByteArray)) (left : Int) (w : World) (hr : RowR w 2 v n (wcells ss)) (hs : ∀ s ∈ ss, s.2.size ≤ 9223372036854775807) (h1 : 0 ≤ left) (h2 : left ≤ 1048576) :
    Calls Tryd.prog 32 #[v, .int .i64 left] w fun e w' => ∃ r, e = .returned (.int .i64 r) ∧ Sized left r (n + bytesW ss) ∧ Below w.heap.size w w' := by
  obtain ⟨ao, cap, rfl, hn, hl, hr⟩ := hr
  rw [wcells_len] at hl
  by_cases hneg : left - n < 0
  · go_enter Tryd.func32, Tryd.ntmps32
    go_wp2
    go_ret
    exact ⟨_, rfl, .inl (by omega), Below.refl _ _⟩
  · have hge : 0 ≤ left - n := by omega
    clear hneg
    have Hl := hide hl
    have Hs := hide hs
    clear hl hs
    go_enter Tryd.func32, Tryd.ntmps32
    go_wp2
    go_loopw [1, 5] (fun lv i wr => ∃ (k : Nat) (m : Int), k ≤ n ∧ 0 ≤ m ∧ m ≤ 1048576 ∧ m = left - (n + bytesW (ss.take k) : Nat) ∧ i = .int .i64 k ∧ lv = .int .i64 m ∧ Below w.heap.size w wr) (fun _ i _ => n - (intOf i).toNat)
    case atStart => exact ⟨0, left - n, Nat.zero_le _, hge, by omega, by simp [bytesW], rfl, rfl, Below.refl _ _⟩
    case round =>
      obtain ⟨k, m, hk, hm0, hm1, hm, rfl, rfl, hbel⟩ := hrel
      have Hm := hide hm
      clear hm
      by_cases hlt : k < n
      · obtain ⟨b1, o1, rfl, hc1⟩ := hr (by omega)
        have hlk : k < ss.length := by have := Hl.out; omega
        obtain ⟨⟨a, s⟩, hsk⟩ : ∃ s, ss[k]'hlk = s := ⟨_, rfl⟩
        obtain ⟨e0, e1⟩ := wcells_at ss k (a, s) (by simp [hlk, hsk])
        have g1 := hc1 _ _ e0
        have g2 := hc1 _ _ e1
        have l1 : b1 < w.heap.size := World.block_lt_of_cell? w _ g1
        have hsz : s.size ≤ 9223372036854775807 := Hs.out (a, s) (by rw [← hsk]; exact List.getElem_mem hlk)
        have hbt := hide (bytesW_take ss k hlk)
        rw [hsk] at hbt
        have f1 : wr.cell? ⟨b1, o1 + k * 2, none⟩ = some (.int .i64 a) := by rw [Nat.mul_comm k 2]; exact (hbel.cell (p := ⟨b1, o1 + 2 * k, none⟩) l1).trans g1
        have f2 : wr.cell? ⟨b1, o1 + k * 2 + 1, none⟩ = some (.string s) := by rw [Nat.mul_comm k 2]; exact (hbel.cell (p := ⟨b1, o1 + (2 * k + 1), none⟩) l1).trans g2
        have hi : (k : Int) < (n : Int) := by omega
        clear hr hc1 hsk g1 g2 e0 e1
        go_wp2_with fail
        refine (szSecWrite_any a s m _ hsz hm0 hm1).mono ?_
        rintro e w1 ⟨r, rfl, hz, hb1⟩
        rcases hz with hneg | ⟨hr, hge2⟩
        · go_wp2
          go_ret
          exact ⟨_, rfl, .inl (by omega), bAll hbel hb1⟩
        · have Hr := hide hr
          have hr2 : r ≤ 1048576 := by omega
          clear hr
          go_wp2
          go_roundw
          case rel => exact ⟨k + 1, r, by omega, hge2, hr2, by have := hbt.out; have := Hm.out; have := Hr.out; omega, by go_num, rfl, bAll hbel hb1⟩
          case measure => simp [intOf]; omega
      · go_wp2
        go_ret
        obtain rfl : k = n := by omega
        refine ⟨_, rfl, .inr ⟨?_, hm0⟩, hbel⟩
        have h3 := Hm.out
        rw [List.take_of_length_le (by have := Hl.out; omega)] at h3
        exact h3

set_option maxHeartbeats 400000 in
theorem szSecDisk_any (v : Value) (kept : List ByteArray) (wait : List (Int × ByteArray)) (w : World) (hr : DiskR w v kept wait) (hs : ∀ s ∈ kept, s.size ≤ 9223372036854775807) (hs' : ∀ s ∈ wait, s.2.size ≤ 9223372036854775807) :
    Calls Tryd.prog 9 #[v, .int .i64 1048576] w fun e w' => ∃ r, e = .returned (.int .i64 r) ∧ Sized 1048576 r (kept.length + bytesS kept + (wait.length + bytesW wait)) ∧ Below w.heap.size w w' := by
  obtain ⟨ak, aw, rfl, a1, a2⟩ := hr
  have hal : Below w.heap.size w (w.alloc (.cells #[ak, aw] 25)) := (Below.refl _ _).alloc (Nat.le_refl _) _
  have k1 := a1.keep hal
  have k2 := a2.keep hal
  obtain ⟨ao, ca, rfl, -⟩ := a1
  obtain ⟨ao2, ca2, rfl, -⟩ := a2
  go_enter Tryd.func9, Tryd.ntmps9
  go_wp2_with fail
  refine (szStringS_any _ _ kept _ _ k1 hs (by omega) (by omega)).mono ?_
  rintro e w1 ⟨r, rfl, hz, b1⟩
  rcases hz with hneg | ⟨hr1, hr2⟩
  · go_wp2
    go_ret
    exact ⟨_, rfl, .inl (by omega), bAll hal b1⟩
  · have q2 := k2.keep b1
    have hc1 : w1.cell? ⟨w.heap.size, 1, none⟩ = some (.slice ao2 wait.length ca2) := (b1.cell (p := ⟨w.heap.size, 1, none⟩) (by simp)).trans (by simp)
    have Hr1 := hide hr1
    have hr3 : r ≤ 1048576 := by omega
    clear hr1
    go_wp2_with fail
    refine (szSecWriteS_any _ _ wait _ _ q2 hs' hr2 hr3).mono ?_
    rintro e w2 ⟨r2, rfl, hz2, b2⟩
    rcases hz2 with hneg | ⟨hr4, hr5⟩
    · go_wp2
      go_ret
      exact ⟨_, rfl, .inl (by omega), bAll (bAll hal b1) b2⟩
    · have Hr4 := hide hr4
      clear hr4
      go_wp2
      go_ret
      exact ⟨_, rfl, .inr ⟨by have := Hr4.out; have := Hr1.out; omega, hr5⟩, bAll (bAll hal b1) b2⟩

end Go.Proofs.YtapflnabiobonaaDoor
