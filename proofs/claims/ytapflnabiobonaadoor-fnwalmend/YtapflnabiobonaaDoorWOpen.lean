/- What the program reads of a log: contracts; no statement of the seat is proved here. -/
import Derived.Test.YtapflnabiobonaaDoorSCut
namespace Go.Proofs.YtapflnabiobonaaDoor
open Go.RowKit

theorem bytes_beq (s t : ByteArray) : (s == t) = decide (s = t) := by
  cases s with | mk a => cases t with | mk b =>
  show (a == b) = _
  by_cases h : a = b
  · subst h; simp
  · simp [h]

/-- The number in a text's first byte. -/
def byte0 (s : ByteArray) : Nat := (s.data[0]?.getD 0).toNat

theorem byte0_eq {s : ByteArray} (h : 0 < s.size) : byte0 s = (s[0]'h).toNat := by
  cases s with | mk a =>
  have h' : 0 < a.size := h
  simp only [byte0, Array.getElem?_eq_getElem h', Option.getD_some]
  rfl

set_option maxHeartbeats 400000 in
theorem signed_any (so no : Option Addr) (sc m nc : Nat) (ss : List ByteArray) (s : ByteArray) (w : World) (hr : RowR w 1 (.slice so ss.length sc) ss.length (ss.map Value.string)) (h0 : ss[0]? = some s) :
    Calls Tryd.prog 44 #[.agg #[.slice so ss.length sc, .slice no m nc]] w fun e w' => e = .returned (.bool (!s.toList.isEmpty)) ∧ Below w.heap.size w w' := by
  have hl : 0 < ss.length := (List.getElem?_eq_some_iff.1 h0).1
  obtain ⟨b, off, cap, u, ev, hb, hu, hcu⟩ := RowR.ptr hr 0 hl
  simp only [Value.slice.injEq, true_and] at ev
  obtain ⟨rfl, rfl⟩ := ev
  obtain rfl : u = .string s := by rw [List.getElem?_map, h0] at hu; simpa using hu.symm
  have al : Below w.heap.size w (w.alloc (.cells #[.slice (some ⟨b, off, none⟩) ss.length sc, .slice no m nc] 69)) := (Below.refl _ _).alloc (Nat.le_refl _) _
  have f1 : (w.alloc (.cells #[.slice (some ⟨b, off, none⟩) ss.length sc, .slice no m nc] 69)).cell? ⟨b, off, none⟩ = some (.string s) := (al.cell (p := ⟨b, off, none⟩) hb).trans (by simpa using hcu)
  have hi : (0 : Int) < (ss.length : Int) := by omega
  clear hu hcu hr
  go_enter Tryd.func44, Tryd.ntmps44
  go_wp2
  go_ret
  exact ⟨rfl, al⟩

theorem toList_len (s : ByteArray) : s.toList.length = s.size := by
  cases s with | mk a =>
  rw [ByteArray.toList_eq]
  simp [ByteArray.size]
theorem size_pos {s : ByteArray} (h : s.toList.isEmpty = false) : 0 < s.size := by
  rcases Nat.eq_zero_or_pos s.size with h0 | h0
  · have : s.toList = [] := by
      apply List.eq_nil_of_length_eq_zero
      have e := toList_len s
      omega
    rw [this] at h
    cases h
  · exact h0

/-- How many sectors of the log a sign speaks of, and what is wrong with it. -/
def comN (s : ByteArray) : Nat := if s.size = 1 ∧ byte0 s ≤ 250 then byte0 s else 0
def comE (s : ByteArray) : Value := if s.size = 0 ∨ (s.size = 1 ∧ byte0 s ≤ 250) then .nilIface else .iface 104 (.agg #[.int .i64 0])

set_option maxRecDepth 10000 in
set_option maxHeartbeats 1000000 in
theorem committed_any (so no : Option Addr) (sc m nc : Nat) (ss : List ByteArray) (s : ByteArray) (w : World) (hr : RowR w 1 (.slice so ss.length sc) ss.length (ss.map Value.string)) (h0 : ss[0]? = some s) (hz : s.size ≤ 9223372036854775807) :
    Calls Tryd.prog 89 #[.agg #[.slice so ss.length sc, .slice no m nc]] w fun e w' =>
      e = .returned (.tuple #[.int .i64 (comN s), comE s]) ∧ Below w.heap.size w w' := by
  have hl : 0 < ss.length := (List.getElem?_eq_some_iff.1 h0).1
  obtain ⟨b, off, cap, u, ev, hb, hu, hcu⟩ := RowR.ptr hr 0 hl
  simp only [Value.slice.injEq, true_and] at ev
  obtain ⟨rfl, rfl⟩ := ev
  obtain rfl : u = .string s := by rw [List.getElem?_map, h0] at hu; simpa using hu.symm
  have al : Below w.heap.size w (w.alloc (.cells #[.slice (some ⟨b, off, none⟩) ss.length sc, .slice no m nc] 69)) := (Below.refl _ _).alloc (Nat.le_refl _) _
  have H1 := hide (al1_0 w (.cells #[.slice (some ⟨b, off, none⟩) ss.length sc, .slice no m nc] 69))
  have Hr := hide (hr.keep al)
  have hi : (0 : Int) < (ss.length : Int) := by omega
  have hcu' : w.cell? ⟨b, off, none⟩ = some (.string s) := by simpa using hcu
  have Hcu := hide hcu'
  clear hu hcu hr hcu'
  go_enter Tryd.func89, Tryd.ntmps89
  go_wp2_with fail
  refine (signed_any _ no sc m nc ss s _ Hr.out h0).mono ?_
  rintro e w1 ⟨rfl, b1⟩
  have c1 := bAll al b1
  obtain ⟨p0, p1, pl⟩ := box2 (bKeeps b1 H1.out)
  have f1 : w1.cell? ⟨b, off, none⟩ = some (.string s) := (c1.cell (p := ⟨b, off, none⟩) hb).trans Hcu.out
  cases he : s.toList.isEmpty
  · have hp := size_pos he
    by_cases h1 : (s.size : Int) > 1
    · have HN : Hid (comN s = 0 ∧ comE s = .iface 104 (.agg #[.int .i64 0])) := by
        constructor
        · simp [comN, show ¬ s.size = 1 by omega]
        · simp [comE, show ¬ s.size = 1 by omega, show ¬ s.size = 0 by omega]
      go_wp2
      go_ret2
      rw [HN.out.1, HN.out.2]
      exact ⟨rfl, c1⟩
    · have h1' : s.size = 1 := by omega
      obtain ⟨y, hy⟩ : ∃ y, (s[0]'hp).toNat = y := ⟨_, rfl⟩
      have hy8 : (y : Int) < 256 := by have := (s[0]'hp).toNat_lt; omega
      have hyb : byte0 s = y := by rw [← hy]; exact byte0_eq hp
      by_cases h2 : (y : Int) ≤ 250
      · have HN : Hid (comN s = y ∧ comE s = .nilIface) := by
          constructor
          · simp only [comN, h1', hyb]; rw [if_pos (by simp; omega)]
          · simp only [comE, h1', hyb]; rw [if_pos (by simp; omega)]
        clear hyb
        go_wp2
        go_ret2
        rw [HN.out.1, HN.out.2]
        exact ⟨rfl, c1⟩
      · have HN : Hid (comN s = 0 ∧ comE s = .iface 104 (.agg #[.int .i64 0])) := by
          constructor
          · simp only [comN, h1', hyb]; rw [if_neg (by simp; omega)]
          · simp only [comE, h1', hyb]; rw [if_neg (by simp; omega)]
        clear hyb
        go_wp2
        go_ret2
        rw [HN.out.1, HN.out.2]
        exact ⟨rfl, c1⟩
  · have h0s : s.size = 0 := by
      have e := toList_len s
      have := List.isEmpty_iff.1 he
      rw [this] at e
      simpa using e.symm
    have HN : Hid (comN s = 0 ∧ comE s = .nilIface) := by
      constructor
      · simp [comN, h0s]
      · simp [comE, h0s]
    go_wp2
    go_ret2
    rw [HN.out.1, HN.out.2]
    exact ⟨rfl, c1⟩

end Go.Proofs.YtapflnabiobonaaDoor
