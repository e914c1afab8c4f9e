/- What the program reads of a sector of the log: contracts; no statement of the seat is proved here. -/
import Derived.Test.YtapflnabiobonaaDoorWOpen
namespace Go.Proofs.YtapflnabiobonaaDoor
open Go.RowKit

/-- Whether a sector of the log can be read; which home; its text. -/
def noteB (s : ByteArray) : Bool := decide (0 < s.size ∧ byte0 s < 250)
def rest1 (s : ByteArray) : ByteArray := s.extract 1 s.size
def noteH (s : ByteArray) : Nat := if noteB s = true then byte0 s else 0
def noteT (s : ByteArray) : ByteArray := if noteB s = true then rest1 s else ⟨#[]⟩
def noteE (at_ : Nat) (s : ByteArray) : Value := if noteB s = true then .nilIface else .iface 104 (.agg #[.int .i64 (at_ : Nat)])

theorem note_no {s : ByteArray} (i : Nat) (h : ¬ (0 < s.size ∧ byte0 s < 250)) : noteH s = 0 ∧ noteT s = ⟨#[]⟩ ∧ noteE i s = .iface 104 (.agg #[.int .i64 (i : Nat)]) := by
  have h' : noteB s = false := by simp only [noteB, decide_eq_false_iff_not]; exact h
  simp [noteH, noteT, noteE, h']
theorem note_yes {s : ByteArray} (i : Nat) (h : 0 < s.size ∧ byte0 s < 250) : noteH s = byte0 s ∧ noteT s = rest1 s ∧ noteE i s = .nilIface := by
  have h' : noteB s = true := by simp only [noteB, decide_eq_true_eq]; exact h
  simp [noteH, noteT, noteE, h']

set_option maxRecDepth 10000 in
set_option maxHeartbeats 1000000 in
theorem note_any (so no : Option Addr) (sc m nc i : Nat) (ss : List ByteArray) (s : ByteArray) (w : World) (hr : RowR w 1 (.slice so ss.length sc) ss.length (ss.map Value.string)) (h0 : ss[i]? = some s) (hz : s.size ≤ 9223372036854775807) :
    Calls Tryd.prog 90 #[.agg #[.slice so ss.length sc, .slice no m nc], .int .i64 (i : Nat)] w fun e w' =>
      e = .returned (.tuple #[.agg #[.int .i64 (noteH s : Nat), .string (noteT s)], noteE i s]) ∧ Below w.heap.size w w' := by
  have hl : i < ss.length := (List.getElem?_eq_some_iff.1 h0).1
  have hln : ss.length ≤ 9223372036854775807 := by obtain ⟨_, _, _, h, _⟩ := hr; exact h
  obtain ⟨b, off, cap, u, ev, hb, hu, hcu⟩ := RowR.ptr hr i hl
  simp only [Value.slice.injEq, true_and] at ev
  obtain ⟨rfl, rfl⟩ := ev
  obtain rfl : u = .string s := by rw [List.getElem?_map, h0] at hu; simpa using hu.symm
  have al1 : Below w.heap.size w (w.alloc (.cells #[.slice (some ⟨b, off, none⟩) ss.length sc, .slice no m nc] 69)) := (Below.refl _ _).alloc (Nat.le_refl _) _
  have fin : ∀ o : Obj, Below w.heap.size w ((w.alloc (.cells #[.slice (some ⟨b, off, none⟩) ss.length sc, .slice no m nc] 69)).alloc o) := fun o => al1.alloc (by simp) o
  have f1 : ((w.alloc (.cells #[.slice (some ⟨b, off, none⟩) ss.length sc, .slice no m nc] 69)).alloc (.cells #[.int .i64 0, .string ⟨#[]⟩] 109)).cell? ⟨b, off + i, none⟩ = some (.string s) := ((fin _).cell (p := ⟨b, off + i, none⟩) hb).trans hcu
  have hi : (i : Int) < (ss.length : Int) := by omega
  clear hu hr
  cases he : s.toList.isEmpty
  · have hp := size_pos he
    obtain ⟨y, hy⟩ : ∃ y, (s[0]'hp).toNat = y := ⟨_, rfl⟩
    have hy8 : (y : Int) < 256 := by have := (s[0]'hp).toNat_lt; omega
    have hyb : byte0 s = y := by rw [← hy]; exact byte0_eq hp
    by_cases h2 : (y : Int) ≥ 250
    · have HN := hide (note_no (s := s) i (by rw [hyb]; omega))
      clear hyb
      go_enter Tryd.func90, Tryd.ntmps90
      go_wp2
      refine bodyPost_ret (v := .tuple #[.agg #[.int .i64 0, .string ⟨#[]⟩], .iface 104 (.agg #[.int .i64 (i : Nat)])]) (by simp [results, Tryd.results90, go_sem]) rfl ⟨?_, fin _⟩
      rw [HN.out.1, HN.out.2.1, HN.out.2.2]
      rfl
    · have HN := hide (note_yes (s := s) i (by rw [hyb]; omega))
      have HY := hide hyb
      clear hyb
      go_enter Tryd.func90, Tryd.ntmps90
      have h1s : (1 : Int) ≤ (s.size : Int) := by omega
      go_wp2
      go_region
      all_goals
        try go_wp2
        refine bodyPost_ret (v := .tuple #[.agg #[.int .i64 (y : Nat), .string (rest1 s)], .nilIface]) (by simp [results, Tryd.results90, go_sem, rest1]) rfl ⟨?_, (fin _).drew⟩
        rw [HN.out.1, HN.out.2.1, HN.out.2.2, HY.out]
  · have h0s : s.size = 0 := by
      have e := toList_len s
      have := List.isEmpty_iff.1 he
      rw [this] at e
      simpa using e.symm
    have HN := hide (note_no (s := s) i (by omega))
    clear h0s
    go_enter Tryd.func90, Tryd.ntmps90
    go_wp2
    refine bodyPost_ret (v := .tuple #[.agg #[.int .i64 0, .string ⟨#[]⟩], .iface 104 (.agg #[.int .i64 (i : Nat)])]) (by simp [results, Tryd.results90, go_sem]) rfl ⟨?_, fin _⟩
    rw [HN.out.1, HN.out.2.1, HN.out.2.2]
    rfl

end Go.Proofs.YtapflnabiobonaaDoor
