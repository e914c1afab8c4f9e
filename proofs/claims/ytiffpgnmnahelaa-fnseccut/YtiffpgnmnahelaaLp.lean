/- Whether two disks are said to be the same by the laws: contracts; no statement of the seat is proved here. -/
import Derived.Test.YtiffpgnmnahelaaH5
namespace Go.Proofs.Ytiffpgnmnahelaa
open Go.RowKit

set_option maxHeartbeats 400000 in
theorem lpTexts_true (va vb : Value) (n : Nat) (ss : List ByteArray) (w : World) (ha : RowR w 1 va n (ss.map Value.string)) (hb : RowR w 1 vb n (ss.map Value.string)) :
    Calls Try.prog 33 #[va, vb] w fun e w' => e = .returned (.bool true) ∧ Below w.heap.size w w' := by
  obtain ⟨ao, ca, rfl, hn, hl, ha⟩ := ha
  obtain ⟨bo, cb, rfl, _, _, hb⟩ := hb
  go_enter Try.func33, Try.ntmps33
  go_wp2
  go_loopw [5] (fun i wr => ∃ k : Nat, k ≤ n ∧ i = .int .i64 k ∧ Below w.heap.size w wr) (fun i _ => n - (intOf i).toNat)
  case atStart => exact ⟨0, Nat.zero_le _, rfl, Below.refl _ _⟩
  case round =>
    obtain ⟨k, hk, rfl, hbel⟩ := hrel
    by_cases hlt : k < n
    · obtain ⟨b1, o1, rfl, hc1⟩ := ha (by omega)
      obtain ⟨b2, o2, rfl, hc2⟩ := hb (by omega)
      obtain ⟨s, hs⟩ : ∃ s, (ss.map Value.string)[k]? = some (.string s) := by
        simp only [List.length_map, Nat.mul_one] at hl
        exact ⟨ss[k]'(by omega), by simp [show k < ss.length by omega]⟩
      have g1 := hc1 k _ hs
      have g2 := hc2 k _ hs
      have f1 : wr.cell? ⟨b1, o1 + k, none⟩ = some (.string s) := (hbel.cell (p := ⟨b1, o1 + k, none⟩) (World.block_lt_of_cell? w _ g1)).trans g1
      have f2 : wr.cell? ⟨b2, o2 + k, none⟩ = some (.string s) := (hbel.cell (p := ⟨b2, o2 + k, none⟩) (World.block_lt_of_cell? w _ g2)).trans g2
      have hi : (k : Int) < (n : Int) := by omega
      clear ha hb hc1 hc2 hs g1 g2 hl
      go_wp2
      go_quiet (fail)
      go_wp2
      go_roundw
      case rel => exact ⟨k + 1, by omega, by go_num, below_drewN hbel _⟩
      case measure => simp [intOf]; omega
    · go_wp2
      go_ret
      exact ⟨rfl, hbel⟩


set_option maxRecDepth 100000 in
set_option maxHeartbeats 1000000 in
theorem lpSec_true (va vb : Value) (kept : List ByteArray) (wait : List (Int × ByteArray)) (w : World) (ha : DiskR w va kept wait) (hb : DiskR w vb kept wait) :
    Calls Try.prog 12 #[va, vb] w fun e w' => e = .returned (.bool true) ∧ Below w.heap.size w w' := by
  obtain ⟨ak, aw, rfl, a1, a2⟩ := ha
  obtain ⟨bk, bw, rfl, b1, b2⟩ := hb
  obtain ⟨ao, ca, rfl⟩ : ∃ ao ca, ak = .slice ao kept.length ca := by obtain ⟨ao, ca, h, -⟩ := a1; exact ⟨ao, ca, h⟩
  obtain ⟨ao', ca', rfl⟩ : ∃ ao ca, aw = .slice ao wait.length ca := by obtain ⟨ao, ca, h, -⟩ := a2; exact ⟨ao, ca, h⟩
  obtain ⟨bo, cb, rfl⟩ : ∃ ao ca, bk = .slice ao kept.length ca := by obtain ⟨ao, ca, h, -⟩ := b1; exact ⟨ao, ca, h⟩
  obtain ⟨bo', cb', rfl⟩ : ∃ ao ca, bw = .slice ao wait.length ca := by obtain ⟨ao, ca, h, -⟩ := b2; exact ⟨ao, ca, h⟩
  have hal : Below w.heap.size w ((w.alloc (.cells #[.slice ao kept.length ca, .slice ao' wait.length ca'] 26)).alloc (.cells #[.slice bo kept.length cb, .slice bo' wait.length cb'] 26)) := ((Below.refl _ _).alloc (Nat.le_refl _) _).alloc (by simp) _
  have H0 := hide (al2_0 w (.cells #[.slice ao kept.length ca, .slice ao' wait.length ca'] 26) (.cells #[.slice bo kept.length cb, .slice bo' wait.length cb'] 26))
  have H1 := hide (al2_1 w (.cells #[.slice ao kept.length ca, .slice ao' wait.length ca'] 26) (.cells #[.slice bo kept.length cb, .slice bo' wait.length cb'] 26))
  have A1 := hide (a1.keep hal)
  have B1 := hide (b1.keep hal)
  obtain ⟨_, _, ea, hn, hl, a2⟩ := a2
  simp only [Value.slice.injEq, true_and] at ea
  obtain ⟨rfl, rfl⟩ := ea
  obtain ⟨_, _, eb, _, _, b2⟩ := b2
  simp only [Value.slice.injEq, true_and] at eb
  obtain ⟨rfl, rfl⟩ := eb
  have A2 := hide a2
  have B2 := hide b2
  clear a1 b1 a2 b2 hl
  go_enter Try.func12, Try.ntmps12
  go_wp2_with fail
  refine (lpTexts_true _ _ kept.length kept _ A1.out B1.out).mono ?_
  rintro e w1 ⟨rfl, bt⟩
  have c1 := bAll hal bt
  replace H0 := hide (bKeeps bt H0.out)
  replace H1 := hide (bKeeps bt H1.out)
  clear bt
  obtain ⟨p0, p1, pl⟩ := box2 H0.out
  obtain ⟨q0, q1, ql⟩ := box2 H1.out
  go_wp2
  clear p0 p1 pl q0 q1 ql
  go_loopw [5] (fun i wr => ∃ k : Nat, k ≤ wait.length ∧ i = .int .i64 k ∧ Below w.heap.size w wr ∧ wr.heap[w.heap.size]? = some (.cells #[.slice ao kept.length ca, .slice ao' wait.length ca'] 26 (0, 0)) ∧ wr.heap[w.heap.size + 1]? = some (.cells #[.slice bo kept.length cb, .slice bo' wait.length cb'] 26 (0, 0))) (fun i _ => wait.length - (intOf i).toNat)
  case atStart => exact ⟨0, Nat.zero_le _, rfl, c1, H0.out, H1.out⟩
  case round =>
    obtain ⟨k, hk, rfl, hbel, C0, C1⟩ := hrel
    obtain ⟨p0, p1, pl⟩ := box2 C0
    obtain ⟨q0, q1, ql⟩ := box2 C1
    have G0 := hide C0
    have G1 := hide C1
    clear C0 C1
    by_cases hlt : k < wait.length
    · obtain ⟨b1, o1, rfl, hc1⟩ := A2.out (by omega)
      obtain ⟨b2, o2, rfl, hc2⟩ := B2.out (by omega)
      obtain ⟨⟨a, s⟩, hx⟩ := getAt wait k hlt
      obtain ⟨e0, e1⟩ := wcells_at wait k (a, s) hx
      have g1 := hc1 _ _ e0
      have g2 := hc1 _ _ e1
      have g3 := hc2 _ _ e0
      have g4 := hc2 _ _ e1
      have l1 : b1 < w.heap.size := World.block_lt_of_cell? w _ g1
      have l2 : b2 < w.heap.size := World.block_lt_of_cell? w _ g3
      have f1 : wr.cell? ⟨b1, o1 + k * 2, none⟩ = some (.int .i64 a) := by rw [Nat.mul_comm k 2]; exact (hbel.cell (p := ⟨b1, o1 + 2 * k, none⟩) l1).trans g1
      have f2 : wr.cell? ⟨b1, o1 + k * 2 + 1, none⟩ = some (.string s) := by rw [Nat.mul_comm k 2]; exact (hbel.cell (p := ⟨b1, o1 + (2 * k + 1), none⟩) l1).trans g2
      have f3 : wr.cell? ⟨b2, o2 + k * 2, none⟩ = some (.int .i64 a) := by rw [Nat.mul_comm k 2]; exact (hbel.cell (p := ⟨b2, o2 + 2 * k, none⟩) l2).trans g3
      have f4 : wr.cell? ⟨b2, o2 + k * 2 + 1, none⟩ = some (.string s) := by rw [Nat.mul_comm k 2]; exact (hbel.cell (p := ⟨b2, o2 + (2 * k + 1), none⟩) l2).trans g4
      have hi : (k : Int) < (wait.length : Int) := by omega
      clear hc1 hc2 hx g1 g2 g3 g4 e0 e1
      go_wp2
      go_quiet (fail)
      go_wp2
      go_roundw
      case rel => exact ⟨k + 1, by omega, by go_num, below_drewN hbel _, by simpa using G0.out, by simpa using G1.out⟩
      case measure => simp [intOf]; omega
    · go_wp2
      go_ret
      exact ⟨rfl, hbel⟩

end Go.Proofs.Ytiffpgnmnahelaa
