/- What the specification reads of homes: contracts; no statement of the seat is proved here. -/
import Derived.Test.YtapflnabiobonaaDoorSLog
namespace Go.Proofs.YtapflnabiobonaaDoor
open Go.RowKit

/-- Whether a disk is one with transactions. -/
def formB (kept : List ByteArray) (wait : List (Int × ByteArray)) : Bool := okB kept wait && decide (kept.length = 501)

set_option maxRecDepth 10000 in
set_option maxHeartbeats 1000000 in
theorem l2Form_any (v : Value) (kept : List ByteArray) (wait : List (Int × ByteArray)) (w : World) (hr : DiskR w v kept wait) (hs : ∀ s ∈ kept, s.size ≤ 9223372036854775807) (hs' : ∀ s ∈ wait, s.2.size ≤ 9223372036854775807) :
    Calls Tryd.prog 33 #[v] w fun e w' => e = .returned (.bool (formB kept wait)) ∧ Below w.heap.size w w' := by
  have Hr := hide hr
  obtain ⟨ak, aw, rfl, ⟨ao, ca, rfl, -⟩, ⟨bo, cb, rfl, -⟩⟩ := hr
  have hal : Below w.heap.size w (w.alloc (.cells #[.slice ao kept.length ca, .slice bo wait.length cb] 31)) := (Below.refl _ _).alloc (Nat.le_refl _) _
  have H0 := hide (al1_0 w (.cells #[.slice ao kept.length ca, .slice bo wait.length cb] 31))
  go_enter Tryd.func33, Tryd.ntmps33
  go_wp2_with fail
  refine (specSecOk_any _ kept wait _ (Hr.out.keep hal) hs hs').mono ?_
  rintro e w1 ⟨rfl, b1⟩
  have c1 := bAll hal b1
  obtain ⟨p0, p1, pl⟩ := box2 (bKeeps b1 H0.out)
  cases hok : okB kept wait
  · have HF : Hid (formB kept wait = false) := by show _ = _; simp [formB, hok]
    go_wp2
    go_ret
    rw [HF.out]
    exact ⟨rfl, c1⟩
  · by_cases h5 : kept.length = 501
    · have HF : Hid (formB kept wait = true) := by show _ = _; simp [formB, hok, h5]
      have h5' : ((kept.length : Int) == 501) = true := by simp [h5]
      go_wp2
      go_ret
      rw [HF.out]
      exact ⟨rfl, c1⟩
    · have HF : Hid (formB kept wait = false) := by show _ = _; simp [formB, h5]
      have h5' : ((kept.length : Int) == 501) = false := by simp only [beq_eq_false_iff_ne, ne_eq]; omega
      go_wp2
      go_ret
      rw [HF.out]
      exact ⟨rfl, c1⟩

theorem l2Home_any (a : Int) (w : World) (h0 : 0 ≤ a) (h1 : a ≤ 1000) : Calls Tryd.prog 36 #[.int .i64 a] w fun e w' => e = .returned (.int .i64 (251 + a)) ∧ w' = w := by
  go_enter Tryd.func36, Tryd.ntmps36
  go_wp2
  go_ret
  exact ⟨by first | rfl | (simp; omega), rfl⟩

end Go.Proofs.YtapflnabiobonaaDoor
