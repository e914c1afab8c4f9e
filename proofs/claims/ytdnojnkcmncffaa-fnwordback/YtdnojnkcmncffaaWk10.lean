/- Contracts and plain facts that this claim leans on (texts BT2); no statement of the seat is proved here. -/
import Derived.Test.YtdnojnkcmncffaaWk7

/- What the program's orders of last calls do: contracts; no statement of the seat is proved here. -/
namespace Go.Proofs.Ytdnojnkcmncffaa
open Go.RowKit

set_option maxHeartbeats 1000000 in
theorem lastFits_any (x : Lc) (w : World) :
    Calls Try.prog 113 #[.agg #[.int .i64 x.1, .int .i64 x.2]] w fun e w' => e = .returned (.bool (fitL x)) ∧ Below w.heap.size w w' := by
  obtain ⟨d, b⟩ := x
  have hal : ∀ o, Below w.heap.size w (w.alloc o) := fun o => (Below.refl _ _).alloc (Nat.le_refl _) _
  obtain ⟨i1, h1⟩ : ∃ i, inI d 0 3 = i := ⟨_, rfl⟩
  obtain ⟨i2, h2⟩ : ∃ i, inI b 1 99999 = i := ⟨_, rfl⟩
  have H : Hid (fitL (d, b) = (i1 && i2)) := by show _ = _; simp only [fitL, h1, h2]
  have c1 := fun w => blkWithin_any d 0 3 w
  have c2 := fun w => blkWithin_any b 1 99999 w
  rw [h1] at c1
  rw [h2] at c2
  clear h1 h2
  cases i1
  · go_enter Try.func113, Try.ntmps113
    go_wp2_with fail
    refine (c1 _).mono ?_
    rintro e w' ⟨rfl, rfl⟩
    go_wp2
    go_ret
    exact ⟨by rw [H.out]; rfl, hal _⟩
  · go_enter Try.func113, Try.ntmps113
    go_wp2_with fail
    refine (c1 _).mono ?_
    rintro e w' ⟨rfl, rfl⟩
    go_wp2_with fail
    refine (c2 _).mono ?_
    rintro e w' ⟨rfl, rfl⟩
    go_wp2
    go_ret
    exact ⟨by rw [H.out]; rfl, hal _⟩

set_option maxHeartbeats 1000000 in
theorem byClient_any (x y : Lc) (w : World) :
    Calls Try.prog 114 #[.agg #[.int .i64 x.1, .int .i64 x.2], .agg #[.int .i64 y.1, .int .i64 y.2]] w fun e w' => e = .returned (.int .i64 (ordL x y)) ∧ Below w.heap.size w w' := by
  obtain ⟨d, b⟩ := x
  obtain ⟨d', b'⟩ := y
  go_enter Try.func114, Try.ntmps114
  go_wp2_with fail
  refine (compare_any _ _ _).mono ?_
  rintro e w' ⟨rfl, rfl⟩
  go_wp2
  go_ret
  exact ⟨rfl, ((Below.refl _ _).alloc (Nat.le_refl _) _).alloc (by simp) _⟩

end Go.Proofs.Ytdnojnkcmncffaa
