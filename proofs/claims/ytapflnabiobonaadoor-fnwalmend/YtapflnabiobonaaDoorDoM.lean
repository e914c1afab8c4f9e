/- Plain facts on steps as lists; no statement of the seat is proved here. -/
import Derived.Test.YtapflnabiobonaaDoorSM
import Derived.Test.YtapflnabiobonaaDoorStep
import Derived.Test.YtapflnabiobonaaDoorPut
namespace Go.Proofs.YtapflnabiobonaaDoor

/-- A disk behind a step. -/
def stepL (s : List ByteArray × List (Int × ByteArray)) (x : Stp) : List ByteArray × List (Int × ByteArray) :=
  if x.1 = true then (flushK s.1 s.2, []) else (putK s.1 s.2, putW s.1 s.2 x.2.1 x.2.2)
/-- A disk behind steps. -/
def doL (s : List ByteArray × List (Int × ByteArray)) (xs : List Stp) : List ByteArray × List (Int × ByteArray) := xs.foldl stepL s
theorem doL_snoc (s : List ByteArray × List (Int × ByteArray)) (xs : List Stp) (x : Stp) : doL s (xs ++ [x]) = stepL (doL s xs) x := by simp [doL]
theorem doL_take (s : List ByteArray × List (Int × ByteArray)) (xs : List Stp) (k : Nat) (x : Stp) (h : xs[k]? = some x) : doL s (xs.take (k + 1)) = stepL (doL s (xs.take k)) x := by
  rw [List.take_add_one, h, Option.toList_some, doL_snoc]

theorem putW_ok {kept : List ByteArray} {wait : List (Int × ByteArray)} (a : Int) (s : ByteArray) (h : okB kept wait = true) : putK kept wait = kept ∧ okB kept (putW kept wait a s) = true := by
  cases hp : putB kept wait a s
  · rcases put_false hp with ⟨h1, -⟩ | ⟨-, h2, h3⟩
    · rw [h] at h1; cases h1
    · exact ⟨h2, by rw [h3]; exact h⟩
  · obtain ⟨-, -, -, -, h2, h3, h4⟩ := put_true hp
    exact ⟨h2, by rw [h3]; exact h4⟩

theorem stepL_ok {s : List ByteArray × List (Int × ByteArray)} (x : Stp) (h : okB s.1 s.2 = true) : okB (stepL s x).1 (stepL s x).2 = true ∧ (stepL s x).1.length = s.1.length := by
  unfold stepL
  split
  · exact ⟨ok_flushK _ _, by simp [flushK, h, flushL_len]⟩
  · obtain ⟨h1, h2⟩ := putW_ok x.2.1 x.2.2 h
    exact ⟨by simp only [h1]; exact h2, by simp only [h1]⟩

theorem doL_ok {s : List ByteArray × List (Int × ByteArray)} (xs : List Stp) (h : okB s.1 s.2 = true) : okB (doL s xs).1 (doL s xs).2 = true ∧ (doL s xs).1.length = s.1.length := by
  unfold doL
  induction xs generalizing s with
  | nil => exact ⟨h, rfl⟩
  | cons x xs ih =>
    obtain ⟨h1, h2⟩ := stepL_ok x h
    obtain ⟨h3, h4⟩ := ih h1
    exact ⟨h3, h4.trans h2⟩

/-- Behind how many steps it ends. -/
def doEnd (cut : Bool) (after : Int) (n : Nat) : Nat := if cut = true then (min after (n : Int)).toNat else n
theorem doEnd_le (cut : Bool) (after : Int) (n : Nat) : doEnd cut after n ≤ n := by
  unfold doEnd
  split <;> omega
/-- What is kept, and what waits, behind steps that may be cut. -/
def doR (kept : List ByteArray) (wait : List (Int × ByteArray)) (xs : List Stp) (cut : Bool) (after : Int) (ks : List Int) : List ByteArray × List (Int × ByteArray) :=
  if okB kept wait = true ∧ xs.length ≤ 600 then
    (if cut = true then (cutK (doL (kept, wait) (xs.take (doEnd cut after xs.length))).1 (doL (kept, wait) (xs.take (doEnd cut after xs.length))).2 ks, []) else doL (kept, wait) (xs.take (doEnd cut after xs.length)))
  else ([], [])
theorem doR_len (kept : List ByteArray) (wait : List (Int × ByteArray)) (xs : List Stp) (cut : Bool) (after : Int) (ks : List Int) : (doR kept wait xs cut after ks).1.length ≤ 512 ∧ (doR kept wait xs cut after ks).2.length ≤ 600 := by
  unfold doR
  split
  · rename_i h
    obtain ⟨h1, -⟩ := doL_ok (s := (kept, wait)) (xs.take (doEnd cut after xs.length)) h.1
    split
    · exact ⟨(okB_parts (ok_cutK _ _ ks)).1, by simp⟩
    · exact ⟨(okB_parts h1).1, (okB_parts h1).2.1⟩
  · simp

end Go.Proofs.YtapflnabiobonaaDoor
