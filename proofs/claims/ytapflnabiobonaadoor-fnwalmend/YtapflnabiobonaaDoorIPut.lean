/- What SecPut of the program does: a contract; no statement of the seat is proved here. -/
import Derived.Test.YtapflnabiobonaaDoorPut
namespace Go.Proofs.YtapflnabiobonaaDoor
open Go.RowKit

theorem put_all {kept : List ByteArray} {wait : List (Int × ByteArray)} (a : Int) (s : ByteArray) (h : okB kept wait = true) : putB kept wait a s = putO kept wait a s ∧ putK kept wait = kept ∧ putW kept wait a s = putX kept wait a s := by
  have h1 : putB kept wait a s = putO kept wait a s := by simp [putB, putO, h]
  exact ⟨h1, by simp [putK, h], by simp [putW, putX, h, h1]⟩

end Go.Proofs.YtapflnabiobonaaDoor
