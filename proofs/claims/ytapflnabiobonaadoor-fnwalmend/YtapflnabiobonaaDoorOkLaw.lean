/- What the law FnExactSecOk does: its walk; the statement itself is proved elsewhere. -/
import Derived.Test.YtapflnabiobonaaDoorIOk
namespace Go.Proofs.YtapflnabiobonaaDoor
open Go.RowKit

/-- What a disk that came in is known by: it reads so, and its texts have a length. -/
structure DiskIn (w : World) (v : Value) (kept : List ByteArray) (wait : List (Int × ByteArray)) : Prop where
  reads : DiskR w v kept wait
  kept : ∀ s ∈ kept, s.size ≤ 9223372036854775807
  wait : ∀ s ∈ wait, s.2.size ≤ 9223372036854775807

theorem DiskR.shape {w : World} {v : Value} {kept : List ByteArray} {wait : List (Int × ByteArray)} (h : DiskR w v kept wait) : ∃ ao ca ao' ca', v = .agg #[.slice ao kept.length ca, .slice ao' wait.length ca'] := by
  obtain ⟨vk, vw, rfl, ⟨ao, ca, rfl, -⟩, ⟨ao', ca', rfl, -⟩⟩ := h
  exact ⟨ao, ca, ao', ca', rfl⟩

end Go.Proofs.YtapflnabiobonaaDoor
