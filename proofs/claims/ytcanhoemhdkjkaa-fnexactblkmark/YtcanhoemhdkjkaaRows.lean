/-
  No cell of these rows narrows 'for every input' (looked for: loops, veiled, ifaces, maps, wideKeys, modest, calm, conditions, laid).
  DERIVED. THE GIVEN ROWS OF THIS SEAT. 6 by the template 'for every input the law returns true; each argument reads behind the call as it read before'; 0 by the template 'total and deterministic' (their statements: YtcanhoemhdkjkaaTotals.lean).
  GIVEN WITH THE SEED: the statements are not yours to turn. If you find one false, say at which input.
  Laid BY PROGRAM, IN A SANDBOX (cutbox-rows.mjs): the forced cells as the released guide's own fill.sh prints them over the translation 130af807b1a5b564… (all of the seat's roots in one cut). By AI agents, Wed Nov 11 2026. No macro, syntax, notation, axiom, sorry.
-/
import Derived.Test.YtcanhoemhdkjkaaChecked
import GoSem.Claim
import GoSem.ClaimJoined
import GoSem.ClaimMapViews
import Derived.JoinedTies
import Derived.KernelRfl
namespace Go.Proofs.Ytcanhoemhdkjkaa
/- THE CELL 'sum', in the pinned program and in every row, IS THE sha256 OF THE DUMP (.gsa) THAT YtcanhoemhdkjkaaProg.lean LOADS. Nothing in Lean hashes anything: it is a label: what it is worth is what the hold of that sum in a sandbox is worth. -/
noncomputable def Try.pinned : Pinned := { name := "ytcanhoemhdkjkaa", sum := "130af807b1a5b56496a3f7b11e356584a4af97a76bf3174e1688d509ba64ab4c", checked := Try.checked }
namespace Rows
def none {H : Type} : Left H := { results := [], args := [] }

/-- 'laws.FnExactBlkOk': WHATEVER THE INPUT: true; the input reads as it did. -/
def fnExactBlkOkSpec : ChangeSpec := { name := "fnExactBlkOk", fn := fun _ => fun
  | [d] => { results := [.lit (.bool true)], args := [d] }
  | _ => none }
def fnExactBlkOkRow : OpenClaim := { program := "ytcanhoemhdkjkaa", sum := "130af807b1a5b56496a3f7b11e356584a4af97a76bf3174e1688d509ba64ab4c", func := "loop.example/pannier/laws.FnExactBlkOk", spec := "fnExactBlkOk", unfollowed := true, recurses := true, apart := false }
def FnExactBlkOkSaid : Prop := fnExactBlkOkRow.holds Try.pinned (OpenSpec.ofChange fnExactBlkOkSpec)

/-- ITS FALSE NEIGHBOUR: 'it returns false'. Refute it at one input. -/
def fnExactBlkOkWrong : ChangeSpec := { name := "fnExactBlkOk", fn := fun _ => fun
  | [d] => { results := [.lit (.bool false)], args := [d] }
  | _ => none }
def FnExactBlkOkWrongFalsely : Prop := fnExactBlkOkRow.holds Try.pinned (OpenSpec.ofChange fnExactBlkOkWrong)

/-- 'laws.FnExactBlkPut': WHATEVER THE INPUT: true; the input reads as it did. -/
def fnExactBlkPutSpec : ChangeSpec := { name := "fnExactBlkPut", fn := fun _ => fun
  | [d1, d2, d3, d4, d5] => { results := [.lit (.bool true)], args := [d1, d2, d3, d4, d5] }
  | _ => none }
def fnExactBlkPutRow : OpenClaim := { program := "ytcanhoemhdkjkaa", sum := "130af807b1a5b56496a3f7b11e356584a4af97a76bf3174e1688d509ba64ab4c", func := "loop.example/pannier/laws.FnExactBlkPut", spec := "fnExactBlkPut", unfollowed := true, recurses := true, apart := false }
def FnExactBlkPutSaid : Prop := fnExactBlkPutRow.holds Try.pinned (OpenSpec.ofChange fnExactBlkPutSpec)

/-- ITS FALSE NEIGHBOUR: 'it returns false'. Refute it at one input. -/
def fnExactBlkPutWrong : ChangeSpec := { name := "fnExactBlkPut", fn := fun _ => fun
  | [d1, d2, d3, d4, d5] => { results := [.lit (.bool false)], args := [d1, d2, d3, d4, d5] }
  | _ => none }
def FnExactBlkPutWrongFalsely : Prop := fnExactBlkPutRow.holds Try.pinned (OpenSpec.ofChange fnExactBlkPutWrong)

/-- 'laws.FnExactBlkGet': WHATEVER THE INPUT: true; the input reads as it did. -/
def fnExactBlkGetSpec : ChangeSpec := { name := "fnExactBlkGet", fn := fun _ => fun
  | [d1, d2, d3, d4] => { results := [.lit (.bool true)], args := [d1, d2, d3, d4] }
  | _ => none }
def fnExactBlkGetRow : OpenClaim := { program := "ytcanhoemhdkjkaa", sum := "130af807b1a5b56496a3f7b11e356584a4af97a76bf3174e1688d509ba64ab4c", func := "loop.example/pannier/laws.FnExactBlkGet", spec := "fnExactBlkGet", unfollowed := true, recurses := true, apart := false }
def FnExactBlkGetSaid : Prop := fnExactBlkGetRow.holds Try.pinned (OpenSpec.ofChange fnExactBlkGetSpec)

/-- ITS FALSE NEIGHBOUR: 'it returns false'. Refute it at one input. -/
def fnExactBlkGetWrong : ChangeSpec := { name := "fnExactBlkGet", fn := fun _ => fun
  | [d1, d2, d3, d4] => { results := [.lit (.bool false)], args := [d1, d2, d3, d4] }
  | _ => none }
def FnExactBlkGetWrongFalsely : Prop := fnExactBlkGetRow.holds Try.pinned (OpenSpec.ofChange fnExactBlkGetWrong)

/-- 'laws.FnExactBlkDrop': WHATEVER THE INPUT: true; the input reads as it did. -/
def fnExactBlkDropSpec : ChangeSpec := { name := "fnExactBlkDrop", fn := fun _ => fun
  | [d1, d2] => { results := [.lit (.bool true)], args := [d1, d2] }
  | _ => none }
def fnExactBlkDropRow : OpenClaim := { program := "ytcanhoemhdkjkaa", sum := "130af807b1a5b56496a3f7b11e356584a4af97a76bf3174e1688d509ba64ab4c", func := "loop.example/pannier/laws.FnExactBlkDrop", spec := "fnExactBlkDrop", unfollowed := true, recurses := true, apart := false }
def FnExactBlkDropSaid : Prop := fnExactBlkDropRow.holds Try.pinned (OpenSpec.ofChange fnExactBlkDropSpec)

/-- ITS FALSE NEIGHBOUR: 'it returns false'. Refute it at one input. -/
def fnExactBlkDropWrong : ChangeSpec := { name := "fnExactBlkDrop", fn := fun _ => fun
  | [d1, d2] => { results := [.lit (.bool false)], args := [d1, d2] }
  | _ => none }
def FnExactBlkDropWrongFalsely : Prop := fnExactBlkDropRow.holds Try.pinned (OpenSpec.ofChange fnExactBlkDropWrong)

/-- 'laws.FnExactBlkCall': WHATEVER THE INPUT: true; the input reads as it did. -/
def fnExactBlkCallSpec : ChangeSpec := { name := "fnExactBlkCall", fn := fun _ => fun
  | [d1, d2] => { results := [.lit (.bool true)], args := [d1, d2] }
  | _ => none }
def fnExactBlkCallRow : OpenClaim := { program := "ytcanhoemhdkjkaa", sum := "130af807b1a5b56496a3f7b11e356584a4af97a76bf3174e1688d509ba64ab4c", func := "loop.example/pannier/laws.FnExactBlkCall", spec := "fnExactBlkCall", unfollowed := true, recurses := true, apart := false }
def FnExactBlkCallSaid : Prop := fnExactBlkCallRow.holds Try.pinned (OpenSpec.ofChange fnExactBlkCallSpec)

/-- ITS FALSE NEIGHBOUR: 'it returns false'. Refute it at one input. -/
def fnExactBlkCallWrong : ChangeSpec := { name := "fnExactBlkCall", fn := fun _ => fun
  | [d1, d2] => { results := [.lit (.bool false)], args := [d1, d2] }
  | _ => none }
def FnExactBlkCallWrongFalsely : Prop := fnExactBlkCallRow.holds Try.pinned (OpenSpec.ofChange fnExactBlkCallWrong)

/-- 'laws.FnExactBlkMark': WHATEVER THE INPUT: true; the input reads as it did. -/
def fnExactBlkMarkSpec : ChangeSpec := { name := "fnExactBlkMark", fn := fun _ => fun
  | [d1, d2, d3] => { results := [.lit (.bool true)], args := [d1, d2, d3] }
  | _ => none }
def fnExactBlkMarkRow : OpenClaim := { program := "ytcanhoemhdkjkaa", sum := "130af807b1a5b56496a3f7b11e356584a4af97a76bf3174e1688d509ba64ab4c", func := "loop.example/pannier/laws.FnExactBlkMark", spec := "fnExactBlkMark", unfollowed := true, recurses := true, apart := false }
def FnExactBlkMarkSaid : Prop := fnExactBlkMarkRow.holds Try.pinned (OpenSpec.ofChange fnExactBlkMarkSpec)

/-- ITS FALSE NEIGHBOUR: 'it returns false'. Refute it at one input. -/
def fnExactBlkMarkWrong : ChangeSpec := { name := "fnExactBlkMark", fn := fun _ => fun
  | [d1, d2, d3] => { results := [.lit (.bool false)], args := [d1, d2, d3] }
  | _ => none }
def FnExactBlkMarkWrongFalsely : Prop := fnExactBlkMarkRow.holds Try.pinned (OpenSpec.ofChange fnExactBlkMarkWrong)

/- THE SECOND FORM. 'bulk': how many values and letters a reading holds, each counted each time it is reached (what is shared counts as often as it is met; a slice's spare places count too). A statement '..UptoSaid' is the law's where the arguments, and the package variables that the reading takes, are together of bulk at most 1048576: NARROWER than '..Said'. Prove '..Said' where nothing that the law and all that it calls make is longer than what came in: it says more and counts as full. Else prove '..UptoSaid'. A law counts once. -/
mutual
def uptoBulk {H : Type} : DataW H → Nat
  | .lit (.string bytes) => bytes.length + 1
  | .lit _ => 1
  | .nil => 1
  | .ptr d => uptoBulk d + 1
  | .slice elems spare => uptoBulkAll elems + uptoBulkAll spare + 1
  | .agg parts => uptoBulkAll parts + 1
  | .iface _ d => uptoBulk d + 1
  | .map entries => uptoBulkEntries entries + 1
  | .held _ => 1
def uptoBulkAll {H : Type} : List (DataW H) → Nat
  | [] => 0
  | d :: r => uptoBulk d + uptoBulkAll r
def uptoBulkEntries {H : Type} : List (Lit × DataW H) → Nat
  | [] => 0
  | x :: r => uptoBulkEntry x + uptoBulkEntries r
def uptoBulkEntry {H : Type} : Lit × DataW H → Nat
  | (.string bytes, d) => bytes.length + uptoBulk d + 1
  | (_, d) => uptoBulk d + 1
 end
def uptoSmall : (H : Type) → List (DataW H) → Bool := fun _ ds => decide (uptoBulkAll ds ≤ 1048576)
def OpenSpec.upto (s : _root_.Go.ChangeSpec) : _root_.Go.OpenSpec := { _root_.Go.OpenSpec.ofChange s with cond := some uptoSmall }

/-- 'laws.FnExactBlkOk', WHERE WHAT IT READS IS OF BULK AT MOST 1048576: true; the input reads as it did. -/
def fnExactBlkOkUptoRow : OpenClaim := { program := "ytcanhoemhdkjkaa", sum := "130af807b1a5b56496a3f7b11e356584a4af97a76bf3174e1688d509ba64ab4c", func := "loop.example/pannier/laws.FnExactBlkOk", spec := "fnExactBlkOk", unfollowed := true, recurses := true, apart := false, narrowed := true }
def FnExactBlkOkUptoSaid : Prop := fnExactBlkOkUptoRow.holds Try.pinned (OpenSpec.upto fnExactBlkOkSpec)

/-- 'laws.FnExactBlkPut', WHERE WHAT IT READS IS OF BULK AT MOST 1048576: true; the input reads as it did. -/
def fnExactBlkPutUptoRow : OpenClaim := { program := "ytcanhoemhdkjkaa", sum := "130af807b1a5b56496a3f7b11e356584a4af97a76bf3174e1688d509ba64ab4c", func := "loop.example/pannier/laws.FnExactBlkPut", spec := "fnExactBlkPut", unfollowed := true, recurses := true, apart := false, narrowed := true }
def FnExactBlkPutUptoSaid : Prop := fnExactBlkPutUptoRow.holds Try.pinned (OpenSpec.upto fnExactBlkPutSpec)

/-- 'laws.FnExactBlkGet', WHERE WHAT IT READS IS OF BULK AT MOST 1048576: true; the input reads as it did. -/
def fnExactBlkGetUptoRow : OpenClaim := { program := "ytcanhoemhdkjkaa", sum := "130af807b1a5b56496a3f7b11e356584a4af97a76bf3174e1688d509ba64ab4c", func := "loop.example/pannier/laws.FnExactBlkGet", spec := "fnExactBlkGet", unfollowed := true, recurses := true, apart := false, narrowed := true }
def FnExactBlkGetUptoSaid : Prop := fnExactBlkGetUptoRow.holds Try.pinned (OpenSpec.upto fnExactBlkGetSpec)

/-- 'laws.FnExactBlkDrop', WHERE WHAT IT READS IS OF BULK AT MOST 1048576: true; the input reads as it did. -/
def fnExactBlkDropUptoRow : OpenClaim := { program := "ytcanhoemhdkjkaa", sum := "130af807b1a5b56496a3f7b11e356584a4af97a76bf3174e1688d509ba64ab4c", func := "loop.example/pannier/laws.FnExactBlkDrop", spec := "fnExactBlkDrop", unfollowed := true, recurses := true, apart := false, narrowed := true }
def FnExactBlkDropUptoSaid : Prop := fnExactBlkDropUptoRow.holds Try.pinned (OpenSpec.upto fnExactBlkDropSpec)

/-- 'laws.FnExactBlkCall', WHERE WHAT IT READS IS OF BULK AT MOST 1048576: true; the input reads as it did. -/
def fnExactBlkCallUptoRow : OpenClaim := { program := "ytcanhoemhdkjkaa", sum := "130af807b1a5b56496a3f7b11e356584a4af97a76bf3174e1688d509ba64ab4c", func := "loop.example/pannier/laws.FnExactBlkCall", spec := "fnExactBlkCall", unfollowed := true, recurses := true, apart := false, narrowed := true }
def FnExactBlkCallUptoSaid : Prop := fnExactBlkCallUptoRow.holds Try.pinned (OpenSpec.upto fnExactBlkCallSpec)

/-- 'laws.FnExactBlkMark', WHERE WHAT IT READS IS OF BULK AT MOST 1048576: true; the input reads as it did. -/
def fnExactBlkMarkUptoRow : OpenClaim := { program := "ytcanhoemhdkjkaa", sum := "130af807b1a5b56496a3f7b11e356584a4af97a76bf3174e1688d509ba64ab4c", func := "loop.example/pannier/laws.FnExactBlkMark", spec := "fnExactBlkMark", unfollowed := true, recurses := true, apart := false, narrowed := true }
def FnExactBlkMarkUptoSaid : Prop := fnExactBlkMarkUptoRow.holds Try.pinned (OpenSpec.upto fnExactBlkMarkSpec)

end Rows
end Go.Proofs.Ytcanhoemhdkjkaa
