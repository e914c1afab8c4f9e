/-
  No cell of these rows narrows 'for every input' (looked for: loops, veiled, ifaces, maps, wideKeys, modest, calm, conditions, laid).
  DERIVED. THE GIVEN ROWS OF THIS SEAT. 3 by the template 'for every input the law returns true; each argument reads behind the call as it read before'; 0 by the template 'total and deterministic' (their statements: YthdnnmmaalgpaaaTotals.lean).
  GIVEN WITH THE SEED: the statements are not yours to turn. If you find one false, say at which input.
  Laid BY PROGRAM, IN A SANDBOX (cutbox-rows.mjs): the forced cells as the released guide's own fill.sh prints them over the translation 8f2f8d07ca0e266b… (all of the seat's roots in one cut). By AI agents, Wed Nov 11 2026. No macro, syntax, notation, axiom, sorry.
-/
import Derived.Test.YthdnnmmaalgpaaaChecked
import GoSem.Claim
import GoSem.ClaimJoined
import GoSem.ClaimMapViews
import Derived.JoinedTies
import Derived.KernelRfl
namespace Go.Proofs.Ythdnnmmaalgpaaa
/- THE CELL 'sum', in the pinned program and in every row, IS THE sha256 OF THE DUMP (.gsa) THAT YthdnnmmaalgpaaaProg.lean LOADS. Nothing in Lean hashes anything: it is a label: what it is worth is what the hold of that sum in a sandbox is worth. -/
noncomputable def Try.pinned : Pinned := { name := "ythdnnmmaalgpaaa", sum := "8f2f8d07ca0e266b4ca15fc34099459f19a67dad938ae32c814ed584fabf3d0e", checked := Try.checked }
namespace Rows
def none {H : Type} : Left H := { results := [], args := [] }

/-- 'laws.FnExactMapStart': WHATEVER THE INPUT: true; the input reads as it did. -/
def fnExactMapStartSpec : ChangeSpec := { name := "fnExactMapStart", fn := fun _ => fun
  | [] => { results := [.lit (.bool true)], args := [] }
  | _ => none }
def fnExactMapStartRow : OpenClaim := { program := "ythdnnmmaalgpaaa", sum := "8f2f8d07ca0e266b4ca15fc34099459f19a67dad938ae32c814ed584fabf3d0e", func := "loop.example/pannier/laws.FnExactMapStart", spec := "fnExactMapStart", apart := false }
def FnExactMapStartSaid : Prop := fnExactMapStartRow.holds Try.pinned (OpenSpec.ofChange fnExactMapStartSpec)

/-- ITS FALSE NEIGHBOUR: 'it returns false'. Refute it at one input. -/
def fnExactMapStartWrong : ChangeSpec := { name := "fnExactMapStart", fn := fun _ => fun
  | [] => { results := [.lit (.bool false)], args := [] }
  | _ => none }
def FnExactMapStartWrongFalsely : Prop := fnExactMapStartRow.holds Try.pinned (OpenSpec.ofChange fnExactMapStartWrong)

/-- 'laws.FnExactMapOk': WHATEVER THE INPUT: true; the input reads as it did. -/
def fnExactMapOkSpec : ChangeSpec := { name := "fnExactMapOk", fn := fun _ => fun
  | [d] => { results := [.lit (.bool true)], args := [d] }
  | _ => none }
def fnExactMapOkRow : OpenClaim := { program := "ythdnnmmaalgpaaa", sum := "8f2f8d07ca0e266b4ca15fc34099459f19a67dad938ae32c814ed584fabf3d0e", func := "loop.example/pannier/laws.FnExactMapOk", spec := "fnExactMapOk", unfollowed := true, recurses := true, apart := false }
def FnExactMapOkSaid : Prop := fnExactMapOkRow.holds Try.pinned (OpenSpec.ofChange fnExactMapOkSpec)

/-- ITS FALSE NEIGHBOUR: 'it returns false'. Refute it at one input. -/
def fnExactMapOkWrong : ChangeSpec := { name := "fnExactMapOk", fn := fun _ => fun
  | [d] => { results := [.lit (.bool false)], args := [d] }
  | _ => none }
def FnExactMapOkWrongFalsely : Prop := fnExactMapOkRow.holds Try.pinned (OpenSpec.ofChange fnExactMapOkWrong)

/-- 'laws.FnExactMapJudge': WHATEVER THE INPUT: true; the input reads as it did. -/
def fnExactMapJudgeSpec : ChangeSpec := { name := "fnExactMapJudge", fn := fun _ => fun
  | [d1, d2, d3, d4, d5] => { results := [.lit (.bool true)], args := [d1, d2, d3, d4, d5] }
  | _ => none }
def fnExactMapJudgeRow : OpenClaim := { program := "ythdnnmmaalgpaaa", sum := "8f2f8d07ca0e266b4ca15fc34099459f19a67dad938ae32c814ed584fabf3d0e", func := "loop.example/pannier/laws.FnExactMapJudge", spec := "fnExactMapJudge", unfollowed := true, recurses := true, apart := false }
def FnExactMapJudgeSaid : Prop := fnExactMapJudgeRow.holds Try.pinned (OpenSpec.ofChange fnExactMapJudgeSpec)

/-- ITS FALSE NEIGHBOUR: 'it returns false'. Refute it at one input. -/
def fnExactMapJudgeWrong : ChangeSpec := { name := "fnExactMapJudge", fn := fun _ => fun
  | [d1, d2, d3, d4, d5] => { results := [.lit (.bool false)], args := [d1, d2, d3, d4, d5] }
  | _ => none }
def FnExactMapJudgeWrongFalsely : Prop := fnExactMapJudgeRow.holds Try.pinned (OpenSpec.ofChange fnExactMapJudgeWrong)

/- THE SECOND FORM. 'bulk': how many values and letters a reading holds, each counted each time it is reached (what is shared counts as often as it is met; a slice's spare places count too). A statement '..UptoSaid' is the law's where the arguments, and the package variables that the reading takes, are together of bulk at most 1048576: NARROWER than '..Said'. Prove '..Said' where nothing that the law and all that it calls make is longer than what came in: it says more and counts as full. Else prove '..UptoSaid'. A law counts once. -/
mutual
def uptoBulk {H : Type} : DataW H → Nat
  | .lit (.string bytes) => bytes.length + 1
  | .lit _ => 1
  | .nil => 1
  | .ptr d => uptoBulk d + 1
  | .slice elems spare => uptoBulkAll elems + uptoBulkAll spare + 1
  | .agg parts => uptoBulkAll parts + 1
  | .iface _ d => uptoBulk d + 1
  | .map entries => uptoBulkEntries entries + 1
  | .held _ => 1
def uptoBulkAll {H : Type} : List (DataW H) → Nat
  | [] => 0
  | d :: r => uptoBulk d + uptoBulkAll r
def uptoBulkEntries {H : Type} : List (Lit × DataW H) → Nat
  | [] => 0
  | x :: r => uptoBulkEntry x + uptoBulkEntries r
def uptoBulkEntry {H : Type} : Lit × DataW H → Nat
  | (.string bytes, d) => bytes.length + uptoBulk d + 1
  | (_, d) => uptoBulk d + 1
 end
def uptoSmall : (H : Type) → List (DataW H) → Bool := fun _ ds => decide (uptoBulkAll ds ≤ 1048576)
def OpenSpec.upto (s : _root_.Go.ChangeSpec) : _root_.Go.OpenSpec := { _root_.Go.OpenSpec.ofChange s with cond := some uptoSmall }

/-- 'laws.FnExactMapStart', WHERE WHAT IT READS IS OF BULK AT MOST 1048576: true; the input reads as it did. -/
def fnExactMapStartUptoRow : OpenClaim := { program := "ythdnnmmaalgpaaa", sum := "8f2f8d07ca0e266b4ca15fc34099459f19a67dad938ae32c814ed584fabf3d0e", func := "loop.example/pannier/laws.FnExactMapStart", spec := "fnExactMapStart", apart := false, narrowed := true }
def FnExactMapStartUptoSaid : Prop := fnExactMapStartUptoRow.holds Try.pinned (OpenSpec.upto fnExactMapStartSpec)

/-- 'laws.FnExactMapOk', WHERE WHAT IT READS IS OF BULK AT MOST 1048576: true; the input reads as it did. -/
def fnExactMapOkUptoRow : OpenClaim := { program := "ythdnnmmaalgpaaa", sum := "8f2f8d07ca0e266b4ca15fc34099459f19a67dad938ae32c814ed584fabf3d0e", func := "loop.example/pannier/laws.FnExactMapOk", spec := "fnExactMapOk", unfollowed := true, recurses := true, apart := false, narrowed := true }
def FnExactMapOkUptoSaid : Prop := fnExactMapOkUptoRow.holds Try.pinned (OpenSpec.upto fnExactMapOkSpec)

/-- 'laws.FnExactMapJudge', WHERE WHAT IT READS IS OF BULK AT MOST 1048576: true; the input reads as it did. -/
def fnExactMapJudgeUptoRow : OpenClaim := { program := "ythdnnmmaalgpaaa", sum := "8f2f8d07ca0e266b4ca15fc34099459f19a67dad938ae32c814ed584fabf3d0e", func := "loop.example/pannier/laws.FnExactMapJudge", spec := "fnExactMapJudge", unfollowed := true, recurses := true, apart := false, narrowed := true }
def FnExactMapJudgeUptoSaid : Prop := fnExactMapJudgeUptoRow.holds Try.pinned (OpenSpec.upto fnExactMapJudgeSpec)

end Rows
end Go.Proofs.Ythdnnmmaalgpaaa
