/-
  No cell of these rows narrows 'for every input' (looked for: loops, veiled, ifaces, maps, wideKeys, modest, calm, conditions, laid).
  DERIVED. THE GIVEN ROWS OF THIS SEAT. 3 by the template 'for every input the law returns true; each argument reads behind the call as it read before'; 0 by the template 'total and deterministic' (their statements: YtllhifiklcdoiaaTotals.lean).
  GIVEN WITH THE SEED: the statements are not yours to turn. If you find one false, say at which input.
  Laid BY PROGRAM, IN A SANDBOX (cutbox-rows.mjs): the forced cells as the released guide's own fill.sh prints them over the translation 5fc426de8b51b063… (all of the seat's roots in one cut). By AI agents, Wed Nov 11 2026. No macro, syntax, notation, axiom, sorry.
-/
import Derived.Test.YtllhifiklcdoiaaChecked
import GoSem.Claim
import GoSem.ClaimJoined
import GoSem.ClaimMapViews
import Derived.JoinedTies
import Derived.KernelRfl
namespace Go.Proofs.Ytllhifiklcdoiaa
/- THE CELL 'sum', in the pinned program and in every row, IS THE sha256 OF THE DUMP (.gsa) THAT YtllhifiklcdoiaaProg.lean LOADS. Nothing in Lean hashes anything: it is a label: what it is worth is what the hold of that sum in a sandbox is worth. -/
noncomputable def Try.pinned : Pinned := { name := "ytllhifiklcdoiaa", sum := "5fc426de8b51b063e0389c7fe5133615a0d585398a23577b09c9bd4abe3e4985", checked := Try.checked }
namespace Rows
def none {H : Type} : Left H := { results := [], args := [] }

/-- 'laws.FnExactSynVoterOk': WHATEVER THE INPUT: true; the input reads as it did. -/
def fnExactSynVoterOkSpec : ChangeSpec := { name := "fnExactSynVoterOk", fn := fun _ => fun
  | [d] => { results := [.lit (.bool true)], args := [d] }
  | _ => none }
def fnExactSynVoterOkRow : OpenClaim := { program := "ytllhifiklcdoiaa", sum := "5fc426de8b51b063e0389c7fe5133615a0d585398a23577b09c9bd4abe3e4985", func := "loop.example/pannier/laws.FnExactSynVoterOk", spec := "fnExactSynVoterOk", unfollowed := true, recurses := true, apart := false }
def FnExactSynVoterOkSaid : Prop := fnExactSynVoterOkRow.holds Try.pinned (OpenSpec.ofChange fnExactSynVoterOkSpec)

/-- ITS FALSE NEIGHBOUR: 'it returns false'. Refute it at one input. -/
def fnExactSynVoterOkWrong : ChangeSpec := { name := "fnExactSynVoterOk", fn := fun _ => fun
  | [d] => { results := [.lit (.bool false)], args := [d] }
  | _ => none }
def FnExactSynVoterOkWrongFalsely : Prop := fnExactSynVoterOkRow.holds Try.pinned (OpenSpec.ofChange fnExactSynVoterOkWrong)

/-- 'laws.FnExactSynVote': WHATEVER THE INPUT: true; the input reads as it did. -/
def fnExactSynVoteSpec : ChangeSpec := { name := "fnExactSynVote", fn := fun _ => fun
  | [d1, d2, d3] => { results := [.lit (.bool true)], args := [d1, d2, d3] }
  | _ => none }
def fnExactSynVoteRow : OpenClaim := { program := "ytllhifiklcdoiaa", sum := "5fc426de8b51b063e0389c7fe5133615a0d585398a23577b09c9bd4abe3e4985", func := "loop.example/pannier/laws.FnExactSynVote", spec := "fnExactSynVote", unfollowed := true, recurses := true, apart := false }
def FnExactSynVoteSaid : Prop := fnExactSynVoteRow.holds Try.pinned (OpenSpec.ofChange fnExactSynVoteSpec)

/-- ITS FALSE NEIGHBOUR: 'it returns false'. Refute it at one input. -/
def fnExactSynVoteWrong : ChangeSpec := { name := "fnExactSynVote", fn := fun _ => fun
  | [d1, d2, d3] => { results := [.lit (.bool false)], args := [d1, d2, d3] }
  | _ => none }
def FnExactSynVoteWrongFalsely : Prop := fnExactSynVoteRow.holds Try.pinned (OpenSpec.ofChange fnExactSynVoteWrong)

/-- 'laws.FnSynVote': WHATEVER THE INPUT: true; the input reads as it did. -/
def fnSynVoteSpec : ChangeSpec := { name := "fnSynVote", fn := fun _ => fun
  | [d] => { results := [.lit (.bool true)], args := [d] }
  | _ => none }
def fnSynVoteRow : OpenClaim := { program := "ytllhifiklcdoiaa", sum := "5fc426de8b51b063e0389c7fe5133615a0d585398a23577b09c9bd4abe3e4985", func := "loop.example/pannier/laws.FnSynVote", spec := "fnSynVote", unfollowed := true, recurses := true, apart := false }
def FnSynVoteSaid : Prop := fnSynVoteRow.holds Try.pinned (OpenSpec.ofChange fnSynVoteSpec)

/-- ITS FALSE NEIGHBOUR: 'it returns false'. Refute it at one input. -/
def fnSynVoteWrong : ChangeSpec := { name := "fnSynVote", fn := fun _ => fun
  | [d] => { results := [.lit (.bool false)], args := [d] }
  | _ => none }
def FnSynVoteWrongFalsely : Prop := fnSynVoteRow.holds Try.pinned (OpenSpec.ofChange fnSynVoteWrong)

/- THE SECOND FORM. 'bulk': how many values and letters a reading holds, each counted each time it is reached (what is shared counts as often as it is met; a slice's spare places count too). A statement '..UptoSaid' is the law's where the arguments, and the package variables that the reading takes, are together of bulk at most 1048576: NARROWER than '..Said'. Prove '..Said' where nothing that the law and all that it calls make is longer than what came in: it says more and counts as full. Else prove '..UptoSaid'. A law counts once. -/
mutual
def uptoBulk {H : Type} : DataW H → Nat
  | .lit (.string bytes) => bytes.length + 1
  | .lit _ => 1
  | .nil => 1
  | .ptr d => uptoBulk d + 1
  | .slice elems spare => uptoBulkAll elems + uptoBulkAll spare + 1
  | .agg parts => uptoBulkAll parts + 1
  | .iface _ d => uptoBulk d + 1
  | .map entries => uptoBulkEntries entries + 1
  | .held _ => 1
def uptoBulkAll {H : Type} : List (DataW H) → Nat
  | [] => 0
  | d :: r => uptoBulk d + uptoBulkAll r
def uptoBulkEntries {H : Type} : List (Lit × DataW H) → Nat
  | [] => 0
  | x :: r => uptoBulkEntry x + uptoBulkEntries r
def uptoBulkEntry {H : Type} : Lit × DataW H → Nat
  | (.string bytes, d) => bytes.length + uptoBulk d + 1
  | (_, d) => uptoBulk d + 1
 end
def uptoSmall : (H : Type) → List (DataW H) → Bool := fun _ ds => decide (uptoBulkAll ds ≤ 1048576)
def OpenSpec.upto (s : _root_.Go.ChangeSpec) : _root_.Go.OpenSpec := { _root_.Go.OpenSpec.ofChange s with cond := some uptoSmall }

/-- 'laws.FnExactSynVoterOk', WHERE WHAT IT READS IS OF BULK AT MOST 1048576: true; the input reads as it did. -/
def fnExactSynVoterOkUptoRow : OpenClaim := { program := "ytllhifiklcdoiaa", sum := "5fc426de8b51b063e0389c7fe5133615a0d585398a23577b09c9bd4abe3e4985", func := "loop.example/pannier/laws.FnExactSynVoterOk", spec := "fnExactSynVoterOk", unfollowed := true, recurses := true, apart := false, narrowed := true }
def FnExactSynVoterOkUptoSaid : Prop := fnExactSynVoterOkUptoRow.holds Try.pinned (OpenSpec.upto fnExactSynVoterOkSpec)

/-- 'laws.FnExactSynVote', WHERE WHAT IT READS IS OF BULK AT MOST 1048576: true; the input reads as it did. -/
def fnExactSynVoteUptoRow : OpenClaim := { program := "ytllhifiklcdoiaa", sum := "5fc426de8b51b063e0389c7fe5133615a0d585398a23577b09c9bd4abe3e4985", func := "loop.example/pannier/laws.FnExactSynVote", spec := "fnExactSynVote", unfollowed := true, recurses := true, apart := false, narrowed := true }
def FnExactSynVoteUptoSaid : Prop := fnExactSynVoteUptoRow.holds Try.pinned (OpenSpec.upto fnExactSynVoteSpec)

/-- 'laws.FnSynVote', WHERE WHAT IT READS IS OF BULK AT MOST 1048576: true; the input reads as it did. -/
def fnSynVoteUptoRow : OpenClaim := { program := "ytllhifiklcdoiaa", sum := "5fc426de8b51b063e0389c7fe5133615a0d585398a23577b09c9bd4abe3e4985", func := "loop.example/pannier/laws.FnSynVote", spec := "fnSynVote", unfollowed := true, recurses := true, apart := false, narrowed := true }
def FnSynVoteUptoSaid : Prop := fnSynVoteUptoRow.holds Try.pinned (OpenSpec.upto fnSynVoteSpec)

end Rows
end Go.Proofs.Ytllhifiklcdoiaa
