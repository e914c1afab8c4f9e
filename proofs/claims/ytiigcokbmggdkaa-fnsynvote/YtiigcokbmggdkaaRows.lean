/-
  No cell of these rows narrows 'for every input' (looked for: loops, veiled, ifaces, maps, wideKeys, modest, calm, conditions, laid).
  DERIVED. THE GIVEN ROWS OF THIS SEAT. 6 by the template 'for every input the law returns true; each argument reads behind the call as it read before'; 0 by the template 'total and deterministic' (their statements: YtiigcokbmggdkaaTotals.lean).
  GIVEN WITH THE SEED: the statements are not yours to turn. If you find one false, say at which input.
  Laid BY PROGRAM, IN A SANDBOX (cutbox-rows.mjs): the forced cells as the released guide's own fill.sh prints them over the translation abc8061d64a4712d… (all of the seat's roots in one cut). By AI agents, Wed Nov 11 2026. No macro, syntax, notation, axiom, sorry.
-/
import Derived.Test.YtiigcokbmggdkaaChecked
import GoSem.Claim
import GoSem.ClaimJoined
import GoSem.ClaimMapViews
import Derived.JoinedTies
import Derived.KernelRfl
namespace Go.Proofs.Ytiigcokbmggdkaa
/- THE CELL 'sum', in the pinned program and in every row, IS THE sha256 OF THE DUMP (.gsa) THAT YtiigcokbmggdkaaProg.lean LOADS. Nothing in Lean hashes anything: it is a label: what it is worth is what the hold of that sum in a sandbox is worth. -/
noncomputable def Try.pinned : Pinned := { name := "ytiigcokbmggdkaa", sum := "abc8061d64a4712de590da734dba0a20d547be51b0f6b187df0c4e7084aa9ff5", checked := Try.checked }
namespace Rows
def none {H : Type} : Left H := { results := [], args := [] }

/-- 'laws.FnExactSynVote': WHATEVER THE INPUT: true; the input reads as it did. -/
def fnExactSynVoteSpec : ChangeSpec := { name := "fnExactSynVote", fn := fun _ => fun
  | [d1, d2, d3] => { results := [.lit (.bool true)], args := [d1, d2, d3] }
  | _ => none }
def fnExactSynVoteRow : OpenClaim := { program := "ytiigcokbmggdkaa", sum := "abc8061d64a4712de590da734dba0a20d547be51b0f6b187df0c4e7084aa9ff5", func := "loop.example/pannier/laws.FnExactSynVote", spec := "fnExactSynVote", unfollowed := true, recurses := true, apart := false }
def FnExactSynVoteSaid : Prop := fnExactSynVoteRow.holds Try.pinned (OpenSpec.ofChange fnExactSynVoteSpec)

/-- ITS FALSE NEIGHBOUR: 'it returns false'. Refute it at one input. -/
def fnExactSynVoteWrong : ChangeSpec := { name := "fnExactSynVote", fn := fun _ => fun
  | [d1, d2, d3] => { results := [.lit (.bool false)], args := [d1, d2, d3] }
  | _ => none }
def FnExactSynVoteWrongFalsely : Prop := fnExactSynVoteRow.holds Try.pinned (OpenSpec.ofChange fnExactSynVoteWrong)

/-- 'laws.FnSynVote': WHATEVER THE INPUT: true; the input reads as it did. -/
def fnSynVoteSpec : ChangeSpec := { name := "fnSynVote", fn := fun _ => fun
  | [d] => { results := [.lit (.bool true)], args := [d] }
  | _ => none }
def fnSynVoteRow : OpenClaim := { program := "ytiigcokbmggdkaa", sum := "abc8061d64a4712de590da734dba0a20d547be51b0f6b187df0c4e7084aa9ff5", func := "loop.example/pannier/laws.FnSynVote", spec := "fnSynVote", unfollowed := true, recurses := true, apart := false }
def FnSynVoteSaid : Prop := fnSynVoteRow.holds Try.pinned (OpenSpec.ofChange fnSynVoteSpec)

/-- ITS FALSE NEIGHBOUR: 'it returns false'. Refute it at one input. -/
def fnSynVoteWrong : ChangeSpec := { name := "fnSynVote", fn := fun _ => fun
  | [d] => { results := [.lit (.bool false)], args := [d] }
  | _ => none }
def FnSynVoteWrongFalsely : Prop := fnSynVoteRow.holds Try.pinned (OpenSpec.ofChange fnSynVoteWrong)

/-- 'laws.FnExactSynSeekerOk': WHATEVER THE INPUT: true; the input reads as it did. -/
def fnExactSynSeekerOkSpec : ChangeSpec := { name := "fnExactSynSeekerOk", fn := fun _ => fun
  | [d] => { results := [.lit (.bool true)], args := [d] }
  | _ => none }
def fnExactSynSeekerOkRow : OpenClaim := { program := "ytiigcokbmggdkaa", sum := "abc8061d64a4712de590da734dba0a20d547be51b0f6b187df0c4e7084aa9ff5", func := "loop.example/pannier/laws.FnExactSynSeekerOk", spec := "fnExactSynSeekerOk", apart := false }
def FnExactSynSeekerOkSaid : Prop := fnExactSynSeekerOkRow.holds Try.pinned (OpenSpec.ofChange fnExactSynSeekerOkSpec)

/-- ITS FALSE NEIGHBOUR: 'it returns false'. Refute it at one input. -/
def fnExactSynSeekerOkWrong : ChangeSpec := { name := "fnExactSynSeekerOk", fn := fun _ => fun
  | [d] => { results := [.lit (.bool false)], args := [d] }
  | _ => none }
def FnExactSynSeekerOkWrongFalsely : Prop := fnExactSynSeekerOkRow.holds Try.pinned (OpenSpec.ofChange fnExactSynSeekerOkWrong)

/-- 'laws.FnExactSynSeek': WHATEVER THE INPUT: true; the input reads as it did. -/
def fnExactSynSeekSpec : ChangeSpec := { name := "fnExactSynSeek", fn := fun _ => fun
  | [d1, d2, d3, d4] => { results := [.lit (.bool true)], args := [d1, d2, d3, d4] }
  | _ => none }
def fnExactSynSeekRow : OpenClaim := { program := "ytiigcokbmggdkaa", sum := "abc8061d64a4712de590da734dba0a20d547be51b0f6b187df0c4e7084aa9ff5", func := "loop.example/pannier/laws.FnExactSynSeek", spec := "fnExactSynSeek", apart := false }
def FnExactSynSeekSaid : Prop := fnExactSynSeekRow.holds Try.pinned (OpenSpec.ofChange fnExactSynSeekSpec)

/-- ITS FALSE NEIGHBOUR: 'it returns false'. Refute it at one input. -/
def fnExactSynSeekWrong : ChangeSpec := { name := "fnExactSynSeek", fn := fun _ => fun
  | [d1, d2, d3, d4] => { results := [.lit (.bool false)], args := [d1, d2, d3, d4] }
  | _ => none }
def FnExactSynSeekWrongFalsely : Prop := fnExactSynSeekRow.holds Try.pinned (OpenSpec.ofChange fnExactSynSeekWrong)

/-- 'laws.FnExactSynHear': WHATEVER THE INPUT: true; the input reads as it did. -/
def fnExactSynHearSpec : ChangeSpec := { name := "fnExactSynHear", fn := fun _ => fun
  | [d1, d2, d3] => { results := [.lit (.bool true)], args := [d1, d2, d3] }
  | _ => none }
def fnExactSynHearRow : OpenClaim := { program := "ytiigcokbmggdkaa", sum := "abc8061d64a4712de590da734dba0a20d547be51b0f6b187df0c4e7084aa9ff5", func := "loop.example/pannier/laws.FnExactSynHear", spec := "fnExactSynHear", unfollowed := true, recurses := true, apart := false }
def FnExactSynHearSaid : Prop := fnExactSynHearRow.holds Try.pinned (OpenSpec.ofChange fnExactSynHearSpec)

/-- ITS FALSE NEIGHBOUR: 'it returns false'. Refute it at one input. -/
def fnExactSynHearWrong : ChangeSpec := { name := "fnExactSynHear", fn := fun _ => fun
  | [d1, d2, d3] => { results := [.lit (.bool false)], args := [d1, d2, d3] }
  | _ => none }
def FnExactSynHearWrongFalsely : Prop := fnExactSynHearRow.holds Try.pinned (OpenSpec.ofChange fnExactSynHearWrong)

/-- 'laws.FnSynHear': WHATEVER THE INPUT: true; the input reads as it did. -/
def fnSynHearSpec : ChangeSpec := { name := "fnSynHear", fn := fun _ => fun
  | [d] => { results := [.lit (.bool true)], args := [d] }
  | _ => none }
def fnSynHearRow : OpenClaim := { program := "ytiigcokbmggdkaa", sum := "abc8061d64a4712de590da734dba0a20d547be51b0f6b187df0c4e7084aa9ff5", func := "loop.example/pannier/laws.FnSynHear", spec := "fnSynHear", unfollowed := true, recurses := true, apart := false }
def FnSynHearSaid : Prop := fnSynHearRow.holds Try.pinned (OpenSpec.ofChange fnSynHearSpec)

/-- ITS FALSE NEIGHBOUR: 'it returns false'. Refute it at one input. -/
def fnSynHearWrong : ChangeSpec := { name := "fnSynHear", fn := fun _ => fun
  | [d] => { results := [.lit (.bool false)], args := [d] }
  | _ => none }
def FnSynHearWrongFalsely : Prop := fnSynHearRow.holds Try.pinned (OpenSpec.ofChange fnSynHearWrong)

/- THE SECOND FORM. 'bulk': how many values and letters a reading holds, each counted each time it is reached (what is shared counts as often as it is met; a slice's spare places count too). A statement '..UptoSaid' is the law's where the arguments, and the package variables that the reading takes, are together of bulk at most 1048576: NARROWER than '..Said'. Prove '..Said' where nothing that the law and all that it calls make is longer than what came in: it says more and counts as full. Else prove '..UptoSaid'. A law counts once. -/
mutual
def uptoBulk {H : Type} : DataW H → Nat
  | .lit (.string bytes) => bytes.length + 1
  | .lit _ => 1
  | .nil => 1
  | .ptr d => uptoBulk d + 1
  | .slice elems spare => uptoBulkAll elems + uptoBulkAll spare + 1
  | .agg parts => uptoBulkAll parts + 1
  | .iface _ d => uptoBulk d + 1
  | .map entries => uptoBulkEntries entries + 1
  | .held _ => 1
def uptoBulkAll {H : Type} : List (DataW H) → Nat
  | [] => 0
  | d :: r => uptoBulk d + uptoBulkAll r
def uptoBulkEntries {H : Type} : List (Lit × DataW H) → Nat
  | [] => 0
  | x :: r => uptoBulkEntry x + uptoBulkEntries r
def uptoBulkEntry {H : Type} : Lit × DataW H → Nat
  | (.string bytes, d) => bytes.length + uptoBulk d + 1
  | (_, d) => uptoBulk d + 1
 end
def uptoSmall : (H : Type) → List (DataW H) → Bool := fun _ ds => decide (uptoBulkAll ds ≤ 1048576)
def OpenSpec.upto (s : _root_.Go.ChangeSpec) : _root_.Go.OpenSpec := { _root_.Go.OpenSpec.ofChange s with cond := some uptoSmall }

/-- 'laws.FnExactSynVote', WHERE WHAT IT READS IS OF BULK AT MOST 1048576: true; the input reads as it did. -/
def fnExactSynVoteUptoRow : OpenClaim := { program := "ytiigcokbmggdkaa", sum := "abc8061d64a4712de590da734dba0a20d547be51b0f6b187df0c4e7084aa9ff5", func := "loop.example/pannier/laws.FnExactSynVote", spec := "fnExactSynVote", unfollowed := true, recurses := true, apart := false, narrowed := true }
def FnExactSynVoteUptoSaid : Prop := fnExactSynVoteUptoRow.holds Try.pinned (OpenSpec.upto fnExactSynVoteSpec)

/-- 'laws.FnSynVote', WHERE WHAT IT READS IS OF BULK AT MOST 1048576: true; the input reads as it did. -/
def fnSynVoteUptoRow : OpenClaim := { program := "ytiigcokbmggdkaa", sum := "abc8061d64a4712de590da734dba0a20d547be51b0f6b187df0c4e7084aa9ff5", func := "loop.example/pannier/laws.FnSynVote", spec := "fnSynVote", unfollowed := true, recurses := true, apart := false, narrowed := true }
def FnSynVoteUptoSaid : Prop := fnSynVoteUptoRow.holds Try.pinned (OpenSpec.upto fnSynVoteSpec)

/-- 'laws.FnExactSynSeekerOk', WHERE WHAT IT READS IS OF BULK AT MOST 1048576: true; the input reads as it did. -/
def fnExactSynSeekerOkUptoRow : OpenClaim := { program := "ytiigcokbmggdkaa", sum := "abc8061d64a4712de590da734dba0a20d547be51b0f6b187df0c4e7084aa9ff5", func := "loop.example/pannier/laws.FnExactSynSeekerOk", spec := "fnExactSynSeekerOk", apart := false, narrowed := true }
def FnExactSynSeekerOkUptoSaid : Prop := fnExactSynSeekerOkUptoRow.holds Try.pinned (OpenSpec.upto fnExactSynSeekerOkSpec)

/-- 'laws.FnExactSynSeek', WHERE WHAT IT READS IS OF BULK AT MOST 1048576: true; the input reads as it did. -/
def fnExactSynSeekUptoRow : OpenClaim := { program := "ytiigcokbmggdkaa", sum := "abc8061d64a4712de590da734dba0a20d547be51b0f6b187df0c4e7084aa9ff5", func := "loop.example/pannier/laws.FnExactSynSeek", spec := "fnExactSynSeek", apart := false, narrowed := true }
def FnExactSynSeekUptoSaid : Prop := fnExactSynSeekUptoRow.holds Try.pinned (OpenSpec.upto fnExactSynSeekSpec)

/-- 'laws.FnExactSynHear', WHERE WHAT IT READS IS OF BULK AT MOST 1048576: true; the input reads as it did. -/
def fnExactSynHearUptoRow : OpenClaim := { program := "ytiigcokbmggdkaa", sum := "abc8061d64a4712de590da734dba0a20d547be51b0f6b187df0c4e7084aa9ff5", func := "loop.example/pannier/laws.FnExactSynHear", spec := "fnExactSynHear", unfollowed := true, recurses := true, apart := false, narrowed := true }
def FnExactSynHearUptoSaid : Prop := fnExactSynHearUptoRow.holds Try.pinned (OpenSpec.upto fnExactSynHearSpec)

/-- 'laws.FnSynHear', WHERE WHAT IT READS IS OF BULK AT MOST 1048576: true; the input reads as it did. -/
def fnSynHearUptoRow : OpenClaim := { program := "ytiigcokbmggdkaa", sum := "abc8061d64a4712de590da734dba0a20d547be51b0f6b187df0c4e7084aa9ff5", func := "loop.example/pannier/laws.FnSynHear", spec := "fnSynHear", unfollowed := true, recurses := true, apart := false, narrowed := true }
def FnSynHearUptoSaid : Prop := fnSynHearUptoRow.holds Try.pinned (OpenSpec.upto fnSynHearSpec)

end Rows
end Go.Proofs.Ytiigcokbmggdkaa
