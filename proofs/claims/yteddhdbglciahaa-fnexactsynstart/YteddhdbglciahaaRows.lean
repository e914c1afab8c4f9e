/-
  No cell of these rows narrows 'for every input' (looked for: loops, veiled, ifaces, maps, wideKeys, modest, calm, conditions, laid).
  DERIVED. THE GIVEN ROWS OF THIS SEAT. 4 by the template 'for every input the law returns true; each argument reads behind the call as it read before'; 0 by the template 'total and deterministic' (their statements: YteddhdbglciahaaTotals.lean).
  GIVEN WITH THE SEED: the statements are not yours to turn. If you find one false, say at which input.
  Laid BY PROGRAM, IN A SANDBOX (cutbox-rows.mjs): the forced cells as the released guide's own fill.sh prints them over the translation 6b4a24c745b6e23d… (all of the seat's roots in one cut). By AI agents, Wed Nov 11 2026. No macro, syntax, notation, axiom, sorry.
-/
import Derived.Test.YteddhdbglciahaaChecked
import GoSem.Claim
import GoSem.ClaimJoined
import GoSem.ClaimMapViews
import Derived.JoinedTies
import Derived.KernelRfl
namespace Go.Proofs.Yteddhdbglciahaa
/- THE CELL 'sum', in the pinned program and in every row, IS THE sha256 OF THE DUMP (.gsa) THAT YteddhdbglciahaaProg.lean LOADS. Nothing in Lean hashes anything: it is a label: what it is worth is what the hold of that sum in a sandbox is worth. -/
noncomputable def Try.pinned : Pinned := { name := "yteddhdbglciahaa", sum := "6b4a24c745b6e23d0267f8f19beecdc8b9350240c12876ad602550177f0a360e", checked := Try.checked }
namespace Rows
def none {H : Type} : Left H := { results := [], args := [] }

/-- 'laws.FnExactSynHear': WHATEVER THE INPUT: true; the input reads as it did. -/
def fnExactSynHearSpec : ChangeSpec := { name := "fnExactSynHear", fn := fun _ => fun
  | [d1, d2, d3] => { results := [.lit (.bool true)], args := [d1, d2, d3] }
  | _ => none }
def fnExactSynHearRow : OpenClaim := { program := "yteddhdbglciahaa", sum := "6b4a24c745b6e23d0267f8f19beecdc8b9350240c12876ad602550177f0a360e", func := "loop.example/pannier/laws.FnExactSynHear", spec := "fnExactSynHear", unfollowed := true, recurses := true, apart := false }
def FnExactSynHearSaid : Prop := fnExactSynHearRow.holds Try.pinned (OpenSpec.ofChange fnExactSynHearSpec)

/-- ITS FALSE NEIGHBOUR: 'it returns false'. Refute it at one input. -/
def fnExactSynHearWrong : ChangeSpec := { name := "fnExactSynHear", fn := fun _ => fun
  | [d1, d2, d3] => { results := [.lit (.bool false)], args := [d1, d2, d3] }
  | _ => none }
def FnExactSynHearWrongFalsely : Prop := fnExactSynHearRow.holds Try.pinned (OpenSpec.ofChange fnExactSynHearWrong)

/-- 'laws.FnSynHear': WHATEVER THE INPUT: true; the input reads as it did. -/
def fnSynHearSpec : ChangeSpec := { name := "fnSynHear", fn := fun _ => fun
  | [d] => { results := [.lit (.bool true)], args := [d] }
  | _ => none }
def fnSynHearRow : OpenClaim := { program := "yteddhdbglciahaa", sum := "6b4a24c745b6e23d0267f8f19beecdc8b9350240c12876ad602550177f0a360e", func := "loop.example/pannier/laws.FnSynHear", spec := "fnSynHear", unfollowed := true, recurses := true, apart := false }
def FnSynHearSaid : Prop := fnSynHearRow.holds Try.pinned (OpenSpec.ofChange fnSynHearSpec)

/-- ITS FALSE NEIGHBOUR: 'it returns false'. Refute it at one input. -/
def fnSynHearWrong : ChangeSpec := { name := "fnSynHear", fn := fun _ => fun
  | [d] => { results := [.lit (.bool false)], args := [d] }
  | _ => none }
def FnSynHearWrongFalsely : Prop := fnSynHearRow.holds Try.pinned (OpenSpec.ofChange fnSynHearWrong)

/-- 'laws.FnExactSynStart': WHATEVER THE INPUT: true; the input reads as it did. -/
def fnExactSynStartSpec : ChangeSpec := { name := "fnExactSynStart", fn := fun _ => fun
  | [] => { results := [.lit (.bool true)], args := [] }
  | _ => none }
def fnExactSynStartRow : OpenClaim := { program := "yteddhdbglciahaa", sum := "6b4a24c745b6e23d0267f8f19beecdc8b9350240c12876ad602550177f0a360e", func := "loop.example/pannier/laws.FnExactSynStart", spec := "fnExactSynStart", apart := false }
def FnExactSynStartSaid : Prop := fnExactSynStartRow.holds Try.pinned (OpenSpec.ofChange fnExactSynStartSpec)

/-- ITS FALSE NEIGHBOUR: 'it returns false'. Refute it at one input. -/
def fnExactSynStartWrong : ChangeSpec := { name := "fnExactSynStart", fn := fun _ => fun
  | [] => { results := [.lit (.bool false)], args := [] }
  | _ => none }
def FnExactSynStartWrongFalsely : Prop := fnExactSynStartRow.holds Try.pinned (OpenSpec.ofChange fnExactSynStartWrong)

/-- 'laws.FnExactSynCouncilOk': WHATEVER THE INPUT: true; the input reads as it did. -/
def fnExactSynCouncilOkSpec : ChangeSpec := { name := "fnExactSynCouncilOk", fn := fun _ => fun
  | [d] => { results := [.lit (.bool true)], args := [d] }
  | _ => none }
def fnExactSynCouncilOkRow : OpenClaim := { program := "yteddhdbglciahaa", sum := "6b4a24c745b6e23d0267f8f19beecdc8b9350240c12876ad602550177f0a360e", func := "loop.example/pannier/laws.FnExactSynCouncilOk", spec := "fnExactSynCouncilOk", unfollowed := true, recurses := true, apart := false }
def FnExactSynCouncilOkSaid : Prop := fnExactSynCouncilOkRow.holds Try.pinned (OpenSpec.ofChange fnExactSynCouncilOkSpec)

/-- ITS FALSE NEIGHBOUR: 'it returns false'. Refute it at one input. -/
def fnExactSynCouncilOkWrong : ChangeSpec := { name := "fnExactSynCouncilOk", fn := fun _ => fun
  | [d] => { results := [.lit (.bool false)], args := [d] }
  | _ => none }
def FnExactSynCouncilOkWrongFalsely : Prop := fnExactSynCouncilOkRow.holds Try.pinned (OpenSpec.ofChange fnExactSynCouncilOkWrong)

/- THE SECOND FORM. 'bulk': how many values and letters a reading holds, each counted each time it is reached (what is shared counts as often as it is met; a slice's spare places count too). A statement '..UptoSaid' is the law's where the arguments, and the package variables that the reading takes, are together of bulk at most 1048576: NARROWER than '..Said'. Prove '..Said' where nothing that the law and all that it calls make is longer than what came in: it says more and counts as full. Else prove '..UptoSaid'. A law counts once. -/
mutual
def uptoBulk {H : Type} : DataW H → Nat
  | .lit (.string bytes) => bytes.length + 1
  | .lit _ => 1
  | .nil => 1
  | .ptr d => uptoBulk d + 1
  | .slice elems spare => uptoBulkAll elems + uptoBulkAll spare + 1
  | .agg parts => uptoBulkAll parts + 1
  | .iface _ d => uptoBulk d + 1
  | .map entries => uptoBulkEntries entries + 1
  | .held _ => 1
def uptoBulkAll {H : Type} : List (DataW H) → Nat
  | [] => 0
  | d :: r => uptoBulk d + uptoBulkAll r
def uptoBulkEntries {H : Type} : List (Lit × DataW H) → Nat
  | [] => 0
  | x :: r => uptoBulkEntry x + uptoBulkEntries r
def uptoBulkEntry {H : Type} : Lit × DataW H → Nat
  | (.string bytes, d) => bytes.length + uptoBulk d + 1
  | (_, d) => uptoBulk d + 1
 end
def uptoSmall : (H : Type) → List (DataW H) → Bool := fun _ ds => decide (uptoBulkAll ds ≤ 1048576)
def OpenSpec.upto (s : _root_.Go.ChangeSpec) : _root_.Go.OpenSpec := { _root_.Go.OpenSpec.ofChange s with cond := some uptoSmall }

/-- 'laws.FnExactSynHear', WHERE WHAT IT READS IS OF BULK AT MOST 1048576: true; the input reads as it did. -/
def fnExactSynHearUptoRow : OpenClaim := { program := "yteddhdbglciahaa", sum := "6b4a24c745b6e23d0267f8f19beecdc8b9350240c12876ad602550177f0a360e", func := "loop.example/pannier/laws.FnExactSynHear", spec := "fnExactSynHear", unfollowed := true, recurses := true, apart := false, narrowed := true }
def FnExactSynHearUptoSaid : Prop := fnExactSynHearUptoRow.holds Try.pinned (OpenSpec.upto fnExactSynHearSpec)

/-- 'laws.FnSynHear', WHERE WHAT IT READS IS OF BULK AT MOST 1048576: true; the input reads as it did. -/
def fnSynHearUptoRow : OpenClaim := { program := "yteddhdbglciahaa", sum := "6b4a24c745b6e23d0267f8f19beecdc8b9350240c12876ad602550177f0a360e", func := "loop.example/pannier/laws.FnSynHear", spec := "fnSynHear", unfollowed := true, recurses := true, apart := false, narrowed := true }
def FnSynHearUptoSaid : Prop := fnSynHearUptoRow.holds Try.pinned (OpenSpec.upto fnSynHearSpec)

/-- 'laws.FnExactSynStart', WHERE WHAT IT READS IS OF BULK AT MOST 1048576: true; the input reads as it did. -/
def fnExactSynStartUptoRow : OpenClaim := { program := "yteddhdbglciahaa", sum := "6b4a24c745b6e23d0267f8f19beecdc8b9350240c12876ad602550177f0a360e", func := "loop.example/pannier/laws.FnExactSynStart", spec := "fnExactSynStart", apart := false, narrowed := true }
def FnExactSynStartUptoSaid : Prop := fnExactSynStartUptoRow.holds Try.pinned (OpenSpec.upto fnExactSynStartSpec)

/-- 'laws.FnExactSynCouncilOk', WHERE WHAT IT READS IS OF BULK AT MOST 1048576: true; the input reads as it did. -/
def fnExactSynCouncilOkUptoRow : OpenClaim := { program := "yteddhdbglciahaa", sum := "6b4a24c745b6e23d0267f8f19beecdc8b9350240c12876ad602550177f0a360e", func := "loop.example/pannier/laws.FnExactSynCouncilOk", spec := "fnExactSynCouncilOk", unfollowed := true, recurses := true, apart := false, narrowed := true }
def FnExactSynCouncilOkUptoSaid : Prop := fnExactSynCouncilOkUptoRow.holds Try.pinned (OpenSpec.upto fnExactSynCouncilOkSpec)

end Rows
end Go.Proofs.Yteddhdbglciahaa
