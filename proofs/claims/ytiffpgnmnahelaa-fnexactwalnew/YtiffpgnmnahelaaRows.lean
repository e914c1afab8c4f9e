/-
  No cell of these rows narrows 'for every input' (looked for: loops, veiled, ifaces, maps, wideKeys, modest, calm, conditions, laid).
  DERIVED. THE GIVEN ROWS OF THIS SEAT. 5 by the template 'for every input the law returns true; each argument reads behind the call as it read before'; 0 by the template 'total and deterministic' (their statements: YtiffpgnmnahelaaTotals.lean).
  GIVEN WITH THE SEED: the statements are not yours to turn. If you find one false, say at which input.
  Laid BY PROGRAM, IN A SANDBOX (cutbox-rows.mjs): the forced cells as the released guide's own fill.sh prints them over the translation 1af66a129ebf5638… (all of the seat's roots in one cut). By AI agents, Wed Nov 11 2026. No macro, syntax, notation, axiom, sorry.
-/
import Derived.Test.YtiffpgnmnahelaaChecked
import GoSem.Claim
import GoSem.ClaimJoined
import GoSem.ClaimMapViews
import Derived.JoinedTies
import Derived.KernelRfl
namespace Go.Proofs.Ytiffpgnmnahelaa
/- THE CELL 'sum', in the pinned program and in every row, IS THE sha256 OF THE DUMP (.gsa) THAT YtiffpgnmnahelaaProg.lean LOADS. Nothing in Lean hashes anything: it is a label: what it is worth is what the hold of that sum in a sandbox is worth. -/
noncomputable def Try.pinned : Pinned := { name := "ytiffpgnmnahelaa", sum := "1af66a129ebf5638e7e4837a0552340ccfd1ac7408c06e4aec9191a90e2252ed", checked := Try.checked }
namespace Rows
def none {H : Type} : Left H := { results := [], args := [] }

/-- 'laws.FnSecCut': WHATEVER THE INPUT: true; the input reads as it did. -/
def fnSecCutSpec : ChangeSpec := { name := "fnSecCut", fn := fun _ => fun
  | [d] => { results := [.lit (.bool true)], args := [d] }
  | _ => none }
def fnSecCutRow : OpenClaim := { program := "ytiffpgnmnahelaa", sum := "1af66a129ebf5638e7e4837a0552340ccfd1ac7408c06e4aec9191a90e2252ed", func := "loop.example/pannier/laws.FnSecCut", spec := "fnSecCut", unfollowed := true, recurses := true, apart := false }
def FnSecCutSaid : Prop := fnSecCutRow.holds Try.pinned (OpenSpec.ofChange fnSecCutSpec)

/-- ITS FALSE NEIGHBOUR: 'it returns false'. Refute it at one input. -/
def fnSecCutWrong : ChangeSpec := { name := "fnSecCut", fn := fun _ => fun
  | [d] => { results := [.lit (.bool false)], args := [d] }
  | _ => none }
def FnSecCutWrongFalsely : Prop := fnSecCutRow.holds Try.pinned (OpenSpec.ofChange fnSecCutWrong)

/-- 'laws.FnSecFlush': WHATEVER THE INPUT: true; the input reads as it did. -/
def fnSecFlushSpec : ChangeSpec := { name := "fnSecFlush", fn := fun _ => fun
  | [d1, d2] => { results := [.lit (.bool true)], args := [d1, d2] }
  | _ => none }
def fnSecFlushRow : OpenClaim := { program := "ytiffpgnmnahelaa", sum := "1af66a129ebf5638e7e4837a0552340ccfd1ac7408c06e4aec9191a90e2252ed", func := "loop.example/pannier/laws.FnSecFlush", spec := "fnSecFlush", unfollowed := true, recurses := true, apart := false }
def FnSecFlushSaid : Prop := fnSecFlushRow.holds Try.pinned (OpenSpec.ofChange fnSecFlushSpec)

/-- ITS FALSE NEIGHBOUR: 'it returns false'. Refute it at one input. -/
def fnSecFlushWrong : ChangeSpec := { name := "fnSecFlush", fn := fun _ => fun
  | [d1, d2] => { results := [.lit (.bool false)], args := [d1, d2] }
  | _ => none }
def FnSecFlushWrongFalsely : Prop := fnSecFlushRow.holds Try.pinned (OpenSpec.ofChange fnSecFlushWrong)

/-- 'laws.FnSecPut': WHATEVER THE INPUT: true; the input reads as it did. -/
def fnSecPutSpec : ChangeSpec := { name := "fnSecPut", fn := fun _ => fun
  | [d] => { results := [.lit (.bool true)], args := [d] }
  | _ => none }
def fnSecPutRow : OpenClaim := { program := "ytiffpgnmnahelaa", sum := "1af66a129ebf5638e7e4837a0552340ccfd1ac7408c06e4aec9191a90e2252ed", func := "loop.example/pannier/laws.FnSecPut", spec := "fnSecPut", unfollowed := true, recurses := true, apart := false }
def FnSecPutSaid : Prop := fnSecPutRow.holds Try.pinned (OpenSpec.ofChange fnSecPutSpec)

/-- ITS FALSE NEIGHBOUR: 'it returns false'. Refute it at one input. -/
def fnSecPutWrong : ChangeSpec := { name := "fnSecPut", fn := fun _ => fun
  | [d] => { results := [.lit (.bool false)], args := [d] }
  | _ => none }
def FnSecPutWrongFalsely : Prop := fnSecPutRow.holds Try.pinned (OpenSpec.ofChange fnSecPutWrong)

/-- 'laws.FnSecSwap': WHATEVER THE INPUT: true; the input reads as it did. -/
def fnSecSwapSpec : ChangeSpec := { name := "fnSecSwap", fn := fun _ => fun
  | [d1, d2] => { results := [.lit (.bool true)], args := [d1, d2] }
  | _ => none }
def fnSecSwapRow : OpenClaim := { program := "ytiffpgnmnahelaa", sum := "1af66a129ebf5638e7e4837a0552340ccfd1ac7408c06e4aec9191a90e2252ed", func := "loop.example/pannier/laws.FnSecSwap", spec := "fnSecSwap", unfollowed := true, recurses := true, apart := false }
def FnSecSwapSaid : Prop := fnSecSwapRow.holds Try.pinned (OpenSpec.ofChange fnSecSwapSpec)

/-- ITS FALSE NEIGHBOUR: 'it returns false'. Refute it at one input. -/
def fnSecSwapWrong : ChangeSpec := { name := "fnSecSwap", fn := fun _ => fun
  | [d1, d2] => { results := [.lit (.bool false)], args := [d1, d2] }
  | _ => none }
def FnSecSwapWrongFalsely : Prop := fnSecSwapRow.holds Try.pinned (OpenSpec.ofChange fnSecSwapWrong)

/-- 'laws.FnExactWalNew': WHATEVER THE INPUT: true; the input reads as it did. -/
def fnExactWalNewSpec : ChangeSpec := { name := "fnExactWalNew", fn := fun _ => fun
  | [] => { results := [.lit (.bool true)], args := [] }
  | _ => none }
def fnExactWalNewRow : OpenClaim := { program := "ytiffpgnmnahelaa", sum := "1af66a129ebf5638e7e4837a0552340ccfd1ac7408c06e4aec9191a90e2252ed", func := "loop.example/pannier/laws.FnExactWalNew", spec := "fnExactWalNew", apart := false }
def FnExactWalNewSaid : Prop := fnExactWalNewRow.holds Try.pinned (OpenSpec.ofChange fnExactWalNewSpec)

/-- ITS FALSE NEIGHBOUR: 'it returns false'. Refute it at one input. -/
def fnExactWalNewWrong : ChangeSpec := { name := "fnExactWalNew", fn := fun _ => fun
  | [] => { results := [.lit (.bool false)], args := [] }
  | _ => none }
def FnExactWalNewWrongFalsely : Prop := fnExactWalNewRow.holds Try.pinned (OpenSpec.ofChange fnExactWalNewWrong)

/- THE SECOND FORM. 'bulk': how many values and letters a reading holds, each counted each time it is reached (what is shared counts as often as it is met; a slice's spare places count too). A statement '..UptoSaid' is the law's where the arguments, and the package variables that the reading takes, are together of bulk at most 1048576: NARROWER than '..Said'. Prove '..Said' where nothing that the law and all that it calls make is longer than what came in: it says more and counts as full. Else prove '..UptoSaid'. A law counts once. -/
mutual
def uptoBulk {H : Type} : DataW H → Nat
  | .lit (.string bytes) => bytes.length + 1
  | .lit _ => 1
  | .nil => 1
  | .ptr d => uptoBulk d + 1
  | .slice elems spare => uptoBulkAll elems + uptoBulkAll spare + 1
  | .agg parts => uptoBulkAll parts + 1
  | .iface _ d => uptoBulk d + 1
  | .map entries => uptoBulkEntries entries + 1
  | .held _ => 1
def uptoBulkAll {H : Type} : List (DataW H) → Nat
  | [] => 0
  | d :: r => uptoBulk d + uptoBulkAll r
def uptoBulkEntries {H : Type} : List (Lit × DataW H) → Nat
  | [] => 0
  | x :: r => uptoBulkEntry x + uptoBulkEntries r
def uptoBulkEntry {H : Type} : Lit × DataW H → Nat
  | (.string bytes, d) => bytes.length + uptoBulk d + 1
  | (_, d) => uptoBulk d + 1
 end
def uptoSmall : (H : Type) → List (DataW H) → Bool := fun _ ds => decide (uptoBulkAll ds ≤ 1048576)
def OpenSpec.upto (s : _root_.Go.ChangeSpec) : _root_.Go.OpenSpec := { _root_.Go.OpenSpec.ofChange s with cond := some uptoSmall }

/-- 'laws.FnSecCut', WHERE WHAT IT READS IS OF BULK AT MOST 1048576: true; the input reads as it did. -/
def fnSecCutUptoRow : OpenClaim := { program := "ytiffpgnmnahelaa", sum := "1af66a129ebf5638e7e4837a0552340ccfd1ac7408c06e4aec9191a90e2252ed", func := "loop.example/pannier/laws.FnSecCut", spec := "fnSecCut", unfollowed := true, recurses := true, apart := false, narrowed := true }
def FnSecCutUptoSaid : Prop := fnSecCutUptoRow.holds Try.pinned (OpenSpec.upto fnSecCutSpec)

/-- 'laws.FnSecFlush', WHERE WHAT IT READS IS OF BULK AT MOST 1048576: true; the input reads as it did. -/
def fnSecFlushUptoRow : OpenClaim := { program := "ytiffpgnmnahelaa", sum := "1af66a129ebf5638e7e4837a0552340ccfd1ac7408c06e4aec9191a90e2252ed", func := "loop.example/pannier/laws.FnSecFlush", spec := "fnSecFlush", unfollowed := true, recurses := true, apart := false, narrowed := true }
def FnSecFlushUptoSaid : Prop := fnSecFlushUptoRow.holds Try.pinned (OpenSpec.upto fnSecFlushSpec)

/-- 'laws.FnSecPut', WHERE WHAT IT READS IS OF BULK AT MOST 1048576: true; the input reads as it did. -/
def fnSecPutUptoRow : OpenClaim := { program := "ytiffpgnmnahelaa", sum := "1af66a129ebf5638e7e4837a0552340ccfd1ac7408c06e4aec9191a90e2252ed", func := "loop.example/pannier/laws.FnSecPut", spec := "fnSecPut", unfollowed := true, recurses := true, apart := false, narrowed := true }
def FnSecPutUptoSaid : Prop := fnSecPutUptoRow.holds Try.pinned (OpenSpec.upto fnSecPutSpec)

/-- 'laws.FnSecSwap', WHERE WHAT IT READS IS OF BULK AT MOST 1048576: true; the input reads as it did. -/
def fnSecSwapUptoRow : OpenClaim := { program := "ytiffpgnmnahelaa", sum := "1af66a129ebf5638e7e4837a0552340ccfd1ac7408c06e4aec9191a90e2252ed", func := "loop.example/pannier/laws.FnSecSwap", spec := "fnSecSwap", unfollowed := true, recurses := true, apart := false, narrowed := true }
def FnSecSwapUptoSaid : Prop := fnSecSwapUptoRow.holds Try.pinned (OpenSpec.upto fnSecSwapSpec)

/-- 'laws.FnExactWalNew', WHERE WHAT IT READS IS OF BULK AT MOST 1048576: true; the input reads as it did. -/
def fnExactWalNewUptoRow : OpenClaim := { program := "ytiffpgnmnahelaa", sum := "1af66a129ebf5638e7e4837a0552340ccfd1ac7408c06e4aec9191a90e2252ed", func := "loop.example/pannier/laws.FnExactWalNew", spec := "fnExactWalNew", apart := false, narrowed := true }
def FnExactWalNewUptoSaid : Prop := fnExactWalNewUptoRow.holds Try.pinned (OpenSpec.upto fnExactWalNewSpec)

end Rows
end Go.Proofs.Ytiffpgnmnahelaa
