/-
  No cell of these rows narrows 'for every input' (looked for: loops, veiled, ifaces, maps, wideKeys, modest, calm, conditions, laid).
  DERIVED. THE GIVEN ROWS OF THIS SEAT. 10 by the template 'for every input the law returns true; each argument reads behind the call as it read before'; 0 by the template 'total and deterministic' (their statements: YtpgkiacpadglbaaTotals.lean).
  GIVEN WITH THE SEED: the statements are not yours to turn. If you find one false, say at which input.
  Laid BY PROGRAM, IN A SANDBOX (cutbox-rows.mjs): the forced cells as the released guide's own fill.sh prints them over the translation b88fc91a018a5a4d… (all of the seat's roots in one cut). By AI agents, Wed Nov 11 2026. No macro, syntax, notation, axiom, sorry.
-/
import Derived.Test.YtpgkiacpadglbaaChecked
import GoSem.Claim
import GoSem.ClaimJoined
import GoSem.ClaimMapViews
import Derived.JoinedTies
import Derived.KernelRfl
namespace Go.Proofs.Ytpgkiacpadglbaa
/- THE CELL 'sum', in the pinned program and in every row, IS THE sha256 OF THE DUMP (.gsa) THAT YtpgkiacpadglbaaProg.lean LOADS. Nothing in Lean hashes anything: it is a label: what it is worth is what the hold of that sum in a sandbox is worth. -/
noncomputable def Try.pinned : Pinned := { name := "ytpgkiacpadglbaa", sum := "b88fc91a018a5a4dc97a70ba7e84429bf31efb22ef2137d8a0218792bec1b15c", checked := Try.checked }
namespace Rows
def none {H : Type} : Left H := { results := [], args := [] }

/-- 'laws.FnSecCut': WHATEVER THE INPUT: true; the input reads as it did. -/
def fnSecCutSpec : ChangeSpec := { name := "fnSecCut", fn := fun _ => fun
  | [d] => { results := [.lit (.bool true)], args := [d] }
  | _ => none }
def fnSecCutRow : OpenClaim := { program := "ytpgkiacpadglbaa", sum := "b88fc91a018a5a4dc97a70ba7e84429bf31efb22ef2137d8a0218792bec1b15c", func := "loop.example/pannier/laws.FnSecCut", spec := "fnSecCut", unfollowed := true, recurses := true, apart := false }
def FnSecCutSaid : Prop := fnSecCutRow.holds Try.pinned (OpenSpec.ofChange fnSecCutSpec)

/-- ITS FALSE NEIGHBOUR: 'it returns false'. Refute it at one input. -/
def fnSecCutWrong : ChangeSpec := { name := "fnSecCut", fn := fun _ => fun
  | [d] => { results := [.lit (.bool false)], args := [d] }
  | _ => none }
def FnSecCutWrongFalsely : Prop := fnSecCutRow.holds Try.pinned (OpenSpec.ofChange fnSecCutWrong)

/-- 'laws.FnSecFlush': WHATEVER THE INPUT: true; the input reads as it did. -/
def fnSecFlushSpec : ChangeSpec := { name := "fnSecFlush", fn := fun _ => fun
  | [d1, d2] => { results := [.lit (.bool true)], args := [d1, d2] }
  | _ => none }
def fnSecFlushRow : OpenClaim := { program := "ytpgkiacpadglbaa", sum := "b88fc91a018a5a4dc97a70ba7e84429bf31efb22ef2137d8a0218792bec1b15c", func := "loop.example/pannier/laws.FnSecFlush", spec := "fnSecFlush", unfollowed := true, recurses := true, apart := false }
def FnSecFlushSaid : Prop := fnSecFlushRow.holds Try.pinned (OpenSpec.ofChange fnSecFlushSpec)

/-- ITS FALSE NEIGHBOUR: 'it returns false'. Refute it at one input. -/
def fnSecFlushWrong : ChangeSpec := { name := "fnSecFlush", fn := fun _ => fun
  | [d1, d2] => { results := [.lit (.bool false)], args := [d1, d2] }
  | _ => none }
def FnSecFlushWrongFalsely : Prop := fnSecFlushRow.holds Try.pinned (OpenSpec.ofChange fnSecFlushWrong)

/-- 'laws.FnSecPut': WHATEVER THE INPUT: true; the input reads as it did. -/
def fnSecPutSpec : ChangeSpec := { name := "fnSecPut", fn := fun _ => fun
  | [d] => { results := [.lit (.bool true)], args := [d] }
  | _ => none }
def fnSecPutRow : OpenClaim := { program := "ytpgkiacpadglbaa", sum := "b88fc91a018a5a4dc97a70ba7e84429bf31efb22ef2137d8a0218792bec1b15c", func := "loop.example/pannier/laws.FnSecPut", spec := "fnSecPut", unfollowed := true, recurses := true, apart := false }
def FnSecPutSaid : Prop := fnSecPutRow.holds Try.pinned (OpenSpec.ofChange fnSecPutSpec)

/-- ITS FALSE NEIGHBOUR: 'it returns false'. Refute it at one input. -/
def fnSecPutWrong : ChangeSpec := { name := "fnSecPut", fn := fun _ => fun
  | [d] => { results := [.lit (.bool false)], args := [d] }
  | _ => none }
def FnSecPutWrongFalsely : Prop := fnSecPutRow.holds Try.pinned (OpenSpec.ofChange fnSecPutWrong)

/-- 'laws.FnSecSwap': WHATEVER THE INPUT: true; the input reads as it did. -/
def fnSecSwapSpec : ChangeSpec := { name := "fnSecSwap", fn := fun _ => fun
  | [d1, d2] => { results := [.lit (.bool true)], args := [d1, d2] }
  | _ => none }
def fnSecSwapRow : OpenClaim := { program := "ytpgkiacpadglbaa", sum := "b88fc91a018a5a4dc97a70ba7e84429bf31efb22ef2137d8a0218792bec1b15c", func := "loop.example/pannier/laws.FnSecSwap", spec := "fnSecSwap", unfollowed := true, recurses := true, apart := false }
def FnSecSwapSaid : Prop := fnSecSwapRow.holds Try.pinned (OpenSpec.ofChange fnSecSwapSpec)

/-- ITS FALSE NEIGHBOUR: 'it returns false'. Refute it at one input. -/
def fnSecSwapWrong : ChangeSpec := { name := "fnSecSwap", fn := fun _ => fun
  | [d1, d2] => { results := [.lit (.bool false)], args := [d1, d2] }
  | _ => none }
def FnSecSwapWrongFalsely : Prop := fnSecSwapRow.holds Try.pinned (OpenSpec.ofChange fnSecSwapWrong)

/-- 'laws.FnExactSecOk': WHATEVER THE INPUT: true; the input reads as it did. -/
def fnExactSecOkSpec : ChangeSpec := { name := "fnExactSecOk", fn := fun _ => fun
  | [d] => { results := [.lit (.bool true)], args := [d] }
  | _ => none }
def fnExactSecOkRow : OpenClaim := { program := "ytpgkiacpadglbaa", sum := "b88fc91a018a5a4dc97a70ba7e84429bf31efb22ef2137d8a0218792bec1b15c", func := "loop.example/pannier/laws.FnExactSecOk", spec := "fnExactSecOk", unfollowed := true, recurses := true, apart := false }
def FnExactSecOkSaid : Prop := fnExactSecOkRow.holds Try.pinned (OpenSpec.ofChange fnExactSecOkSpec)

/-- ITS FALSE NEIGHBOUR: 'it returns false'. Refute it at one input. -/
def fnExactSecOkWrong : ChangeSpec := { name := "fnExactSecOk", fn := fun _ => fun
  | [d] => { results := [.lit (.bool false)], args := [d] }
  | _ => none }
def FnExactSecOkWrongFalsely : Prop := fnExactSecOkRow.holds Try.pinned (OpenSpec.ofChange fnExactSecOkWrong)

/-- 'laws.FnExactSecNew': WHATEVER THE INPUT: true; the input reads as it did. -/
def fnExactSecNewSpec : ChangeSpec := { name := "fnExactSecNew", fn := fun _ => fun
  | [d] => { results := [.lit (.bool true)], args := [d] }
  | _ => none }
def fnExactSecNewRow : OpenClaim := { program := "ytpgkiacpadglbaa", sum := "b88fc91a018a5a4dc97a70ba7e84429bf31efb22ef2137d8a0218792bec1b15c", func := "loop.example/pannier/laws.FnExactSecNew", spec := "fnExactSecNew", apart := false }
def FnExactSecNewSaid : Prop := fnExactSecNewRow.holds Try.pinned (OpenSpec.ofChange fnExactSecNewSpec)

/-- ITS FALSE NEIGHBOUR: 'it returns false'. Refute it at one input. -/
def fnExactSecNewWrong : ChangeSpec := { name := "fnExactSecNew", fn := fun _ => fun
  | [d] => { results := [.lit (.bool false)], args := [d] }
  | _ => none }
def FnExactSecNewWrongFalsely : Prop := fnExactSecNewRow.holds Try.pinned (OpenSpec.ofChange fnExactSecNewWrong)

/-- 'laws.FnExactSecPut': WHATEVER THE INPUT: true; the input reads as it did. -/
def fnExactSecPutSpec : ChangeSpec := { name := "fnExactSecPut", fn := fun _ => fun
  | [d1, d2, d3] => { results := [.lit (.bool true)], args := [d1, d2, d3] }
  | _ => none }
def fnExactSecPutRow : OpenClaim := { program := "ytpgkiacpadglbaa", sum := "b88fc91a018a5a4dc97a70ba7e84429bf31efb22ef2137d8a0218792bec1b15c", func := "loop.example/pannier/laws.FnExactSecPut", spec := "fnExactSecPut", unfollowed := true, recurses := true, apart := false }
def FnExactSecPutSaid : Prop := fnExactSecPutRow.holds Try.pinned (OpenSpec.ofChange fnExactSecPutSpec)

/-- ITS FALSE NEIGHBOUR: 'it returns false'. Refute it at one input. -/
def fnExactSecPutWrong : ChangeSpec := { name := "fnExactSecPut", fn := fun _ => fun
  | [d1, d2, d3] => { results := [.lit (.bool false)], args := [d1, d2, d3] }
  | _ => none }
def FnExactSecPutWrongFalsely : Prop := fnExactSecPutRow.holds Try.pinned (OpenSpec.ofChange fnExactSecPutWrong)

/-- 'laws.FnExactSecFlush': WHATEVER THE INPUT: true; the input reads as it did. -/
def fnExactSecFlushSpec : ChangeSpec := { name := "fnExactSecFlush", fn := fun _ => fun
  | [d] => { results := [.lit (.bool true)], args := [d] }
  | _ => none }
def fnExactSecFlushRow : OpenClaim := { program := "ytpgkiacpadglbaa", sum := "b88fc91a018a5a4dc97a70ba7e84429bf31efb22ef2137d8a0218792bec1b15c", func := "loop.example/pannier/laws.FnExactSecFlush", spec := "fnExactSecFlush", unfollowed := true, recurses := true, apart := false }
def FnExactSecFlushSaid : Prop := fnExactSecFlushRow.holds Try.pinned (OpenSpec.ofChange fnExactSecFlushSpec)

/-- ITS FALSE NEIGHBOUR: 'it returns false'. Refute it at one input. -/
def fnExactSecFlushWrong : ChangeSpec := { name := "fnExactSecFlush", fn := fun _ => fun
  | [d] => { results := [.lit (.bool false)], args := [d] }
  | _ => none }
def FnExactSecFlushWrongFalsely : Prop := fnExactSecFlushRow.holds Try.pinned (OpenSpec.ofChange fnExactSecFlushWrong)

/-- 'laws.FnExactSecLook': WHATEVER THE INPUT: true; the input reads as it did. -/
def fnExactSecLookSpec : ChangeSpec := { name := "fnExactSecLook", fn := fun _ => fun
  | [d1, d2] => { results := [.lit (.bool true)], args := [d1, d2] }
  | _ => none }
def fnExactSecLookRow : OpenClaim := { program := "ytpgkiacpadglbaa", sum := "b88fc91a018a5a4dc97a70ba7e84429bf31efb22ef2137d8a0218792bec1b15c", func := "loop.example/pannier/laws.FnExactSecLook", spec := "fnExactSecLook", unfollowed := true, recurses := true, apart := false }
def FnExactSecLookSaid : Prop := fnExactSecLookRow.holds Try.pinned (OpenSpec.ofChange fnExactSecLookSpec)

/-- ITS FALSE NEIGHBOUR: 'it returns false'. Refute it at one input. -/
def fnExactSecLookWrong : ChangeSpec := { name := "fnExactSecLook", fn := fun _ => fun
  | [d1, d2] => { results := [.lit (.bool false)], args := [d1, d2] }
  | _ => none }
def FnExactSecLookWrongFalsely : Prop := fnExactSecLookRow.holds Try.pinned (OpenSpec.ofChange fnExactSecLookWrong)

/-- 'laws.FnExactSecCut': WHATEVER THE INPUT: true; the input reads as it did. -/
def fnExactSecCutSpec : ChangeSpec := { name := "fnExactSecCut", fn := fun _ => fun
  | [d1, d2] => { results := [.lit (.bool true)], args := [d1, d2] }
  | _ => none }
def fnExactSecCutRow : OpenClaim := { program := "ytpgkiacpadglbaa", sum := "b88fc91a018a5a4dc97a70ba7e84429bf31efb22ef2137d8a0218792bec1b15c", func := "loop.example/pannier/laws.FnExactSecCut", spec := "fnExactSecCut", unfollowed := true, recurses := true, apart := false }
def FnExactSecCutSaid : Prop := fnExactSecCutRow.holds Try.pinned (OpenSpec.ofChange fnExactSecCutSpec)

/-- ITS FALSE NEIGHBOUR: 'it returns false'. Refute it at one input. -/
def fnExactSecCutWrong : ChangeSpec := { name := "fnExactSecCut", fn := fun _ => fun
  | [d1, d2] => { results := [.lit (.bool false)], args := [d1, d2] }
  | _ => none }
def FnExactSecCutWrongFalsely : Prop := fnExactSecCutRow.holds Try.pinned (OpenSpec.ofChange fnExactSecCutWrong)

/- THE SECOND FORM. 'bulk': how many values and letters a reading holds, each counted each time it is reached (what is shared counts as often as it is met; a slice's spare places count too). A statement '..UptoSaid' is the law's where the arguments, and the package variables that the reading takes, are together of bulk at most 1048576: NARROWER than '..Said'. Prove '..Said' where nothing that the law and all that it calls make is longer than what came in: it says more and counts as full. Else prove '..UptoSaid'. A law counts once. -/
mutual
def uptoBulk {H : Type} : DataW H → Nat
  | .lit (.string bytes) => bytes.length + 1
  | .lit _ => 1
  | .nil => 1
  | .ptr d => uptoBulk d + 1
  | .slice elems spare => uptoBulkAll elems + uptoBulkAll spare + 1
  | .agg parts => uptoBulkAll parts + 1
  | .iface _ d => uptoBulk d + 1
  | .map entries => uptoBulkEntries entries + 1
  | .held _ => 1
def uptoBulkAll {H : Type} : List (DataW H) → Nat
  | [] => 0
  | d :: r => uptoBulk d + uptoBulkAll r
def uptoBulkEntries {H : Type} : List (Lit × DataW H) → Nat
  | [] => 0
  | x :: r => uptoBulkEntry x + uptoBulkEntries r
def uptoBulkEntry {H : Type} : Lit × DataW H → Nat
  | (.string bytes, d) => bytes.length + uptoBulk d + 1
  | (_, d) => uptoBulk d + 1
 end
def uptoSmall : (H : Type) → List (DataW H) → Bool := fun _ ds => decide (uptoBulkAll ds ≤ 1048576)
def OpenSpec.upto (s : _root_.Go.ChangeSpec) : _root_.Go.OpenSpec := { _root_.Go.OpenSpec.ofChange s with cond := some uptoSmall }

/-- 'laws.FnSecCut', WHERE WHAT IT READS IS OF BULK AT MOST 1048576: true; the input reads as it did. -/
def fnSecCutUptoRow : OpenClaim := { program := "ytpgkiacpadglbaa", sum := "b88fc91a018a5a4dc97a70ba7e84429bf31efb22ef2137d8a0218792bec1b15c", func := "loop.example/pannier/laws.FnSecCut", spec := "fnSecCut", unfollowed := true, recurses := true, apart := false, narrowed := true }
def FnSecCutUptoSaid : Prop := fnSecCutUptoRow.holds Try.pinned (OpenSpec.upto fnSecCutSpec)

/-- 'laws.FnSecFlush', WHERE WHAT IT READS IS OF BULK AT MOST 1048576: true; the input reads as it did. -/
def fnSecFlushUptoRow : OpenClaim := { program := "ytpgkiacpadglbaa", sum := "b88fc91a018a5a4dc97a70ba7e84429bf31efb22ef2137d8a0218792bec1b15c", func := "loop.example/pannier/laws.FnSecFlush", spec := "fnSecFlush", unfollowed := true, recurses := true, apart := false, narrowed := true }
def FnSecFlushUptoSaid : Prop := fnSecFlushUptoRow.holds Try.pinned (OpenSpec.upto fnSecFlushSpec)

/-- 'laws.FnSecPut', WHERE WHAT IT READS IS OF BULK AT MOST 1048576: true; the input reads as it did. -/
def fnSecPutUptoRow : OpenClaim := { program := "ytpgkiacpadglbaa", sum := "b88fc91a018a5a4dc97a70ba7e84429bf31efb22ef2137d8a0218792bec1b15c", func := "loop.example/pannier/laws.FnSecPut", spec := "fnSecPut", unfollowed := true, recurses := true, apart := false, narrowed := true }
def FnSecPutUptoSaid : Prop := fnSecPutUptoRow.holds Try.pinned (OpenSpec.upto fnSecPutSpec)

/-- 'laws.FnSecSwap', WHERE WHAT IT READS IS OF BULK AT MOST 1048576: true; the input reads as it did. -/
def fnSecSwapUptoRow : OpenClaim := { program := "ytpgkiacpadglbaa", sum := "b88fc91a018a5a4dc97a70ba7e84429bf31efb22ef2137d8a0218792bec1b15c", func := "loop.example/pannier/laws.FnSecSwap", spec := "fnSecSwap", unfollowed := true, recurses := true, apart := false, narrowed := true }
def FnSecSwapUptoSaid : Prop := fnSecSwapUptoRow.holds Try.pinned (OpenSpec.upto fnSecSwapSpec)

/-- 'laws.FnExactSecOk', WHERE WHAT IT READS IS OF BULK AT MOST 1048576: true; the input reads as it did. -/
def fnExactSecOkUptoRow : OpenClaim := { program := "ytpgkiacpadglbaa", sum := "b88fc91a018a5a4dc97a70ba7e84429bf31efb22ef2137d8a0218792bec1b15c", func := "loop.example/pannier/laws.FnExactSecOk", spec := "fnExactSecOk", unfollowed := true, recurses := true, apart := false, narrowed := true }
def FnExactSecOkUptoSaid : Prop := fnExactSecOkUptoRow.holds Try.pinned (OpenSpec.upto fnExactSecOkSpec)

/-- 'laws.FnExactSecNew', WHERE WHAT IT READS IS OF BULK AT MOST 1048576: true; the input reads as it did. -/
def fnExactSecNewUptoRow : OpenClaim := { program := "ytpgkiacpadglbaa", sum := "b88fc91a018a5a4dc97a70ba7e84429bf31efb22ef2137d8a0218792bec1b15c", func := "loop.example/pannier/laws.FnExactSecNew", spec := "fnExactSecNew", apart := false, narrowed := true }
def FnExactSecNewUptoSaid : Prop := fnExactSecNewUptoRow.holds Try.pinned (OpenSpec.upto fnExactSecNewSpec)

/-- 'laws.FnExactSecPut', WHERE WHAT IT READS IS OF BULK AT MOST 1048576: true; the input reads as it did. -/
def fnExactSecPutUptoRow : OpenClaim := { program := "ytpgkiacpadglbaa", sum := "b88fc91a018a5a4dc97a70ba7e84429bf31efb22ef2137d8a0218792bec1b15c", func := "loop.example/pannier/laws.FnExactSecPut", spec := "fnExactSecPut", unfollowed := true, recurses := true, apart := false, narrowed := true }
def FnExactSecPutUptoSaid : Prop := fnExactSecPutUptoRow.holds Try.pinned (OpenSpec.upto fnExactSecPutSpec)

/-- 'laws.FnExactSecFlush', WHERE WHAT IT READS IS OF BULK AT MOST 1048576: true; the input reads as it did. -/
def fnExactSecFlushUptoRow : OpenClaim := { program := "ytpgkiacpadglbaa", sum := "b88fc91a018a5a4dc97a70ba7e84429bf31efb22ef2137d8a0218792bec1b15c", func := "loop.example/pannier/laws.FnExactSecFlush", spec := "fnExactSecFlush", unfollowed := true, recurses := true, apart := false, narrowed := true }
def FnExactSecFlushUptoSaid : Prop := fnExactSecFlushUptoRow.holds Try.pinned (OpenSpec.upto fnExactSecFlushSpec)

/-- 'laws.FnExactSecLook', WHERE WHAT IT READS IS OF BULK AT MOST 1048576: true; the input reads as it did. -/
def fnExactSecLookUptoRow : OpenClaim := { program := "ytpgkiacpadglbaa", sum := "b88fc91a018a5a4dc97a70ba7e84429bf31efb22ef2137d8a0218792bec1b15c", func := "loop.example/pannier/laws.FnExactSecLook", spec := "fnExactSecLook", unfollowed := true, recurses := true, apart := false, narrowed := true }
def FnExactSecLookUptoSaid : Prop := fnExactSecLookUptoRow.holds Try.pinned (OpenSpec.upto fnExactSecLookSpec)

/-- 'laws.FnExactSecCut', WHERE WHAT IT READS IS OF BULK AT MOST 1048576: true; the input reads as it did. -/
def fnExactSecCutUptoRow : OpenClaim := { program := "ytpgkiacpadglbaa", sum := "b88fc91a018a5a4dc97a70ba7e84429bf31efb22ef2137d8a0218792bec1b15c", func := "loop.example/pannier/laws.FnExactSecCut", spec := "fnExactSecCut", unfollowed := true, recurses := true, apart := false, narrowed := true }
def FnExactSecCutUptoSaid : Prop := fnExactSecCutUptoRow.holds Try.pinned (OpenSpec.upto fnExactSecCutSpec)

end Rows
end Go.Proofs.Ytpgkiacpadglbaa
