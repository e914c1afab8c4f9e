/-
  NARROWER THAN 'FOR EVERY INPUT', by the rows' own cells (each row's printed sentence says how): FnExactWalRead: laid · FnExactWalMend: laid · FnExactWalSteps: laid · FnWalDone: laid · FnWalMend: laid · FnWalTwice: laid.
  DERIVED. THE GIVEN ROWS OF THIS SEAT. 6 by the template 'for every input the law returns true; each argument reads behind the call as it read before'; 0 by the template 'total and deterministic' (their statements: YtapflnabiobonaaDoorTotals.lean).
  GIVEN WITH THE SEED: the statements are not yours to turn. If you find one false, say at which input.
  Laid BY PROGRAM, IN A SANDBOX (cutbox-rows.mjs): the forced cells as the released guide's own fill.sh prints them over the translation 4b45ad70f2a7bf13… (all of the seat's roots in one cut). By AI agents, Wed Nov 11 2026. No macro, syntax, notation, axiom, sorry.
-/
import Derived.Test.YtapflnabiobonaaDoorChecked
import GoSem.Claim
import GoSem.ClaimJoined
import GoSem.ClaimMapViews
import Derived.JoinedTies
import Derived.KernelRfl
namespace Go.Proofs.YtapflnabiobonaaDoor
/- THE CELL 'sum', in the pinned program and in every row, IS THE sha256 OF THE DUMP (.gsa) THAT YtapflnabiobonaaDoorProg.lean LOADS. Nothing in Lean hashes anything: it is a label: what it is worth is what the hold of that sum in a sandbox is worth. -/
noncomputable def Tryd.pinned : Pinned := { name := "ytapflnabiobonaadoor", sum := "4b45ad70f2a7bf13d37fb2233af63e579f70c3c45ff979c950ce2443d0a17e23", checked := Tryd.checked }
namespace Rows
def none {H : Type} : Left H := { results := [], args := [] }

/- WHAT THE LISTED PACKAGE-LEVEL VARIABLES READ AS WHEN THE CALL BEGINS. Each datum BY PROGRAM (the guide's laid-datum.mjs) off the statement by which the dump's own 'gosem.cut.vars' lays the variable. In a bare row this is a premise. The card (YtapflnabiobonaaDoorCards.lean) ties it to the program's text. -/
def laid_errors_errorType {H : Type} : DataW H := .iface "internal/reflectlite.rtype" (.agg [.ptr (.lit (.string [101, 114, 114, 111, 114]))])

/-- 'laws.FnExactWalRead': WHATEVER THE INPUT: true; the input reads as it did. -/
def fnExactWalReadSpec : ChangeSpec := { name := "fnExactWalRead", fn := fun _ => fun
  | [d] => { results := [.lit (.bool true)], args := [d] }
  | _ => none }
def fnExactWalReadRow : OpenClaim := { program := "ytapflnabiobonaadoor", sum := "4b45ad70f2a7bf13d37fb2233af63e579f70c3c45ff979c950ce2443d0a17e23", func := "loop.example/pannier/laws.FnExactWalRead", spec := "fnExactWalRead", inPlace := ["internal/reflectlite.ValueOf", "(internal/reflectlite.Value).Type", "(internal/reflectlite.Value).IsNil", "internal/reflectlite.TypeOf", "(internal/reflectlite.Value).Elem", "(internal/reflectlite.Value).Set"], unfollowed := true, recurses := true, named := ["errors.errorType"], apart := false, laid := [("errors.errorType", laid_errors_errorType)] }
def FnExactWalReadSaid : Prop := fnExactWalReadRow.holds Tryd.pinned (OpenSpec.ofChange fnExactWalReadSpec)

/-- ITS FALSE NEIGHBOUR: 'it returns false'. Refute it at one input. -/
def fnExactWalReadWrong : ChangeSpec := { name := "fnExactWalRead", fn := fun _ => fun
  | [d] => { results := [.lit (.bool false)], args := [d] }
  | _ => none }
def FnExactWalReadWrongFalsely : Prop := fnExactWalReadRow.holds Tryd.pinned (OpenSpec.ofChange fnExactWalReadWrong)

/-- 'laws.FnExactWalMend': WHATEVER THE INPUT: true; the input reads as it did. -/
def fnExactWalMendSpec : ChangeSpec := { name := "fnExactWalMend", fn := fun _ => fun
  | [d] => { results := [.lit (.bool true)], args := [d] }
  | _ => none }
def fnExactWalMendRow : OpenClaim := { program := "ytapflnabiobonaadoor", sum := "4b45ad70f2a7bf13d37fb2233af63e579f70c3c45ff979c950ce2443d0a17e23", func := "loop.example/pannier/laws.FnExactWalMend", spec := "fnExactWalMend", inPlace := ["internal/reflectlite.ValueOf", "(internal/reflectlite.Value).Type", "(internal/reflectlite.Value).IsNil", "internal/reflectlite.TypeOf", "(internal/reflectlite.Value).Elem", "(internal/reflectlite.Value).Set"], unfollowed := true, recurses := true, named := ["errors.errorType"], apart := false, laid := [("errors.errorType", laid_errors_errorType)] }
def FnExactWalMendSaid : Prop := fnExactWalMendRow.holds Tryd.pinned (OpenSpec.ofChange fnExactWalMendSpec)

/-- ITS FALSE NEIGHBOUR: 'it returns false'. Refute it at one input. -/
def fnExactWalMendWrong : ChangeSpec := { name := "fnExactWalMend", fn := fun _ => fun
  | [d] => { results := [.lit (.bool false)], args := [d] }
  | _ => none }
def FnExactWalMendWrongFalsely : Prop := fnExactWalMendRow.holds Tryd.pinned (OpenSpec.ofChange fnExactWalMendWrong)

/-- 'laws.FnExactWalSteps': WHATEVER THE INPUT: true; the input reads as it did. -/
def fnExactWalStepsSpec : ChangeSpec := { name := "fnExactWalSteps", fn := fun _ => fun
  | [d1, d2] => { results := [.lit (.bool true)], args := [d1, d2] }
  | _ => none }
def fnExactWalStepsRow : OpenClaim := { program := "ytapflnabiobonaadoor", sum := "4b45ad70f2a7bf13d37fb2233af63e579f70c3c45ff979c950ce2443d0a17e23", func := "loop.example/pannier/laws.FnExactWalSteps", spec := "fnExactWalSteps", inPlace := ["internal/reflectlite.ValueOf", "(internal/reflectlite.Value).Type", "(internal/reflectlite.Value).IsNil", "internal/reflectlite.TypeOf", "(internal/reflectlite.Value).Elem", "(internal/reflectlite.Value).Set"], unfollowed := true, recurses := true, named := ["errors.errorType"], apart := false, laid := [("errors.errorType", laid_errors_errorType)] }
def FnExactWalStepsSaid : Prop := fnExactWalStepsRow.holds Tryd.pinned (OpenSpec.ofChange fnExactWalStepsSpec)

/-- ITS FALSE NEIGHBOUR: 'it returns false'. Refute it at one input. -/
def fnExactWalStepsWrong : ChangeSpec := { name := "fnExactWalSteps", fn := fun _ => fun
  | [d1, d2] => { results := [.lit (.bool false)], args := [d1, d2] }
  | _ => none }
def FnExactWalStepsWrongFalsely : Prop := fnExactWalStepsRow.holds Tryd.pinned (OpenSpec.ofChange fnExactWalStepsWrong)

/-- 'laws.FnWalDone': WHATEVER THE INPUT: true; the input reads as it did. -/
def fnWalDoneSpec : ChangeSpec := { name := "fnWalDone", fn := fun _ => fun
  | [d] => { results := [.lit (.bool true)], args := [d] }
  | _ => none }
def fnWalDoneRow : OpenClaim := { program := "ytapflnabiobonaadoor", sum := "4b45ad70f2a7bf13d37fb2233af63e579f70c3c45ff979c950ce2443d0a17e23", func := "loop.example/pannier/laws.FnWalDone", spec := "fnWalDone", inPlace := ["internal/reflectlite.ValueOf", "(internal/reflectlite.Value).Type", "(internal/reflectlite.Value).IsNil", "internal/reflectlite.TypeOf", "(internal/reflectlite.Value).Elem", "(internal/reflectlite.Value).Set"], unfollowed := true, recurses := true, named := ["errors.errorType"], apart := false, laid := [("errors.errorType", laid_errors_errorType)] }
def FnWalDoneSaid : Prop := fnWalDoneRow.holds Tryd.pinned (OpenSpec.ofChange fnWalDoneSpec)

/-- ITS FALSE NEIGHBOUR: 'it returns false'. Refute it at one input. -/
def fnWalDoneWrong : ChangeSpec := { name := "fnWalDone", fn := fun _ => fun
  | [d] => { results := [.lit (.bool false)], args := [d] }
  | _ => none }
def FnWalDoneWrongFalsely : Prop := fnWalDoneRow.holds Tryd.pinned (OpenSpec.ofChange fnWalDoneWrong)

/-- 'laws.FnWalMend': WHATEVER THE INPUT: true; the input reads as it did. -/
def fnWalMendSpec : ChangeSpec := { name := "fnWalMend", fn := fun _ => fun
  | [d] => { results := [.lit (.bool true)], args := [d] }
  | _ => none }
def fnWalMendRow : OpenClaim := { program := "ytapflnabiobonaadoor", sum := "4b45ad70f2a7bf13d37fb2233af63e579f70c3c45ff979c950ce2443d0a17e23", func := "loop.example/pannier/laws.FnWalMend", spec := "fnWalMend", inPlace := ["internal/reflectlite.ValueOf", "(internal/reflectlite.Value).Type", "(internal/reflectlite.Value).IsNil", "internal/reflectlite.TypeOf", "(internal/reflectlite.Value).Elem", "(internal/reflectlite.Value).Set"], unfollowed := true, recurses := true, named := ["errors.errorType"], apart := false, laid := [("errors.errorType", laid_errors_errorType)] }
def FnWalMendSaid : Prop := fnWalMendRow.holds Tryd.pinned (OpenSpec.ofChange fnWalMendSpec)

/-- ITS FALSE NEIGHBOUR: 'it returns false'. Refute it at one input. -/
def fnWalMendWrong : ChangeSpec := { name := "fnWalMend", fn := fun _ => fun
  | [d] => { results := [.lit (.bool false)], args := [d] }
  | _ => none }
def FnWalMendWrongFalsely : Prop := fnWalMendRow.holds Tryd.pinned (OpenSpec.ofChange fnWalMendWrong)

/-- 'laws.FnWalTwice': WHATEVER THE INPUT: true; the input reads as it did. -/
def fnWalTwiceSpec : ChangeSpec := { name := "fnWalTwice", fn := fun _ => fun
  | [d1, d2] => { results := [.lit (.bool true)], args := [d1, d2] }
  | _ => none }
def fnWalTwiceRow : OpenClaim := { program := "ytapflnabiobonaadoor", sum := "4b45ad70f2a7bf13d37fb2233af63e579f70c3c45ff979c950ce2443d0a17e23", func := "loop.example/pannier/laws.FnWalTwice", spec := "fnWalTwice", inPlace := ["internal/reflectlite.ValueOf", "(internal/reflectlite.Value).Type", "(internal/reflectlite.Value).IsNil", "internal/reflectlite.TypeOf", "(internal/reflectlite.Value).Elem", "(internal/reflectlite.Value).Set"], unfollowed := true, recurses := true, named := ["errors.errorType"], apart := false, laid := [("errors.errorType", laid_errors_errorType)] }
def FnWalTwiceSaid : Prop := fnWalTwiceRow.holds Tryd.pinned (OpenSpec.ofChange fnWalTwiceSpec)

/-- ITS FALSE NEIGHBOUR: 'it returns false'. Refute it at one input. -/
def fnWalTwiceWrong : ChangeSpec := { name := "fnWalTwice", fn := fun _ => fun
  | [d1, d2] => { results := [.lit (.bool false)], args := [d1, d2] }
  | _ => none }
def FnWalTwiceWrongFalsely : Prop := fnWalTwiceRow.holds Tryd.pinned (OpenSpec.ofChange fnWalTwiceWrong)

/- THE SECOND FORM. 'bulk': how many values and letters a reading holds, each counted each time it is reached (what is shared counts as often as it is met; a slice's spare places count too). A statement '..UptoSaid' is the law's where the arguments, and the package variables that the reading takes, are together of bulk at most 1048576: NARROWER than '..Said'. Prove '..Said' where nothing that the law and all that it calls make is longer than what came in: it says more and counts as full. Else prove '..UptoSaid'. A law counts once. -/
mutual
def uptoBulk {H : Type} : DataW H → Nat
  | .lit (.string bytes) => bytes.length + 1
  | .lit _ => 1
  | .nil => 1
  | .ptr d => uptoBulk d + 1
  | .slice elems spare => uptoBulkAll elems + uptoBulkAll spare + 1
  | .agg parts => uptoBulkAll parts + 1
  | .iface _ d => uptoBulk d + 1
  | .map entries => uptoBulkEntries entries + 1
  | .held _ => 1
def uptoBulkAll {H : Type} : List (DataW H) → Nat
  | [] => 0
  | d :: r => uptoBulk d + uptoBulkAll r
def uptoBulkEntries {H : Type} : List (Lit × DataW H) → Nat
  | [] => 0
  | x :: r => uptoBulkEntry x + uptoBulkEntries r
def uptoBulkEntry {H : Type} : Lit × DataW H → Nat
  | (.string bytes, d) => bytes.length + uptoBulk d + 1
  | (_, d) => uptoBulk d + 1
 end
def uptoSmall : (H : Type) → List (DataW H) → Bool := fun _ ds => decide (uptoBulkAll ds ≤ 1048576)
def OpenSpec.upto (s : _root_.Go.ChangeSpec) : _root_.Go.OpenSpec := { _root_.Go.OpenSpec.ofChange s with cond := some uptoSmall }

/-- 'laws.FnExactWalRead', WHERE WHAT IT READS IS OF BULK AT MOST 1048576: true; the input reads as it did. -/
def fnExactWalReadUptoRow : OpenClaim := { program := "ytapflnabiobonaadoor", sum := "4b45ad70f2a7bf13d37fb2233af63e579f70c3c45ff979c950ce2443d0a17e23", func := "loop.example/pannier/laws.FnExactWalRead", spec := "fnExactWalRead", inPlace := ["internal/reflectlite.ValueOf", "(internal/reflectlite.Value).Type", "(internal/reflectlite.Value).IsNil", "internal/reflectlite.TypeOf", "(internal/reflectlite.Value).Elem", "(internal/reflectlite.Value).Set"], unfollowed := true, recurses := true, named := ["errors.errorType"], apart := false, laid := [("errors.errorType", laid_errors_errorType)], narrowed := true }
def FnExactWalReadUptoSaid : Prop := fnExactWalReadUptoRow.holds Tryd.pinned (OpenSpec.upto fnExactWalReadSpec)

/-- 'laws.FnExactWalMend', WHERE WHAT IT READS IS OF BULK AT MOST 1048576: true; the input reads as it did. -/
def fnExactWalMendUptoRow : OpenClaim := { program := "ytapflnabiobonaadoor", sum := "4b45ad70f2a7bf13d37fb2233af63e579f70c3c45ff979c950ce2443d0a17e23", func := "loop.example/pannier/laws.FnExactWalMend", spec := "fnExactWalMend", inPlace := ["internal/reflectlite.ValueOf", "(internal/reflectlite.Value).Type", "(internal/reflectlite.Value).IsNil", "internal/reflectlite.TypeOf", "(internal/reflectlite.Value).Elem", "(internal/reflectlite.Value).Set"], unfollowed := true, recurses := true, named := ["errors.errorType"], apart := false, laid := [("errors.errorType", laid_errors_errorType)], narrowed := true }
def FnExactWalMendUptoSaid : Prop := fnExactWalMendUptoRow.holds Tryd.pinned (OpenSpec.upto fnExactWalMendSpec)

/-- 'laws.FnExactWalSteps', WHERE WHAT IT READS IS OF BULK AT MOST 1048576: true; the input reads as it did. -/
def fnExactWalStepsUptoRow : OpenClaim := { program := "ytapflnabiobonaadoor", sum := "4b45ad70f2a7bf13d37fb2233af63e579f70c3c45ff979c950ce2443d0a17e23", func := "loop.example/pannier/laws.FnExactWalSteps", spec := "fnExactWalSteps", inPlace := ["internal/reflectlite.ValueOf", "(internal/reflectlite.Value).Type", "(internal/reflectlite.Value).IsNil", "internal/reflectlite.TypeOf", "(internal/reflectlite.Value).Elem", "(internal/reflectlite.Value).Set"], unfollowed := true, recurses := true, named := ["errors.errorType"], apart := false, laid := [("errors.errorType", laid_errors_errorType)], narrowed := true }
def FnExactWalStepsUptoSaid : Prop := fnExactWalStepsUptoRow.holds Tryd.pinned (OpenSpec.upto fnExactWalStepsSpec)

/-- 'laws.FnWalDone', WHERE WHAT IT READS IS OF BULK AT MOST 1048576: true; the input reads as it did. -/
def fnWalDoneUptoRow : OpenClaim := { program := "ytapflnabiobonaadoor", sum := "4b45ad70f2a7bf13d37fb2233af63e579f70c3c45ff979c950ce2443d0a17e23", func := "loop.example/pannier/laws.FnWalDone", spec := "fnWalDone", inPlace := ["internal/reflectlite.ValueOf", "(internal/reflectlite.Value).Type", "(internal/reflectlite.Value).IsNil", "internal/reflectlite.TypeOf", "(internal/reflectlite.Value).Elem", "(internal/reflectlite.Value).Set"], unfollowed := true, recurses := true, named := ["errors.errorType"], apart := false, laid := [("errors.errorType", laid_errors_errorType)], narrowed := true }
def FnWalDoneUptoSaid : Prop := fnWalDoneUptoRow.holds Tryd.pinned (OpenSpec.upto fnWalDoneSpec)

/-- 'laws.FnWalMend', WHERE WHAT IT READS IS OF BULK AT MOST 1048576: true; the input reads as it did. -/
def fnWalMendUptoRow : OpenClaim := { program := "ytapflnabiobonaadoor", sum := "4b45ad70f2a7bf13d37fb2233af63e579f70c3c45ff979c950ce2443d0a17e23", func := "loop.example/pannier/laws.FnWalMend", spec := "fnWalMend", inPlace := ["internal/reflectlite.ValueOf", "(internal/reflectlite.Value).Type", "(internal/reflectlite.Value).IsNil", "internal/reflectlite.TypeOf", "(internal/reflectlite.Value).Elem", "(internal/reflectlite.Value).Set"], unfollowed := true, recurses := true, named := ["errors.errorType"], apart := false, laid := [("errors.errorType", laid_errors_errorType)], narrowed := true }
def FnWalMendUptoSaid : Prop := fnWalMendUptoRow.holds Tryd.pinned (OpenSpec.upto fnWalMendSpec)

/-- 'laws.FnWalTwice', WHERE WHAT IT READS IS OF BULK AT MOST 1048576: true; the input reads as it did. -/
def fnWalTwiceUptoRow : OpenClaim := { program := "ytapflnabiobonaadoor", sum := "4b45ad70f2a7bf13d37fb2233af63e579f70c3c45ff979c950ce2443d0a17e23", func := "loop.example/pannier/laws.FnWalTwice", spec := "fnWalTwice", inPlace := ["internal/reflectlite.ValueOf", "(internal/reflectlite.Value).Type", "(internal/reflectlite.Value).IsNil", "internal/reflectlite.TypeOf", "(internal/reflectlite.Value).Elem", "(internal/reflectlite.Value).Set"], unfollowed := true, recurses := true, named := ["errors.errorType"], apart := false, laid := [("errors.errorType", laid_errors_errorType)], narrowed := true }
def FnWalTwiceUptoSaid : Prop := fnWalTwiceUptoRow.holds Tryd.pinned (OpenSpec.upto fnWalTwiceSpec)

end Rows
end Go.Proofs.YtapflnabiobonaaDoor
