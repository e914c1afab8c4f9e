/-
  DERIVED. GIVEN WITH THE SEED: THE CARDS: each row of YtapflnabiobonaaDoorRows.lean that lists a variable, with what it lists TIED to the program's text (the seventh form; the later family's looks); each row that meets fmt, with fmt's text TOLD by the authors' own Lean function (tested against real Go, not proved from fmt's source: count such statements apart). THE CARD IS WHAT COUNTS. Prove the row's statement (the work); the ties are given (YtapflnabiobonaaDoorTie.lean); close each card by the builder's one call (the guide's Derived/Test/ToyasCard.lean, 'card_holds'). Laid BY PROGRAM, IN A SANDBOX (cutbox-door.mjs). By AI agents, Wed Nov 11 2026. No macro, syntax, notation, axiom, sorry.
-/
import Derived.Test.YtapflnabiobonaaDoorRows
import GoSem.ClaimSeven
namespace Go.Proofs.YtapflnabiobonaaDoor
namespace Rows

/-- THE TIED CARD OF 'laws.FnExactWalRead'. -/
def fnExactWalReadCard : Claim7 := { stood := { row := fnExactWalReadRow, standIns := [], harness := (true, "a2441f4217a2c731af8c9527def1009be25210a82343786c30c1af3e6ffb0345"), looks := true }, kinds := [], alts := [], laidByText := true, laidKinds := [.handle], laidTests := true, laidLooks := .later }
def FnExactWalReadCardSaid : Prop := Claim7.holds Tryd.pinned (.plain (OpenSpec.ofChange fnExactWalReadSpec)) fnExactWalReadCard

/-- THE TIED CARD OF 'laws.FnExactWalMend'. -/
def fnExactWalMendCard : Claim7 := { stood := { row := fnExactWalMendRow, standIns := [], harness := (true, "a2441f4217a2c731af8c9527def1009be25210a82343786c30c1af3e6ffb0345"), looks := true }, kinds := [], alts := [], laidByText := true, laidKinds := [.handle], laidTests := true, laidLooks := .later }
def FnExactWalMendCardSaid : Prop := Claim7.holds Tryd.pinned (.plain (OpenSpec.ofChange fnExactWalMendSpec)) fnExactWalMendCard

/-- THE TIED CARD OF 'laws.FnExactWalSteps'. -/
def fnExactWalStepsCard : Claim7 := { stood := { row := fnExactWalStepsRow, standIns := [], harness := (true, "a2441f4217a2c731af8c9527def1009be25210a82343786c30c1af3e6ffb0345"), looks := true }, kinds := [], alts := [], laidByText := true, laidKinds := [.handle], laidTests := true, laidLooks := .later }
def FnExactWalStepsCardSaid : Prop := Claim7.holds Tryd.pinned (.plain (OpenSpec.ofChange fnExactWalStepsSpec)) fnExactWalStepsCard

/-- THE TIED CARD OF 'laws.FnWalDone'. -/
def fnWalDoneCard : Claim7 := { stood := { row := fnWalDoneRow, standIns := [], harness := (true, "a2441f4217a2c731af8c9527def1009be25210a82343786c30c1af3e6ffb0345"), looks := true }, kinds := [], alts := [], laidByText := true, laidKinds := [.handle], laidTests := true, laidLooks := .later }
def FnWalDoneCardSaid : Prop := Claim7.holds Tryd.pinned (.plain (OpenSpec.ofChange fnWalDoneSpec)) fnWalDoneCard

/-- THE TIED CARD OF 'laws.FnWalMend'. -/
def fnWalMendCard : Claim7 := { stood := { row := fnWalMendRow, standIns := [], harness := (true, "a2441f4217a2c731af8c9527def1009be25210a82343786c30c1af3e6ffb0345"), looks := true }, kinds := [], alts := [], laidByText := true, laidKinds := [.handle], laidTests := true, laidLooks := .later }
def FnWalMendCardSaid : Prop := Claim7.holds Tryd.pinned (.plain (OpenSpec.ofChange fnWalMendSpec)) fnWalMendCard

/-- THE TIED CARD OF 'laws.FnWalTwice'. -/
def fnWalTwiceCard : Claim7 := { stood := { row := fnWalTwiceRow, standIns := [], harness := (true, "a2441f4217a2c731af8c9527def1009be25210a82343786c30c1af3e6ffb0345"), looks := true }, kinds := [], alts := [], laidByText := true, laidKinds := [.handle], laidTests := true, laidLooks := .later }
def FnWalTwiceCardSaid : Prop := Claim7.holds Tryd.pinned (.plain (OpenSpec.ofChange fnWalTwiceSpec)) fnWalTwiceCard

/-- THE SECOND FORM's CARD OF 'laws.FnExactWalRead'. -/
def fnExactWalReadUptoCard : Claim7 := { stood := { row := fnExactWalReadUptoRow, standIns := [], harness := (true, "a2441f4217a2c731af8c9527def1009be25210a82343786c30c1af3e6ffb0345"), looks := true }, kinds := [], alts := [], laidByText := true, laidKinds := [.handle], laidTests := true, laidLooks := .later }
def FnExactWalReadUptoCardSaid : Prop := Claim7.holds Tryd.pinned (.plain (OpenSpec.upto fnExactWalReadSpec)) fnExactWalReadUptoCard

/-- THE SECOND FORM's CARD OF 'laws.FnExactWalMend'. -/
def fnExactWalMendUptoCard : Claim7 := { stood := { row := fnExactWalMendUptoRow, standIns := [], harness := (true, "a2441f4217a2c731af8c9527def1009be25210a82343786c30c1af3e6ffb0345"), looks := true }, kinds := [], alts := [], laidByText := true, laidKinds := [.handle], laidTests := true, laidLooks := .later }
def FnExactWalMendUptoCardSaid : Prop := Claim7.holds Tryd.pinned (.plain (OpenSpec.upto fnExactWalMendSpec)) fnExactWalMendUptoCard

/-- THE SECOND FORM's CARD OF 'laws.FnExactWalSteps'. -/
def fnExactWalStepsUptoCard : Claim7 := { stood := { row := fnExactWalStepsUptoRow, standIns := [], harness := (true, "a2441f4217a2c731af8c9527def1009be25210a82343786c30c1af3e6ffb0345"), looks := true }, kinds := [], alts := [], laidByText := true, laidKinds := [.handle], laidTests := true, laidLooks := .later }
def FnExactWalStepsUptoCardSaid : Prop := Claim7.holds Tryd.pinned (.plain (OpenSpec.upto fnExactWalStepsSpec)) fnExactWalStepsUptoCard

/-- THE SECOND FORM's CARD OF 'laws.FnWalDone'. -/
def fnWalDoneUptoCard : Claim7 := { stood := { row := fnWalDoneUptoRow, standIns := [], harness := (true, "a2441f4217a2c731af8c9527def1009be25210a82343786c30c1af3e6ffb0345"), looks := true }, kinds := [], alts := [], laidByText := true, laidKinds := [.handle], laidTests := true, laidLooks := .later }
def FnWalDoneUptoCardSaid : Prop := Claim7.holds Tryd.pinned (.plain (OpenSpec.upto fnWalDoneSpec)) fnWalDoneUptoCard

/-- THE SECOND FORM's CARD OF 'laws.FnWalMend'. -/
def fnWalMendUptoCard : Claim7 := { stood := { row := fnWalMendUptoRow, standIns := [], harness := (true, "a2441f4217a2c731af8c9527def1009be25210a82343786c30c1af3e6ffb0345"), looks := true }, kinds := [], alts := [], laidByText := true, laidKinds := [.handle], laidTests := true, laidLooks := .later }
def FnWalMendUptoCardSaid : Prop := Claim7.holds Tryd.pinned (.plain (OpenSpec.upto fnWalMendSpec)) fnWalMendUptoCard

/-- THE SECOND FORM's CARD OF 'laws.FnWalTwice'. -/
def fnWalTwiceUptoCard : Claim7 := { stood := { row := fnWalTwiceUptoRow, standIns := [], harness := (true, "a2441f4217a2c731af8c9527def1009be25210a82343786c30c1af3e6ffb0345"), looks := true }, kinds := [], alts := [], laidByText := true, laidKinds := [.handle], laidTests := true, laidLooks := .later }
def FnWalTwiceUptoCardSaid : Prop := Claim7.holds Tryd.pinned (.plain (OpenSpec.upto fnWalTwiceSpec)) fnWalTwiceUptoCard
end Rows
end Go.Proofs.YtapflnabiobonaaDoor
