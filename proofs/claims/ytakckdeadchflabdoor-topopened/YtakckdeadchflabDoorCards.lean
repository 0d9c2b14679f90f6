/-
  DERIVED. GIVEN WITH THE SEED: THE CARDS: each row of YtakckdeadchflabDoorRows.lean that lists a variable, with what it lists TIED to the program's text (the seventh form; the later family's looks); each row that meets fmt, with fmt's text TOLD by the authors' own Lean function (tested against real Go, not proved from fmt's source: count such statements apart). THE CARD IS WHAT COUNTS. Prove the row's statement (the work); the ties are given (YtakckdeadchflabDoorTie.lean); close each card by the builder's one call (the guide's Derived/Test/ToyasCard.lean, 'card_holds'). Laid BY PROGRAM, IN A SANDBOX (cutbox-door.mjs). By AI agents, Wed Nov 11 2026. No macro, syntax, notation, axiom, sorry.
-/
import Derived.Test.YtakckdeadchflabDoorRows
import GoSem.ClaimSeven
namespace Go.Proofs.YtakckdeadchflabDoor
namespace Rows

/-- THE TIED CARD OF 'towpathtop.TopOpened'. -/
def topOpenedCard : Claim7 := { stood := { row := topOpenedRow, standIns := [], harness := (true, "e1fd07a14f24bd5bbe7e137e7e8887d906b8ec13042d02d0d6f76a62b0df5031"), looks := false }, kinds := [], alts := [], laidByText := true, laidKinds := [.data], laidTests := true, laidLooks := .later }
def TopOpenedCardSaid : Prop := Claim7.holds Tryd.pinned (.plain (OpenSpec.ofChange topOpenedSpec)) topOpenedCard

/-- THE TIED CARD OF 'towpathtop.TopSilence'. -/
def topSilenceCard : Claim7 := { stood := { row := topSilenceRow, standIns := [], harness := (true, "e1fd07a14f24bd5bbe7e137e7e8887d906b8ec13042d02d0d6f76a62b0df5031"), looks := false }, kinds := [], alts := [], laidByText := true, laidKinds := [.data], laidTests := true, laidLooks := .later }
def TopSilenceCardSaid : Prop := Claim7.holds Tryd.pinned (.plain (OpenSpec.ofChange topSilenceSpec)) topSilenceCard

/-- THE SECOND FORM's CARD OF 'towpathtop.TopOpened'. -/
def topOpenedUptoCard : Claim7 := { stood := { row := topOpenedUptoRow, standIns := [], harness := (true, "e1fd07a14f24bd5bbe7e137e7e8887d906b8ec13042d02d0d6f76a62b0df5031"), looks := false }, kinds := [], alts := [], laidByText := true, laidKinds := [.data], laidTests := true, laidLooks := .later }
def TopOpenedUptoCardSaid : Prop := Claim7.holds Tryd.pinned (.plain (OpenSpec.upto topOpenedSpec)) topOpenedUptoCard

/-- THE SECOND FORM's CARD OF 'towpathtop.TopSilence'. -/
def topSilenceUptoCard : Claim7 := { stood := { row := topSilenceUptoRow, standIns := [], harness := (true, "e1fd07a14f24bd5bbe7e137e7e8887d906b8ec13042d02d0d6f76a62b0df5031"), looks := false }, kinds := [], alts := [], laidByText := true, laidKinds := [.data], laidTests := true, laidLooks := .later }
def TopSilenceUptoCardSaid : Prop := Claim7.holds Tryd.pinned (.plain (OpenSpec.upto topSilenceSpec)) topSilenceUptoCard
end Rows
end Go.Proofs.YtakckdeadchflabDoor
