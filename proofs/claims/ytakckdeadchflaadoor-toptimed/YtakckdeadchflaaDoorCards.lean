/-
  DERIVED. GIVEN WITH THE SEED: THE CARDS: each row of YtakckdeadchflaaDoorRows.lean that lists a variable, with what it lists TIED to the program's text (the seventh form; the later family's looks); each row that meets fmt, with fmt's text TOLD by the authors' own Lean function (tested against real Go, not proved from fmt's source: count such statements apart). THE CARD IS WHAT COUNTS. Prove the row's statement (the work); the ties are given (YtakckdeadchflaaDoorTie.lean); close each card by the builder's one call (the guide's Derived/Test/ToyasCard.lean, 'card_holds'). Laid BY PROGRAM, IN A SANDBOX (cutbox-door.mjs). By AI agents, Wed Nov 11 2026. No macro, syntax, notation, axiom, sorry.
-/
import Derived.Test.YtakckdeadchflaaDoorRows
import GoSem.ClaimSeven
namespace Go.Proofs.YtakckdeadchflaaDoor
namespace Rows

/-- THE TIED CARD OF 'towpathlaw.Names'. -/
def namesCard : Claim7 := { stood := { row := namesRow, standIns := [], harness := (true, "61dea3206c6e4210a6feb65f10a8a8e92ce24bb9263062bf576df443e153c3b6"), looks := true }, kinds := [], alts := [], laidByText := true, laidKinds := [.data, .data, .data], laidTests := true, laidLooks := .later }
def NamesCardSaid : Prop := Claim7.holds Tryd.pinned (.plain (OpenSpec.ofChange namesSpec)) namesCard

/-- THE TIED CARD OF 'towpathlaw.AutoSays'. -/
def autoSaysCard : Claim7 := { stood := { row := autoSaysRow, standIns := [], harness := (true, "61dea3206c6e4210a6feb65f10a8a8e92ce24bb9263062bf576df443e153c3b6"), looks := true }, kinds := [], alts := [], laidByText := true, laidKinds := [.data], laidTests := true, laidLooks := .later }
def AutoSaysCardSaid : Prop := Claim7.holds Tryd.pinned (.plain (OpenSpec.ofChange autoSaysSpec)) autoSaysCard

/-- THE TIED CARD OF 'towpathlaw.LinkSays'. -/
def linkSaysCard : Claim7 := { stood := { row := linkSaysRow, standIns := [], harness := (true, "61dea3206c6e4210a6feb65f10a8a8e92ce24bb9263062bf576df443e153c3b6"), looks := true }, kinds := [], alts := [], laidByText := true, laidKinds := [.data], laidTests := true, laidLooks := .later }
def LinkSaysCardSaid : Prop := Claim7.holds Tryd.pinned (.plain (OpenSpec.ofChange linkSaysSpec)) linkSaysCard

/-- THE TIED CARD OF 'towpathtop.TopUp'. -/
def topUpCard : Claim7 := { stood := { row := topUpRow, standIns := [], harness := (true, "61dea3206c6e4210a6feb65f10a8a8e92ce24bb9263062bf576df443e153c3b6"), looks := true }, kinds := [], alts := [], laidByText := true, laidKinds := [.data], laidTests := true, laidLooks := .later }
def TopUpCardSaid : Prop := Claim7.holds Tryd.pinned (.plain (OpenSpec.ofChange topUpSpec)) topUpCard

/-- THE TIED CARD OF 'towpathtop.TopTimed'. -/
def topTimedCard : Claim7 := { stood := { row := topTimedRow, standIns := [], harness := (true, "61dea3206c6e4210a6feb65f10a8a8e92ce24bb9263062bf576df443e153c3b6"), looks := true }, kinds := [], alts := [], laidByText := true, laidKinds := [.data], laidTests := true, laidLooks := .later }
def TopTimedCardSaid : Prop := Claim7.holds Tryd.pinned (.plain (OpenSpec.ofChange topTimedSpec)) topTimedCard

/-- THE SECOND FORM's CARD OF 'towpathlaw.Names'. -/
def namesUptoCard : Claim7 := { stood := { row := namesUptoRow, standIns := [], harness := (true, "61dea3206c6e4210a6feb65f10a8a8e92ce24bb9263062bf576df443e153c3b6"), looks := true }, kinds := [], alts := [], laidByText := true, laidKinds := [.data, .data, .data], laidTests := true, laidLooks := .later }
def NamesUptoCardSaid : Prop := Claim7.holds Tryd.pinned (.plain (OpenSpec.upto namesSpec)) namesUptoCard

/-- THE SECOND FORM's CARD OF 'towpathlaw.AutoSays'. -/
def autoSaysUptoCard : Claim7 := { stood := { row := autoSaysUptoRow, standIns := [], harness := (true, "61dea3206c6e4210a6feb65f10a8a8e92ce24bb9263062bf576df443e153c3b6"), looks := true }, kinds := [], alts := [], laidByText := true, laidKinds := [.data], laidTests := true, laidLooks := .later }
def AutoSaysUptoCardSaid : Prop := Claim7.holds Tryd.pinned (.plain (OpenSpec.upto autoSaysSpec)) autoSaysUptoCard

/-- THE SECOND FORM's CARD OF 'towpathlaw.LinkSays'. -/
def linkSaysUptoCard : Claim7 := { stood := { row := linkSaysUptoRow, standIns := [], harness := (true, "61dea3206c6e4210a6feb65f10a8a8e92ce24bb9263062bf576df443e153c3b6"), looks := true }, kinds := [], alts := [], laidByText := true, laidKinds := [.data], laidTests := true, laidLooks := .later }
def LinkSaysUptoCardSaid : Prop := Claim7.holds Tryd.pinned (.plain (OpenSpec.upto linkSaysSpec)) linkSaysUptoCard

/-- THE SECOND FORM's CARD OF 'towpathtop.TopUp'. -/
def topUpUptoCard : Claim7 := { stood := { row := topUpUptoRow, standIns := [], harness := (true, "61dea3206c6e4210a6feb65f10a8a8e92ce24bb9263062bf576df443e153c3b6"), looks := true }, kinds := [], alts := [], laidByText := true, laidKinds := [.data], laidTests := true, laidLooks := .later }
def TopUpUptoCardSaid : Prop := Claim7.holds Tryd.pinned (.plain (OpenSpec.upto topUpSpec)) topUpUptoCard

/-- THE SECOND FORM's CARD OF 'towpathtop.TopTimed'. -/
def topTimedUptoCard : Claim7 := { stood := { row := topTimedUptoRow, standIns := [], harness := (true, "61dea3206c6e4210a6feb65f10a8a8e92ce24bb9263062bf576df443e153c3b6"), looks := true }, kinds := [], alts := [], laidByText := true, laidKinds := [.data], laidTests := true, laidLooks := .later }
def TopTimedUptoCardSaid : Prop := Claim7.holds Tryd.pinned (.plain (OpenSpec.upto topTimedSpec)) topTimedUptoCard
end Rows
end Go.Proofs.YtakckdeadchflaaDoor
