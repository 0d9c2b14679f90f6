/-
  DERIVED. GIVEN WITH THE SEED: THE CARDS: each row of YtieklnlbljejdaaGreatDoorRows.lean that lists a variable, with what it lists TIED to the program's text (the seventh form; the later family's looks); each row that meets fmt, with fmt's text TOLD by the authors' own Lean function (tested against real Go, not proved from fmt's source: count such statements apart). THE CARD IS WHAT COUNTS. Prove the row's statement (the work); the ties are given (YtieklnlbljejdaaGreatDoorTie.lean); close each card by the builder's one call (the guide's Derived/Test/ToyasCard.lean, 'card_holds'). Laid BY PROGRAM, IN A SANDBOX (cutbox-door.mjs). By AI agents, Wed Nov 11 2026. No macro, syntax, notation, axiom, sorry.
-/
import Derived.Test.YtieklnlbljejdaaGreatDoorRows
import GoSem.ClaimSeven
namespace Go.Proofs.YtieklnlbljejdaaGreatDoor
namespace Rows

/-- THE TIED CARD OF 'towpathlaw.RouterSays'. -/
def routerSaysCard : Claim7 := { stood := { row := routerSaysRow, standIns := [], harness := (true, "8508bbb1576d6e996cb96b23e3e5a37c34b609a298f075318686129e84a37e77"), looks := true }, kinds := [], alts := [], laidByText := true, laidKinds := [.data], laidTests := true, laidLooks := .later }
def RouterSaysCardSaid : Prop := Claim7.holds Tryz.pinned (.plain (OpenSpec.ofChange routerSaysSpec)) routerSaysCard

/-- THE TIED CARD OF 'towpathlaw.NetSays'. -/
def netSaysCard : Claim7 := { stood := { row := netSaysRow, standIns := [], harness := (true, "8508bbb1576d6e996cb96b23e3e5a37c34b609a298f075318686129e84a37e77"), looks := true }, kinds := [], alts := [], laidByText := true, laidKinds := [.data], laidTests := true, laidLooks := .later }
def NetSaysCardSaid : Prop := Claim7.holds Tryz.pinned (.plain (OpenSpec.ofChange netSaysSpec)) netSaysCard

/-- THE TIED CARD OF 'towpathtop.TopMeet'. -/
def topMeetCard : Claim7 := { stood := { row := topMeetRow, standIns := [], harness := (true, "8508bbb1576d6e996cb96b23e3e5a37c34b609a298f075318686129e84a37e77"), looks := true }, kinds := [], alts := [], laidByText := true, laidKinds := [.data], laidTests := true, laidLooks := .later }
def TopMeetCardSaid : Prop := Claim7.holds Tryz.pinned (.plain (OpenSpec.ofChange topMeetSpec)) topMeetCard

/-- THE TIED CARD OF 'towpathtop.TopSame'. -/
def topSameCard : Claim7 := { stood := { row := topSameRow, standIns := [], harness := (true, "8508bbb1576d6e996cb96b23e3e5a37c34b609a298f075318686129e84a37e77"), looks := true }, kinds := [], alts := [], laidByText := true, laidKinds := [.data], laidTests := true, laidLooks := .later }
def TopSameCardSaid : Prop := Claim7.holds Tryz.pinned (.plain (OpenSpec.ofChange topSameSpec)) topSameCard

/-- THE TIED CARD OF 'towpathtop.TopArrive'. -/
def topArriveCard : Claim7 := { stood := { row := topArriveRow, standIns := [], harness := (true, "8508bbb1576d6e996cb96b23e3e5a37c34b609a298f075318686129e84a37e77"), looks := true }, kinds := [], alts := [], laidByText := true, laidKinds := [.data], laidTests := true, laidLooks := .later }
def TopArriveCardSaid : Prop := Claim7.holds Tryz.pinned (.plain (OpenSpec.ofChange topArriveSpec)) topArriveCard

/-- THE TIED CARD OF 'towpathtop.TopQuiet'. -/
def topQuietCard : Claim7 := { stood := { row := topQuietRow, standIns := [], harness := (true, "8508bbb1576d6e996cb96b23e3e5a37c34b609a298f075318686129e84a37e77"), looks := true }, kinds := [], alts := [], laidByText := true, laidKinds := [.data], laidTests := true, laidLooks := .later }
def TopQuietCardSaid : Prop := Claim7.holds Tryz.pinned (.plain (OpenSpec.ofChange topQuietSpec)) topQuietCard

/-- THE TIED CARD OF 'towpathtop.TopCut'. -/
def topCutCard : Claim7 := { stood := { row := topCutRow, standIns := [], harness := (true, "8508bbb1576d6e996cb96b23e3e5a37c34b609a298f075318686129e84a37e77"), looks := true }, kinds := [], alts := [], laidByText := true, laidKinds := [.data], laidTests := true, laidLooks := .later }
def TopCutCardSaid : Prop := Claim7.holds Tryz.pinned (.plain (OpenSpec.ofChange topCutSpec)) topCutCard

/-- THE TIED CARD OF 'towpathtop.TopGate'. -/
def topGateCard : Claim7 := { stood := { row := topGateRow, standIns := [], harness := (true, "8508bbb1576d6e996cb96b23e3e5a37c34b609a298f075318686129e84a37e77"), looks := true }, kinds := [], alts := [], laidByText := true, laidKinds := [.data], laidTests := true, laidLooks := .later }
def TopGateCardSaid : Prop := Claim7.holds Tryz.pinned (.plain (OpenSpec.ofChange topGateSpec)) topGateCard

/-- THE TIED CARD OF 'towpathtop.TopTell'. -/
def topTellCard : Claim7 := { stood := { row := topTellRow, standIns := [], harness := (true, "8508bbb1576d6e996cb96b23e3e5a37c34b609a298f075318686129e84a37e77"), looks := true }, kinds := [], alts := [], laidByText := true, laidKinds := [.data], laidTests := true, laidLooks := .later }
def TopTellCardSaid : Prop := Claim7.holds Tryz.pinned (.plain (OpenSpec.ofChange topTellSpec)) topTellCard

/-- THE TIED CARD OF 'towpathtop.TopMail'. -/
def topMailCard : Claim7 := { stood := { row := topMailRow, standIns := [], harness := (true, "8508bbb1576d6e996cb96b23e3e5a37c34b609a298f075318686129e84a37e77"), looks := true }, kinds := [], alts := [], laidByText := true, laidKinds := [.data], laidTests := true, laidLooks := .later }
def TopMailCardSaid : Prop := Claim7.holds Tryz.pinned (.plain (OpenSpec.ofChange topMailSpec)) topMailCard

/-- THE TIED CARD OF 'towpathtop.TopAnew'. -/
def topAnewCard : Claim7 := { stood := { row := topAnewRow, standIns := [], harness := (true, "8508bbb1576d6e996cb96b23e3e5a37c34b609a298f075318686129e84a37e77"), looks := true }, kinds := [], alts := [], laidByText := true, laidKinds := [.data], laidTests := true, laidLooks := .later }
def TopAnewCardSaid : Prop := Claim7.holds Tryz.pinned (.plain (OpenSpec.ofChange topAnewSpec)) topAnewCard

/-- THE TIED CARD OF 'towpathtop.TopDrawn'. -/
def topDrawnCard : Claim7 := { stood := { row := topDrawnRow, standIns := [], harness := (true, "8508bbb1576d6e996cb96b23e3e5a37c34b609a298f075318686129e84a37e77"), looks := true }, kinds := [], alts := [], laidByText := true, laidKinds := [.data], laidTests := true, laidLooks := .later }
def TopDrawnCardSaid : Prop := Claim7.holds Tryz.pinned (.plain (OpenSpec.ofChange topDrawnSpec)) topDrawnCard

/-- THE SECOND FORM's CARD OF 'towpathlaw.RouterSays'. -/
def routerSaysUptoCard : Claim7 := { stood := { row := routerSaysUptoRow, standIns := [], harness := (true, "8508bbb1576d6e996cb96b23e3e5a37c34b609a298f075318686129e84a37e77"), looks := true }, kinds := [], alts := [], laidByText := true, laidKinds := [.data], laidTests := true, laidLooks := .later }
def RouterSaysUptoCardSaid : Prop := Claim7.holds Tryz.pinned (.plain (OpenSpec.upto routerSaysSpec)) routerSaysUptoCard

/-- THE SECOND FORM's CARD OF 'towpathlaw.NetSays'. -/
def netSaysUptoCard : Claim7 := { stood := { row := netSaysUptoRow, standIns := [], harness := (true, "8508bbb1576d6e996cb96b23e3e5a37c34b609a298f075318686129e84a37e77"), looks := true }, kinds := [], alts := [], laidByText := true, laidKinds := [.data], laidTests := true, laidLooks := .later }
def NetSaysUptoCardSaid : Prop := Claim7.holds Tryz.pinned (.plain (OpenSpec.upto netSaysSpec)) netSaysUptoCard

/-- THE SECOND FORM's CARD OF 'towpathtop.TopMeet'. -/
def topMeetUptoCard : Claim7 := { stood := { row := topMeetUptoRow, standIns := [], harness := (true, "8508bbb1576d6e996cb96b23e3e5a37c34b609a298f075318686129e84a37e77"), looks := true }, kinds := [], alts := [], laidByText := true, laidKinds := [.data], laidTests := true, laidLooks := .later }
def TopMeetUptoCardSaid : Prop := Claim7.holds Tryz.pinned (.plain (OpenSpec.upto topMeetSpec)) topMeetUptoCard

/-- THE SECOND FORM's CARD OF 'towpathtop.TopSame'. -/
def topSameUptoCard : Claim7 := { stood := { row := topSameUptoRow, standIns := [], harness := (true, "8508bbb1576d6e996cb96b23e3e5a37c34b609a298f075318686129e84a37e77"), looks := true }, kinds := [], alts := [], laidByText := true, laidKinds := [.data], laidTests := true, laidLooks := .later }
def TopSameUptoCardSaid : Prop := Claim7.holds Tryz.pinned (.plain (OpenSpec.upto topSameSpec)) topSameUptoCard

/-- THE SECOND FORM's CARD OF 'towpathtop.TopArrive'. -/
def topArriveUptoCard : Claim7 := { stood := { row := topArriveUptoRow, standIns := [], harness := (true, "8508bbb1576d6e996cb96b23e3e5a37c34b609a298f075318686129e84a37e77"), looks := true }, kinds := [], alts := [], laidByText := true, laidKinds := [.data], laidTests := true, laidLooks := .later }
def TopArriveUptoCardSaid : Prop := Claim7.holds Tryz.pinned (.plain (OpenSpec.upto topArriveSpec)) topArriveUptoCard

/-- THE SECOND FORM's CARD OF 'towpathtop.TopQuiet'. -/
def topQuietUptoCard : Claim7 := { stood := { row := topQuietUptoRow, standIns := [], harness := (true, "8508bbb1576d6e996cb96b23e3e5a37c34b609a298f075318686129e84a37e77"), looks := true }, kinds := [], alts := [], laidByText := true, laidKinds := [.data], laidTests := true, laidLooks := .later }
def TopQuietUptoCardSaid : Prop := Claim7.holds Tryz.pinned (.plain (OpenSpec.upto topQuietSpec)) topQuietUptoCard

/-- THE SECOND FORM's CARD OF 'towpathtop.TopCut'. -/
def topCutUptoCard : Claim7 := { stood := { row := topCutUptoRow, standIns := [], harness := (true, "8508bbb1576d6e996cb96b23e3e5a37c34b609a298f075318686129e84a37e77"), looks := true }, kinds := [], alts := [], laidByText := true, laidKinds := [.data], laidTests := true, laidLooks := .later }
def TopCutUptoCardSaid : Prop := Claim7.holds Tryz.pinned (.plain (OpenSpec.upto topCutSpec)) topCutUptoCard

/-- THE SECOND FORM's CARD OF 'towpathtop.TopGate'. -/
def topGateUptoCard : Claim7 := { stood := { row := topGateUptoRow, standIns := [], harness := (true, "8508bbb1576d6e996cb96b23e3e5a37c34b609a298f075318686129e84a37e77"), looks := true }, kinds := [], alts := [], laidByText := true, laidKinds := [.data], laidTests := true, laidLooks := .later }
def TopGateUptoCardSaid : Prop := Claim7.holds Tryz.pinned (.plain (OpenSpec.upto topGateSpec)) topGateUptoCard

/-- THE SECOND FORM's CARD OF 'towpathtop.TopTell'. -/
def topTellUptoCard : Claim7 := { stood := { row := topTellUptoRow, standIns := [], harness := (true, "8508bbb1576d6e996cb96b23e3e5a37c34b609a298f075318686129e84a37e77"), looks := true }, kinds := [], alts := [], laidByText := true, laidKinds := [.data], laidTests := true, laidLooks := .later }
def TopTellUptoCardSaid : Prop := Claim7.holds Tryz.pinned (.plain (OpenSpec.upto topTellSpec)) topTellUptoCard

/-- THE SECOND FORM's CARD OF 'towpathtop.TopMail'. -/
def topMailUptoCard : Claim7 := { stood := { row := topMailUptoRow, standIns := [], harness := (true, "8508bbb1576d6e996cb96b23e3e5a37c34b609a298f075318686129e84a37e77"), looks := true }, kinds := [], alts := [], laidByText := true, laidKinds := [.data], laidTests := true, laidLooks := .later }
def TopMailUptoCardSaid : Prop := Claim7.holds Tryz.pinned (.plain (OpenSpec.upto topMailSpec)) topMailUptoCard

/-- THE SECOND FORM's CARD OF 'towpathtop.TopAnew'. -/
def topAnewUptoCard : Claim7 := { stood := { row := topAnewUptoRow, standIns := [], harness := (true, "8508bbb1576d6e996cb96b23e3e5a37c34b609a298f075318686129e84a37e77"), looks := true }, kinds := [], alts := [], laidByText := true, laidKinds := [.data], laidTests := true, laidLooks := .later }
def TopAnewUptoCardSaid : Prop := Claim7.holds Tryz.pinned (.plain (OpenSpec.upto topAnewSpec)) topAnewUptoCard

/-- THE SECOND FORM's CARD OF 'towpathtop.TopDrawn'. -/
def topDrawnUptoCard : Claim7 := { stood := { row := topDrawnUptoRow, standIns := [], harness := (true, "8508bbb1576d6e996cb96b23e3e5a37c34b609a298f075318686129e84a37e77"), looks := true }, kinds := [], alts := [], laidByText := true, laidKinds := [.data], laidTests := true, laidLooks := .later }
def TopDrawnUptoCardSaid : Prop := Claim7.holds Tryz.pinned (.plain (OpenSpec.upto topDrawnSpec)) topDrawnUptoCard
end Rows
end Go.Proofs.YtieklnlbljejdaaGreatDoor
