/-
  No cell of these rows narrows 'for every input' (looked for: loops, veiled, ifaces, maps, wideKeys, modest, calm, conditions, laid).
  DERIVED. THE GIVEN ROWS OF THIS SEAT. 7 by the template 'for every input the law returns true; each argument reads behind the call as it read before'; 0 by the template 'total and deterministic' (their statements: YtielnomhdahciaaTotals.lean).
  GIVEN WITH THE SEED: the statements are not yours to turn. If you find one false, say at which input.
  Laid BY PROGRAM, IN A SANDBOX (cutbox-rows.mjs): the forced cells as the released guide's own fill.sh prints them over the translation 8a6b29ad8f68f66a… (all of the seat's roots in one cut). By AI agents, Wed Nov 11 2026. No macro, syntax, notation, axiom, sorry.
-/
import Derived.Test.YtielnomhdahciaaChecked
import GoSem.Claim
import GoSem.ClaimJoined
import GoSem.ClaimMapViews
import Derived.JoinedTies
import Derived.KernelRfl
namespace Go.Proofs.Ytielnomhdahciaa
/- THE CELL 'sum', in the pinned program and in every row, IS THE sha256 OF THE DUMP (.gsa) THAT YtielnomhdahciaaProg.lean LOADS. Nothing in Lean hashes anything: it is a label: what it is worth is what the hold of that sum in a sandbox is worth. -/
noncomputable def Try.pinned : Pinned := { name := "ytielnomhdahciaa", sum := "8a6b29ad8f68f66a3a6ae695b01125947d6148e680c69d2a39cb8b00713bf763", checked := Try.checked }
namespace Rows
def none {H : Type} : Left H := { results := [], args := [] }

/-- 'towpathlaw.FloodSays': WHATEVER THE INPUT: true; the input reads as it did. -/
def floodSaysSpec : ChangeSpec := { name := "floodSays", fn := fun _ => fun
  | [d1, d2] => { results := [.lit (.bool true)], args := [d1, d2] }
  | _ => none }
def floodSaysRow : OpenClaim := { program := "ytielnomhdahciaa", sum := "8a6b29ad8f68f66a3a6ae695b01125947d6148e680c69d2a39cb8b00713bf763", func := "towpath/towpathlaw.FloodSays", spec := "floodSays", unfollowed := true, recurses := true, apart := false }
def FloodSaysSaid : Prop := floodSaysRow.holds Try.pinned (OpenSpec.ofChange floodSaysSpec)

/-- ITS FALSE NEIGHBOUR: 'it returns false'. Refute it at one input. -/
def floodSaysWrong : ChangeSpec := { name := "floodSays", fn := fun _ => fun
  | [d1, d2] => { results := [.lit (.bool false)], args := [d1, d2] }
  | _ => none }
def FloodSaysWrongFalsely : Prop := floodSaysRow.holds Try.pinned (OpenSpec.ofChange floodSaysWrong)

/-- 'towpathtop.TopNewest': WHATEVER THE INPUT: true; the input reads as it did. -/
def topNewestSpec : ChangeSpec := { name := "topNewest", fn := fun _ => fun
  | [d1, d2] => { results := [.lit (.bool true)], args := [d1, d2] }
  | _ => none }
def topNewestRow : OpenClaim := { program := "ytielnomhdahciaa", sum := "8a6b29ad8f68f66a3a6ae695b01125947d6148e680c69d2a39cb8b00713bf763", func := "towpath/towpathtop.TopNewest", spec := "topNewest", unfollowed := true, recurses := true, apart := false }
def TopNewestSaid : Prop := topNewestRow.holds Try.pinned (OpenSpec.ofChange topNewestSpec)

/-- ITS FALSE NEIGHBOUR: 'it returns false'. Refute it at one input. -/
def topNewestWrong : ChangeSpec := { name := "topNewest", fn := fun _ => fun
  | [d1, d2] => { results := [.lit (.bool false)], args := [d1, d2] }
  | _ => none }
def TopNewestWrongFalsely : Prop := topNewestRow.holds Try.pinned (OpenSpec.ofChange topNewestWrong)

/-- 'towpathtop.TopSpread': WHATEVER THE INPUT: true; the input reads as it did. -/
def topSpreadSpec : ChangeSpec := { name := "topSpread", fn := fun _ => fun
  | [d1, d2] => { results := [.lit (.bool true)], args := [d1, d2] }
  | _ => none }
def topSpreadRow : OpenClaim := { program := "ytielnomhdahciaa", sum := "8a6b29ad8f68f66a3a6ae695b01125947d6148e680c69d2a39cb8b00713bf763", func := "towpath/towpathtop.TopSpread", spec := "topSpread", unfollowed := true, recurses := true, apart := false }
def TopSpreadSaid : Prop := topSpreadRow.holds Try.pinned (OpenSpec.ofChange topSpreadSpec)

/-- ITS FALSE NEIGHBOUR: 'it returns false'. Refute it at one input. -/
def topSpreadWrong : ChangeSpec := { name := "topSpread", fn := fun _ => fun
  | [d1, d2] => { results := [.lit (.bool false)], args := [d1, d2] }
  | _ => none }
def TopSpreadWrongFalsely : Prop := topSpreadRow.holds Try.pinned (OpenSpec.ofChange topSpreadWrong)

/-- 'towpathlaw.WaysSays': WHATEVER THE INPUT: true; the input reads as it did. -/
def waysSaysSpec : ChangeSpec := { name := "waysSays", fn := fun _ => fun
  | [d1, d2, d3] => { results := [.lit (.bool true)], args := [d1, d2, d3] }
  | _ => none }
def waysSaysRow : OpenClaim := { program := "ytielnomhdahciaa", sum := "8a6b29ad8f68f66a3a6ae695b01125947d6148e680c69d2a39cb8b00713bf763", func := "towpath/towpathlaw.WaysSays", spec := "waysSays", unfollowed := true, recurses := true, apart := false }
def WaysSaysSaid : Prop := waysSaysRow.holds Try.pinned (OpenSpec.ofChange waysSaysSpec)

/-- ITS FALSE NEIGHBOUR: 'it returns false'. Refute it at one input. -/
def waysSaysWrong : ChangeSpec := { name := "waysSays", fn := fun _ => fun
  | [d1, d2, d3] => { results := [.lit (.bool false)], args := [d1, d2, d3] }
  | _ => none }
def WaysSaysWrongFalsely : Prop := waysSaysRow.holds Try.pinned (OpenSpec.ofChange waysSaysWrong)

/-- 'towpathtop.TopFar': WHATEVER THE INPUT: true; the input reads as it did. -/
def topFarSpec : ChangeSpec := { name := "topFar", fn := fun _ => fun
  | [d1, d2] => { results := [.lit (.bool true)], args := [d1, d2] }
  | _ => none }
def topFarRow : OpenClaim := { program := "ytielnomhdahciaa", sum := "8a6b29ad8f68f66a3a6ae695b01125947d6148e680c69d2a39cb8b00713bf763", func := "towpath/towpathtop.TopFar", spec := "topFar", unfollowed := true, recurses := true, apart := false }
def TopFarSaid : Prop := topFarRow.holds Try.pinned (OpenSpec.ofChange topFarSpec)

/-- ITS FALSE NEIGHBOUR: 'it returns false'. Refute it at one input. -/
def topFarWrong : ChangeSpec := { name := "topFar", fn := fun _ => fun
  | [d1, d2] => { results := [.lit (.bool false)], args := [d1, d2] }
  | _ => none }
def TopFarWrongFalsely : Prop := topFarRow.holds Try.pinned (OpenSpec.ofChange topFarWrong)

/-- 'towpathtop.TopWay': WHATEVER THE INPUT: true; the input reads as it did. -/
def topWaySpec : ChangeSpec := { name := "topWay", fn := fun _ => fun
  | [d1, d2] => { results := [.lit (.bool true)], args := [d1, d2] }
  | _ => none }
def topWayRow : OpenClaim := { program := "ytielnomhdahciaa", sum := "8a6b29ad8f68f66a3a6ae695b01125947d6148e680c69d2a39cb8b00713bf763", func := "towpath/towpathtop.TopWay", spec := "topWay", unfollowed := true, recurses := true, apart := false }
def TopWaySaid : Prop := topWayRow.holds Try.pinned (OpenSpec.ofChange topWaySpec)

/-- ITS FALSE NEIGHBOUR: 'it returns false'. Refute it at one input. -/
def topWayWrong : ChangeSpec := { name := "topWay", fn := fun _ => fun
  | [d1, d2] => { results := [.lit (.bool false)], args := [d1, d2] }
  | _ => none }
def TopWayWrongFalsely : Prop := topWayRow.holds Try.pinned (OpenSpec.ofChange topWayWrong)

/-- 'towpathtop.TopBack': WHATEVER THE INPUT: true; the input reads as it did. -/
def topBackSpec : ChangeSpec := { name := "topBack", fn := fun _ => fun
  | [d1, d2, d3] => { results := [.lit (.bool true)], args := [d1, d2, d3] }
  | _ => none }
def topBackRow : OpenClaim := { program := "ytielnomhdahciaa", sum := "8a6b29ad8f68f66a3a6ae695b01125947d6148e680c69d2a39cb8b00713bf763", func := "towpath/towpathtop.TopBack", spec := "topBack", unfollowed := true, recurses := true, apart := false }
def TopBackSaid : Prop := topBackRow.holds Try.pinned (OpenSpec.ofChange topBackSpec)

/-- ITS FALSE NEIGHBOUR: 'it returns false'. Refute it at one input. -/
def topBackWrong : ChangeSpec := { name := "topBack", fn := fun _ => fun
  | [d1, d2, d3] => { results := [.lit (.bool false)], args := [d1, d2, d3] }
  | _ => none }
def TopBackWrongFalsely : Prop := topBackRow.holds Try.pinned (OpenSpec.ofChange topBackWrong)

/- THE SECOND FORM. 'bulk': how many values and letters a reading holds, each counted each time it is reached (what is shared counts as often as it is met; a slice's spare places count too). A statement '..UptoSaid' is the law's where the arguments, and the package variables that the reading takes, are together of bulk at most 1048576: NARROWER than '..Said'. Prove '..Said' where nothing that the law and all that it calls make is longer than what came in: it says more and counts as full. Else prove '..UptoSaid'. A law counts once. -/
mutual
def uptoBulk {H : Type} : DataW H → Nat
  | .lit (.string bytes) => bytes.length + 1
  | .lit _ => 1
  | .nil => 1
  | .ptr d => uptoBulk d + 1
  | .slice elems spare => uptoBulkAll elems + uptoBulkAll spare + 1
  | .agg parts => uptoBulkAll parts + 1
  | .iface _ d => uptoBulk d + 1
  | .map entries => uptoBulkEntries entries + 1
  | .held _ => 1
def uptoBulkAll {H : Type} : List (DataW H) → Nat
  | [] => 0
  | d :: r => uptoBulk d + uptoBulkAll r
def uptoBulkEntries {H : Type} : List (Lit × DataW H) → Nat
  | [] => 0
  | x :: r => uptoBulkEntry x + uptoBulkEntries r
def uptoBulkEntry {H : Type} : Lit × DataW H → Nat
  | (.string bytes, d) => bytes.length + uptoBulk d + 1
  | (_, d) => uptoBulk d + 1
 end
def uptoSmall : (H : Type) → List (DataW H) → Bool := fun _ ds => decide (uptoBulkAll ds ≤ 1048576)
def OpenSpec.upto (s : _root_.Go.ChangeSpec) : _root_.Go.OpenSpec := { _root_.Go.OpenSpec.ofChange s with cond := some uptoSmall }

/-- 'towpathlaw.FloodSays', WHERE WHAT IT READS IS OF BULK AT MOST 1048576: true; the input reads as it did. -/
def floodSaysUptoRow : OpenClaim := { program := "ytielnomhdahciaa", sum := "8a6b29ad8f68f66a3a6ae695b01125947d6148e680c69d2a39cb8b00713bf763", func := "towpath/towpathlaw.FloodSays", spec := "floodSays", unfollowed := true, recurses := true, apart := false, narrowed := true }
def FloodSaysUptoSaid : Prop := floodSaysUptoRow.holds Try.pinned (OpenSpec.upto floodSaysSpec)

/-- 'towpathtop.TopNewest', WHERE WHAT IT READS IS OF BULK AT MOST 1048576: true; the input reads as it did. -/
def topNewestUptoRow : OpenClaim := { program := "ytielnomhdahciaa", sum := "8a6b29ad8f68f66a3a6ae695b01125947d6148e680c69d2a39cb8b00713bf763", func := "towpath/towpathtop.TopNewest", spec := "topNewest", unfollowed := true, recurses := true, apart := false, narrowed := true }
def TopNewestUptoSaid : Prop := topNewestUptoRow.holds Try.pinned (OpenSpec.upto topNewestSpec)

/-- 'towpathtop.TopSpread', WHERE WHAT IT READS IS OF BULK AT MOST 1048576: true; the input reads as it did. -/
def topSpreadUptoRow : OpenClaim := { program := "ytielnomhdahciaa", sum := "8a6b29ad8f68f66a3a6ae695b01125947d6148e680c69d2a39cb8b00713bf763", func := "towpath/towpathtop.TopSpread", spec := "topSpread", unfollowed := true, recurses := true, apart := false, narrowed := true }
def TopSpreadUptoSaid : Prop := topSpreadUptoRow.holds Try.pinned (OpenSpec.upto topSpreadSpec)

/-- 'towpathlaw.WaysSays', WHERE WHAT IT READS IS OF BULK AT MOST 1048576: true; the input reads as it did. -/
def waysSaysUptoRow : OpenClaim := { program := "ytielnomhdahciaa", sum := "8a6b29ad8f68f66a3a6ae695b01125947d6148e680c69d2a39cb8b00713bf763", func := "towpath/towpathlaw.WaysSays", spec := "waysSays", unfollowed := true, recurses := true, apart := false, narrowed := true }
def WaysSaysUptoSaid : Prop := waysSaysUptoRow.holds Try.pinned (OpenSpec.upto waysSaysSpec)

/-- 'towpathtop.TopFar', WHERE WHAT IT READS IS OF BULK AT MOST 1048576: true; the input reads as it did. -/
def topFarUptoRow : OpenClaim := { program := "ytielnomhdahciaa", sum := "8a6b29ad8f68f66a3a6ae695b01125947d6148e680c69d2a39cb8b00713bf763", func := "towpath/towpathtop.TopFar", spec := "topFar", unfollowed := true, recurses := true, apart := false, narrowed := true }
def TopFarUptoSaid : Prop := topFarUptoRow.holds Try.pinned (OpenSpec.upto topFarSpec)

/-- 'towpathtop.TopWay', WHERE WHAT IT READS IS OF BULK AT MOST 1048576: true; the input reads as it did. -/
def topWayUptoRow : OpenClaim := { program := "ytielnomhdahciaa", sum := "8a6b29ad8f68f66a3a6ae695b01125947d6148e680c69d2a39cb8b00713bf763", func := "towpath/towpathtop.TopWay", spec := "topWay", unfollowed := true, recurses := true, apart := false, narrowed := true }
def TopWayUptoSaid : Prop := topWayUptoRow.holds Try.pinned (OpenSpec.upto topWaySpec)

/-- 'towpathtop.TopBack', WHERE WHAT IT READS IS OF BULK AT MOST 1048576: true; the input reads as it did. -/
def topBackUptoRow : OpenClaim := { program := "ytielnomhdahciaa", sum := "8a6b29ad8f68f66a3a6ae695b01125947d6148e680c69d2a39cb8b00713bf763", func := "towpath/towpathtop.TopBack", spec := "topBack", unfollowed := true, recurses := true, apart := false, narrowed := true }
def TopBackUptoSaid : Prop := topBackUptoRow.holds Try.pinned (OpenSpec.upto topBackSpec)

end Rows
end Go.Proofs.Ytielnomhdahciaa
