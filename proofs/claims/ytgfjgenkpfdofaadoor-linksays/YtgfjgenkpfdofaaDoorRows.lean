/-
  NARROWER THAN 'FOR EVERY INPUT', by the rows' own cells (each row's printed sentence says how): LinkSays: laid.
  DERIVED. THE GIVEN ROWS OF THIS SEAT. 1 by the template 'for every input the law returns true; each argument reads behind the call as it read before'; 0 by the template 'total and deterministic' (their statements: YtgfjgenkpfdofaaDoorTotals.lean).
  GIVEN WITH THE SEED: the statements are not yours to turn. If you find one false, say at which input.
  Laid BY PROGRAM, IN A SANDBOX (cutbox-rows.mjs): the forced cells as the released guide's own fill.sh prints them over the translation ca6da3901070df0d… (all of the seat's roots in one cut). By AI agents, Wed Nov 11 2026. No macro, syntax, notation, axiom, sorry.
-/
import Derived.Test.YtgfjgenkpfdofaaDoorChecked
import GoSem.Claim
import GoSem.ClaimJoined
import GoSem.ClaimMapViews
import Derived.JoinedTies
import Derived.KernelRfl
namespace Go.Proofs.YtgfjgenkpfdofaaDoor
/- THE CELL 'sum', in the pinned program and in every row, IS THE sha256 OF THE DUMP (.gsa) THAT YtgfjgenkpfdofaaDoorProg.lean LOADS. Nothing in Lean hashes anything: it is a label: what it is worth is what the hold of that sum in a sandbox is worth. -/
noncomputable def Tryd.pinned : Pinned := { name := "ytgfjgenkpfdofaadoor", sum := "ca6da3901070df0d901b4bcb92bdc2ac004b02f297fdf5162392b23db1ed045a", checked := Tryd.checked }
namespace Rows
def none {H : Type} : Left H := { results := [], args := [] }

/- WHAT THE LISTED PACKAGE-LEVEL VARIABLES READ AS WHEN THE CALL BEGINS. Each datum BY PROGRAM (the guide's laid-datum.mjs) off the statement by which the dump's own 'gosem.cut.vars' lays the variable. In a bare row this is a premise. The card (YtgfjgenkpfdofaaDoorCards.lean) ties it to the program's text. -/
def laid_towpath_auto_steps {H : Type} : DataW H := .agg [.agg [.lit (.string [50]), .lit (.string [105, 114, 54]), .lit (.string [45]), .lit (.string [45]), .lit (.string [45]), .lit (.string [45]), .lit (.string [45]), .lit (.string [45]), .lit (.string [45]), .lit (.string [45])], .agg [.lit (.string [45]), .lit (.string [45]), .lit (.string [48]), .lit (.string [115, 49]), .lit (.string [48]), .lit (.string [49]), .lit (.string [49]), .lit (.string [49]), .lit (.string [49]), .lit (.string [100, 49])], .agg [.lit (.string [115, 49]), .lit (.string [49]), .lit (.string [105, 114, 54]), .lit (.string [51]), .lit (.string [53]), .lit (.string [53]), .lit (.string [54]), .lit (.string [55]), .lit (.string [56]), .lit (.string [57])], .agg [.lit (.string [48]), .lit (.string [102, 48]), .lit (.string [50]), .lit (.string [50]), .lit (.string [52]), .lit (.string [52]), .lit (.string [105, 116, 52]), .lit (.string [105, 116, 52]), .lit (.string [105, 116, 52]), .lit (.string [100, 105, 116, 52])], .agg [.lit (.string [45]), .lit (.string [45]), .lit (.string [45]), .lit (.string [45]), .lit (.string [116, 52]), .lit (.string [116, 53]), .lit (.string [114, 54]), .lit (.string [114, 54]), .lit (.string [114, 56]), .lit (.string [45])], .agg [.lit (.string [45]), .lit (.string [45]), .lit (.string [45]), .lit (.string [45]), .lit (.string [102, 50]), .lit (.string [102, 51]), .lit (.string [102, 51]), .lit (.string [102, 51]), .lit (.string [102, 51]), .lit (.string [45])], .agg [.lit (.string [45]), .lit (.string [45]), .lit (.string [107, 50]), .lit (.string [105, 114, 97, 56]), .lit (.string [52]), .lit (.string [53]), .lit (.string [97, 56]), .lit (.string [97, 117, 57]), .lit (.string [97, 56]), .lit (.string [100, 114, 97, 56])], .agg [.lit (.string [45]), .lit (.string [45]), .lit (.string [107, 50]), .lit (.string [105, 114, 110, 54]), .lit (.string [52]), .lit (.string [53]), .lit (.string [110, 54]), .lit (.string [110, 55]), .lit (.string [110, 54]), .lit (.string [100, 114, 110, 54])], .agg [.lit (.string [45]), .lit (.string [45]), .lit (.string [107, 50]), .lit (.string [107, 51]), .lit (.string [52]), .lit (.string [53]), .lit (.string [105, 55]), .lit (.string [114, 54]), .lit (.string [105, 117, 57]), .lit (.string [100, 114, 54])], .agg [.lit (.string [45]), .lit (.string [45]), .lit (.string [107, 50]), .lit (.string [107, 51]), .lit (.string [52]), .lit (.string [53]), .lit (.string [105, 114, 54]), .lit (.string [114, 54]), .lit (.string [105, 114, 56]), .lit (.string [100, 114, 54])], .agg [.lit (.string [45]), .lit (.string [45]), .lit (.string [107, 50]), .lit (.string [107, 51]), .lit (.string [107, 52]), .lit (.string [107, 53]), .lit (.string [107, 54]), .lit (.string [107, 54]), .lit (.string [107, 54]), .lit (.string [100, 122, 107, 53])], .agg [.lit (.string [45]), .lit (.string [45]), .lit (.string [50]), .lit (.string [51]), .lit (.string [102, 50]), .lit (.string [102, 51]), .lit (.string [54]), .lit (.string [54]), .lit (.string [56]), .lit (.string [100, 114, 54])]]

/-- 'towpathlaw.LinkSays': WHATEVER THE INPUT: true; the input reads as it did. -/
def linkSaysSpec : ChangeSpec := { name := "linkSays", fn := fun _ => fun
  | [d1, d2, d3] => { results := [.lit (.bool true)], args := [d1, d2, d3] }
  | _ => none }
def linkSaysRow : OpenClaim := { program := "ytgfjgenkpfdofaadoor", sum := "ca6da3901070df0d901b4bcb92bdc2ac004b02f297fdf5162392b23db1ed045a", func := "towpath/towpathlaw.LinkSays", spec := "linkSays", unfollowed := true, recurses := true, named := ["towpath/auto.steps"], apart := false, laid := [("towpath/auto.steps", laid_towpath_auto_steps)] }
def LinkSaysSaid : Prop := linkSaysRow.holds Tryd.pinned (OpenSpec.ofChange linkSaysSpec)

/-- ITS FALSE NEIGHBOUR: 'it returns false'. Refute it at one input. -/
def linkSaysWrong : ChangeSpec := { name := "linkSays", fn := fun _ => fun
  | [d1, d2, d3] => { results := [.lit (.bool false)], args := [d1, d2, d3] }
  | _ => none }
def LinkSaysWrongFalsely : Prop := linkSaysRow.holds Tryd.pinned (OpenSpec.ofChange linkSaysWrong)

/- THE SECOND FORM. 'bulk': how many values and letters a reading holds, each counted each time it is reached (what is shared counts as often as it is met; a slice's spare places count too). A statement '..UptoSaid' is the law's where the arguments, and the package variables that the reading takes, are together of bulk at most 1048576: NARROWER than '..Said'. Prove '..Said' where nothing that the law and all that it calls make is longer than what came in: it says more and counts as full. Else prove '..UptoSaid'. A law counts once. -/
mutual
def uptoBulk {H : Type} : DataW H → Nat
  | .lit (.string bytes) => bytes.length + 1
  | .lit _ => 1
  | .nil => 1
  | .ptr d => uptoBulk d + 1
  | .slice elems spare => uptoBulkAll elems + uptoBulkAll spare + 1
  | .agg parts => uptoBulkAll parts + 1
  | .iface _ d => uptoBulk d + 1
  | .map entries => uptoBulkEntries entries + 1
  | .held _ => 1
def uptoBulkAll {H : Type} : List (DataW H) → Nat
  | [] => 0
  | d :: r => uptoBulk d + uptoBulkAll r
def uptoBulkEntries {H : Type} : List (Lit × DataW H) → Nat
  | [] => 0
  | x :: r => uptoBulkEntry x + uptoBulkEntries r
def uptoBulkEntry {H : Type} : Lit × DataW H → Nat
  | (.string bytes, d) => bytes.length + uptoBulk d + 1
  | (_, d) => uptoBulk d + 1
 end
def uptoSmall : (H : Type) → List (DataW H) → Bool := fun _ ds => decide (uptoBulkAll ds ≤ 1048576)
def OpenSpec.upto (s : _root_.Go.ChangeSpec) : _root_.Go.OpenSpec := { _root_.Go.OpenSpec.ofChange s with cond := some uptoSmall }

/-- 'towpathlaw.LinkSays', WHERE WHAT IT READS IS OF BULK AT MOST 1048576: true; the input reads as it did. -/
def linkSaysUptoRow : OpenClaim := { program := "ytgfjgenkpfdofaadoor", sum := "ca6da3901070df0d901b4bcb92bdc2ac004b02f297fdf5162392b23db1ed045a", func := "towpath/towpathlaw.LinkSays", spec := "linkSays", unfollowed := true, recurses := true, named := ["towpath/auto.steps"], apart := false, laid := [("towpath/auto.steps", laid_towpath_auto_steps)], narrowed := true }
def LinkSaysUptoSaid : Prop := linkSaysUptoRow.holds Tryd.pinned (OpenSpec.upto linkSaysSpec)

end Rows
end Go.Proofs.YtgfjgenkpfdofaaDoor
