/-
  NARROWER THAN 'FOR EVERY INPUT', by the rows' own cells (each row's printed sentence says how): RouterSays: laid · NetSays: laid · TopMeet: laid · TopSame: laid · TopArrive: laid · TopQuiet: laid · TopCut: laid · TopGate: laid · TopTell: laid · TopMail: laid · TopAnew: laid · TopDrawn: laid.
  DERIVED. THE GIVEN ROWS OF THIS SEAT. 12 by the template 'for every input the law returns true; each argument reads behind the call as it read before'; 0 by the template 'total and deterministic' (their statements: YtieklnlbljejdaaGreatDoorTotals.lean).
  GIVEN WITH THE SEED: the statements are not yours to turn. If you find one false, say at which input.
  Laid BY PROGRAM, IN A SANDBOX (cutbox-rows.mjs): the forced cells as the released guide's own fill.sh prints them over the translation 38c3afaeff19d0ce… (all of the seat's roots in one cut). By AI agents, Wed Nov 11 2026. No macro, syntax, notation, axiom, sorry.
-/
import Derived.Test.YtieklnlbljejdaaGreatDoorChecked
import GoSem.Claim
import GoSem.ClaimJoined
import GoSem.ClaimMapViews
import Derived.JoinedTies
import Derived.KernelRfl
namespace Go.Proofs.YtieklnlbljejdaaGreatDoor
/- THE CELL 'sum', in the pinned program and in every row, IS THE sha256 OF THE DUMP (.gsa) THAT YtieklnlbljejdaaGreatDoorProg.lean LOADS. Nothing in Lean hashes anything: it is a label: what it is worth is what the hold of that sum in a sandbox is worth. -/
noncomputable def Tryz.pinned : Pinned := { name := "ytieklnlbljejdaagreatdoor", sum := "38c3afaeff19d0cedb6024629bda6d9530fc872e721ef326fcdba1091647fb73", checked := Tryz.checked }
namespace Rows
def none {H : Type} : Left H := { results := [], args := [] }

/- WHAT THE LISTED PACKAGE-LEVEL VARIABLES READ AS WHEN THE CALL BEGINS. Each datum BY PROGRAM (the guide's laid-datum.mjs) off the statement by which the dump's own 'gosem.cut.vars' lays the variable. In a bare row this is a premise. The card (YtieklnlbljejdaaGreatDoorCards.lean) ties it to the program's text. -/
def laid_towpath_auto_steps {H : Type} : DataW H := .agg [.agg [.lit (.string [50]), .lit (.string [105, 114, 54]), .lit (.string [45]), .lit (.string [45]), .lit (.string [45]), .lit (.string [45]), .lit (.string [45]), .lit (.string [45]), .lit (.string [45]), .lit (.string [45])], .agg [.lit (.string [45]), .lit (.string [45]), .lit (.string [48]), .lit (.string [115, 49]), .lit (.string [48]), .lit (.string [49]), .lit (.string [49]), .lit (.string [49]), .lit (.string [49]), .lit (.string [100, 49])], .agg [.lit (.string [115, 49]), .lit (.string [49]), .lit (.string [105, 114, 54]), .lit (.string [51]), .lit (.string [53]), .lit (.string [53]), .lit (.string [54]), .lit (.string [55]), .lit (.string [56]), .lit (.string [57])], .agg [.lit (.string [48]), .lit (.string [102, 48]), .lit (.string [50]), .lit (.string [50]), .lit (.string [52]), .lit (.string [52]), .lit (.string [105, 116, 52]), .lit (.string [105, 116, 52]), .lit (.string [105, 116, 52]), .lit (.string [100, 105, 116, 52])], .agg [.lit (.string [45]), .lit (.string [45]), .lit (.string [45]), .lit (.string [45]), .lit (.string [116, 52]), .lit (.string [116, 53]), .lit (.string [114, 54]), .lit (.string [114, 54]), .lit (.string [114, 56]), .lit (.string [45])], .agg [.lit (.string [45]), .lit (.string [45]), .lit (.string [45]), .lit (.string [45]), .lit (.string [102, 50]), .lit (.string [102, 51]), .lit (.string [102, 51]), .lit (.string [102, 51]), .lit (.string [102, 51]), .lit (.string [45])], .agg [.lit (.string [45]), .lit (.string [45]), .lit (.string [107, 50]), .lit (.string [105, 114, 97, 56]), .lit (.string [52]), .lit (.string [53]), .lit (.string [97, 56]), .lit (.string [97, 117, 57]), .lit (.string [97, 56]), .lit (.string [100, 114, 97, 56])], .agg [.lit (.string [45]), .lit (.string [45]), .lit (.string [107, 50]), .lit (.string [105, 114, 110, 54]), .lit (.string [52]), .lit (.string [53]), .lit (.string [110, 54]), .lit (.string [110, 55]), .lit (.string [110, 54]), .lit (.string [100, 114, 110, 54])], .agg [.lit (.string [45]), .lit (.string [45]), .lit (.string [107, 50]), .lit (.string [107, 51]), .lit (.string [52]), .lit (.string [53]), .lit (.string [105, 55]), .lit (.string [114, 54]), .lit (.string [105, 117, 57]), .lit (.string [100, 114, 54])], .agg [.lit (.string [45]), .lit (.string [45]), .lit (.string [107, 50]), .lit (.string [107, 51]), .lit (.string [52]), .lit (.string [53]), .lit (.string [105, 114, 54]), .lit (.string [114, 54]), .lit (.string [105, 114, 56]), .lit (.string [100, 114, 54])], .agg [.lit (.string [45]), .lit (.string [45]), .lit (.string [107, 50]), .lit (.string [107, 51]), .lit (.string [107, 52]), .lit (.string [107, 53]), .lit (.string [107, 54]), .lit (.string [107, 54]), .lit (.string [107, 54]), .lit (.string [100, 122, 107, 53])], .agg [.lit (.string [45]), .lit (.string [45]), .lit (.string [50]), .lit (.string [51]), .lit (.string [102, 50]), .lit (.string [102, 51]), .lit (.string [54]), .lit (.string [54]), .lit (.string [56]), .lit (.string [100, 114, 54])]]

/-- 'towpathlaw.RouterSays': WHATEVER THE INPUT: true; the input reads as it did. -/
def routerSaysSpec : ChangeSpec := { name := "routerSays", fn := fun _ => fun
  | [d1, d2, d3] => { results := [.lit (.bool true)], args := [d1, d2, d3] }
  | _ => none }
def routerSaysRow : OpenClaim := { program := "ytieklnlbljejdaagreatdoor", sum := "38c3afaeff19d0cedb6024629bda6d9530fc872e721ef326fcdba1091647fb73", func := "towpath/towpathlaw.RouterSays", spec := "routerSays", unfollowed := true, recurses := true, named := ["towpath/auto.steps"], plainKeys := false, apart := false, laid := [("towpath/auto.steps", laid_towpath_auto_steps)] }
def RouterSaysSaid : Prop := routerSaysRow.holds Tryz.pinned (OpenSpec.ofChange routerSaysSpec)

/-- ITS FALSE NEIGHBOUR: 'it returns false'. Refute it at one input. -/
def routerSaysWrong : ChangeSpec := { name := "routerSays", fn := fun _ => fun
  | [d1, d2, d3] => { results := [.lit (.bool false)], args := [d1, d2, d3] }
  | _ => none }
def RouterSaysWrongFalsely : Prop := routerSaysRow.holds Tryz.pinned (OpenSpec.ofChange routerSaysWrong)

/-- 'towpathlaw.NetSays': WHATEVER THE INPUT: true; the input reads as it did. -/
def netSaysSpec : ChangeSpec := { name := "netSays", fn := fun _ => fun
  | [d1, d2, d3] => { results := [.lit (.bool true)], args := [d1, d2, d3] }
  | _ => none }
def netSaysRow : OpenClaim := { program := "ytieklnlbljejdaagreatdoor", sum := "38c3afaeff19d0cedb6024629bda6d9530fc872e721ef326fcdba1091647fb73", func := "towpath/towpathlaw.NetSays", spec := "netSays", unfollowed := true, recurses := true, named := ["towpath/auto.steps"], plainKeys := false, apart := false, laid := [("towpath/auto.steps", laid_towpath_auto_steps)] }
def NetSaysSaid : Prop := netSaysRow.holds Tryz.pinned (OpenSpec.ofChange netSaysSpec)

/-- ITS FALSE NEIGHBOUR: 'it returns false'. Refute it at one input. -/
def netSaysWrong : ChangeSpec := { name := "netSays", fn := fun _ => fun
  | [d1, d2, d3] => { results := [.lit (.bool false)], args := [d1, d2, d3] }
  | _ => none }
def NetSaysWrongFalsely : Prop := netSaysRow.holds Tryz.pinned (OpenSpec.ofChange netSaysWrong)

/-- 'towpathtop.TopMeet': WHATEVER THE INPUT: true; the input reads as it did. -/
def topMeetSpec : ChangeSpec := { name := "topMeet", fn := fun _ => fun
  | [d1, d2, d3] => { results := [.lit (.bool true)], args := [d1, d2, d3] }
  | _ => none }
def topMeetRow : OpenClaim := { program := "ytieklnlbljejdaagreatdoor", sum := "38c3afaeff19d0cedb6024629bda6d9530fc872e721ef326fcdba1091647fb73", func := "towpath/towpathtop.TopMeet", spec := "topMeet", unfollowed := true, recurses := true, named := ["towpath/auto.steps"], plainKeys := false, apart := false, laid := [("towpath/auto.steps", laid_towpath_auto_steps)] }
def TopMeetSaid : Prop := topMeetRow.holds Tryz.pinned (OpenSpec.ofChange topMeetSpec)

/-- ITS FALSE NEIGHBOUR: 'it returns false'. Refute it at one input. -/
def topMeetWrong : ChangeSpec := { name := "topMeet", fn := fun _ => fun
  | [d1, d2, d3] => { results := [.lit (.bool false)], args := [d1, d2, d3] }
  | _ => none }
def TopMeetWrongFalsely : Prop := topMeetRow.holds Tryz.pinned (OpenSpec.ofChange topMeetWrong)

/-- 'towpathtop.TopSame': WHATEVER THE INPUT: true; the input reads as it did. -/
def topSameSpec : ChangeSpec := { name := "topSame", fn := fun _ => fun
  | [d1, d2, d3] => { results := [.lit (.bool true)], args := [d1, d2, d3] }
  | _ => none }
def topSameRow : OpenClaim := { program := "ytieklnlbljejdaagreatdoor", sum := "38c3afaeff19d0cedb6024629bda6d9530fc872e721ef326fcdba1091647fb73", func := "towpath/towpathtop.TopSame", spec := "topSame", unfollowed := true, recurses := true, named := ["towpath/auto.steps"], plainKeys := false, apart := false, laid := [("towpath/auto.steps", laid_towpath_auto_steps)] }
def TopSameSaid : Prop := topSameRow.holds Tryz.pinned (OpenSpec.ofChange topSameSpec)

/-- ITS FALSE NEIGHBOUR: 'it returns false'. Refute it at one input. -/
def topSameWrong : ChangeSpec := { name := "topSame", fn := fun _ => fun
  | [d1, d2, d3] => { results := [.lit (.bool false)], args := [d1, d2, d3] }
  | _ => none }
def TopSameWrongFalsely : Prop := topSameRow.holds Tryz.pinned (OpenSpec.ofChange topSameWrong)

/-- 'towpathtop.TopArrive': WHATEVER THE INPUT: true; the input reads as it did. -/
def topArriveSpec : ChangeSpec := { name := "topArrive", fn := fun _ => fun
  | [d1, d2, d3, d4, d5, d6] => { results := [.lit (.bool true)], args := [d1, d2, d3, d4, d5, d6] }
  | _ => none }
def topArriveRow : OpenClaim := { program := "ytieklnlbljejdaagreatdoor", sum := "38c3afaeff19d0cedb6024629bda6d9530fc872e721ef326fcdba1091647fb73", func := "towpath/towpathtop.TopArrive", spec := "topArrive", unfollowed := true, recurses := true, named := ["towpath/auto.steps"], plainKeys := false, apart := false, laid := [("towpath/auto.steps", laid_towpath_auto_steps)] }
def TopArriveSaid : Prop := topArriveRow.holds Tryz.pinned (OpenSpec.ofChange topArriveSpec)

/-- ITS FALSE NEIGHBOUR: 'it returns false'. Refute it at one input. -/
def topArriveWrong : ChangeSpec := { name := "topArrive", fn := fun _ => fun
  | [d1, d2, d3, d4, d5, d6] => { results := [.lit (.bool false)], args := [d1, d2, d3, d4, d5, d6] }
  | _ => none }
def TopArriveWrongFalsely : Prop := topArriveRow.holds Tryz.pinned (OpenSpec.ofChange topArriveWrong)

/-- 'towpathtop.TopQuiet': WHATEVER THE INPUT: true; the input reads as it did. -/
def topQuietSpec : ChangeSpec := { name := "topQuiet", fn := fun _ => fun
  | [d1, d2, d3] => { results := [.lit (.bool true)], args := [d1, d2, d3] }
  | _ => none }
def topQuietRow : OpenClaim := { program := "ytieklnlbljejdaagreatdoor", sum := "38c3afaeff19d0cedb6024629bda6d9530fc872e721ef326fcdba1091647fb73", func := "towpath/towpathtop.TopQuiet", spec := "topQuiet", unfollowed := true, recurses := true, named := ["towpath/auto.steps"], plainKeys := false, apart := false, laid := [("towpath/auto.steps", laid_towpath_auto_steps)] }
def TopQuietSaid : Prop := topQuietRow.holds Tryz.pinned (OpenSpec.ofChange topQuietSpec)

/-- ITS FALSE NEIGHBOUR: 'it returns false'. Refute it at one input. -/
def topQuietWrong : ChangeSpec := { name := "topQuiet", fn := fun _ => fun
  | [d1, d2, d3] => { results := [.lit (.bool false)], args := [d1, d2, d3] }
  | _ => none }
def TopQuietWrongFalsely : Prop := topQuietRow.holds Tryz.pinned (OpenSpec.ofChange topQuietWrong)

/-- 'towpathtop.TopCut': WHATEVER THE INPUT: true; the input reads as it did. -/
def topCutSpec : ChangeSpec := { name := "topCut", fn := fun _ => fun
  | [d1, d2, d3] => { results := [.lit (.bool true)], args := [d1, d2, d3] }
  | _ => none }
def topCutRow : OpenClaim := { program := "ytieklnlbljejdaagreatdoor", sum := "38c3afaeff19d0cedb6024629bda6d9530fc872e721ef326fcdba1091647fb73", func := "towpath/towpathtop.TopCut", spec := "topCut", unfollowed := true, recurses := true, named := ["towpath/auto.steps"], plainKeys := false, apart := false, laid := [("towpath/auto.steps", laid_towpath_auto_steps)] }
def TopCutSaid : Prop := topCutRow.holds Tryz.pinned (OpenSpec.ofChange topCutSpec)

/-- ITS FALSE NEIGHBOUR: 'it returns false'. Refute it at one input. -/
def topCutWrong : ChangeSpec := { name := "topCut", fn := fun _ => fun
  | [d1, d2, d3] => { results := [.lit (.bool false)], args := [d1, d2, d3] }
  | _ => none }
def TopCutWrongFalsely : Prop := topCutRow.holds Tryz.pinned (OpenSpec.ofChange topCutWrong)

/-- 'towpathtop.TopGate': WHATEVER THE INPUT: true; the input reads as it did. -/
def topGateSpec : ChangeSpec := { name := "topGate", fn := fun _ => fun
  | [d1, d2, d3] => { results := [.lit (.bool true)], args := [d1, d2, d3] }
  | _ => none }
def topGateRow : OpenClaim := { program := "ytieklnlbljejdaagreatdoor", sum := "38c3afaeff19d0cedb6024629bda6d9530fc872e721ef326fcdba1091647fb73", func := "towpath/towpathtop.TopGate", spec := "topGate", unfollowed := true, recurses := true, named := ["towpath/auto.steps"], plainKeys := false, apart := false, laid := [("towpath/auto.steps", laid_towpath_auto_steps)] }
def TopGateSaid : Prop := topGateRow.holds Tryz.pinned (OpenSpec.ofChange topGateSpec)

/-- ITS FALSE NEIGHBOUR: 'it returns false'. Refute it at one input. -/
def topGateWrong : ChangeSpec := { name := "topGate", fn := fun _ => fun
  | [d1, d2, d3] => { results := [.lit (.bool false)], args := [d1, d2, d3] }
  | _ => none }
def TopGateWrongFalsely : Prop := topGateRow.holds Tryz.pinned (OpenSpec.ofChange topGateWrong)

/-- 'towpathtop.TopTell': WHATEVER THE INPUT: true; the input reads as it did. -/
def topTellSpec : ChangeSpec := { name := "topTell", fn := fun _ => fun
  | [d1, d2, d3] => { results := [.lit (.bool true)], args := [d1, d2, d3] }
  | _ => none }
def topTellRow : OpenClaim := { program := "ytieklnlbljejdaagreatdoor", sum := "38c3afaeff19d0cedb6024629bda6d9530fc872e721ef326fcdba1091647fb73", func := "towpath/towpathtop.TopTell", spec := "topTell", unfollowed := true, recurses := true, named := ["towpath/auto.steps"], plainKeys := false, apart := false, laid := [("towpath/auto.steps", laid_towpath_auto_steps)] }
def TopTellSaid : Prop := topTellRow.holds Tryz.pinned (OpenSpec.ofChange topTellSpec)

/-- ITS FALSE NEIGHBOUR: 'it returns false'. Refute it at one input. -/
def topTellWrong : ChangeSpec := { name := "topTell", fn := fun _ => fun
  | [d1, d2, d3] => { results := [.lit (.bool false)], args := [d1, d2, d3] }
  | _ => none }
def TopTellWrongFalsely : Prop := topTellRow.holds Tryz.pinned (OpenSpec.ofChange topTellWrong)

/-- 'towpathtop.TopMail': WHATEVER THE INPUT: true; the input reads as it did. -/
def topMailSpec : ChangeSpec := { name := "topMail", fn := fun _ => fun
  | [d1, d2, d3] => { results := [.lit (.bool true)], args := [d1, d2, d3] }
  | _ => none }
def topMailRow : OpenClaim := { program := "ytieklnlbljejdaagreatdoor", sum := "38c3afaeff19d0cedb6024629bda6d9530fc872e721ef326fcdba1091647fb73", func := "towpath/towpathtop.TopMail", spec := "topMail", unfollowed := true, recurses := true, named := ["towpath/auto.steps"], plainKeys := false, apart := false, laid := [("towpath/auto.steps", laid_towpath_auto_steps)] }
def TopMailSaid : Prop := topMailRow.holds Tryz.pinned (OpenSpec.ofChange topMailSpec)

/-- ITS FALSE NEIGHBOUR: 'it returns false'. Refute it at one input. -/
def topMailWrong : ChangeSpec := { name := "topMail", fn := fun _ => fun
  | [d1, d2, d3] => { results := [.lit (.bool false)], args := [d1, d2, d3] }
  | _ => none }
def TopMailWrongFalsely : Prop := topMailRow.holds Tryz.pinned (OpenSpec.ofChange topMailWrong)

/-- 'towpathtop.TopAnew': WHATEVER THE INPUT: true; the input reads as it did. -/
def topAnewSpec : ChangeSpec := { name := "topAnew", fn := fun _ => fun
  | [d1, d2, d3, d4] => { results := [.lit (.bool true)], args := [d1, d2, d3, d4] }
  | _ => none }
def topAnewRow : OpenClaim := { program := "ytieklnlbljejdaagreatdoor", sum := "38c3afaeff19d0cedb6024629bda6d9530fc872e721ef326fcdba1091647fb73", func := "towpath/towpathtop.TopAnew", spec := "topAnew", unfollowed := true, recurses := true, named := ["towpath/auto.steps"], plainKeys := false, apart := false, laid := [("towpath/auto.steps", laid_towpath_auto_steps)] }
def TopAnewSaid : Prop := topAnewRow.holds Tryz.pinned (OpenSpec.ofChange topAnewSpec)

/-- ITS FALSE NEIGHBOUR: 'it returns false'. Refute it at one input. -/
def topAnewWrong : ChangeSpec := { name := "topAnew", fn := fun _ => fun
  | [d1, d2, d3, d4] => { results := [.lit (.bool false)], args := [d1, d2, d3, d4] }
  | _ => none }
def TopAnewWrongFalsely : Prop := topAnewRow.holds Tryz.pinned (OpenSpec.ofChange topAnewWrong)

/-- 'towpathtop.TopDrawn': WHATEVER THE INPUT: true; the input reads as it did. -/
def topDrawnSpec : ChangeSpec := { name := "topDrawn", fn := fun _ => fun
  | [d1, d2, d3, d4] => { results := [.lit (.bool true)], args := [d1, d2, d3, d4] }
  | _ => none }
def topDrawnRow : OpenClaim := { program := "ytieklnlbljejdaagreatdoor", sum := "38c3afaeff19d0cedb6024629bda6d9530fc872e721ef326fcdba1091647fb73", func := "towpath/towpathtop.TopDrawn", spec := "topDrawn", unfollowed := true, recurses := true, named := ["towpath/auto.steps"], plainKeys := false, apart := false, laid := [("towpath/auto.steps", laid_towpath_auto_steps)] }
def TopDrawnSaid : Prop := topDrawnRow.holds Tryz.pinned (OpenSpec.ofChange topDrawnSpec)

/-- ITS FALSE NEIGHBOUR: 'it returns false'. Refute it at one input. -/
def topDrawnWrong : ChangeSpec := { name := "topDrawn", fn := fun _ => fun
  | [d1, d2, d3, d4] => { results := [.lit (.bool false)], args := [d1, d2, d3, d4] }
  | _ => none }
def TopDrawnWrongFalsely : Prop := topDrawnRow.holds Tryz.pinned (OpenSpec.ofChange topDrawnWrong)

/- THE SECOND FORM. 'bulk': how many values and letters a reading holds, each counted each time it is reached (what is shared counts as often as it is met; a slice's spare places count too). A statement '..UptoSaid' is the law's where the arguments, and the package variables that the reading takes, are together of bulk at most 1048576: NARROWER than '..Said'. Prove '..Said' where nothing that the law and all that it calls make is longer than what came in: it says more and counts as full. Else prove '..UptoSaid'. A law counts once. -/
mutual
def uptoBulk {H : Type} : DataW H → Nat
  | .lit (.string bytes) => bytes.length + 1
  | .lit _ => 1
  | .nil => 1
  | .ptr d => uptoBulk d + 1
  | .slice elems spare => uptoBulkAll elems + uptoBulkAll spare + 1
  | .agg parts => uptoBulkAll parts + 1
  | .iface _ d => uptoBulk d + 1
  | .map entries => uptoBulkEntries entries + 1
  | .held _ => 1
def uptoBulkAll {H : Type} : List (DataW H) → Nat
  | [] => 0
  | d :: r => uptoBulk d + uptoBulkAll r
def uptoBulkEntries {H : Type} : List (Lit × DataW H) → Nat
  | [] => 0
  | x :: r => uptoBulkEntry x + uptoBulkEntries r
def uptoBulkEntry {H : Type} : Lit × DataW H → Nat
  | (.string bytes, d) => bytes.length + uptoBulk d + 1
  | (_, d) => uptoBulk d + 1
 end
def uptoSmall : (H : Type) → List (DataW H) → Bool := fun _ ds => decide (uptoBulkAll ds ≤ 1048576)
def OpenSpec.upto (s : _root_.Go.ChangeSpec) : _root_.Go.OpenSpec := { _root_.Go.OpenSpec.ofChange s with cond := some uptoSmall }

/-- 'towpathlaw.RouterSays', WHERE WHAT IT READS IS OF BULK AT MOST 1048576: true; the input reads as it did. -/
def routerSaysUptoRow : OpenClaim := { program := "ytieklnlbljejdaagreatdoor", sum := "38c3afaeff19d0cedb6024629bda6d9530fc872e721ef326fcdba1091647fb73", func := "towpath/towpathlaw.RouterSays", spec := "routerSays", unfollowed := true, recurses := true, named := ["towpath/auto.steps"], plainKeys := false, apart := false, laid := [("towpath/auto.steps", laid_towpath_auto_steps)], narrowed := true }
def RouterSaysUptoSaid : Prop := routerSaysUptoRow.holds Tryz.pinned (OpenSpec.upto routerSaysSpec)

/-- 'towpathlaw.NetSays', WHERE WHAT IT READS IS OF BULK AT MOST 1048576: true; the input reads as it did. -/
def netSaysUptoRow : OpenClaim := { program := "ytieklnlbljejdaagreatdoor", sum := "38c3afaeff19d0cedb6024629bda6d9530fc872e721ef326fcdba1091647fb73", func := "towpath/towpathlaw.NetSays", spec := "netSays", unfollowed := true, recurses := true, named := ["towpath/auto.steps"], plainKeys := false, apart := false, laid := [("towpath/auto.steps", laid_towpath_auto_steps)], narrowed := true }
def NetSaysUptoSaid : Prop := netSaysUptoRow.holds Tryz.pinned (OpenSpec.upto netSaysSpec)

/-- 'towpathtop.TopMeet', WHERE WHAT IT READS IS OF BULK AT MOST 1048576: true; the input reads as it did. -/
def topMeetUptoRow : OpenClaim := { program := "ytieklnlbljejdaagreatdoor", sum := "38c3afaeff19d0cedb6024629bda6d9530fc872e721ef326fcdba1091647fb73", func := "towpath/towpathtop.TopMeet", spec := "topMeet", unfollowed := true, recurses := true, named := ["towpath/auto.steps"], plainKeys := false, apart := false, laid := [("towpath/auto.steps", laid_towpath_auto_steps)], narrowed := true }
def TopMeetUptoSaid : Prop := topMeetUptoRow.holds Tryz.pinned (OpenSpec.upto topMeetSpec)

/-- 'towpathtop.TopSame', WHERE WHAT IT READS IS OF BULK AT MOST 1048576: true; the input reads as it did. -/
def topSameUptoRow : OpenClaim := { program := "ytieklnlbljejdaagreatdoor", sum := "38c3afaeff19d0cedb6024629bda6d9530fc872e721ef326fcdba1091647fb73", func := "towpath/towpathtop.TopSame", spec := "topSame", unfollowed := true, recurses := true, named := ["towpath/auto.steps"], plainKeys := false, apart := false, laid := [("towpath/auto.steps", laid_towpath_auto_steps)], narrowed := true }
def TopSameUptoSaid : Prop := topSameUptoRow.holds Tryz.pinned (OpenSpec.upto topSameSpec)

/-- 'towpathtop.TopArrive', WHERE WHAT IT READS IS OF BULK AT MOST 1048576: true; the input reads as it did. -/
def topArriveUptoRow : OpenClaim := { program := "ytieklnlbljejdaagreatdoor", sum := "38c3afaeff19d0cedb6024629bda6d9530fc872e721ef326fcdba1091647fb73", func := "towpath/towpathtop.TopArrive", spec := "topArrive", unfollowed := true, recurses := true, named := ["towpath/auto.steps"], plainKeys := false, apart := false, laid := [("towpath/auto.steps", laid_towpath_auto_steps)], narrowed := true }
def TopArriveUptoSaid : Prop := topArriveUptoRow.holds Tryz.pinned (OpenSpec.upto topArriveSpec)

/-- 'towpathtop.TopQuiet', WHERE WHAT IT READS IS OF BULK AT MOST 1048576: true; the input reads as it did. -/
def topQuietUptoRow : OpenClaim := { program := "ytieklnlbljejdaagreatdoor", sum := "38c3afaeff19d0cedb6024629bda6d9530fc872e721ef326fcdba1091647fb73", func := "towpath/towpathtop.TopQuiet", spec := "topQuiet", unfollowed := true, recurses := true, named := ["towpath/auto.steps"], plainKeys := false, apart := false, laid := [("towpath/auto.steps", laid_towpath_auto_steps)], narrowed := true }
def TopQuietUptoSaid : Prop := topQuietUptoRow.holds Tryz.pinned (OpenSpec.upto topQuietSpec)

/-- 'towpathtop.TopCut', WHERE WHAT IT READS IS OF BULK AT MOST 1048576: true; the input reads as it did. -/
def topCutUptoRow : OpenClaim := { program := "ytieklnlbljejdaagreatdoor", sum := "38c3afaeff19d0cedb6024629bda6d9530fc872e721ef326fcdba1091647fb73", func := "towpath/towpathtop.TopCut", spec := "topCut", unfollowed := true, recurses := true, named := ["towpath/auto.steps"], plainKeys := false, apart := false, laid := [("towpath/auto.steps", laid_towpath_auto_steps)], narrowed := true }
def TopCutUptoSaid : Prop := topCutUptoRow.holds Tryz.pinned (OpenSpec.upto topCutSpec)

/-- 'towpathtop.TopGate', WHERE WHAT IT READS IS OF BULK AT MOST 1048576: true; the input reads as it did. -/
def topGateUptoRow : OpenClaim := { program := "ytieklnlbljejdaagreatdoor", sum := "38c3afaeff19d0cedb6024629bda6d9530fc872e721ef326fcdba1091647fb73", func := "towpath/towpathtop.TopGate", spec := "topGate", unfollowed := true, recurses := true, named := ["towpath/auto.steps"], plainKeys := false, apart := false, laid := [("towpath/auto.steps", laid_towpath_auto_steps)], narrowed := true }
def TopGateUptoSaid : Prop := topGateUptoRow.holds Tryz.pinned (OpenSpec.upto topGateSpec)

/-- 'towpathtop.TopTell', WHERE WHAT IT READS IS OF BULK AT MOST 1048576: true; the input reads as it did. -/
def topTellUptoRow : OpenClaim := { program := "ytieklnlbljejdaagreatdoor", sum := "38c3afaeff19d0cedb6024629bda6d9530fc872e721ef326fcdba1091647fb73", func := "towpath/towpathtop.TopTell", spec := "topTell", unfollowed := true, recurses := true, named := ["towpath/auto.steps"], plainKeys := false, apart := false, laid := [("towpath/auto.steps", laid_towpath_auto_steps)], narrowed := true }
def TopTellUptoSaid : Prop := topTellUptoRow.holds Tryz.pinned (OpenSpec.upto topTellSpec)

/-- 'towpathtop.TopMail', WHERE WHAT IT READS IS OF BULK AT MOST 1048576: true; the input reads as it did. -/
def topMailUptoRow : OpenClaim := { program := "ytieklnlbljejdaagreatdoor", sum := "38c3afaeff19d0cedb6024629bda6d9530fc872e721ef326fcdba1091647fb73", func := "towpath/towpathtop.TopMail", spec := "topMail", unfollowed := true, recurses := true, named := ["towpath/auto.steps"], plainKeys := false, apart := false, laid := [("towpath/auto.steps", laid_towpath_auto_steps)], narrowed := true }
def TopMailUptoSaid : Prop := topMailUptoRow.holds Tryz.pinned (OpenSpec.upto topMailSpec)

/-- 'towpathtop.TopAnew', WHERE WHAT IT READS IS OF BULK AT MOST 1048576: true; the input reads as it did. -/
def topAnewUptoRow : OpenClaim := { program := "ytieklnlbljejdaagreatdoor", sum := "38c3afaeff19d0cedb6024629bda6d9530fc872e721ef326fcdba1091647fb73", func := "towpath/towpathtop.TopAnew", spec := "topAnew", unfollowed := true, recurses := true, named := ["towpath/auto.steps"], plainKeys := false, apart := false, laid := [("towpath/auto.steps", laid_towpath_auto_steps)], narrowed := true }
def TopAnewUptoSaid : Prop := topAnewUptoRow.holds Tryz.pinned (OpenSpec.upto topAnewSpec)

/-- 'towpathtop.TopDrawn', WHERE WHAT IT READS IS OF BULK AT MOST 1048576: true; the input reads as it did. -/
def topDrawnUptoRow : OpenClaim := { program := "ytieklnlbljejdaagreatdoor", sum := "38c3afaeff19d0cedb6024629bda6d9530fc872e721ef326fcdba1091647fb73", func := "towpath/towpathtop.TopDrawn", spec := "topDrawn", unfollowed := true, recurses := true, named := ["towpath/auto.steps"], plainKeys := false, apart := false, laid := [("towpath/auto.steps", laid_towpath_auto_steps)], narrowed := true }
def TopDrawnUptoSaid : Prop := topDrawnUptoRow.holds Tryz.pinned (OpenSpec.upto topDrawnSpec)

end Rows
end Go.Proofs.YtieklnlbljejdaaGreatDoor
