/-
  No cell of these rows narrows 'for every input' (looked for: loops, veiled, ifaces, maps, wideKeys, modest, calm, conditions, laid).
  DERIVED. THE GIVEN ROWS OF THIS SEAT. 9 by the template 'for every input the law returns true; each argument reads behind the call as it read before'; 0 by the template 'total and deterministic' (their statements: YtjchmcclmbmggabTotals.lean).
  GIVEN WITH THE SEED: the statements are not yours to turn. If you find one false, say at which input.
  Laid BY PROGRAM, IN A SANDBOX (cutbox-rows.mjs): the forced cells as the released guide's own fill.sh prints them over the translation 2c5c32608e51c90d… (all of the seat's roots in one cut). By AI agents, Wed Nov 11 2026. No macro, syntax, notation, axiom, sorry.
-/
import Derived.Test.YtjchmcclmbmggabChecked
import GoSem.Claim
import GoSem.ClaimJoined
import GoSem.ClaimMapViews
import Derived.JoinedTies
import Derived.KernelRfl
namespace Go.Proofs.Ytjchmcclmbmggab
/- THE CELL 'sum', in the pinned program and in every row, IS THE sha256 OF THE DUMP (.gsa) THAT YtjchmcclmbmggabProg.lean LOADS. Nothing in Lean hashes anything: it is a label: what it is worth is what the hold of that sum in a sandbox is worth. -/
noncomputable def Try.pinned : Pinned := { name := "ytjchmcclmbmggab", sum := "2c5c32608e51c90dea623113c31bc37c25d0817025091b8dc1c962718aa85c34", checked := Try.checked }
namespace Rows
def none {H : Type} : Left H := { results := [], args := [] }

/-- 'towpathtop.TopRefuse': WHATEVER THE INPUT: true; the input reads as it did. -/
def topRefuseSpec : ChangeSpec := { name := "topRefuse", fn := fun _ => fun
  | [d1, d2, d3, d4] => { results := [.lit (.bool true)], args := [d1, d2, d3, d4] }
  | _ => none }
def topRefuseRow : OpenClaim := { program := "ytjchmcclmbmggab", sum := "2c5c32608e51c90dea623113c31bc37c25d0817025091b8dc1c962718aa85c34", func := "towpath/towpathtop.TopRefuse", spec := "topRefuse", apart := false }
def TopRefuseSaid : Prop := topRefuseRow.holds Try.pinned (OpenSpec.ofChange topRefuseSpec)

/-- ITS FALSE NEIGHBOUR: 'it returns false'. Refute it at one input. -/
def topRefuseWrong : ChangeSpec := { name := "topRefuse", fn := fun _ => fun
  | [d1, d2, d3, d4] => { results := [.lit (.bool false)], args := [d1, d2, d3, d4] }
  | _ => none }
def TopRefuseWrongFalsely : Prop := topRefuseRow.holds Try.pinned (OpenSpec.ofChange topRefuseWrong)

/-- 'towpathtop.TopAgree': WHATEVER THE INPUT: true; the input reads as it did. -/
def topAgreeSpec : ChangeSpec := { name := "topAgree", fn := fun _ => fun
  | [d1, d2, d3, d4] => { results := [.lit (.bool true)], args := [d1, d2, d3, d4] }
  | _ => none }
def topAgreeRow : OpenClaim := { program := "ytjchmcclmbmggab", sum := "2c5c32608e51c90dea623113c31bc37c25d0817025091b8dc1c962718aa85c34", func := "towpath/towpathtop.TopAgree", spec := "topAgree", apart := false }
def TopAgreeSaid : Prop := topAgreeRow.holds Try.pinned (OpenSpec.ofChange topAgreeSpec)

/-- ITS FALSE NEIGHBOUR: 'it returns false'. Refute it at one input. -/
def topAgreeWrong : ChangeSpec := { name := "topAgree", fn := fun _ => fun
  | [d1, d2, d3, d4] => { results := [.lit (.bool false)], args := [d1, d2, d3, d4] }
  | _ => none }
def TopAgreeWrongFalsely : Prop := topAgreeRow.holds Try.pinned (OpenSpec.ofChange topAgreeWrong)

/-- 'towpathlaw.HelloSays': WHATEVER THE INPUT: true; the input reads as it did. -/
def helloSaysSpec : ChangeSpec := { name := "helloSays", fn := fun _ => fun
  | [d1, d2, d3, d4] => { results := [.lit (.bool true)], args := [d1, d2, d3, d4] }
  | _ => none }
def helloSaysRow : OpenClaim := { program := "ytjchmcclmbmggab", sum := "2c5c32608e51c90dea623113c31bc37c25d0817025091b8dc1c962718aa85c34", func := "towpath/towpathlaw.HelloSays", spec := "helloSays", apart := false }
def HelloSaysSaid : Prop := helloSaysRow.holds Try.pinned (OpenSpec.ofChange helloSaysSpec)

/-- ITS FALSE NEIGHBOUR: 'it returns false'. Refute it at one input. -/
def helloSaysWrong : ChangeSpec := { name := "helloSays", fn := fun _ => fun
  | [d1, d2, d3, d4] => { results := [.lit (.bool false)], args := [d1, d2, d3, d4] }
  | _ => none }
def HelloSaysWrongFalsely : Prop := helloSaysRow.holds Try.pinned (OpenSpec.ofChange helloSaysWrong)

/-- 'towpathlaw.StateSays': WHATEVER THE INPUT: true; the input reads as it did. -/
def stateSaysSpec : ChangeSpec := { name := "stateSays", fn := fun _ => fun
  | [d1, d2, d3] => { results := [.lit (.bool true)], args := [d1, d2, d3] }
  | _ => none }
def stateSaysRow : OpenClaim := { program := "ytjchmcclmbmggab", sum := "2c5c32608e51c90dea623113c31bc37c25d0817025091b8dc1c962718aa85c34", func := "towpath/towpathlaw.StateSays", spec := "stateSays", unfollowed := true, recurses := true, apart := false }
def StateSaysSaid : Prop := stateSaysRow.holds Try.pinned (OpenSpec.ofChange stateSaysSpec)

/-- ITS FALSE NEIGHBOUR: 'it returns false'. Refute it at one input. -/
def stateSaysWrong : ChangeSpec := { name := "stateSays", fn := fun _ => fun
  | [d1, d2, d3] => { results := [.lit (.bool false)], args := [d1, d2, d3] }
  | _ => none }
def StateSaysWrongFalsely : Prop := stateSaysRow.holds Try.pinned (OpenSpec.ofChange stateSaysWrong)

/-- 'towpathlaw.FloodSays': WHATEVER THE INPUT: true; the input reads as it did. -/
def floodSaysSpec : ChangeSpec := { name := "floodSays", fn := fun _ => fun
  | [d1, d2] => { results := [.lit (.bool true)], args := [d1, d2] }
  | _ => none }
def floodSaysRow : OpenClaim := { program := "ytjchmcclmbmggab", sum := "2c5c32608e51c90dea623113c31bc37c25d0817025091b8dc1c962718aa85c34", func := "towpath/towpathlaw.FloodSays", spec := "floodSays", unfollowed := true, recurses := true, apart := false }
def FloodSaysSaid : Prop := floodSaysRow.holds Try.pinned (OpenSpec.ofChange floodSaysSpec)

/-- ITS FALSE NEIGHBOUR: 'it returns false'. Refute it at one input. -/
def floodSaysWrong : ChangeSpec := { name := "floodSays", fn := fun _ => fun
  | [d1, d2] => { results := [.lit (.bool false)], args := [d1, d2] }
  | _ => none }
def FloodSaysWrongFalsely : Prop := floodSaysRow.holds Try.pinned (OpenSpec.ofChange floodSaysWrong)

/-- 'towpathtop.TopHeard': WHATEVER THE INPUT: true; the input reads as it did. -/
def topHeardSpec : ChangeSpec := { name := "topHeard", fn := fun _ => fun
  | [d1, d2, d3] => { results := [.lit (.bool true)], args := [d1, d2, d3] }
  | _ => none }
def topHeardRow : OpenClaim := { program := "ytjchmcclmbmggab", sum := "2c5c32608e51c90dea623113c31bc37c25d0817025091b8dc1c962718aa85c34", func := "towpath/towpathtop.TopHeard", spec := "topHeard", apart := false }
def TopHeardSaid : Prop := topHeardRow.holds Try.pinned (OpenSpec.ofChange topHeardSpec)

/-- ITS FALSE NEIGHBOUR: 'it returns false'. Refute it at one input. -/
def topHeardWrong : ChangeSpec := { name := "topHeard", fn := fun _ => fun
  | [d1, d2, d3] => { results := [.lit (.bool false)], args := [d1, d2, d3] }
  | _ => none }
def TopHeardWrongFalsely : Prop := topHeardRow.holds Try.pinned (OpenSpec.ofChange topHeardWrong)

/-- 'towpathtop.TopState': WHATEVER THE INPUT: true; the input reads as it did. -/
def topStateSpec : ChangeSpec := { name := "topState", fn := fun _ => fun
  | [d1, d2, d3] => { results := [.lit (.bool true)], args := [d1, d2, d3] }
  | _ => none }
def topStateRow : OpenClaim := { program := "ytjchmcclmbmggab", sum := "2c5c32608e51c90dea623113c31bc37c25d0817025091b8dc1c962718aa85c34", func := "towpath/towpathtop.TopState", spec := "topState", unfollowed := true, recurses := true, apart := false }
def TopStateSaid : Prop := topStateRow.holds Try.pinned (OpenSpec.ofChange topStateSpec)

/-- ITS FALSE NEIGHBOUR: 'it returns false'. Refute it at one input. -/
def topStateWrong : ChangeSpec := { name := "topState", fn := fun _ => fun
  | [d1, d2, d3] => { results := [.lit (.bool false)], args := [d1, d2, d3] }
  | _ => none }
def TopStateWrongFalsely : Prop := topStateRow.holds Try.pinned (OpenSpec.ofChange topStateWrong)

/-- 'towpathtop.TopNewest': WHATEVER THE INPUT: true; the input reads as it did. -/
def topNewestSpec : ChangeSpec := { name := "topNewest", fn := fun _ => fun
  | [d1, d2] => { results := [.lit (.bool true)], args := [d1, d2] }
  | _ => none }
def topNewestRow : OpenClaim := { program := "ytjchmcclmbmggab", sum := "2c5c32608e51c90dea623113c31bc37c25d0817025091b8dc1c962718aa85c34", func := "towpath/towpathtop.TopNewest", spec := "topNewest", unfollowed := true, recurses := true, apart := false }
def TopNewestSaid : Prop := topNewestRow.holds Try.pinned (OpenSpec.ofChange topNewestSpec)

/-- ITS FALSE NEIGHBOUR: 'it returns false'. Refute it at one input. -/
def topNewestWrong : ChangeSpec := { name := "topNewest", fn := fun _ => fun
  | [d1, d2] => { results := [.lit (.bool false)], args := [d1, d2] }
  | _ => none }
def TopNewestWrongFalsely : Prop := topNewestRow.holds Try.pinned (OpenSpec.ofChange topNewestWrong)

/-- 'towpathtop.TopSpread': WHATEVER THE INPUT: true; the input reads as it did. -/
def topSpreadSpec : ChangeSpec := { name := "topSpread", fn := fun _ => fun
  | [d1, d2] => { results := [.lit (.bool true)], args := [d1, d2] }
  | _ => none }
def topSpreadRow : OpenClaim := { program := "ytjchmcclmbmggab", sum := "2c5c32608e51c90dea623113c31bc37c25d0817025091b8dc1c962718aa85c34", func := "towpath/towpathtop.TopSpread", spec := "topSpread", unfollowed := true, recurses := true, apart := false }
def TopSpreadSaid : Prop := topSpreadRow.holds Try.pinned (OpenSpec.ofChange topSpreadSpec)

/-- ITS FALSE NEIGHBOUR: 'it returns false'. Refute it at one input. -/
def topSpreadWrong : ChangeSpec := { name := "topSpread", fn := fun _ => fun
  | [d1, d2] => { results := [.lit (.bool false)], args := [d1, d2] }
  | _ => none }
def TopSpreadWrongFalsely : Prop := topSpreadRow.holds Try.pinned (OpenSpec.ofChange topSpreadWrong)

/- THE SECOND FORM. 'bulk': how many values and letters a reading holds, each counted each time it is reached (what is shared counts as often as it is met; a slice's spare places count too). A statement '..UptoSaid' is the law's where the arguments, and the package variables that the reading takes, are together of bulk at most 1048576: NARROWER than '..Said'. Prove '..Said' where nothing that the law and all that it calls make is longer than what came in: it says more and counts as full. Else prove '..UptoSaid'. A law counts once. -/
mutual
def uptoBulk {H : Type} : DataW H → Nat
  | .lit (.string bytes) => bytes.length + 1
  | .lit _ => 1
  | .nil => 1
  | .ptr d => uptoBulk d + 1
  | .slice elems spare => uptoBulkAll elems + uptoBulkAll spare + 1
  | .agg parts => uptoBulkAll parts + 1
  | .iface _ d => uptoBulk d + 1
  | .map entries => uptoBulkEntries entries + 1
  | .held _ => 1
def uptoBulkAll {H : Type} : List (DataW H) → Nat
  | [] => 0
  | d :: r => uptoBulk d + uptoBulkAll r
def uptoBulkEntries {H : Type} : List (Lit × DataW H) → Nat
  | [] => 0
  | x :: r => uptoBulkEntry x + uptoBulkEntries r
def uptoBulkEntry {H : Type} : Lit × DataW H → Nat
  | (.string bytes, d) => bytes.length + uptoBulk d + 1
  | (_, d) => uptoBulk d + 1
 end
def uptoSmall : (H : Type) → List (DataW H) → Bool := fun _ ds => decide (uptoBulkAll ds ≤ 1048576)
def OpenSpec.upto (s : _root_.Go.ChangeSpec) : _root_.Go.OpenSpec := { _root_.Go.OpenSpec.ofChange s with cond := some uptoSmall }

/-- 'towpathtop.TopRefuse', WHERE WHAT IT READS IS OF BULK AT MOST 1048576: true; the input reads as it did. -/
def topRefuseUptoRow : OpenClaim := { program := "ytjchmcclmbmggab", sum := "2c5c32608e51c90dea623113c31bc37c25d0817025091b8dc1c962718aa85c34", func := "towpath/towpathtop.TopRefuse", spec := "topRefuse", apart := false, narrowed := true }
def TopRefuseUptoSaid : Prop := topRefuseUptoRow.holds Try.pinned (OpenSpec.upto topRefuseSpec)

/-- 'towpathtop.TopAgree', WHERE WHAT IT READS IS OF BULK AT MOST 1048576: true; the input reads as it did. -/
def topAgreeUptoRow : OpenClaim := { program := "ytjchmcclmbmggab", sum := "2c5c32608e51c90dea623113c31bc37c25d0817025091b8dc1c962718aa85c34", func := "towpath/towpathtop.TopAgree", spec := "topAgree", apart := false, narrowed := true }
def TopAgreeUptoSaid : Prop := topAgreeUptoRow.holds Try.pinned (OpenSpec.upto topAgreeSpec)

/-- 'towpathlaw.HelloSays', WHERE WHAT IT READS IS OF BULK AT MOST 1048576: true; the input reads as it did. -/
def helloSaysUptoRow : OpenClaim := { program := "ytjchmcclmbmggab", sum := "2c5c32608e51c90dea623113c31bc37c25d0817025091b8dc1c962718aa85c34", func := "towpath/towpathlaw.HelloSays", spec := "helloSays", apart := false, narrowed := true }
def HelloSaysUptoSaid : Prop := helloSaysUptoRow.holds Try.pinned (OpenSpec.upto helloSaysSpec)

/-- 'towpathlaw.StateSays', WHERE WHAT IT READS IS OF BULK AT MOST 1048576: true; the input reads as it did. -/
def stateSaysUptoRow : OpenClaim := { program := "ytjchmcclmbmggab", sum := "2c5c32608e51c90dea623113c31bc37c25d0817025091b8dc1c962718aa85c34", func := "towpath/towpathlaw.StateSays", spec := "stateSays", unfollowed := true, recurses := true, apart := false, narrowed := true }
def StateSaysUptoSaid : Prop := stateSaysUptoRow.holds Try.pinned (OpenSpec.upto stateSaysSpec)

/-- 'towpathlaw.FloodSays', WHERE WHAT IT READS IS OF BULK AT MOST 1048576: true; the input reads as it did. -/
def floodSaysUptoRow : OpenClaim := { program := "ytjchmcclmbmggab", sum := "2c5c32608e51c90dea623113c31bc37c25d0817025091b8dc1c962718aa85c34", func := "towpath/towpathlaw.FloodSays", spec := "floodSays", unfollowed := true, recurses := true, apart := false, narrowed := true }
def FloodSaysUptoSaid : Prop := floodSaysUptoRow.holds Try.pinned (OpenSpec.upto floodSaysSpec)

/-- 'towpathtop.TopHeard', WHERE WHAT IT READS IS OF BULK AT MOST 1048576: true; the input reads as it did. -/
def topHeardUptoRow : OpenClaim := { program := "ytjchmcclmbmggab", sum := "2c5c32608e51c90dea623113c31bc37c25d0817025091b8dc1c962718aa85c34", func := "towpath/towpathtop.TopHeard", spec := "topHeard", apart := false, narrowed := true }
def TopHeardUptoSaid : Prop := topHeardUptoRow.holds Try.pinned (OpenSpec.upto topHeardSpec)

/-- 'towpathtop.TopState', WHERE WHAT IT READS IS OF BULK AT MOST 1048576: true; the input reads as it did. -/
def topStateUptoRow : OpenClaim := { program := "ytjchmcclmbmggab", sum := "2c5c32608e51c90dea623113c31bc37c25d0817025091b8dc1c962718aa85c34", func := "towpath/towpathtop.TopState", spec := "topState", unfollowed := true, recurses := true, apart := false, narrowed := true }
def TopStateUptoSaid : Prop := topStateUptoRow.holds Try.pinned (OpenSpec.upto topStateSpec)

/-- 'towpathtop.TopNewest', WHERE WHAT IT READS IS OF BULK AT MOST 1048576: true; the input reads as it did. -/
def topNewestUptoRow : OpenClaim := { program := "ytjchmcclmbmggab", sum := "2c5c32608e51c90dea623113c31bc37c25d0817025091b8dc1c962718aa85c34", func := "towpath/towpathtop.TopNewest", spec := "topNewest", unfollowed := true, recurses := true, apart := false, narrowed := true }
def TopNewestUptoSaid : Prop := topNewestUptoRow.holds Try.pinned (OpenSpec.upto topNewestSpec)

/-- 'towpathtop.TopSpread', WHERE WHAT IT READS IS OF BULK AT MOST 1048576: true; the input reads as it did. -/
def topSpreadUptoRow : OpenClaim := { program := "ytjchmcclmbmggab", sum := "2c5c32608e51c90dea623113c31bc37c25d0817025091b8dc1c962718aa85c34", func := "towpath/towpathtop.TopSpread", spec := "topSpread", unfollowed := true, recurses := true, apart := false, narrowed := true }
def TopSpreadUptoSaid : Prop := topSpreadUptoRow.holds Try.pinned (OpenSpec.upto topSpreadSpec)

end Rows
end Go.Proofs.Ytjchmcclmbmggab
