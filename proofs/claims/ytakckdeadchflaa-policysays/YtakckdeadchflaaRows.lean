/-
  No cell of these rows narrows 'for every input' (looked for: loops, veiled, ifaces, maps, wideKeys, modest, calm, conditions, laid).
  DERIVED. THE GIVEN ROWS OF THIS SEAT. 7 by the template 'for every input the law returns true; each argument reads behind the call as it read before'; 0 by the template 'total and deterministic' (their statements: YtakckdeadchflaaTotals.lean).
  GIVEN WITH THE SEED: the statements are not yours to turn. If you find one false, say at which input.
  Laid BY PROGRAM, IN A SANDBOX (cutbox-rows.mjs): the forced cells as the released guide's own fill.sh prints them over the translation b9fdb695402d3259… (all of the seat's roots in one cut). By AI agents, Wed Nov 11 2026. No macro, syntax, notation, axiom, sorry.
-/
import Derived.Test.YtakckdeadchflaaChecked
import GoSem.Claim
import GoSem.ClaimJoined
import GoSem.ClaimMapViews
import Derived.JoinedTies
import Derived.KernelRfl
namespace Go.Proofs.Ytakckdeadchflaa
/- THE CELL 'sum', in the pinned program and in every row, IS THE sha256 OF THE DUMP (.gsa) THAT YtakckdeadchflaaProg.lean LOADS. Nothing in Lean hashes anything: it is a label: what it is worth is what the hold of that sum in a sandbox is worth. -/
noncomputable def Try.pinned : Pinned := { name := "ytakckdeadchflaa", sum := "b9fdb695402d3259702d0f35f8348add441bc54a7f0c6e6193bcf704f7c4a945", checked := Try.checked }
namespace Rows
def none {H : Type} : Left H := { results := [], args := [] }

/-- 'towpathlaw.FrameSays': WHATEVER THE INPUT: true; the input reads as it did. -/
def frameSaysSpec : ChangeSpec := { name := "frameSays", fn := fun _ => fun
  | [d1, d2] => { results := [.lit (.bool true)], args := [d1, d2] }
  | _ => none }
def frameSaysRow : OpenClaim := { program := "ytakckdeadchflaa", sum := "b9fdb695402d3259702d0f35f8348add441bc54a7f0c6e6193bcf704f7c4a945", func := "towpath/towpathlaw.FrameSays", spec := "frameSays", apart := false }
def FrameSaysSaid : Prop := frameSaysRow.holds Try.pinned (OpenSpec.ofChange frameSaysSpec)

/-- ITS FALSE NEIGHBOUR: 'it returns false'. Refute it at one input. -/
def frameSaysWrong : ChangeSpec := { name := "frameSays", fn := fun _ => fun
  | [d1, d2] => { results := [.lit (.bool false)], args := [d1, d2] }
  | _ => none }
def FrameSaysWrongFalsely : Prop := frameSaysRow.holds Try.pinned (OpenSpec.ofChange frameSaysWrong)

/-- 'towpathlaw.PacketSays': WHATEVER THE INPUT: true; the input reads as it did. -/
def packetSaysSpec : ChangeSpec := { name := "packetSays", fn := fun _ => fun
  | [d1, d2] => { results := [.lit (.bool true)], args := [d1, d2] }
  | _ => none }
def packetSaysRow : OpenClaim := { program := "ytakckdeadchflaa", sum := "b9fdb695402d3259702d0f35f8348add441bc54a7f0c6e6193bcf704f7c4a945", func := "towpath/towpathlaw.PacketSays", spec := "packetSays", unfollowed := true, recurses := true, apart := false }
def PacketSaysSaid : Prop := packetSaysRow.holds Try.pinned (OpenSpec.ofChange packetSaysSpec)

/-- ITS FALSE NEIGHBOUR: 'it returns false'. Refute it at one input. -/
def packetSaysWrong : ChangeSpec := { name := "packetSays", fn := fun _ => fun
  | [d1, d2] => { results := [.lit (.bool false)], args := [d1, d2] }
  | _ => none }
def PacketSaysWrongFalsely : Prop := packetSaysRow.holds Try.pinned (OpenSpec.ofChange packetSaysWrong)

/-- 'towpathtop.TopFrame': WHATEVER THE INPUT: true; the input reads as it did. -/
def topFrameSpec : ChangeSpec := { name := "topFrame", fn := fun _ => fun
  | [d1, d2] => { results := [.lit (.bool true)], args := [d1, d2] }
  | _ => none }
def topFrameRow : OpenClaim := { program := "ytakckdeadchflaa", sum := "b9fdb695402d3259702d0f35f8348add441bc54a7f0c6e6193bcf704f7c4a945", func := "towpath/towpathtop.TopFrame", spec := "topFrame", apart := false }
def TopFrameSaid : Prop := topFrameRow.holds Try.pinned (OpenSpec.ofChange topFrameSpec)

/-- ITS FALSE NEIGHBOUR: 'it returns false'. Refute it at one input. -/
def topFrameWrong : ChangeSpec := { name := "topFrame", fn := fun _ => fun
  | [d1, d2] => { results := [.lit (.bool false)], args := [d1, d2] }
  | _ => none }
def TopFrameWrongFalsely : Prop := topFrameRow.holds Try.pinned (OpenSpec.ofChange topFrameWrong)

/-- 'towpathtop.TopStream': WHATEVER THE INPUT: true; the input reads as it did. -/
def topStreamSpec : ChangeSpec := { name := "topStream", fn := fun _ => fun
  | [d] => { results := [.lit (.bool true)], args := [d] }
  | _ => none }
def topStreamRow : OpenClaim := { program := "ytakckdeadchflaa", sum := "b9fdb695402d3259702d0f35f8348add441bc54a7f0c6e6193bcf704f7c4a945", func := "towpath/towpathtop.TopStream", spec := "topStream", apart := false }
def TopStreamSaid : Prop := topStreamRow.holds Try.pinned (OpenSpec.ofChange topStreamSpec)

/-- ITS FALSE NEIGHBOUR: 'it returns false'. Refute it at one input. -/
def topStreamWrong : ChangeSpec := { name := "topStream", fn := fun _ => fun
  | [d] => { results := [.lit (.bool false)], args := [d] }
  | _ => none }
def TopStreamWrongFalsely : Prop := topStreamRow.holds Try.pinned (OpenSpec.ofChange topStreamWrong)

/-- 'towpathtop.TopSum': WHATEVER THE INPUT: true; the input reads as it did. -/
def topSumSpec : ChangeSpec := { name := "topSum", fn := fun _ => fun
  | [d1, d2, d3] => { results := [.lit (.bool true)], args := [d1, d2, d3] }
  | _ => none }
def topSumRow : OpenClaim := { program := "ytakckdeadchflaa", sum := "b9fdb695402d3259702d0f35f8348add441bc54a7f0c6e6193bcf704f7c4a945", func := "towpath/towpathtop.TopSum", spec := "topSum", apart := false }
def TopSumSaid : Prop := topSumRow.holds Try.pinned (OpenSpec.ofChange topSumSpec)

/-- ITS FALSE NEIGHBOUR: 'it returns false'. Refute it at one input. -/
def topSumWrong : ChangeSpec := { name := "topSum", fn := fun _ => fun
  | [d1, d2, d3] => { results := [.lit (.bool false)], args := [d1, d2, d3] }
  | _ => none }
def TopSumWrongFalsely : Prop := topSumRow.holds Try.pinned (OpenSpec.ofChange topSumWrong)

/-- 'towpathtop.TopPacket': WHATEVER THE INPUT: true; the input reads as it did. -/
def topPacketSpec : ChangeSpec := { name := "topPacket", fn := fun _ => fun
  | [d] => { results := [.lit (.bool true)], args := [d] }
  | _ => none }
def topPacketRow : OpenClaim := { program := "ytakckdeadchflaa", sum := "b9fdb695402d3259702d0f35f8348add441bc54a7f0c6e6193bcf704f7c4a945", func := "towpath/towpathtop.TopPacket", spec := "topPacket", unfollowed := true, recurses := true, apart := false }
def TopPacketSaid : Prop := topPacketRow.holds Try.pinned (OpenSpec.ofChange topPacketSpec)

/-- ITS FALSE NEIGHBOUR: 'it returns false'. Refute it at one input. -/
def topPacketWrong : ChangeSpec := { name := "topPacket", fn := fun _ => fun
  | [d] => { results := [.lit (.bool false)], args := [d] }
  | _ => none }
def TopPacketWrongFalsely : Prop := topPacketRow.holds Try.pinned (OpenSpec.ofChange topPacketWrong)

/-- 'towpathlaw.PolicySays': WHATEVER THE INPUT: true; the input reads as it did. -/
def policySaysSpec : ChangeSpec := { name := "policySays", fn := fun _ => fun
  | [d1, d2, d3, d4, d5] => { results := [.lit (.bool true)], args := [d1, d2, d3, d4, d5] }
  | _ => none }
def policySaysRow : OpenClaim := { program := "ytakckdeadchflaa", sum := "b9fdb695402d3259702d0f35f8348add441bc54a7f0c6e6193bcf704f7c4a945", func := "towpath/towpathlaw.PolicySays", spec := "policySays", apart := false }
def PolicySaysSaid : Prop := policySaysRow.holds Try.pinned (OpenSpec.ofChange policySaysSpec)

/-- ITS FALSE NEIGHBOUR: 'it returns false'. Refute it at one input. -/
def policySaysWrong : ChangeSpec := { name := "policySays", fn := fun _ => fun
  | [d1, d2, d3, d4, d5] => { results := [.lit (.bool false)], args := [d1, d2, d3, d4, d5] }
  | _ => none }
def PolicySaysWrongFalsely : Prop := policySaysRow.holds Try.pinned (OpenSpec.ofChange policySaysWrong)

/- THE SECOND FORM. 'bulk': how many values and letters a reading holds, each counted each time it is reached (what is shared counts as often as it is met; a slice's spare places count too). A statement '..UptoSaid' is the law's where the arguments, and the package variables that the reading takes, are together of bulk at most 1048576: NARROWER than '..Said'. Prove '..Said' where nothing that the law and all that it calls make is longer than what came in: it says more and counts as full. Else prove '..UptoSaid'. A law counts once. -/
mutual
def uptoBulk {H : Type} : DataW H → Nat
  | .lit (.string bytes) => bytes.length + 1
  | .lit _ => 1
  | .nil => 1
  | .ptr d => uptoBulk d + 1
  | .slice elems spare => uptoBulkAll elems + uptoBulkAll spare + 1
  | .agg parts => uptoBulkAll parts + 1
  | .iface _ d => uptoBulk d + 1
  | .map entries => uptoBulkEntries entries + 1
  | .held _ => 1
def uptoBulkAll {H : Type} : List (DataW H) → Nat
  | [] => 0
  | d :: r => uptoBulk d + uptoBulkAll r
def uptoBulkEntries {H : Type} : List (Lit × DataW H) → Nat
  | [] => 0
  | x :: r => uptoBulkEntry x + uptoBulkEntries r
def uptoBulkEntry {H : Type} : Lit × DataW H → Nat
  | (.string bytes, d) => bytes.length + uptoBulk d + 1
  | (_, d) => uptoBulk d + 1
 end
def uptoSmall : (H : Type) → List (DataW H) → Bool := fun _ ds => decide (uptoBulkAll ds ≤ 1048576)
def OpenSpec.upto (s : _root_.Go.ChangeSpec) : _root_.Go.OpenSpec := { _root_.Go.OpenSpec.ofChange s with cond := some uptoSmall }

/-- 'towpathlaw.FrameSays', WHERE WHAT IT READS IS OF BULK AT MOST 1048576: true; the input reads as it did. -/
def frameSaysUptoRow : OpenClaim := { program := "ytakckdeadchflaa", sum := "b9fdb695402d3259702d0f35f8348add441bc54a7f0c6e6193bcf704f7c4a945", func := "towpath/towpathlaw.FrameSays", spec := "frameSays", apart := false, narrowed := true }
def FrameSaysUptoSaid : Prop := frameSaysUptoRow.holds Try.pinned (OpenSpec.upto frameSaysSpec)

/-- 'towpathlaw.PacketSays', WHERE WHAT IT READS IS OF BULK AT MOST 1048576: true; the input reads as it did. -/
def packetSaysUptoRow : OpenClaim := { program := "ytakckdeadchflaa", sum := "b9fdb695402d3259702d0f35f8348add441bc54a7f0c6e6193bcf704f7c4a945", func := "towpath/towpathlaw.PacketSays", spec := "packetSays", unfollowed := true, recurses := true, apart := false, narrowed := true }
def PacketSaysUptoSaid : Prop := packetSaysUptoRow.holds Try.pinned (OpenSpec.upto packetSaysSpec)

/-- 'towpathtop.TopFrame', WHERE WHAT IT READS IS OF BULK AT MOST 1048576: true; the input reads as it did. -/
def topFrameUptoRow : OpenClaim := { program := "ytakckdeadchflaa", sum := "b9fdb695402d3259702d0f35f8348add441bc54a7f0c6e6193bcf704f7c4a945", func := "towpath/towpathtop.TopFrame", spec := "topFrame", apart := false, narrowed := true }
def TopFrameUptoSaid : Prop := topFrameUptoRow.holds Try.pinned (OpenSpec.upto topFrameSpec)

/-- 'towpathtop.TopStream', WHERE WHAT IT READS IS OF BULK AT MOST 1048576: true; the input reads as it did. -/
def topStreamUptoRow : OpenClaim := { program := "ytakckdeadchflaa", sum := "b9fdb695402d3259702d0f35f8348add441bc54a7f0c6e6193bcf704f7c4a945", func := "towpath/towpathtop.TopStream", spec := "topStream", apart := false, narrowed := true }
def TopStreamUptoSaid : Prop := topStreamUptoRow.holds Try.pinned (OpenSpec.upto topStreamSpec)

/-- 'towpathtop.TopSum', WHERE WHAT IT READS IS OF BULK AT MOST 1048576: true; the input reads as it did. -/
def topSumUptoRow : OpenClaim := { program := "ytakckdeadchflaa", sum := "b9fdb695402d3259702d0f35f8348add441bc54a7f0c6e6193bcf704f7c4a945", func := "towpath/towpathtop.TopSum", spec := "topSum", apart := false, narrowed := true }
def TopSumUptoSaid : Prop := topSumUptoRow.holds Try.pinned (OpenSpec.upto topSumSpec)

/-- 'towpathtop.TopPacket', WHERE WHAT IT READS IS OF BULK AT MOST 1048576: true; the input reads as it did. -/
def topPacketUptoRow : OpenClaim := { program := "ytakckdeadchflaa", sum := "b9fdb695402d3259702d0f35f8348add441bc54a7f0c6e6193bcf704f7c4a945", func := "towpath/towpathtop.TopPacket", spec := "topPacket", unfollowed := true, recurses := true, apart := false, narrowed := true }
def TopPacketUptoSaid : Prop := topPacketUptoRow.holds Try.pinned (OpenSpec.upto topPacketSpec)

/-- 'towpathlaw.PolicySays', WHERE WHAT IT READS IS OF BULK AT MOST 1048576: true; the input reads as it did. -/
def policySaysUptoRow : OpenClaim := { program := "ytakckdeadchflaa", sum := "b9fdb695402d3259702d0f35f8348add441bc54a7f0c6e6193bcf704f7c4a945", func := "towpath/towpathlaw.PolicySays", spec := "policySays", apart := false, narrowed := true }
def PolicySaysUptoSaid : Prop := policySaysUptoRow.holds Try.pinned (OpenSpec.upto policySaysSpec)

end Rows
end Go.Proofs.Ytakckdeadchflaa
