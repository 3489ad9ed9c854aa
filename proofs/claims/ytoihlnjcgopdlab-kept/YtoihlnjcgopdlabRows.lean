/-
  No cell of these rows narrows 'for every input' (looked for: loops, veiled, ifaces, maps, wideKeys, modest, calm, conditions, laid).
  DERIVED. THE GIVEN ROWS OF THIS SEAT. 8 by the template 'for every input the law returns true; each argument reads behind the call as it read before'; 0 by the template 'total and deterministic' (their statements: YtoihlnjcgopdlabTotals.lean).
  GIVEN WITH THE SEED: the statements are not yours to turn. If you find one false, say at which input.
  Laid BY PROGRAM, IN A SANDBOX (cutbox-rows.mjs): the forced cells as the released guide's own fill.sh prints them over the translation 6e16dc69bff0f7b2… (all of the seat's roots in one cut). By AI agents, Wed Nov 11 2026. No macro, syntax, notation, axiom, sorry.
-/
import Derived.Test.YtoihlnjcgopdlabChecked
import GoSem.Claim
import GoSem.ClaimJoined
import GoSem.ClaimMapViews
import Derived.JoinedTies
import Derived.KernelRfl
namespace Go.Proofs.Ytoihlnjcgopdlab
/- THE CELL 'sum', in the pinned program and in every row, IS THE sha256 OF THE DUMP (.gsa) THAT YtoihlnjcgopdlabProg.lean LOADS. Nothing in Lean hashes anything: it is a label: what it is worth is what the hold of that sum in a sandbox is worth. -/
noncomputable def Try.pinned : Pinned := { name := "ytoihlnjcgopdlab", sum := "6e16dc69bff0f7b272d798ff36ceeb6776ce5df2b00c1dbd1726f204724dbf68", checked := Try.checked }
namespace Rows
def none {H : Type} : Left H := { results := [], args := [] }

/-- 'signallaw.Frames': WHATEVER THE INPUT: true; the input reads as it did. -/
def framesSpec : ChangeSpec := { name := "frames", fn := fun _ => fun
  | [d1, d2] => { results := [.lit (.bool true)], args := [d1, d2] }
  | _ => none }
def framesRow : OpenClaim := { program := "ytoihlnjcgopdlab", sum := "6e16dc69bff0f7b272d798ff36ceeb6776ce5df2b00c1dbd1726f204724dbf68", func := "signal/signallaw.Frames", spec := "frames", apart := false }
def FramesSaid : Prop := framesRow.holds Try.pinned (OpenSpec.ofChange framesSpec)

/-- ITS FALSE NEIGHBOUR: 'it returns false'. Refute it at one input. -/
def framesWrong : ChangeSpec := { name := "frames", fn := fun _ => fun
  | [d1, d2] => { results := [.lit (.bool false)], args := [d1, d2] }
  | _ => none }
def FramesWrongFalsely : Prop := framesRow.holds Try.pinned (OpenSpec.ofChange framesWrong)

/-- 'signallaw.Deframes': WHATEVER THE INPUT: true; the input reads as it did. -/
def deframesSpec : ChangeSpec := { name := "deframes", fn := fun _ => fun
  | [d] => { results := [.lit (.bool true)], args := [d] }
  | _ => none }
def deframesRow : OpenClaim := { program := "ytoihlnjcgopdlab", sum := "6e16dc69bff0f7b272d798ff36ceeb6776ce5df2b00c1dbd1726f204724dbf68", func := "signal/signallaw.Deframes", spec := "deframes", apart := false }
def DeframesSaid : Prop := deframesRow.holds Try.pinned (OpenSpec.ofChange deframesSpec)

/-- ITS FALSE NEIGHBOUR: 'it returns false'. Refute it at one input. -/
def deframesWrong : ChangeSpec := { name := "deframes", fn := fun _ => fun
  | [d] => { results := [.lit (.bool false)], args := [d] }
  | _ => none }
def DeframesWrongFalsely : Prop := deframesRow.holds Try.pinned (OpenSpec.ofChange deframesWrong)

/-- 'signallaw.Whole': WHATEVER THE INPUT: true; the input reads as it did. -/
def wholeSpec : ChangeSpec := { name := "whole", fn := fun _ => fun
  | [d1, d2] => { results := [.lit (.bool true)], args := [d1, d2] }
  | _ => none }
def wholeRow : OpenClaim := { program := "ytoihlnjcgopdlab", sum := "6e16dc69bff0f7b272d798ff36ceeb6776ce5df2b00c1dbd1726f204724dbf68", func := "signal/signallaw.Whole", spec := "whole", apart := false }
def WholeSaid : Prop := wholeRow.holds Try.pinned (OpenSpec.ofChange wholeSpec)

/-- ITS FALSE NEIGHBOUR: 'it returns false'. Refute it at one input. -/
def wholeWrong : ChangeSpec := { name := "whole", fn := fun _ => fun
  | [d1, d2] => { results := [.lit (.bool false)], args := [d1, d2] }
  | _ => none }
def WholeWrongFalsely : Prop := wholeRow.holds Try.pinned (OpenSpec.ofChange wholeWrong)

/-- 'signallaw.Strict': WHATEVER THE INPUT: true; the input reads as it did. -/
def strictSpec : ChangeSpec := { name := "strict", fn := fun _ => fun
  | [d] => { results := [.lit (.bool true)], args := [d] }
  | _ => none }
def strictRow : OpenClaim := { program := "ytoihlnjcgopdlab", sum := "6e16dc69bff0f7b272d798ff36ceeb6776ce5df2b00c1dbd1726f204724dbf68", func := "signal/signallaw.Strict", spec := "strict", apart := false }
def StrictSaid : Prop := strictRow.holds Try.pinned (OpenSpec.ofChange strictSpec)

/-- ITS FALSE NEIGHBOUR: 'it returns false'. Refute it at one input. -/
def strictWrong : ChangeSpec := { name := "strict", fn := fun _ => fun
  | [d] => { results := [.lit (.bool false)], args := [d] }
  | _ => none }
def StrictWrongFalsely : Prop := strictRow.holds Try.pinned (OpenSpec.ofChange strictWrong)

/-- 'signallaw.Sends': WHATEVER THE INPUT: true; the input reads as it did. -/
def sendsSpec : ChangeSpec := { name := "sends", fn := fun _ => fun
  | [d1, d2, d3] => { results := [.lit (.bool true)], args := [d1, d2, d3] }
  | _ => none }
def sendsRow : OpenClaim := { program := "ytoihlnjcgopdlab", sum := "6e16dc69bff0f7b272d798ff36ceeb6776ce5df2b00c1dbd1726f204724dbf68", func := "signal/signallaw.Sends", spec := "sends", apart := false }
def SendsSaid : Prop := sendsRow.holds Try.pinned (OpenSpec.ofChange sendsSpec)

/-- ITS FALSE NEIGHBOUR: 'it returns false'. Refute it at one input. -/
def sendsWrong : ChangeSpec := { name := "sends", fn := fun _ => fun
  | [d1, d2, d3] => { results := [.lit (.bool false)], args := [d1, d2, d3] }
  | _ => none }
def SendsWrongFalsely : Prop := sendsRow.holds Try.pinned (OpenSpec.ofChange sendsWrong)

/-- 'signallaw.Receives': WHATEVER THE INPUT: true; the input reads as it did. -/
def receivesSpec : ChangeSpec := { name := "receives", fn := fun _ => fun
  | [d1, d2] => { results := [.lit (.bool true)], args := [d1, d2] }
  | _ => none }
def receivesRow : OpenClaim := { program := "ytoihlnjcgopdlab", sum := "6e16dc69bff0f7b272d798ff36ceeb6776ce5df2b00c1dbd1726f204724dbf68", func := "signal/signallaw.Receives", spec := "receives", apart := false }
def ReceivesSaid : Prop := receivesRow.holds Try.pinned (OpenSpec.ofChange receivesSpec)

/-- ITS FALSE NEIGHBOUR: 'it returns false'. Refute it at one input. -/
def receivesWrong : ChangeSpec := { name := "receives", fn := fun _ => fun
  | [d1, d2] => { results := [.lit (.bool false)], args := [d1, d2] }
  | _ => none }
def ReceivesWrongFalsely : Prop := receivesRow.holds Try.pinned (OpenSpec.ofChange receivesWrong)

/-- 'signallaw.Carried': WHATEVER THE INPUT: true; the input reads as it did. -/
def carriedSpec : ChangeSpec := { name := "carried", fn := fun _ => fun
  | [d1, d2, d3] => { results := [.lit (.bool true)], args := [d1, d2, d3] }
  | _ => none }
def carriedRow : OpenClaim := { program := "ytoihlnjcgopdlab", sum := "6e16dc69bff0f7b272d798ff36ceeb6776ce5df2b00c1dbd1726f204724dbf68", func := "signal/signallaw.Carried", spec := "carried", apart := false }
def CarriedSaid : Prop := carriedRow.holds Try.pinned (OpenSpec.ofChange carriedSpec)

/-- ITS FALSE NEIGHBOUR: 'it returns false'. Refute it at one input. -/
def carriedWrong : ChangeSpec := { name := "carried", fn := fun _ => fun
  | [d1, d2, d3] => { results := [.lit (.bool false)], args := [d1, d2, d3] }
  | _ => none }
def CarriedWrongFalsely : Prop := carriedRow.holds Try.pinned (OpenSpec.ofChange carriedWrong)

/-- 'signallaw.Kept': WHATEVER THE INPUT: true; the input reads as it did. -/
def keptSpec : ChangeSpec := { name := "kept", fn := fun _ => fun
  | [d1, d2, d3, d4, d5] => { results := [.lit (.bool true)], args := [d1, d2, d3, d4, d5] }
  | _ => none }
def keptRow : OpenClaim := { program := "ytoihlnjcgopdlab", sum := "6e16dc69bff0f7b272d798ff36ceeb6776ce5df2b00c1dbd1726f204724dbf68", func := "signal/signallaw.Kept", spec := "kept", apart := false }
def KeptSaid : Prop := keptRow.holds Try.pinned (OpenSpec.ofChange keptSpec)

/-- ITS FALSE NEIGHBOUR: 'it returns false'. Refute it at one input. -/
def keptWrong : ChangeSpec := { name := "kept", fn := fun _ => fun
  | [d1, d2, d3, d4, d5] => { results := [.lit (.bool false)], args := [d1, d2, d3, d4, d5] }
  | _ => none }
def KeptWrongFalsely : Prop := keptRow.holds Try.pinned (OpenSpec.ofChange keptWrong)

/- THE SECOND FORM. 'bulk': how many values and letters a reading holds, each counted each time it is reached (what is shared counts as often as it is met; a slice's spare places count too). A statement '..UptoSaid' is the law's where the arguments, and the package variables that the reading takes, are together of bulk at most 1048576: NARROWER than '..Said'. Prove '..Said' where nothing that the law and all that it calls make is longer than what came in: it says more and counts as full. Else prove '..UptoSaid'. A law counts once. -/
mutual
def uptoBulk {H : Type} : DataW H → Nat
  | .lit (.string bytes) => bytes.length + 1
  | .lit _ => 1
  | .nil => 1
  | .ptr d => uptoBulk d + 1
  | .slice elems spare => uptoBulkAll elems + uptoBulkAll spare + 1
  | .agg parts => uptoBulkAll parts + 1
  | .iface _ d => uptoBulk d + 1
  | .map entries => uptoBulkEntries entries + 1
  | .held _ => 1
def uptoBulkAll {H : Type} : List (DataW H) → Nat
  | [] => 0
  | d :: r => uptoBulk d + uptoBulkAll r
def uptoBulkEntries {H : Type} : List (Lit × DataW H) → Nat
  | [] => 0
  | x :: r => uptoBulkEntry x + uptoBulkEntries r
def uptoBulkEntry {H : Type} : Lit × DataW H → Nat
  | (.string bytes, d) => bytes.length + uptoBulk d + 1
  | (_, d) => uptoBulk d + 1
 end
def uptoSmall : (H : Type) → List (DataW H) → Bool := fun _ ds => decide (uptoBulkAll ds ≤ 1048576)
def OpenSpec.upto (s : _root_.Go.ChangeSpec) : _root_.Go.OpenSpec := { _root_.Go.OpenSpec.ofChange s with cond := some uptoSmall }

/-- 'signallaw.Frames', WHERE WHAT IT READS IS OF BULK AT MOST 1048576: true; the input reads as it did. -/
def framesUptoRow : OpenClaim := { program := "ytoihlnjcgopdlab", sum := "6e16dc69bff0f7b272d798ff36ceeb6776ce5df2b00c1dbd1726f204724dbf68", func := "signal/signallaw.Frames", spec := "frames", apart := false, narrowed := true }
def FramesUptoSaid : Prop := framesUptoRow.holds Try.pinned (OpenSpec.upto framesSpec)

/-- 'signallaw.Deframes', WHERE WHAT IT READS IS OF BULK AT MOST 1048576: true; the input reads as it did. -/
def deframesUptoRow : OpenClaim := { program := "ytoihlnjcgopdlab", sum := "6e16dc69bff0f7b272d798ff36ceeb6776ce5df2b00c1dbd1726f204724dbf68", func := "signal/signallaw.Deframes", spec := "deframes", apart := false, narrowed := true }
def DeframesUptoSaid : Prop := deframesUptoRow.holds Try.pinned (OpenSpec.upto deframesSpec)

/-- 'signallaw.Whole', WHERE WHAT IT READS IS OF BULK AT MOST 1048576: true; the input reads as it did. -/
def wholeUptoRow : OpenClaim := { program := "ytoihlnjcgopdlab", sum := "6e16dc69bff0f7b272d798ff36ceeb6776ce5df2b00c1dbd1726f204724dbf68", func := "signal/signallaw.Whole", spec := "whole", apart := false, narrowed := true }
def WholeUptoSaid : Prop := wholeUptoRow.holds Try.pinned (OpenSpec.upto wholeSpec)

/-- 'signallaw.Strict', WHERE WHAT IT READS IS OF BULK AT MOST 1048576: true; the input reads as it did. -/
def strictUptoRow : OpenClaim := { program := "ytoihlnjcgopdlab", sum := "6e16dc69bff0f7b272d798ff36ceeb6776ce5df2b00c1dbd1726f204724dbf68", func := "signal/signallaw.Strict", spec := "strict", apart := false, narrowed := true }
def StrictUptoSaid : Prop := strictUptoRow.holds Try.pinned (OpenSpec.upto strictSpec)

/-- 'signallaw.Sends', WHERE WHAT IT READS IS OF BULK AT MOST 1048576: true; the input reads as it did. -/
def sendsUptoRow : OpenClaim := { program := "ytoihlnjcgopdlab", sum := "6e16dc69bff0f7b272d798ff36ceeb6776ce5df2b00c1dbd1726f204724dbf68", func := "signal/signallaw.Sends", spec := "sends", apart := false, narrowed := true }
def SendsUptoSaid : Prop := sendsUptoRow.holds Try.pinned (OpenSpec.upto sendsSpec)

/-- 'signallaw.Receives', WHERE WHAT IT READS IS OF BULK AT MOST 1048576: true; the input reads as it did. -/
def receivesUptoRow : OpenClaim := { program := "ytoihlnjcgopdlab", sum := "6e16dc69bff0f7b272d798ff36ceeb6776ce5df2b00c1dbd1726f204724dbf68", func := "signal/signallaw.Receives", spec := "receives", apart := false, narrowed := true }
def ReceivesUptoSaid : Prop := receivesUptoRow.holds Try.pinned (OpenSpec.upto receivesSpec)

/-- 'signallaw.Carried', WHERE WHAT IT READS IS OF BULK AT MOST 1048576: true; the input reads as it did. -/
def carriedUptoRow : OpenClaim := { program := "ytoihlnjcgopdlab", sum := "6e16dc69bff0f7b272d798ff36ceeb6776ce5df2b00c1dbd1726f204724dbf68", func := "signal/signallaw.Carried", spec := "carried", apart := false, narrowed := true }
def CarriedUptoSaid : Prop := carriedUptoRow.holds Try.pinned (OpenSpec.upto carriedSpec)

/-- 'signallaw.Kept', WHERE WHAT IT READS IS OF BULK AT MOST 1048576: true; the input reads as it did. -/
def keptUptoRow : OpenClaim := { program := "ytoihlnjcgopdlab", sum := "6e16dc69bff0f7b272d798ff36ceeb6776ce5df2b00c1dbd1726f204724dbf68", func := "signal/signallaw.Kept", spec := "kept", apart := false, narrowed := true }
def KeptUptoSaid : Prop := keptUptoRow.holds Try.pinned (OpenSpec.upto keptSpec)

end Rows
end Go.Proofs.Ytoihlnjcgopdlab
