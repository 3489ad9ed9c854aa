/-
  No cell of these rows narrows 'for every input' (looked for: loops, veiled, ifaces, maps, wideKeys, modest, calm, conditions, laid).
  DERIVED. THE GIVEN ROWS OF THIS SEAT. 12 by the template 'for every input the law returns true; each argument reads behind the call as it read before'; 0 by the template 'total and deterministic' (their statements: YtoihlnjcgopdlaaTotals.lean).
  GIVEN WITH THE SEED: the statements are not yours to turn. If you find one false, say at which input.
  Laid BY PROGRAM, IN A SANDBOX (cutbox-rows.mjs): the forced cells as the released guide's own fill.sh prints them over the translation 89e37b464be64a5a… (all of the seat's roots in one cut). By AI agents, Wed Nov 11 2026. No macro, syntax, notation, axiom, sorry.
-/
import Derived.Test.YtoihlnjcgopdlaaChecked
import GoSem.Claim
import GoSem.ClaimJoined
import GoSem.ClaimMapViews
import Derived.JoinedTies
import Derived.KernelRfl
namespace Go.Proofs.Ytoihlnjcgopdlaa
/- THE CELL 'sum', in the pinned program and in every row, IS THE sha256 OF THE DUMP (.gsa) THAT YtoihlnjcgopdlaaProg.lean LOADS. Nothing in Lean hashes anything: it is a label: what it is worth is what the hold of that sum in a sandbox is worth. -/
noncomputable def Try.pinned : Pinned := { name := "ytoihlnjcgopdlaa", sum := "89e37b464be64a5a741cbd3370395c806f4d111aa4ad91dcbf154a253b515e7f", checked := Try.checked }
namespace Rows
def none {H : Type} : Left H := { results := [], args := [] }

/-- 'signallaw.Checks': WHATEVER THE INPUT: true; the input reads as it did. -/
def checksSpec : ChangeSpec := { name := "checks", fn := fun _ => fun
  | [d] => { results := [.lit (.bool true)], args := [d] }
  | _ => none }
def checksRow : OpenClaim := { program := "ytoihlnjcgopdlaa", sum := "89e37b464be64a5a741cbd3370395c806f4d111aa4ad91dcbf154a253b515e7f", func := "signal/signallaw.Checks", spec := "checks", apart := false }
def ChecksSaid : Prop := checksRow.holds Try.pinned (OpenSpec.ofChange checksSpec)

/-- ITS FALSE NEIGHBOUR: 'it returns false'. Refute it at one input. -/
def checksWrong : ChangeSpec := { name := "checks", fn := fun _ => fun
  | [d] => { results := [.lit (.bool false)], args := [d] }
  | _ => none }
def ChecksWrongFalsely : Prop := checksRow.holds Try.pinned (OpenSpec.ofChange checksWrong)

/-- 'signallaw.Packs': WHATEVER THE INPUT: true; the input reads as it did. -/
def packsSpec : ChangeSpec := { name := "packs", fn := fun _ => fun
  | [d1, d2, d3] => { results := [.lit (.bool true)], args := [d1, d2, d3] }
  | _ => none }
def packsRow : OpenClaim := { program := "ytoihlnjcgopdlaa", sum := "89e37b464be64a5a741cbd3370395c806f4d111aa4ad91dcbf154a253b515e7f", func := "signal/signallaw.Packs", spec := "packs", apart := false }
def PacksSaid : Prop := packsRow.holds Try.pinned (OpenSpec.ofChange packsSpec)

/-- ITS FALSE NEIGHBOUR: 'it returns false'. Refute it at one input. -/
def packsWrong : ChangeSpec := { name := "packs", fn := fun _ => fun
  | [d1, d2, d3] => { results := [.lit (.bool false)], args := [d1, d2, d3] }
  | _ => none }
def PacksWrongFalsely : Prop := packsRow.holds Try.pinned (OpenSpec.ofChange packsWrong)

/-- 'signallaw.Unpacks': WHATEVER THE INPUT: true; the input reads as it did. -/
def unpacksSpec : ChangeSpec := { name := "unpacks", fn := fun _ => fun
  | [d1, d2, d3] => { results := [.lit (.bool true)], args := [d1, d2, d3] }
  | _ => none }
def unpacksRow : OpenClaim := { program := "ytoihlnjcgopdlaa", sum := "89e37b464be64a5a741cbd3370395c806f4d111aa4ad91dcbf154a253b515e7f", func := "signal/signallaw.Unpacks", spec := "unpacks", apart := false }
def UnpacksSaid : Prop := unpacksRow.holds Try.pinned (OpenSpec.ofChange unpacksSpec)

/-- ITS FALSE NEIGHBOUR: 'it returns false'. Refute it at one input. -/
def unpacksWrong : ChangeSpec := { name := "unpacks", fn := fun _ => fun
  | [d1, d2, d3] => { results := [.lit (.bool false)], args := [d1, d2, d3] }
  | _ => none }
def UnpacksWrongFalsely : Prop := unpacksRow.holds Try.pinned (OpenSpec.ofChange unpacksWrong)

/-- 'signallaw.Back': WHATEVER THE INPUT: true; the input reads as it did. -/
def backSpec : ChangeSpec := { name := "back", fn := fun _ => fun
  | [d1, d2, d3] => { results := [.lit (.bool true)], args := [d1, d2, d3] }
  | _ => none }
def backRow : OpenClaim := { program := "ytoihlnjcgopdlaa", sum := "89e37b464be64a5a741cbd3370395c806f4d111aa4ad91dcbf154a253b515e7f", func := "signal/signallaw.Back", spec := "back", apart := false }
def BackSaid : Prop := backRow.holds Try.pinned (OpenSpec.ofChange backSpec)

/-- ITS FALSE NEIGHBOUR: 'it returns false'. Refute it at one input. -/
def backWrong : ChangeSpec := { name := "back", fn := fun _ => fun
  | [d1, d2, d3] => { results := [.lit (.bool false)], args := [d1, d2, d3] }
  | _ => none }
def BackWrongFalsely : Prop := backRow.holds Try.pinned (OpenSpec.ofChange backWrong)

/-- 'signallaw.Forth': WHATEVER THE INPUT: true; the input reads as it did. -/
def forthSpec : ChangeSpec := { name := "forth", fn := fun _ => fun
  | [d1, d2, d3] => { results := [.lit (.bool true)], args := [d1, d2, d3] }
  | _ => none }
def forthRow : OpenClaim := { program := "ytoihlnjcgopdlaa", sum := "89e37b464be64a5a741cbd3370395c806f4d111aa4ad91dcbf154a253b515e7f", func := "signal/signallaw.Forth", spec := "forth", apart := false }
def ForthSaid : Prop := forthRow.holds Try.pinned (OpenSpec.ofChange forthSpec)

/-- ITS FALSE NEIGHBOUR: 'it returns false'. Refute it at one input. -/
def forthWrong : ChangeSpec := { name := "forth", fn := fun _ => fun
  | [d1, d2, d3] => { results := [.lit (.bool false)], args := [d1, d2, d3] }
  | _ => none }
def ForthWrongFalsely : Prop := forthRow.holds Try.pinned (OpenSpec.ofChange forthWrong)

/-- 'signallaw.Verifies': WHATEVER THE INPUT: true; the input reads as it did. -/
def verifiesSpec : ChangeSpec := { name := "verifies", fn := fun _ => fun
  | [d] => { results := [.lit (.bool true)], args := [d] }
  | _ => none }
def verifiesRow : OpenClaim := { program := "ytoihlnjcgopdlaa", sum := "89e37b464be64a5a741cbd3370395c806f4d111aa4ad91dcbf154a253b515e7f", func := "signal/signallaw.Verifies", spec := "verifies", apart := false }
def VerifiesSaid : Prop := verifiesRow.holds Try.pinned (OpenSpec.ofChange verifiesSpec)

/-- ITS FALSE NEIGHBOUR: 'it returns false'. Refute it at one input. -/
def verifiesWrong : ChangeSpec := { name := "verifies", fn := fun _ => fun
  | [d] => { results := [.lit (.bool false)], args := [d] }
  | _ => none }
def VerifiesWrongFalsely : Prop := verifiesRow.holds Try.pinned (OpenSpec.ofChange verifiesWrong)

/-- 'signallaw.Fills': WHATEVER THE INPUT: true; the input reads as it did. -/
def fillsSpec : ChangeSpec := { name := "fills", fn := fun _ => fun
  | [d1, d2, d3] => { results := [.lit (.bool true)], args := [d1, d2, d3] }
  | _ => none }
def fillsRow : OpenClaim := { program := "ytoihlnjcgopdlaa", sum := "89e37b464be64a5a741cbd3370395c806f4d111aa4ad91dcbf154a253b515e7f", func := "signal/signallaw.Fills", spec := "fills", apart := false }
def FillsSaid : Prop := fillsRow.holds Try.pinned (OpenSpec.ofChange fillsSpec)

/-- ITS FALSE NEIGHBOUR: 'it returns false'. Refute it at one input. -/
def fillsWrong : ChangeSpec := { name := "fills", fn := fun _ => fun
  | [d1, d2, d3] => { results := [.lit (.bool false)], args := [d1, d2, d3] }
  | _ => none }
def FillsWrongFalsely : Prop := fillsRow.holds Try.pinned (OpenSpec.ofChange fillsWrong)

/-- 'signallaw.Reads': WHATEVER THE INPUT: true; the input reads as it did. -/
def readsSpec : ChangeSpec := { name := "reads", fn := fun _ => fun
  | [d1, d2] => { results := [.lit (.bool true)], args := [d1, d2] }
  | _ => none }
def readsRow : OpenClaim := { program := "ytoihlnjcgopdlaa", sum := "89e37b464be64a5a741cbd3370395c806f4d111aa4ad91dcbf154a253b515e7f", func := "signal/signallaw.Reads", spec := "reads", apart := false }
def ReadsSaid : Prop := readsRow.holds Try.pinned (OpenSpec.ofChange readsSpec)

/-- ITS FALSE NEIGHBOUR: 'it returns false'. Refute it at one input. -/
def readsWrong : ChangeSpec := { name := "reads", fn := fun _ => fun
  | [d1, d2] => { results := [.lit (.bool false)], args := [d1, d2] }
  | _ => none }
def ReadsWrongFalsely : Prop := readsRow.holds Try.pinned (OpenSpec.ofChange readsWrong)

/-- 'signallaw.Safe': WHATEVER THE INPUT: true; the input reads as it did. -/
def safeSpec : ChangeSpec := { name := "safe", fn := fun _ => fun
  | [d1, d2, d3] => { results := [.lit (.bool true)], args := [d1, d2, d3] }
  | _ => none }
def safeRow : OpenClaim := { program := "ytoihlnjcgopdlaa", sum := "89e37b464be64a5a741cbd3370395c806f4d111aa4ad91dcbf154a253b515e7f", func := "signal/signallaw.Safe", spec := "safe", apart := false }
def SafeSaid : Prop := safeRow.holds Try.pinned (OpenSpec.ofChange safeSpec)

/-- ITS FALSE NEIGHBOUR: 'it returns false'. Refute it at one input. -/
def safeWrong : ChangeSpec := { name := "safe", fn := fun _ => fun
  | [d1, d2, d3] => { results := [.lit (.bool false)], args := [d1, d2, d3] }
  | _ => none }
def SafeWrongFalsely : Prop := safeRow.holds Try.pinned (OpenSpec.ofChange safeWrong)

/-- 'signallaw.Compiles': WHATEVER THE INPUT: true; the input reads as it did. -/
def compilesSpec : ChangeSpec := { name := "compiles", fn := fun _ => fun
  | [d1, d2, d3] => { results := [.lit (.bool true)], args := [d1, d2, d3] }
  | _ => none }
def compilesRow : OpenClaim := { program := "ytoihlnjcgopdlaa", sum := "89e37b464be64a5a741cbd3370395c806f4d111aa4ad91dcbf154a253b515e7f", func := "signal/signallaw.Compiles", spec := "compiles", apart := false }
def CompilesSaid : Prop := compilesRow.holds Try.pinned (OpenSpec.ofChange compilesSpec)

/-- ITS FALSE NEIGHBOUR: 'it returns false'. Refute it at one input. -/
def compilesWrong : ChangeSpec := { name := "compiles", fn := fun _ => fun
  | [d1, d2, d3] => { results := [.lit (.bool false)], args := [d1, d2, d3] }
  | _ => none }
def CompilesWrongFalsely : Prop := compilesRow.holds Try.pinned (OpenSpec.ofChange compilesWrong)

/-- 'signallaw.Decompiles': WHATEVER THE INPUT: true; the input reads as it did. -/
def decompilesSpec : ChangeSpec := { name := "decompiles", fn := fun _ => fun
  | [d1, d2, d3] => { results := [.lit (.bool true)], args := [d1, d2, d3] }
  | _ => none }
def decompilesRow : OpenClaim := { program := "ytoihlnjcgopdlaa", sum := "89e37b464be64a5a741cbd3370395c806f4d111aa4ad91dcbf154a253b515e7f", func := "signal/signallaw.Decompiles", spec := "decompiles", apart := false }
def DecompilesSaid : Prop := decompilesRow.holds Try.pinned (OpenSpec.ofChange decompilesSpec)

/-- ITS FALSE NEIGHBOUR: 'it returns false'. Refute it at one input. -/
def decompilesWrong : ChangeSpec := { name := "decompiles", fn := fun _ => fun
  | [d1, d2, d3] => { results := [.lit (.bool false)], args := [d1, d2, d3] }
  | _ => none }
def DecompilesWrongFalsely : Prop := decompilesRow.holds Try.pinned (OpenSpec.ofChange decompilesWrong)

/-- 'signallaw.Runs': WHATEVER THE INPUT: true; the input reads as it did. -/
def runsSpec : ChangeSpec := { name := "runs", fn := fun _ => fun
  | [d1, d2, d3, d4] => { results := [.lit (.bool true)], args := [d1, d2, d3, d4] }
  | _ => none }
def runsRow : OpenClaim := { program := "ytoihlnjcgopdlaa", sum := "89e37b464be64a5a741cbd3370395c806f4d111aa4ad91dcbf154a253b515e7f", func := "signal/signallaw.Runs", spec := "runs", apart := false }
def RunsSaid : Prop := runsRow.holds Try.pinned (OpenSpec.ofChange runsSpec)

/-- ITS FALSE NEIGHBOUR: 'it returns false'. Refute it at one input. -/
def runsWrong : ChangeSpec := { name := "runs", fn := fun _ => fun
  | [d1, d2, d3, d4] => { results := [.lit (.bool false)], args := [d1, d2, d3, d4] }
  | _ => none }
def RunsWrongFalsely : Prop := runsRow.holds Try.pinned (OpenSpec.ofChange runsWrong)

/- THE SECOND FORM. 'bulk': how many values and letters a reading holds, each counted each time it is reached (what is shared counts as often as it is met; a slice's spare places count too). A statement '..UptoSaid' is the law's where the arguments, and the package variables that the reading takes, are together of bulk at most 1048576: NARROWER than '..Said'. Prove '..Said' where nothing that the law and all that it calls make is longer than what came in: it says more and counts as full. Else prove '..UptoSaid'. A law counts once. -/
mutual
def uptoBulk {H : Type} : DataW H → Nat
  | .lit (.string bytes) => bytes.length + 1
  | .lit _ => 1
  | .nil => 1
  | .ptr d => uptoBulk d + 1
  | .slice elems spare => uptoBulkAll elems + uptoBulkAll spare + 1
  | .agg parts => uptoBulkAll parts + 1
  | .iface _ d => uptoBulk d + 1
  | .map entries => uptoBulkEntries entries + 1
  | .held _ => 1
def uptoBulkAll {H : Type} : List (DataW H) → Nat
  | [] => 0
  | d :: r => uptoBulk d + uptoBulkAll r
def uptoBulkEntries {H : Type} : List (Lit × DataW H) → Nat
  | [] => 0
  | x :: r => uptoBulkEntry x + uptoBulkEntries r
def uptoBulkEntry {H : Type} : Lit × DataW H → Nat
  | (.string bytes, d) => bytes.length + uptoBulk d + 1
  | (_, d) => uptoBulk d + 1
 end
def uptoSmall : (H : Type) → List (DataW H) → Bool := fun _ ds => decide (uptoBulkAll ds ≤ 1048576)
def OpenSpec.upto (s : _root_.Go.ChangeSpec) : _root_.Go.OpenSpec := { _root_.Go.OpenSpec.ofChange s with cond := some uptoSmall }

/-- 'signallaw.Checks', WHERE WHAT IT READS IS OF BULK AT MOST 1048576: true; the input reads as it did. -/
def checksUptoRow : OpenClaim := { program := "ytoihlnjcgopdlaa", sum := "89e37b464be64a5a741cbd3370395c806f4d111aa4ad91dcbf154a253b515e7f", func := "signal/signallaw.Checks", spec := "checks", apart := false, narrowed := true }
def ChecksUptoSaid : Prop := checksUptoRow.holds Try.pinned (OpenSpec.upto checksSpec)

/-- 'signallaw.Packs', WHERE WHAT IT READS IS OF BULK AT MOST 1048576: true; the input reads as it did. -/
def packsUptoRow : OpenClaim := { program := "ytoihlnjcgopdlaa", sum := "89e37b464be64a5a741cbd3370395c806f4d111aa4ad91dcbf154a253b515e7f", func := "signal/signallaw.Packs", spec := "packs", apart := false, narrowed := true }
def PacksUptoSaid : Prop := packsUptoRow.holds Try.pinned (OpenSpec.upto packsSpec)

/-- 'signallaw.Unpacks', WHERE WHAT IT READS IS OF BULK AT MOST 1048576: true; the input reads as it did. -/
def unpacksUptoRow : OpenClaim := { program := "ytoihlnjcgopdlaa", sum := "89e37b464be64a5a741cbd3370395c806f4d111aa4ad91dcbf154a253b515e7f", func := "signal/signallaw.Unpacks", spec := "unpacks", apart := false, narrowed := true }
def UnpacksUptoSaid : Prop := unpacksUptoRow.holds Try.pinned (OpenSpec.upto unpacksSpec)

/-- 'signallaw.Back', WHERE WHAT IT READS IS OF BULK AT MOST 1048576: true; the input reads as it did. -/
def backUptoRow : OpenClaim := { program := "ytoihlnjcgopdlaa", sum := "89e37b464be64a5a741cbd3370395c806f4d111aa4ad91dcbf154a253b515e7f", func := "signal/signallaw.Back", spec := "back", apart := false, narrowed := true }
def BackUptoSaid : Prop := backUptoRow.holds Try.pinned (OpenSpec.upto backSpec)

/-- 'signallaw.Forth', WHERE WHAT IT READS IS OF BULK AT MOST 1048576: true; the input reads as it did. -/
def forthUptoRow : OpenClaim := { program := "ytoihlnjcgopdlaa", sum := "89e37b464be64a5a741cbd3370395c806f4d111aa4ad91dcbf154a253b515e7f", func := "signal/signallaw.Forth", spec := "forth", apart := false, narrowed := true }
def ForthUptoSaid : Prop := forthUptoRow.holds Try.pinned (OpenSpec.upto forthSpec)

/-- 'signallaw.Verifies', WHERE WHAT IT READS IS OF BULK AT MOST 1048576: true; the input reads as it did. -/
def verifiesUptoRow : OpenClaim := { program := "ytoihlnjcgopdlaa", sum := "89e37b464be64a5a741cbd3370395c806f4d111aa4ad91dcbf154a253b515e7f", func := "signal/signallaw.Verifies", spec := "verifies", apart := false, narrowed := true }
def VerifiesUptoSaid : Prop := verifiesUptoRow.holds Try.pinned (OpenSpec.upto verifiesSpec)

/-- 'signallaw.Fills', WHERE WHAT IT READS IS OF BULK AT MOST 1048576: true; the input reads as it did. -/
def fillsUptoRow : OpenClaim := { program := "ytoihlnjcgopdlaa", sum := "89e37b464be64a5a741cbd3370395c806f4d111aa4ad91dcbf154a253b515e7f", func := "signal/signallaw.Fills", spec := "fills", apart := false, narrowed := true }
def FillsUptoSaid : Prop := fillsUptoRow.holds Try.pinned (OpenSpec.upto fillsSpec)

/-- 'signallaw.Reads', WHERE WHAT IT READS IS OF BULK AT MOST 1048576: true; the input reads as it did. -/
def readsUptoRow : OpenClaim := { program := "ytoihlnjcgopdlaa", sum := "89e37b464be64a5a741cbd3370395c806f4d111aa4ad91dcbf154a253b515e7f", func := "signal/signallaw.Reads", spec := "reads", apart := false, narrowed := true }
def ReadsUptoSaid : Prop := readsUptoRow.holds Try.pinned (OpenSpec.upto readsSpec)

/-- 'signallaw.Safe', WHERE WHAT IT READS IS OF BULK AT MOST 1048576: true; the input reads as it did. -/
def safeUptoRow : OpenClaim := { program := "ytoihlnjcgopdlaa", sum := "89e37b464be64a5a741cbd3370395c806f4d111aa4ad91dcbf154a253b515e7f", func := "signal/signallaw.Safe", spec := "safe", apart := false, narrowed := true }
def SafeUptoSaid : Prop := safeUptoRow.holds Try.pinned (OpenSpec.upto safeSpec)

/-- 'signallaw.Compiles', WHERE WHAT IT READS IS OF BULK AT MOST 1048576: true; the input reads as it did. -/
def compilesUptoRow : OpenClaim := { program := "ytoihlnjcgopdlaa", sum := "89e37b464be64a5a741cbd3370395c806f4d111aa4ad91dcbf154a253b515e7f", func := "signal/signallaw.Compiles", spec := "compiles", apart := false, narrowed := true }
def CompilesUptoSaid : Prop := compilesUptoRow.holds Try.pinned (OpenSpec.upto compilesSpec)

/-- 'signallaw.Decompiles', WHERE WHAT IT READS IS OF BULK AT MOST 1048576: true; the input reads as it did. -/
def decompilesUptoRow : OpenClaim := { program := "ytoihlnjcgopdlaa", sum := "89e37b464be64a5a741cbd3370395c806f4d111aa4ad91dcbf154a253b515e7f", func := "signal/signallaw.Decompiles", spec := "decompiles", apart := false, narrowed := true }
def DecompilesUptoSaid : Prop := decompilesUptoRow.holds Try.pinned (OpenSpec.upto decompilesSpec)

/-- 'signallaw.Runs', WHERE WHAT IT READS IS OF BULK AT MOST 1048576: true; the input reads as it did. -/
def runsUptoRow : OpenClaim := { program := "ytoihlnjcgopdlaa", sum := "89e37b464be64a5a741cbd3370395c806f4d111aa4ad91dcbf154a253b515e7f", func := "signal/signallaw.Runs", spec := "runs", apart := false, narrowed := true }
def RunsUptoSaid : Prop := runsUptoRow.holds Try.pinned (OpenSpec.upto runsSpec)

end Rows
end Go.Proofs.Ytoihlnjcgopdlaa
