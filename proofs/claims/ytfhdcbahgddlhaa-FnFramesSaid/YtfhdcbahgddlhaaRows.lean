/-
  No cell of these rows narrows 'for every input' (looked for: loops, veiled, ifaces, maps, wideKeys, modest, calm, conditions, laid).
  DERIVED. THE GIVEN ROWS OF THIS SEAT. 7 by the template 'for every input the law returns true; each argument reads behind the call as it read before'; 0 by the template 'total and deterministic' (their statements: YtfhdcbahgddlhaaTotals.lean).
  GIVEN WITH THE SEED: the statements are not yours to turn. If you find one false, say at which input.
  Laid BY PROGRAM, IN A SANDBOX (cutbox-rows.mjs): the forced cells as the released guide's own fill.sh prints them over the translation 6feafc300e0d2f98… (all of the seat's roots in one cut). By AI agents, Wed Nov 11 2026. No macro, syntax, notation, axiom, sorry.
-/
import Derived.Test.YtfhdcbahgddlhaaChecked
import GoSem.Claim
import GoSem.ClaimJoined
import GoSem.ClaimMapViews
import Derived.JoinedTies
import Derived.KernelRfl
namespace Go.Proofs.Ytfhdcbahgddlhaa
/- THE CELL 'sum', in the pinned program and in every row, IS THE sha256 OF THE DUMP (.gsa) THAT YtfhdcbahgddlhaaProg.lean LOADS. Nothing in Lean hashes anything: it is a label: what it is worth is what the hold of that sum in a sandbox is worth. -/
noncomputable def Try.pinned : Pinned := { name := "ytfhdcbahgddlhaa", sum := "6feafc300e0d2f98c4f984ba1d6070652ff30213f06b42cbed9e52c90be6885f", checked := Try.checked }
namespace Rows
def none {H : Type} : Left H := { results := [], args := [] }

/-- 'laws.FnFrames': WHATEVER THE INPUT: true; the input reads as it did. -/
def fnFramesSpec : ChangeSpec := { name := "fnFrames", fn := fun _ => fun
  | [d] => { results := [.lit (.bool true)], args := [d] }
  | _ => none }
def fnFramesRow : OpenClaim := { program := "ytfhdcbahgddlhaa", sum := "6feafc300e0d2f98c4f984ba1d6070652ff30213f06b42cbed9e52c90be6885f", func := "loop.example/g00729/laws.FnFrames", spec := "fnFrames", apart := false }
def FnFramesSaid : Prop := fnFramesRow.holds Try.pinned (OpenSpec.ofChange fnFramesSpec)

/-- ITS FALSE NEIGHBOUR: 'it returns false'. Refute it at one input. -/
def fnFramesWrong : ChangeSpec := { name := "fnFrames", fn := fun _ => fun
  | [d] => { results := [.lit (.bool false)], args := [d] }
  | _ => none }
def FnFramesWrongFalsely : Prop := fnFramesRow.holds Try.pinned (OpenSpec.ofChange fnFramesWrong)

/-- 'laws.FnExactArenaFault': WHATEVER THE INPUT: true; the input reads as it did. -/
def fnExactArenaFaultSpec : ChangeSpec := { name := "fnExactArenaFault", fn := fun _ => fun
  | [d] => { results := [.lit (.bool true)], args := [d] }
  | _ => none }
def fnExactArenaFaultRow : OpenClaim := { program := "ytfhdcbahgddlhaa", sum := "6feafc300e0d2f98c4f984ba1d6070652ff30213f06b42cbed9e52c90be6885f", func := "loop.example/g00729/laws.FnExactArenaFault", spec := "fnExactArenaFault", apart := false }
def FnExactArenaFaultSaid : Prop := fnExactArenaFaultRow.holds Try.pinned (OpenSpec.ofChange fnExactArenaFaultSpec)

/-- ITS FALSE NEIGHBOUR: 'it returns false'. Refute it at one input. -/
def fnExactArenaFaultWrong : ChangeSpec := { name := "fnExactArenaFault", fn := fun _ => fun
  | [d] => { results := [.lit (.bool false)], args := [d] }
  | _ => none }
def FnExactArenaFaultWrongFalsely : Prop := fnExactArenaFaultRow.holds Try.pinned (OpenSpec.ofChange fnExactArenaFaultWrong)

/-- 'laws.FnExactNewArena': WHATEVER THE INPUT: true; the input reads as it did. -/
def fnExactNewArenaSpec : ChangeSpec := { name := "fnExactNewArena", fn := fun _ => fun
  | [d] => { results := [.lit (.bool true)], args := [d] }
  | _ => none }
def fnExactNewArenaRow : OpenClaim := { program := "ytfhdcbahgddlhaa", sum := "6feafc300e0d2f98c4f984ba1d6070652ff30213f06b42cbed9e52c90be6885f", func := "loop.example/g00729/laws.FnExactNewArena", spec := "fnExactNewArena", apart := false }
def FnExactNewArenaSaid : Prop := fnExactNewArenaRow.holds Try.pinned (OpenSpec.ofChange fnExactNewArenaSpec)

/-- ITS FALSE NEIGHBOUR: 'it returns false'. Refute it at one input. -/
def fnExactNewArenaWrong : ChangeSpec := { name := "fnExactNewArena", fn := fun _ => fun
  | [d] => { results := [.lit (.bool false)], args := [d] }
  | _ => none }
def FnExactNewArenaWrongFalsely : Prop := fnExactNewArenaRow.holds Try.pinned (OpenSpec.ofChange fnExactNewArenaWrong)

/-- 'laws.FnExactFrameWords': WHATEVER THE INPUT: true; the input reads as it did. -/
def fnExactFrameWordsSpec : ChangeSpec := { name := "fnExactFrameWords", fn := fun _ => fun
  | [d1, d2] => { results := [.lit (.bool true)], args := [d1, d2] }
  | _ => none }
def fnExactFrameWordsRow : OpenClaim := { program := "ytfhdcbahgddlhaa", sum := "6feafc300e0d2f98c4f984ba1d6070652ff30213f06b42cbed9e52c90be6885f", func := "loop.example/g00729/laws.FnExactFrameWords", spec := "fnExactFrameWords", apart := false }
def FnExactFrameWordsSaid : Prop := fnExactFrameWordsRow.holds Try.pinned (OpenSpec.ofChange fnExactFrameWordsSpec)

/-- ITS FALSE NEIGHBOUR: 'it returns false'. Refute it at one input. -/
def fnExactFrameWordsWrong : ChangeSpec := { name := "fnExactFrameWords", fn := fun _ => fun
  | [d1, d2] => { results := [.lit (.bool false)], args := [d1, d2] }
  | _ => none }
def FnExactFrameWordsWrongFalsely : Prop := fnExactFrameWordsRow.holds Try.pinned (OpenSpec.ofChange fnExactFrameWordsWrong)

/-- 'laws.FnExactWriteFrame': WHATEVER THE INPUT: true; the input reads as it did. -/
def fnExactWriteFrameSpec : ChangeSpec := { name := "fnExactWriteFrame", fn := fun _ => fun
  | [d1, d2, d3] => { results := [.lit (.bool true)], args := [d1, d2, d3] }
  | _ => none }
def fnExactWriteFrameRow : OpenClaim := { program := "ytfhdcbahgddlhaa", sum := "6feafc300e0d2f98c4f984ba1d6070652ff30213f06b42cbed9e52c90be6885f", func := "loop.example/g00729/laws.FnExactWriteFrame", spec := "fnExactWriteFrame", apart := false }
def FnExactWriteFrameSaid : Prop := fnExactWriteFrameRow.holds Try.pinned (OpenSpec.ofChange fnExactWriteFrameSpec)

/-- ITS FALSE NEIGHBOUR: 'it returns false'. Refute it at one input. -/
def fnExactWriteFrameWrong : ChangeSpec := { name := "fnExactWriteFrame", fn := fun _ => fun
  | [d1, d2, d3] => { results := [.lit (.bool false)], args := [d1, d2, d3] }
  | _ => none }
def FnExactWriteFrameWrongFalsely : Prop := fnExactWriteFrameRow.holds Try.pinned (OpenSpec.ofChange fnExactWriteFrameWrong)

/-- 'laws.FnExactZeroFrame': WHATEVER THE INPUT: true; the input reads as it did. -/
def fnExactZeroFrameSpec : ChangeSpec := { name := "fnExactZeroFrame", fn := fun _ => fun
  | [d1, d2] => { results := [.lit (.bool true)], args := [d1, d2] }
  | _ => none }
def fnExactZeroFrameRow : OpenClaim := { program := "ytfhdcbahgddlhaa", sum := "6feafc300e0d2f98c4f984ba1d6070652ff30213f06b42cbed9e52c90be6885f", func := "loop.example/g00729/laws.FnExactZeroFrame", spec := "fnExactZeroFrame", apart := false }
def FnExactZeroFrameSaid : Prop := fnExactZeroFrameRow.holds Try.pinned (OpenSpec.ofChange fnExactZeroFrameSpec)

/-- ITS FALSE NEIGHBOUR: 'it returns false'. Refute it at one input. -/
def fnExactZeroFrameWrong : ChangeSpec := { name := "fnExactZeroFrame", fn := fun _ => fun
  | [d1, d2] => { results := [.lit (.bool false)], args := [d1, d2] }
  | _ => none }
def FnExactZeroFrameWrongFalsely : Prop := fnExactZeroFrameRow.holds Try.pinned (OpenSpec.ofChange fnExactZeroFrameWrong)

/-- 'laws.FnExactIsZeroFrame': WHATEVER THE INPUT: true; the input reads as it did. -/
def fnExactIsZeroFrameSpec : ChangeSpec := { name := "fnExactIsZeroFrame", fn := fun _ => fun
  | [d1, d2] => { results := [.lit (.bool true)], args := [d1, d2] }
  | _ => none }
def fnExactIsZeroFrameRow : OpenClaim := { program := "ytfhdcbahgddlhaa", sum := "6feafc300e0d2f98c4f984ba1d6070652ff30213f06b42cbed9e52c90be6885f", func := "loop.example/g00729/laws.FnExactIsZeroFrame", spec := "fnExactIsZeroFrame", apart := false }
def FnExactIsZeroFrameSaid : Prop := fnExactIsZeroFrameRow.holds Try.pinned (OpenSpec.ofChange fnExactIsZeroFrameSpec)

/-- ITS FALSE NEIGHBOUR: 'it returns false'. Refute it at one input. -/
def fnExactIsZeroFrameWrong : ChangeSpec := { name := "fnExactIsZeroFrame", fn := fun _ => fun
  | [d1, d2] => { results := [.lit (.bool false)], args := [d1, d2] }
  | _ => none }
def FnExactIsZeroFrameWrongFalsely : Prop := fnExactIsZeroFrameRow.holds Try.pinned (OpenSpec.ofChange fnExactIsZeroFrameWrong)

/- THE SECOND FORM. 'bulk': how many values and letters a reading holds, each counted each time it is reached (what is shared counts as often as it is met; a slice's spare places count too). A statement '..UptoSaid' is the law's where the arguments, and the package variables that the reading takes, are together of bulk at most 1048576: NARROWER than '..Said'. Prove '..Said' where nothing that the law and all that it calls make is longer than what came in: it says more and counts as full. Else prove '..UptoSaid'. A law counts once. -/
mutual
def uptoBulk {H : Type} : DataW H → Nat
  | .lit (.string bytes) => bytes.length + 1
  | .lit _ => 1
  | .nil => 1
  | .ptr d => uptoBulk d + 1
  | .slice elems spare => uptoBulkAll elems + uptoBulkAll spare + 1
  | .agg parts => uptoBulkAll parts + 1
  | .iface _ d => uptoBulk d + 1
  | .map entries => uptoBulkEntries entries + 1
  | .held _ => 1
def uptoBulkAll {H : Type} : List (DataW H) → Nat
  | [] => 0
  | d :: r => uptoBulk d + uptoBulkAll r
def uptoBulkEntries {H : Type} : List (Lit × DataW H) → Nat
  | [] => 0
  | x :: r => uptoBulkEntry x + uptoBulkEntries r
def uptoBulkEntry {H : Type} : Lit × DataW H → Nat
  | (.string bytes, d) => bytes.length + uptoBulk d + 1
  | (_, d) => uptoBulk d + 1
 end
def uptoSmall : (H : Type) → List (DataW H) → Bool := fun _ ds => decide (uptoBulkAll ds ≤ 1048576)
def OpenSpec.upto (s : _root_.Go.ChangeSpec) : _root_.Go.OpenSpec := { _root_.Go.OpenSpec.ofChange s with cond := some uptoSmall }

/-- 'laws.FnFrames', WHERE WHAT IT READS IS OF BULK AT MOST 1048576: true; the input reads as it did. -/
def fnFramesUptoRow : OpenClaim := { program := "ytfhdcbahgddlhaa", sum := "6feafc300e0d2f98c4f984ba1d6070652ff30213f06b42cbed9e52c90be6885f", func := "loop.example/g00729/laws.FnFrames", spec := "fnFrames", apart := false, narrowed := true }
def FnFramesUptoSaid : Prop := fnFramesUptoRow.holds Try.pinned (OpenSpec.upto fnFramesSpec)

/-- 'laws.FnExactArenaFault', WHERE WHAT IT READS IS OF BULK AT MOST 1048576: true; the input reads as it did. -/
def fnExactArenaFaultUptoRow : OpenClaim := { program := "ytfhdcbahgddlhaa", sum := "6feafc300e0d2f98c4f984ba1d6070652ff30213f06b42cbed9e52c90be6885f", func := "loop.example/g00729/laws.FnExactArenaFault", spec := "fnExactArenaFault", apart := false, narrowed := true }
def FnExactArenaFaultUptoSaid : Prop := fnExactArenaFaultUptoRow.holds Try.pinned (OpenSpec.upto fnExactArenaFaultSpec)

/-- 'laws.FnExactNewArena', WHERE WHAT IT READS IS OF BULK AT MOST 1048576: true; the input reads as it did. -/
def fnExactNewArenaUptoRow : OpenClaim := { program := "ytfhdcbahgddlhaa", sum := "6feafc300e0d2f98c4f984ba1d6070652ff30213f06b42cbed9e52c90be6885f", func := "loop.example/g00729/laws.FnExactNewArena", spec := "fnExactNewArena", apart := false, narrowed := true }
def FnExactNewArenaUptoSaid : Prop := fnExactNewArenaUptoRow.holds Try.pinned (OpenSpec.upto fnExactNewArenaSpec)

/-- 'laws.FnExactFrameWords', WHERE WHAT IT READS IS OF BULK AT MOST 1048576: true; the input reads as it did. -/
def fnExactFrameWordsUptoRow : OpenClaim := { program := "ytfhdcbahgddlhaa", sum := "6feafc300e0d2f98c4f984ba1d6070652ff30213f06b42cbed9e52c90be6885f", func := "loop.example/g00729/laws.FnExactFrameWords", spec := "fnExactFrameWords", apart := false, narrowed := true }
def FnExactFrameWordsUptoSaid : Prop := fnExactFrameWordsUptoRow.holds Try.pinned (OpenSpec.upto fnExactFrameWordsSpec)

/-- 'laws.FnExactWriteFrame', WHERE WHAT IT READS IS OF BULK AT MOST 1048576: true; the input reads as it did. -/
def fnExactWriteFrameUptoRow : OpenClaim := { program := "ytfhdcbahgddlhaa", sum := "6feafc300e0d2f98c4f984ba1d6070652ff30213f06b42cbed9e52c90be6885f", func := "loop.example/g00729/laws.FnExactWriteFrame", spec := "fnExactWriteFrame", apart := false, narrowed := true }
def FnExactWriteFrameUptoSaid : Prop := fnExactWriteFrameUptoRow.holds Try.pinned (OpenSpec.upto fnExactWriteFrameSpec)

/-- 'laws.FnExactZeroFrame', WHERE WHAT IT READS IS OF BULK AT MOST 1048576: true; the input reads as it did. -/
def fnExactZeroFrameUptoRow : OpenClaim := { program := "ytfhdcbahgddlhaa", sum := "6feafc300e0d2f98c4f984ba1d6070652ff30213f06b42cbed9e52c90be6885f", func := "loop.example/g00729/laws.FnExactZeroFrame", spec := "fnExactZeroFrame", apart := false, narrowed := true }
def FnExactZeroFrameUptoSaid : Prop := fnExactZeroFrameUptoRow.holds Try.pinned (OpenSpec.upto fnExactZeroFrameSpec)

/-- 'laws.FnExactIsZeroFrame', WHERE WHAT IT READS IS OF BULK AT MOST 1048576: true; the input reads as it did. -/
def fnExactIsZeroFrameUptoRow : OpenClaim := { program := "ytfhdcbahgddlhaa", sum := "6feafc300e0d2f98c4f984ba1d6070652ff30213f06b42cbed9e52c90be6885f", func := "loop.example/g00729/laws.FnExactIsZeroFrame", spec := "fnExactIsZeroFrame", apart := false, narrowed := true }
def FnExactIsZeroFrameUptoSaid : Prop := fnExactIsZeroFrameUptoRow.holds Try.pinned (OpenSpec.upto fnExactIsZeroFrameSpec)

end Rows
end Go.Proofs.Ytfhdcbahgddlhaa
