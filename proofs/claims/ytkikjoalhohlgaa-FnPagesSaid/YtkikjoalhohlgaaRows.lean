/-
  No cell of these rows narrows 'for every input' (looked for: loops, veiled, ifaces, maps, wideKeys, modest, calm, conditions, laid).
  DERIVED. THE GIVEN ROWS OF THIS SEAT. 12 by the template 'for every input the law returns true; each argument reads behind the call as it read before'; 0 by the template 'total and deterministic' (their statements: YtkikjoalhohlgaaTotals.lean).
  GIVEN WITH THE SEED: the statements are not yours to turn. If you find one false, say at which input.
  Laid BY PROGRAM, IN A SANDBOX (cutbox-rows.mjs): the forced cells as the released guide's own fill.sh prints them over the translation 64e658223daecec4… (all of the seat's roots in one cut). By AI agents, Wed Nov 11 2026. No macro, syntax, notation, axiom, sorry.
-/
import Derived.Test.YtkikjoalhohlgaaChecked
import GoSem.Claim
import GoSem.ClaimJoined
import GoSem.ClaimMapViews
import Derived.JoinedTies
import Derived.KernelRfl
namespace Go.Proofs.Ytkikjoalhohlgaa
/- THE CELL 'sum', in the pinned program and in every row, IS THE sha256 OF THE DUMP (.gsa) THAT YtkikjoalhohlgaaProg.lean LOADS. Nothing in Lean hashes anything: it is a label: what it is worth is what the hold of that sum in a sandbox is worth. -/
noncomputable def Try.pinned : Pinned := { name := "ytkikjoalhohlgaa", sum := "64e658223daecec488a7263e2faca6cc01f76b8b881695cfac9f8912e48d97ae", checked := Try.checked }
namespace Rows
def none {H : Type} : Left H := { results := [], args := [] }

/-- 'laws.FnPages': WHATEVER THE INPUT: true; the input reads as it did. -/
def fnPagesSpec : ChangeSpec := { name := "fnPages", fn := fun _ => fun
  | [d] => { results := [.lit (.bool true)], args := [d] }
  | _ => none }
def fnPagesRow : OpenClaim := { program := "ytkikjoalhohlgaa", sum := "64e658223daecec488a7263e2faca6cc01f76b8b881695cfac9f8912e48d97ae", func := "loop.example/g00729/laws.FnPages", spec := "fnPages", unfollowed := true, recurses := true, apart := false }
def FnPagesSaid : Prop := fnPagesRow.holds Try.pinned (OpenSpec.ofChange fnPagesSpec)

/-- ITS FALSE NEIGHBOUR: 'it returns false'. Refute it at one input. -/
def fnPagesWrong : ChangeSpec := { name := "fnPages", fn := fun _ => fun
  | [d] => { results := [.lit (.bool false)], args := [d] }
  | _ => none }
def FnPagesWrongFalsely : Prop := fnPagesRow.holds Try.pinned (OpenSpec.ofChange fnPagesWrong)

/-- 'laws.FnRuns': WHATEVER THE INPUT: true; the input reads as it did. -/
def fnRunsSpec : ChangeSpec := { name := "fnRuns", fn := fun _ => fun
  | [d] => { results := [.lit (.bool true)], args := [d] }
  | _ => none }
def fnRunsRow : OpenClaim := { program := "ytkikjoalhohlgaa", sum := "64e658223daecec488a7263e2faca6cc01f76b8b881695cfac9f8912e48d97ae", func := "loop.example/g00729/laws.FnRuns", spec := "fnRuns", unfollowed := true, recurses := true, apart := false }
def FnRunsSaid : Prop := fnRunsRow.holds Try.pinned (OpenSpec.ofChange fnRunsSpec)

/-- ITS FALSE NEIGHBOUR: 'it returns false'. Refute it at one input. -/
def fnRunsWrong : ChangeSpec := { name := "fnRuns", fn := fun _ => fun
  | [d] => { results := [.lit (.bool false)], args := [d] }
  | _ => none }
def FnRunsWrongFalsely : Prop := fnRunsRow.holds Try.pinned (OpenSpec.ofChange fnRunsWrong)

/-- 'laws.FnExactPageFault': WHATEVER THE INPUT: true; the input reads as it did. -/
def fnExactPageFaultSpec : ChangeSpec := { name := "fnExactPageFault", fn := fun _ => fun
  | [d] => { results := [.lit (.bool true)], args := [d] }
  | _ => none }
def fnExactPageFaultRow : OpenClaim := { program := "ytkikjoalhohlgaa", sum := "64e658223daecec488a7263e2faca6cc01f76b8b881695cfac9f8912e48d97ae", func := "loop.example/g00729/laws.FnExactPageFault", spec := "fnExactPageFault", apart := false }
def FnExactPageFaultSaid : Prop := fnExactPageFaultRow.holds Try.pinned (OpenSpec.ofChange fnExactPageFaultSpec)

/-- ITS FALSE NEIGHBOUR: 'it returns false'. Refute it at one input. -/
def fnExactPageFaultWrong : ChangeSpec := { name := "fnExactPageFault", fn := fun _ => fun
  | [d] => { results := [.lit (.bool false)], args := [d] }
  | _ => none }
def FnExactPageFaultWrongFalsely : Prop := fnExactPageFaultRow.holds Try.pinned (OpenSpec.ofChange fnExactPageFaultWrong)

/-- 'laws.FnExactPagesFault': WHATEVER THE INPUT: true; the input reads as it did. -/
def fnExactPagesFaultSpec : ChangeSpec := { name := "fnExactPagesFault", fn := fun _ => fun
  | [d] => { results := [.lit (.bool true)], args := [d] }
  | _ => none }
def fnExactPagesFaultRow : OpenClaim := { program := "ytkikjoalhohlgaa", sum := "64e658223daecec488a7263e2faca6cc01f76b8b881695cfac9f8912e48d97ae", func := "loop.example/g00729/laws.FnExactPagesFault", spec := "fnExactPagesFault", apart := false }
def FnExactPagesFaultSaid : Prop := fnExactPagesFaultRow.holds Try.pinned (OpenSpec.ofChange fnExactPagesFaultSpec)

/-- ITS FALSE NEIGHBOUR: 'it returns false'. Refute it at one input. -/
def fnExactPagesFaultWrong : ChangeSpec := { name := "fnExactPagesFault", fn := fun _ => fun
  | [d] => { results := [.lit (.bool false)], args := [d] }
  | _ => none }
def FnExactPagesFaultWrongFalsely : Prop := fnExactPagesFaultRow.holds Try.pinned (OpenSpec.ofChange fnExactPagesFaultWrong)

/-- 'laws.FnExactFindSlot': WHATEVER THE INPUT: true; the input reads as it did. -/
def fnExactFindSlotSpec : ChangeSpec := { name := "fnExactFindSlot", fn := fun _ => fun
  | [d1, d2] => { results := [.lit (.bool true)], args := [d1, d2] }
  | _ => none }
def fnExactFindSlotRow : OpenClaim := { program := "ytkikjoalhohlgaa", sum := "64e658223daecec488a7263e2faca6cc01f76b8b881695cfac9f8912e48d97ae", func := "loop.example/g00729/laws.FnExactFindSlot", spec := "fnExactFindSlot", unfollowed := true, recurses := true, apart := false }
def FnExactFindSlotSaid : Prop := fnExactFindSlotRow.holds Try.pinned (OpenSpec.ofChange fnExactFindSlotSpec)

/-- ITS FALSE NEIGHBOUR: 'it returns false'. Refute it at one input. -/
def fnExactFindSlotWrong : ChangeSpec := { name := "fnExactFindSlot", fn := fun _ => fun
  | [d1, d2] => { results := [.lit (.bool false)], args := [d1, d2] }
  | _ => none }
def FnExactFindSlotWrongFalsely : Prop := fnExactFindSlotRow.holds Try.pinned (OpenSpec.ofChange fnExactFindSlotWrong)

/-- 'laws.FnExactFindRun': WHATEVER THE INPUT: true; the input reads as it did. -/
def fnExactFindRunSpec : ChangeSpec := { name := "fnExactFindRun", fn := fun _ => fun
  | [d1, d2] => { results := [.lit (.bool true)], args := [d1, d2] }
  | _ => none }
def fnExactFindRunRow : OpenClaim := { program := "ytkikjoalhohlgaa", sum := "64e658223daecec488a7263e2faca6cc01f76b8b881695cfac9f8912e48d97ae", func := "loop.example/g00729/laws.FnExactFindRun", spec := "fnExactFindRun", apart := false }
def FnExactFindRunSaid : Prop := fnExactFindRunRow.holds Try.pinned (OpenSpec.ofChange fnExactFindRunSpec)

/-- ITS FALSE NEIGHBOUR: 'it returns false'. Refute it at one input. -/
def fnExactFindRunWrong : ChangeSpec := { name := "fnExactFindRun", fn := fun _ => fun
  | [d1, d2] => { results := [.lit (.bool false)], args := [d1, d2] }
  | _ => none }
def FnExactFindRunWrongFalsely : Prop := fnExactFindRunRow.holds Try.pinned (OpenSpec.ofChange fnExactFindRunWrong)

/-- 'laws.FnExactTakeRun': WHATEVER THE INPUT: true; the input reads as it did. -/
def fnExactTakeRunSpec : ChangeSpec := { name := "fnExactTakeRun", fn := fun _ => fun
  | [d1, d2, d3] => { results := [.lit (.bool true)], args := [d1, d2, d3] }
  | _ => none }
def fnExactTakeRunRow : OpenClaim := { program := "ytkikjoalhohlgaa", sum := "64e658223daecec488a7263e2faca6cc01f76b8b881695cfac9f8912e48d97ae", func := "loop.example/g00729/laws.FnExactTakeRun", spec := "fnExactTakeRun", unfollowed := true, recurses := true, apart := false }
def FnExactTakeRunSaid : Prop := fnExactTakeRunRow.holds Try.pinned (OpenSpec.ofChange fnExactTakeRunSpec)

/-- ITS FALSE NEIGHBOUR: 'it returns false'. Refute it at one input. -/
def fnExactTakeRunWrong : ChangeSpec := { name := "fnExactTakeRun", fn := fun _ => fun
  | [d1, d2, d3] => { results := [.lit (.bool false)], args := [d1, d2, d3] }
  | _ => none }
def FnExactTakeRunWrongFalsely : Prop := fnExactTakeRunRow.holds Try.pinned (OpenSpec.ofChange fnExactTakeRunWrong)

/-- 'laws.FnExactDropBlock': WHATEVER THE INPUT: true; the input reads as it did. -/
def fnExactDropBlockSpec : ChangeSpec := { name := "fnExactDropBlock", fn := fun _ => fun
  | [d1, d2] => { results := [.lit (.bool true)], args := [d1, d2] }
  | _ => none }
def fnExactDropBlockRow : OpenClaim := { program := "ytkikjoalhohlgaa", sum := "64e658223daecec488a7263e2faca6cc01f76b8b881695cfac9f8912e48d97ae", func := "loop.example/g00729/laws.FnExactDropBlock", spec := "fnExactDropBlock", unfollowed := true, recurses := true, apart := false }
def FnExactDropBlockSaid : Prop := fnExactDropBlockRow.holds Try.pinned (OpenSpec.ofChange fnExactDropBlockSpec)

/-- ITS FALSE NEIGHBOUR: 'it returns false'. Refute it at one input. -/
def fnExactDropBlockWrong : ChangeSpec := { name := "fnExactDropBlock", fn := fun _ => fun
  | [d1, d2] => { results := [.lit (.bool false)], args := [d1, d2] }
  | _ => none }
def FnExactDropBlockWrongFalsely : Prop := fnExactDropBlockRow.holds Try.pinned (OpenSpec.ofChange fnExactDropBlockWrong)

/-- 'laws.FnExactBlockStart': WHATEVER THE INPUT: true; the input reads as it did. -/
def fnExactBlockStartSpec : ChangeSpec := { name := "fnExactBlockStart", fn := fun _ => fun
  | [d1, d2] => { results := [.lit (.bool true)], args := [d1, d2] }
  | _ => none }
def fnExactBlockStartRow : OpenClaim := { program := "ytkikjoalhohlgaa", sum := "64e658223daecec488a7263e2faca6cc01f76b8b881695cfac9f8912e48d97ae", func := "loop.example/g00729/laws.FnExactBlockStart", spec := "fnExactBlockStart", unfollowed := true, recurses := true, apart := false }
def FnExactBlockStartSaid : Prop := fnExactBlockStartRow.holds Try.pinned (OpenSpec.ofChange fnExactBlockStartSpec)

/-- ITS FALSE NEIGHBOUR: 'it returns false'. Refute it at one input. -/
def fnExactBlockStartWrong : ChangeSpec := { name := "fnExactBlockStart", fn := fun _ => fun
  | [d1, d2] => { results := [.lit (.bool false)], args := [d1, d2] }
  | _ => none }
def FnExactBlockStartWrongFalsely : Prop := fnExactBlockStartRow.holds Try.pinned (OpenSpec.ofChange fnExactBlockStartWrong)

/-- 'laws.FnExactBlockSize': WHATEVER THE INPUT: true; the input reads as it did. -/
def fnExactBlockSizeSpec : ChangeSpec := { name := "fnExactBlockSize", fn := fun _ => fun
  | [d1, d2] => { results := [.lit (.bool true)], args := [d1, d2] }
  | _ => none }
def fnExactBlockSizeRow : OpenClaim := { program := "ytkikjoalhohlgaa", sum := "64e658223daecec488a7263e2faca6cc01f76b8b881695cfac9f8912e48d97ae", func := "loop.example/g00729/laws.FnExactBlockSize", spec := "fnExactBlockSize", unfollowed := true, recurses := true, apart := false }
def FnExactBlockSizeSaid : Prop := fnExactBlockSizeRow.holds Try.pinned (OpenSpec.ofChange fnExactBlockSizeSpec)

/-- ITS FALSE NEIGHBOUR: 'it returns false'. Refute it at one input. -/
def fnExactBlockSizeWrong : ChangeSpec := { name := "fnExactBlockSize", fn := fun _ => fun
  | [d1, d2] => { results := [.lit (.bool false)], args := [d1, d2] }
  | _ => none }
def FnExactBlockSizeWrongFalsely : Prop := fnExactBlockSizeRow.holds Try.pinned (OpenSpec.ofChange fnExactBlockSizeWrong)

/-- 'laws.FnExactUsedIn': WHATEVER THE INPUT: true; the input reads as it did. -/
def fnExactUsedInSpec : ChangeSpec := { name := "fnExactUsedIn", fn := fun _ => fun
  | [d] => { results := [.lit (.bool true)], args := [d] }
  | _ => none }
def fnExactUsedInRow : OpenClaim := { program := "ytkikjoalhohlgaa", sum := "64e658223daecec488a7263e2faca6cc01f76b8b881695cfac9f8912e48d97ae", func := "loop.example/g00729/laws.FnExactUsedIn", spec := "fnExactUsedIn", apart := false }
def FnExactUsedInSaid : Prop := fnExactUsedInRow.holds Try.pinned (OpenSpec.ofChange fnExactUsedInSpec)

/-- ITS FALSE NEIGHBOUR: 'it returns false'. Refute it at one input. -/
def fnExactUsedInWrong : ChangeSpec := { name := "fnExactUsedIn", fn := fun _ => fun
  | [d] => { results := [.lit (.bool false)], args := [d] }
  | _ => none }
def FnExactUsedInWrongFalsely : Prop := fnExactUsedInRow.holds Try.pinned (OpenSpec.ofChange fnExactUsedInWrong)

/-- 'laws.FnExactSamePages': WHATEVER THE INPUT: true; the input reads as it did. -/
def fnExactSamePagesSpec : ChangeSpec := { name := "fnExactSamePages", fn := fun _ => fun
  | [d1, d2] => { results := [.lit (.bool true)], args := [d1, d2] }
  | _ => none }
def fnExactSamePagesRow : OpenClaim := { program := "ytkikjoalhohlgaa", sum := "64e658223daecec488a7263e2faca6cc01f76b8b881695cfac9f8912e48d97ae", func := "loop.example/g00729/laws.FnExactSamePages", spec := "fnExactSamePages", unfollowed := true, recurses := true, apart := false }
def FnExactSamePagesSaid : Prop := fnExactSamePagesRow.holds Try.pinned (OpenSpec.ofChange fnExactSamePagesSpec)

/-- ITS FALSE NEIGHBOUR: 'it returns false'. Refute it at one input. -/
def fnExactSamePagesWrong : ChangeSpec := { name := "fnExactSamePages", fn := fun _ => fun
  | [d1, d2] => { results := [.lit (.bool false)], args := [d1, d2] }
  | _ => none }
def FnExactSamePagesWrongFalsely : Prop := fnExactSamePagesRow.holds Try.pinned (OpenSpec.ofChange fnExactSamePagesWrong)

/- THE SECOND FORM. 'bulk': how many values and letters a reading holds, each counted each time it is reached (what is shared counts as often as it is met; a slice's spare places count too). A statement '..UptoSaid' is the law's where the arguments, and the package variables that the reading takes, are together of bulk at most 1048576: NARROWER than '..Said'. Prove '..Said' where nothing that the law and all that it calls make is longer than what came in: it says more and counts as full. Else prove '..UptoSaid'. A law counts once. -/
mutual
def uptoBulk {H : Type} : DataW H → Nat
  | .lit (.string bytes) => bytes.length + 1
  | .lit _ => 1
  | .nil => 1
  | .ptr d => uptoBulk d + 1
  | .slice elems spare => uptoBulkAll elems + uptoBulkAll spare + 1
  | .agg parts => uptoBulkAll parts + 1
  | .iface _ d => uptoBulk d + 1
  | .map entries => uptoBulkEntries entries + 1
  | .held _ => 1
def uptoBulkAll {H : Type} : List (DataW H) → Nat
  | [] => 0
  | d :: r => uptoBulk d + uptoBulkAll r
def uptoBulkEntries {H : Type} : List (Lit × DataW H) → Nat
  | [] => 0
  | x :: r => uptoBulkEntry x + uptoBulkEntries r
def uptoBulkEntry {H : Type} : Lit × DataW H → Nat
  | (.string bytes, d) => bytes.length + uptoBulk d + 1
  | (_, d) => uptoBulk d + 1
 end
def uptoSmall : (H : Type) → List (DataW H) → Bool := fun _ ds => decide (uptoBulkAll ds ≤ 1048576)
def OpenSpec.upto (s : _root_.Go.ChangeSpec) : _root_.Go.OpenSpec := { _root_.Go.OpenSpec.ofChange s with cond := some uptoSmall }

/-- 'laws.FnPages', WHERE WHAT IT READS IS OF BULK AT MOST 1048576: true; the input reads as it did. -/
def fnPagesUptoRow : OpenClaim := { program := "ytkikjoalhohlgaa", sum := "64e658223daecec488a7263e2faca6cc01f76b8b881695cfac9f8912e48d97ae", func := "loop.example/g00729/laws.FnPages", spec := "fnPages", unfollowed := true, recurses := true, apart := false, narrowed := true }
def FnPagesUptoSaid : Prop := fnPagesUptoRow.holds Try.pinned (OpenSpec.upto fnPagesSpec)

/-- 'laws.FnRuns', WHERE WHAT IT READS IS OF BULK AT MOST 1048576: true; the input reads as it did. -/
def fnRunsUptoRow : OpenClaim := { program := "ytkikjoalhohlgaa", sum := "64e658223daecec488a7263e2faca6cc01f76b8b881695cfac9f8912e48d97ae", func := "loop.example/g00729/laws.FnRuns", spec := "fnRuns", unfollowed := true, recurses := true, apart := false, narrowed := true }
def FnRunsUptoSaid : Prop := fnRunsUptoRow.holds Try.pinned (OpenSpec.upto fnRunsSpec)

/-- 'laws.FnExactPageFault', WHERE WHAT IT READS IS OF BULK AT MOST 1048576: true; the input reads as it did. -/
def fnExactPageFaultUptoRow : OpenClaim := { program := "ytkikjoalhohlgaa", sum := "64e658223daecec488a7263e2faca6cc01f76b8b881695cfac9f8912e48d97ae", func := "loop.example/g00729/laws.FnExactPageFault", spec := "fnExactPageFault", apart := false, narrowed := true }
def FnExactPageFaultUptoSaid : Prop := fnExactPageFaultUptoRow.holds Try.pinned (OpenSpec.upto fnExactPageFaultSpec)

/-- 'laws.FnExactPagesFault', WHERE WHAT IT READS IS OF BULK AT MOST 1048576: true; the input reads as it did. -/
def fnExactPagesFaultUptoRow : OpenClaim := { program := "ytkikjoalhohlgaa", sum := "64e658223daecec488a7263e2faca6cc01f76b8b881695cfac9f8912e48d97ae", func := "loop.example/g00729/laws.FnExactPagesFault", spec := "fnExactPagesFault", apart := false, narrowed := true }
def FnExactPagesFaultUptoSaid : Prop := fnExactPagesFaultUptoRow.holds Try.pinned (OpenSpec.upto fnExactPagesFaultSpec)

/-- 'laws.FnExactFindSlot', WHERE WHAT IT READS IS OF BULK AT MOST 1048576: true; the input reads as it did. -/
def fnExactFindSlotUptoRow : OpenClaim := { program := "ytkikjoalhohlgaa", sum := "64e658223daecec488a7263e2faca6cc01f76b8b881695cfac9f8912e48d97ae", func := "loop.example/g00729/laws.FnExactFindSlot", spec := "fnExactFindSlot", unfollowed := true, recurses := true, apart := false, narrowed := true }
def FnExactFindSlotUptoSaid : Prop := fnExactFindSlotUptoRow.holds Try.pinned (OpenSpec.upto fnExactFindSlotSpec)

/-- 'laws.FnExactFindRun', WHERE WHAT IT READS IS OF BULK AT MOST 1048576: true; the input reads as it did. -/
def fnExactFindRunUptoRow : OpenClaim := { program := "ytkikjoalhohlgaa", sum := "64e658223daecec488a7263e2faca6cc01f76b8b881695cfac9f8912e48d97ae", func := "loop.example/g00729/laws.FnExactFindRun", spec := "fnExactFindRun", apart := false, narrowed := true }
def FnExactFindRunUptoSaid : Prop := fnExactFindRunUptoRow.holds Try.pinned (OpenSpec.upto fnExactFindRunSpec)

/-- 'laws.FnExactTakeRun', WHERE WHAT IT READS IS OF BULK AT MOST 1048576: true; the input reads as it did. -/
def fnExactTakeRunUptoRow : OpenClaim := { program := "ytkikjoalhohlgaa", sum := "64e658223daecec488a7263e2faca6cc01f76b8b881695cfac9f8912e48d97ae", func := "loop.example/g00729/laws.FnExactTakeRun", spec := "fnExactTakeRun", unfollowed := true, recurses := true, apart := false, narrowed := true }
def FnExactTakeRunUptoSaid : Prop := fnExactTakeRunUptoRow.holds Try.pinned (OpenSpec.upto fnExactTakeRunSpec)

/-- 'laws.FnExactDropBlock', WHERE WHAT IT READS IS OF BULK AT MOST 1048576: true; the input reads as it did. -/
def fnExactDropBlockUptoRow : OpenClaim := { program := "ytkikjoalhohlgaa", sum := "64e658223daecec488a7263e2faca6cc01f76b8b881695cfac9f8912e48d97ae", func := "loop.example/g00729/laws.FnExactDropBlock", spec := "fnExactDropBlock", unfollowed := true, recurses := true, apart := false, narrowed := true }
def FnExactDropBlockUptoSaid : Prop := fnExactDropBlockUptoRow.holds Try.pinned (OpenSpec.upto fnExactDropBlockSpec)

/-- 'laws.FnExactBlockStart', WHERE WHAT IT READS IS OF BULK AT MOST 1048576: true; the input reads as it did. -/
def fnExactBlockStartUptoRow : OpenClaim := { program := "ytkikjoalhohlgaa", sum := "64e658223daecec488a7263e2faca6cc01f76b8b881695cfac9f8912e48d97ae", func := "loop.example/g00729/laws.FnExactBlockStart", spec := "fnExactBlockStart", unfollowed := true, recurses := true, apart := false, narrowed := true }
def FnExactBlockStartUptoSaid : Prop := fnExactBlockStartUptoRow.holds Try.pinned (OpenSpec.upto fnExactBlockStartSpec)

/-- 'laws.FnExactBlockSize', WHERE WHAT IT READS IS OF BULK AT MOST 1048576: true; the input reads as it did. -/
def fnExactBlockSizeUptoRow : OpenClaim := { program := "ytkikjoalhohlgaa", sum := "64e658223daecec488a7263e2faca6cc01f76b8b881695cfac9f8912e48d97ae", func := "loop.example/g00729/laws.FnExactBlockSize", spec := "fnExactBlockSize", unfollowed := true, recurses := true, apart := false, narrowed := true }
def FnExactBlockSizeUptoSaid : Prop := fnExactBlockSizeUptoRow.holds Try.pinned (OpenSpec.upto fnExactBlockSizeSpec)

/-- 'laws.FnExactUsedIn', WHERE WHAT IT READS IS OF BULK AT MOST 1048576: true; the input reads as it did. -/
def fnExactUsedInUptoRow : OpenClaim := { program := "ytkikjoalhohlgaa", sum := "64e658223daecec488a7263e2faca6cc01f76b8b881695cfac9f8912e48d97ae", func := "loop.example/g00729/laws.FnExactUsedIn", spec := "fnExactUsedIn", apart := false, narrowed := true }
def FnExactUsedInUptoSaid : Prop := fnExactUsedInUptoRow.holds Try.pinned (OpenSpec.upto fnExactUsedInSpec)

/-- 'laws.FnExactSamePages', WHERE WHAT IT READS IS OF BULK AT MOST 1048576: true; the input reads as it did. -/
def fnExactSamePagesUptoRow : OpenClaim := { program := "ytkikjoalhohlgaa", sum := "64e658223daecec488a7263e2faca6cc01f76b8b881695cfac9f8912e48d97ae", func := "loop.example/g00729/laws.FnExactSamePages", spec := "fnExactSamePages", unfollowed := true, recurses := true, apart := false, narrowed := true }
def FnExactSamePagesUptoSaid : Prop := fnExactSamePagesUptoRow.holds Try.pinned (OpenSpec.upto fnExactSamePagesSpec)

end Rows
end Go.Proofs.Ytkikjoalhohlgaa
