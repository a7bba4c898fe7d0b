/-
  No cell of these rows narrows 'for every input' (looked for: loops, veiled, ifaces, maps, wideKeys, modest, calm, conditions, laid).
  DERIVED. THE GIVEN ROWS OF THIS SEAT. 6 by the template 'for every input the law returns true; each argument reads behind the call as it read before'; 0 by the template 'total and deterministic' (their statements: YtcnpckaacigbfaaGreatTotals.lean).
  GIVEN WITH THE SEED: the statements are not yours to turn. If you find one false, say at which input.
  Laid BY PROGRAM, IN A SANDBOX (cutbox-rows.mjs): the forced cells as the released guide's own fill.sh prints them over the translation 02eb24d09552f533… (all of the seat's roots in one cut). By AI agents, Wed Nov 11 2026. No macro, syntax, notation, axiom, sorry.
-/
import Derived.Test.YtcnpckaacigbfaaGreatChecked
import GoSem.Claim
import GoSem.ClaimJoined
import GoSem.ClaimMapViews
import Derived.JoinedTies
import Derived.KernelRfl
namespace Go.Proofs.YtcnpckaacigbfaaGreat
/- THE CELL 'sum', in the pinned program and in every row, IS THE sha256 OF THE DUMP (.gsa) THAT YtcnpckaacigbfaaGreatProg.lean LOADS. Nothing in Lean hashes anything: it is a label: what it is worth is what the hold of that sum in a sandbox is worth. -/
noncomputable def Tryz.pinned : Pinned := { name := "ytcnpckaacigbfaagreat", sum := "02eb24d09552f533515fdad3dd76ed195e038f5132c36fecdbdb12a5db92b02d", checked := Tryz.checked }
namespace Rows
def none {H : Type} : Left H := { results := [], args := [] }

/-- 'laws.FnHeaps': WHATEVER THE INPUT: true; the input reads as it did. -/
def fnHeapsSpec : ChangeSpec := { name := "fnHeaps", fn := fun _ => fun
  | [d] => { results := [.lit (.bool true)], args := [d] }
  | _ => none }
def fnHeapsRow : OpenClaim := { program := "ytcnpckaacigbfaagreat", sum := "02eb24d09552f533515fdad3dd76ed195e038f5132c36fecdbdb12a5db92b02d", func := "loop.example/g00729/laws.FnHeaps", spec := "fnHeaps", unfollowed := true, recurses := true, apart := false }
def FnHeapsSaid : Prop := fnHeapsRow.holds Tryz.pinned (OpenSpec.ofChange fnHeapsSpec)

/-- ITS FALSE NEIGHBOUR: 'it returns false'. Refute it at one input. -/
def fnHeapsWrong : ChangeSpec := { name := "fnHeaps", fn := fun _ => fun
  | [d] => { results := [.lit (.bool false)], args := [d] }
  | _ => none }
def FnHeapsWrongFalsely : Prop := fnHeapsRow.holds Tryz.pinned (OpenSpec.ofChange fnHeapsWrong)

/-- 'laws.FnLives': WHATEVER THE INPUT: true; the input reads as it did. -/
def fnLivesSpec : ChangeSpec := { name := "fnLives", fn := fun _ => fun
  | [d] => { results := [.lit (.bool true)], args := [d] }
  | _ => none }
def fnLivesRow : OpenClaim := { program := "ytcnpckaacigbfaagreat", sum := "02eb24d09552f533515fdad3dd76ed195e038f5132c36fecdbdb12a5db92b02d", func := "loop.example/g00729/laws.FnLives", spec := "fnLives", unfollowed := true, recurses := true, apart := false }
def FnLivesSaid : Prop := fnLivesRow.holds Tryz.pinned (OpenSpec.ofChange fnLivesSpec)

/-- ITS FALSE NEIGHBOUR: 'it returns false'. Refute it at one input. -/
def fnLivesWrong : ChangeSpec := { name := "fnLives", fn := fun _ => fun
  | [d] => { results := [.lit (.bool false)], args := [d] }
  | _ => none }
def FnLivesWrongFalsely : Prop := fnLivesRow.holds Tryz.pinned (OpenSpec.ofChange fnLivesWrong)

/-- 'laws.FnResizes': WHATEVER THE INPUT: true; the input reads as it did. -/
def fnResizesSpec : ChangeSpec := { name := "fnResizes", fn := fun _ => fun
  | [d] => { results := [.lit (.bool true)], args := [d] }
  | _ => none }
def fnResizesRow : OpenClaim := { program := "ytcnpckaacigbfaagreat", sum := "02eb24d09552f533515fdad3dd76ed195e038f5132c36fecdbdb12a5db92b02d", func := "loop.example/g00729/laws.FnResizes", spec := "fnResizes", unfollowed := true, recurses := true, apart := false }
def FnResizesSaid : Prop := fnResizesRow.holds Tryz.pinned (OpenSpec.ofChange fnResizesSpec)

/-- ITS FALSE NEIGHBOUR: 'it returns false'. Refute it at one input. -/
def fnResizesWrong : ChangeSpec := { name := "fnResizes", fn := fun _ => fun
  | [d] => { results := [.lit (.bool false)], args := [d] }
  | _ => none }
def FnResizesWrongFalsely : Prop := fnResizesRow.holds Tryz.pinned (OpenSpec.ofChange fnResizesWrong)

/-- 'laws.FnExactLiveBlocks': WHATEVER THE INPUT: true; the input reads as it did. -/
def fnExactLiveBlocksSpec : ChangeSpec := { name := "fnExactLiveBlocks", fn := fun _ => fun
  | [d] => { results := [.lit (.bool true)], args := [d] }
  | _ => none }
def fnExactLiveBlocksRow : OpenClaim := { program := "ytcnpckaacigbfaagreat", sum := "02eb24d09552f533515fdad3dd76ed195e038f5132c36fecdbdb12a5db92b02d", func := "loop.example/g00729/laws.FnExactLiveBlocks", spec := "fnExactLiveBlocks", unfollowed := true, recurses := true, apart := false }
def FnExactLiveBlocksSaid : Prop := fnExactLiveBlocksRow.holds Tryz.pinned (OpenSpec.ofChange fnExactLiveBlocksSpec)

/-- ITS FALSE NEIGHBOUR: 'it returns false'. Refute it at one input. -/
def fnExactLiveBlocksWrong : ChangeSpec := { name := "fnExactLiveBlocks", fn := fun _ => fun
  | [d] => { results := [.lit (.bool false)], args := [d] }
  | _ => none }
def FnExactLiveBlocksWrongFalsely : Prop := fnExactLiveBlocksRow.holds Tryz.pinned (OpenSpec.ofChange fnExactLiveBlocksWrong)

/-- 'laws.FnExactDrainHeap': WHATEVER THE INPUT: true; the input reads as it did. -/
def fnExactDrainHeapSpec : ChangeSpec := { name := "fnExactDrainHeap", fn := fun _ => fun
  | [d] => { results := [.lit (.bool true)], args := [d] }
  | _ => none }
def fnExactDrainHeapRow : OpenClaim := { program := "ytcnpckaacigbfaagreat", sum := "02eb24d09552f533515fdad3dd76ed195e038f5132c36fecdbdb12a5db92b02d", func := "loop.example/g00729/laws.FnExactDrainHeap", spec := "fnExactDrainHeap", unfollowed := true, recurses := true, apart := false }
def FnExactDrainHeapSaid : Prop := fnExactDrainHeapRow.holds Tryz.pinned (OpenSpec.ofChange fnExactDrainHeapSpec)

/-- ITS FALSE NEIGHBOUR: 'it returns false'. Refute it at one input. -/
def fnExactDrainHeapWrong : ChangeSpec := { name := "fnExactDrainHeap", fn := fun _ => fun
  | [d] => { results := [.lit (.bool false)], args := [d] }
  | _ => none }
def FnExactDrainHeapWrongFalsely : Prop := fnExactDrainHeapRow.holds Tryz.pinned (OpenSpec.ofChange fnExactDrainHeapWrong)

/-- 'laws.FnExactResizeHeap': WHATEVER THE INPUT: true; the input reads as it did. -/
def fnExactResizeHeapSpec : ChangeSpec := { name := "fnExactResizeHeap", fn := fun _ => fun
  | [d1, d2] => { results := [.lit (.bool true)], args := [d1, d2] }
  | _ => none }
def fnExactResizeHeapRow : OpenClaim := { program := "ytcnpckaacigbfaagreat", sum := "02eb24d09552f533515fdad3dd76ed195e038f5132c36fecdbdb12a5db92b02d", func := "loop.example/g00729/laws.FnExactResizeHeap", spec := "fnExactResizeHeap", unfollowed := true, recurses := true, apart := false }
def FnExactResizeHeapSaid : Prop := fnExactResizeHeapRow.holds Tryz.pinned (OpenSpec.ofChange fnExactResizeHeapSpec)

/-- ITS FALSE NEIGHBOUR: 'it returns false'. Refute it at one input. -/
def fnExactResizeHeapWrong : ChangeSpec := { name := "fnExactResizeHeap", fn := fun _ => fun
  | [d1, d2] => { results := [.lit (.bool false)], args := [d1, d2] }
  | _ => none }
def FnExactResizeHeapWrongFalsely : Prop := fnExactResizeHeapRow.holds Tryz.pinned (OpenSpec.ofChange fnExactResizeHeapWrong)

/- THE SECOND FORM. 'bulk': how many values and letters a reading holds, each counted each time it is reached (what is shared counts as often as it is met; a slice's spare places count too). A statement '..UptoSaid' is the law's where the arguments, and the package variables that the reading takes, are together of bulk at most 1048576: NARROWER than '..Said'. Prove '..Said' where nothing that the law and all that it calls make is longer than what came in: it says more and counts as full. Else prove '..UptoSaid'. A law counts once. -/
mutual
def uptoBulk {H : Type} : DataW H → Nat
  | .lit (.string bytes) => bytes.length + 1
  | .lit _ => 1
  | .nil => 1
  | .ptr d => uptoBulk d + 1
  | .slice elems spare => uptoBulkAll elems + uptoBulkAll spare + 1
  | .agg parts => uptoBulkAll parts + 1
  | .iface _ d => uptoBulk d + 1
  | .map entries => uptoBulkEntries entries + 1
  | .held _ => 1
def uptoBulkAll {H : Type} : List (DataW H) → Nat
  | [] => 0
  | d :: r => uptoBulk d + uptoBulkAll r
def uptoBulkEntries {H : Type} : List (Lit × DataW H) → Nat
  | [] => 0
  | x :: r => uptoBulkEntry x + uptoBulkEntries r
def uptoBulkEntry {H : Type} : Lit × DataW H → Nat
  | (.string bytes, d) => bytes.length + uptoBulk d + 1
  | (_, d) => uptoBulk d + 1
 end
def uptoSmall : (H : Type) → List (DataW H) → Bool := fun _ ds => decide (uptoBulkAll ds ≤ 1048576)
def OpenSpec.upto (s : _root_.Go.ChangeSpec) : _root_.Go.OpenSpec := { _root_.Go.OpenSpec.ofChange s with cond := some uptoSmall }

/-- 'laws.FnHeaps', WHERE WHAT IT READS IS OF BULK AT MOST 1048576: true; the input reads as it did. -/
def fnHeapsUptoRow : OpenClaim := { program := "ytcnpckaacigbfaagreat", sum := "02eb24d09552f533515fdad3dd76ed195e038f5132c36fecdbdb12a5db92b02d", func := "loop.example/g00729/laws.FnHeaps", spec := "fnHeaps", unfollowed := true, recurses := true, apart := false, narrowed := true }
def FnHeapsUptoSaid : Prop := fnHeapsUptoRow.holds Tryz.pinned (OpenSpec.upto fnHeapsSpec)

/-- 'laws.FnLives', WHERE WHAT IT READS IS OF BULK AT MOST 1048576: true; the input reads as it did. -/
def fnLivesUptoRow : OpenClaim := { program := "ytcnpckaacigbfaagreat", sum := "02eb24d09552f533515fdad3dd76ed195e038f5132c36fecdbdb12a5db92b02d", func := "loop.example/g00729/laws.FnLives", spec := "fnLives", unfollowed := true, recurses := true, apart := false, narrowed := true }
def FnLivesUptoSaid : Prop := fnLivesUptoRow.holds Tryz.pinned (OpenSpec.upto fnLivesSpec)

/-- 'laws.FnResizes', WHERE WHAT IT READS IS OF BULK AT MOST 1048576: true; the input reads as it did. -/
def fnResizesUptoRow : OpenClaim := { program := "ytcnpckaacigbfaagreat", sum := "02eb24d09552f533515fdad3dd76ed195e038f5132c36fecdbdb12a5db92b02d", func := "loop.example/g00729/laws.FnResizes", spec := "fnResizes", unfollowed := true, recurses := true, apart := false, narrowed := true }
def FnResizesUptoSaid : Prop := fnResizesUptoRow.holds Tryz.pinned (OpenSpec.upto fnResizesSpec)

/-- 'laws.FnExactLiveBlocks', WHERE WHAT IT READS IS OF BULK AT MOST 1048576: true; the input reads as it did. -/
def fnExactLiveBlocksUptoRow : OpenClaim := { program := "ytcnpckaacigbfaagreat", sum := "02eb24d09552f533515fdad3dd76ed195e038f5132c36fecdbdb12a5db92b02d", func := "loop.example/g00729/laws.FnExactLiveBlocks", spec := "fnExactLiveBlocks", unfollowed := true, recurses := true, apart := false, narrowed := true }
def FnExactLiveBlocksUptoSaid : Prop := fnExactLiveBlocksUptoRow.holds Tryz.pinned (OpenSpec.upto fnExactLiveBlocksSpec)

/-- 'laws.FnExactDrainHeap', WHERE WHAT IT READS IS OF BULK AT MOST 1048576: true; the input reads as it did. -/
def fnExactDrainHeapUptoRow : OpenClaim := { program := "ytcnpckaacigbfaagreat", sum := "02eb24d09552f533515fdad3dd76ed195e038f5132c36fecdbdb12a5db92b02d", func := "loop.example/g00729/laws.FnExactDrainHeap", spec := "fnExactDrainHeap", unfollowed := true, recurses := true, apart := false, narrowed := true }
def FnExactDrainHeapUptoSaid : Prop := fnExactDrainHeapUptoRow.holds Tryz.pinned (OpenSpec.upto fnExactDrainHeapSpec)

/-- 'laws.FnExactResizeHeap', WHERE WHAT IT READS IS OF BULK AT MOST 1048576: true; the input reads as it did. -/
def fnExactResizeHeapUptoRow : OpenClaim := { program := "ytcnpckaacigbfaagreat", sum := "02eb24d09552f533515fdad3dd76ed195e038f5132c36fecdbdb12a5db92b02d", func := "loop.example/g00729/laws.FnExactResizeHeap", spec := "fnExactResizeHeap", unfollowed := true, recurses := true, apart := false, narrowed := true }
def FnExactResizeHeapUptoSaid : Prop := fnExactResizeHeapUptoRow.holds Tryz.pinned (OpenSpec.upto fnExactResizeHeapSpec)

end Rows
end Go.Proofs.YtcnpckaacigbfaaGreat
