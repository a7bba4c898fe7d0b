/-
  No cell of these rows narrows 'for every input' (looked for: loops, veiled, ifaces, maps, wideKeys, modest, calm, conditions, laid).
  DERIVED. THE GIVEN ROWS OF THIS SEAT. 5 by the template 'for every input the law returns true; each argument reads behind the call as it read before'; 0 by the template 'total and deterministic' (their statements: YtcnpckaacigbfaaTotals.lean).
  GIVEN WITH THE SEED: the statements are not yours to turn. If you find one false, say at which input.
  Laid BY PROGRAM, IN A SANDBOX (cutbox-rows.mjs): the forced cells as the released guide's own fill.sh prints them over the translation 3d49f08c09afc2e6… (all of the seat's roots in one cut). By AI agents, Wed Nov 11 2026. No macro, syntax, notation, axiom, sorry.
-/
import Derived.Test.YtcnpckaacigbfaaChecked
import GoSem.Claim
import GoSem.ClaimJoined
import GoSem.ClaimMapViews
import Derived.JoinedTies
import Derived.KernelRfl
namespace Go.Proofs.Ytcnpckaacigbfaa
/- THE CELL 'sum', in the pinned program and in every row, IS THE sha256 OF THE DUMP (.gsa) THAT YtcnpckaacigbfaaProg.lean LOADS. Nothing in Lean hashes anything: it is a label: what it is worth is what the hold of that sum in a sandbox is worth. -/
noncomputable def Try.pinned : Pinned := { name := "ytcnpckaacigbfaa", sum := "3d49f08c09afc2e6861c14bf4454b6859d3bf51db8504b33e8f08b638f336e72", checked := Try.checked }
namespace Rows
def none {H : Type} : Left H := { results := [], args := [] }

/-- 'laws.FnExactHeapFault': WHATEVER THE INPUT: true; the input reads as it did. -/
def fnExactHeapFaultSpec : ChangeSpec := { name := "fnExactHeapFault", fn := fun _ => fun
  | [d] => { results := [.lit (.bool true)], args := [d] }
  | _ => none }
def fnExactHeapFaultRow : OpenClaim := { program := "ytcnpckaacigbfaa", sum := "3d49f08c09afc2e6861c14bf4454b6859d3bf51db8504b33e8f08b638f336e72", func := "loop.example/g00729/laws.FnExactHeapFault", spec := "fnExactHeapFault", recurses := true, apart := false }
def FnExactHeapFaultSaid : Prop := fnExactHeapFaultRow.holds Try.pinned (OpenSpec.ofChange fnExactHeapFaultSpec)

/-- ITS FALSE NEIGHBOUR: 'it returns false'. Refute it at one input. -/
def fnExactHeapFaultWrong : ChangeSpec := { name := "fnExactHeapFault", fn := fun _ => fun
  | [d] => { results := [.lit (.bool false)], args := [d] }
  | _ => none }
def FnExactHeapFaultWrongFalsely : Prop := fnExactHeapFaultRow.holds Try.pinned (OpenSpec.ofChange fnExactHeapFaultWrong)

/-- 'laws.FnExactNewHeap': WHATEVER THE INPUT: true; the input reads as it did. -/
def fnExactNewHeapSpec : ChangeSpec := { name := "fnExactNewHeap", fn := fun _ => fun
  | [d1, d2] => { results := [.lit (.bool true)], args := [d1, d2] }
  | _ => none }
def fnExactNewHeapRow : OpenClaim := { program := "ytcnpckaacigbfaa", sum := "3d49f08c09afc2e6861c14bf4454b6859d3bf51db8504b33e8f08b638f336e72", func := "loop.example/g00729/laws.FnExactNewHeap", spec := "fnExactNewHeap", apart := false }
def FnExactNewHeapSaid : Prop := fnExactNewHeapRow.holds Try.pinned (OpenSpec.ofChange fnExactNewHeapSpec)

/-- ITS FALSE NEIGHBOUR: 'it returns false'. Refute it at one input. -/
def fnExactNewHeapWrong : ChangeSpec := { name := "fnExactNewHeap", fn := fun _ => fun
  | [d1, d2] => { results := [.lit (.bool false)], args := [d1, d2] }
  | _ => none }
def FnExactNewHeapWrongFalsely : Prop := fnExactNewHeapRow.holds Try.pinned (OpenSpec.ofChange fnExactNewHeapWrong)

/-- 'laws.FnExactLiveAt': WHATEVER THE INPUT: true; the input reads as it did. -/
def fnExactLiveAtSpec : ChangeSpec := { name := "fnExactLiveAt", fn := fun _ => fun
  | [d1, d2] => { results := [.lit (.bool true)], args := [d1, d2] }
  | _ => none }
def fnExactLiveAtRow : OpenClaim := { program := "ytcnpckaacigbfaa", sum := "3d49f08c09afc2e6861c14bf4454b6859d3bf51db8504b33e8f08b638f336e72", func := "loop.example/g00729/laws.FnExactLiveAt", spec := "fnExactLiveAt", unfollowed := true, recurses := true, apart := false }
def FnExactLiveAtSaid : Prop := fnExactLiveAtRow.holds Try.pinned (OpenSpec.ofChange fnExactLiveAtSpec)

/-- ITS FALSE NEIGHBOUR: 'it returns false'. Refute it at one input. -/
def fnExactLiveAtWrong : ChangeSpec := { name := "fnExactLiveAt", fn := fun _ => fun
  | [d1, d2] => { results := [.lit (.bool false)], args := [d1, d2] }
  | _ => none }
def FnExactLiveAtWrongFalsely : Prop := fnExactLiveAtRow.holds Try.pinned (OpenSpec.ofChange fnExactLiveAtWrong)

/-- 'laws.FnExactHeldIn': WHATEVER THE INPUT: true; the input reads as it did. -/
def fnExactHeldInSpec : ChangeSpec := { name := "fnExactHeldIn", fn := fun _ => fun
  | [d] => { results := [.lit (.bool true)], args := [d] }
  | _ => none }
def fnExactHeldInRow : OpenClaim := { program := "ytcnpckaacigbfaa", sum := "3d49f08c09afc2e6861c14bf4454b6859d3bf51db8504b33e8f08b638f336e72", func := "loop.example/g00729/laws.FnExactHeldIn", spec := "fnExactHeldIn", recurses := true, apart := false }
def FnExactHeldInSaid : Prop := fnExactHeldInRow.holds Try.pinned (OpenSpec.ofChange fnExactHeldInSpec)

/-- ITS FALSE NEIGHBOUR: 'it returns false'. Refute it at one input. -/
def fnExactHeldInWrong : ChangeSpec := { name := "fnExactHeldIn", fn := fun _ => fun
  | [d] => { results := [.lit (.bool false)], args := [d] }
  | _ => none }
def FnExactHeldInWrongFalsely : Prop := fnExactHeldInRow.holds Try.pinned (OpenSpec.ofChange fnExactHeldInWrong)

/-- 'laws.FnExactSameHeaps': WHATEVER THE INPUT: true; the input reads as it did. -/
def fnExactSameHeapsSpec : ChangeSpec := { name := "fnExactSameHeaps", fn := fun _ => fun
  | [d1, d2] => { results := [.lit (.bool true)], args := [d1, d2] }
  | _ => none }
def fnExactSameHeapsRow : OpenClaim := { program := "ytcnpckaacigbfaa", sum := "3d49f08c09afc2e6861c14bf4454b6859d3bf51db8504b33e8f08b638f336e72", func := "loop.example/g00729/laws.FnExactSameHeaps", spec := "fnExactSameHeaps", unfollowed := true, recurses := true, apart := false }
def FnExactSameHeapsSaid : Prop := fnExactSameHeapsRow.holds Try.pinned (OpenSpec.ofChange fnExactSameHeapsSpec)

/-- ITS FALSE NEIGHBOUR: 'it returns false'. Refute it at one input. -/
def fnExactSameHeapsWrong : ChangeSpec := { name := "fnExactSameHeaps", fn := fun _ => fun
  | [d1, d2] => { results := [.lit (.bool false)], args := [d1, d2] }
  | _ => none }
def FnExactSameHeapsWrongFalsely : Prop := fnExactSameHeapsRow.holds Try.pinned (OpenSpec.ofChange fnExactSameHeapsWrong)

/- THE SECOND FORM. 'bulk': how many values and letters a reading holds, each counted each time it is reached (what is shared counts as often as it is met; a slice's spare places count too). A statement '..UptoSaid' is the law's where the arguments, and the package variables that the reading takes, are together of bulk at most 1048576: NARROWER than '..Said'. Prove '..Said' where nothing that the law and all that it calls make is longer than what came in: it says more and counts as full. Else prove '..UptoSaid'. A law counts once. -/
mutual
def uptoBulk {H : Type} : DataW H → Nat
  | .lit (.string bytes) => bytes.length + 1
  | .lit _ => 1
  | .nil => 1
  | .ptr d => uptoBulk d + 1
  | .slice elems spare => uptoBulkAll elems + uptoBulkAll spare + 1
  | .agg parts => uptoBulkAll parts + 1
  | .iface _ d => uptoBulk d + 1
  | .map entries => uptoBulkEntries entries + 1
  | .held _ => 1
def uptoBulkAll {H : Type} : List (DataW H) → Nat
  | [] => 0
  | d :: r => uptoBulk d + uptoBulkAll r
def uptoBulkEntries {H : Type} : List (Lit × DataW H) → Nat
  | [] => 0
  | x :: r => uptoBulkEntry x + uptoBulkEntries r
def uptoBulkEntry {H : Type} : Lit × DataW H → Nat
  | (.string bytes, d) => bytes.length + uptoBulk d + 1
  | (_, d) => uptoBulk d + 1
 end
def uptoSmall : (H : Type) → List (DataW H) → Bool := fun _ ds => decide (uptoBulkAll ds ≤ 1048576)
def OpenSpec.upto (s : _root_.Go.ChangeSpec) : _root_.Go.OpenSpec := { _root_.Go.OpenSpec.ofChange s with cond := some uptoSmall }

/-- 'laws.FnExactHeapFault', WHERE WHAT IT READS IS OF BULK AT MOST 1048576: true; the input reads as it did. -/
def fnExactHeapFaultUptoRow : OpenClaim := { program := "ytcnpckaacigbfaa", sum := "3d49f08c09afc2e6861c14bf4454b6859d3bf51db8504b33e8f08b638f336e72", func := "loop.example/g00729/laws.FnExactHeapFault", spec := "fnExactHeapFault", recurses := true, apart := false, narrowed := true }
def FnExactHeapFaultUptoSaid : Prop := fnExactHeapFaultUptoRow.holds Try.pinned (OpenSpec.upto fnExactHeapFaultSpec)

/-- 'laws.FnExactNewHeap', WHERE WHAT IT READS IS OF BULK AT MOST 1048576: true; the input reads as it did. -/
def fnExactNewHeapUptoRow : OpenClaim := { program := "ytcnpckaacigbfaa", sum := "3d49f08c09afc2e6861c14bf4454b6859d3bf51db8504b33e8f08b638f336e72", func := "loop.example/g00729/laws.FnExactNewHeap", spec := "fnExactNewHeap", apart := false, narrowed := true }
def FnExactNewHeapUptoSaid : Prop := fnExactNewHeapUptoRow.holds Try.pinned (OpenSpec.upto fnExactNewHeapSpec)

/-- 'laws.FnExactLiveAt', WHERE WHAT IT READS IS OF BULK AT MOST 1048576: true; the input reads as it did. -/
def fnExactLiveAtUptoRow : OpenClaim := { program := "ytcnpckaacigbfaa", sum := "3d49f08c09afc2e6861c14bf4454b6859d3bf51db8504b33e8f08b638f336e72", func := "loop.example/g00729/laws.FnExactLiveAt", spec := "fnExactLiveAt", unfollowed := true, recurses := true, apart := false, narrowed := true }
def FnExactLiveAtUptoSaid : Prop := fnExactLiveAtUptoRow.holds Try.pinned (OpenSpec.upto fnExactLiveAtSpec)

/-- 'laws.FnExactHeldIn', WHERE WHAT IT READS IS OF BULK AT MOST 1048576: true; the input reads as it did. -/
def fnExactHeldInUptoRow : OpenClaim := { program := "ytcnpckaacigbfaa", sum := "3d49f08c09afc2e6861c14bf4454b6859d3bf51db8504b33e8f08b638f336e72", func := "loop.example/g00729/laws.FnExactHeldIn", spec := "fnExactHeldIn", recurses := true, apart := false, narrowed := true }
def FnExactHeldInUptoSaid : Prop := fnExactHeldInUptoRow.holds Try.pinned (OpenSpec.upto fnExactHeldInSpec)

/-- 'laws.FnExactSameHeaps', WHERE WHAT IT READS IS OF BULK AT MOST 1048576: true; the input reads as it did. -/
def fnExactSameHeapsUptoRow : OpenClaim := { program := "ytcnpckaacigbfaa", sum := "3d49f08c09afc2e6861c14bf4454b6859d3bf51db8504b33e8f08b638f336e72", func := "loop.example/g00729/laws.FnExactSameHeaps", spec := "fnExactSameHeaps", unfollowed := true, recurses := true, apart := false, narrowed := true }
def FnExactSameHeapsUptoSaid : Prop := fnExactSameHeapsUptoRow.holds Try.pinned (OpenSpec.upto fnExactSameHeapsSpec)

end Rows
end Go.Proofs.Ytcnpckaacigbfaa
