/-
  NARROWER THAN 'FOR EVERY INPUT', by the rows' own cells (each row's printed sentence says how): FnDeeds: ifaces, laid · FnGives: ifaces, laid · FnPlaces: ifaces, laid · FnRequests: ifaces, laid · FnExactDoHeap: ifaces, laid · FnExactRunHeap: ifaces, laid · FnExactIsPlaced: ifaces, laid.
  DERIVED. THE GIVEN ROWS OF THIS SEAT. 7 by the template 'for every input the law returns true; each argument reads behind the call as it read before'; 0 by the template 'total and deterministic' (their statements: YthpamclljdcjpaaGreatDoorTotals.lean).
  GIVEN WITH THE SEED: the statements are not yours to turn. If you find one false, say at which input.
  Laid BY PROGRAM, IN A SANDBOX (cutbox-rows.mjs): the forced cells as the released guide's own fill.sh prints them over the translation 69c3034fd2b83379… (all of the seat's roots in one cut). By AI agents, Wed Nov 11 2026. No macro, syntax, notation, axiom, sorry.
-/
import Derived.Test.YthpamclljdcjpaaGreatDoorChecked
import GoSem.Claim
import GoSem.ClaimJoined
import GoSem.ClaimMapViews
import Derived.JoinedTies
import Derived.KernelRfl
namespace Go.Proofs.YthpamclljdcjpaaGreatDoor
/- THE CELL 'sum', in the pinned program and in every row, IS THE sha256 OF THE DUMP (.gsa) THAT YthpamclljdcjpaaGreatDoorProg.lean LOADS. Nothing in Lean hashes anything: it is a label: what it is worth is what the hold of that sum in a sandbox is worth. -/
noncomputable def Tryz.pinned : Pinned := { name := "ythpamclljdcjpaagreatdoor", sum := "69c3034fd2b833790c297f614ac1979e4efc679c898fd2247c75afaac6b734fc", checked := Tryz.checked }
namespace Rows
def none {H : Type} : Left H := { results := [], args := [] }

/- WHAT THE LISTED PACKAGE-LEVEL VARIABLES READ AS WHEN THE CALL BEGINS. Each datum BY PROGRAM (the guide's laid-datum.mjs) off the statement by which the dump's own 'gosem.cut.vars' lays the variable. In a bare row this is a premise. The card (YthpamclljdcjpaaGreatDoorCards.lean) ties it to the program's text. -/
def laid_errors_errorType {H : Type} : DataW H := .iface "internal/reflectlite.rtype" (.agg [.ptr (.lit (.string [101, 114, 114, 111, 114]))])
def laid_loop_example_g00729_impl_errNoOp {H : Type} : DataW H := .iface "*errors.errorString" (.ptr (.agg [.lit (.string [105, 116, 32, 105, 115, 32, 110, 111, 32, 111, 112])]))
def laid_loop_example_g00729_impl_errNoBlock {H : Type} : DataW H := .iface "*errors.errorString" (.ptr (.agg [.lit (.string [110, 111, 32, 98, 108, 111, 99, 107, 32, 108, 105, 118, 101, 115, 32, 116, 104, 101, 114, 101])]))
def laid_loop_example_g00729_impl_errInside {H : Type} : DataW H := .iface "*errors.errorString" (.ptr (.agg [.lit (.string [116, 104, 101, 32, 98, 108, 111, 99, 107, 32, 98, 101, 103, 105, 110, 115, 32, 101, 108, 115, 101, 119, 104, 101, 114, 101])]))
def laid_loop_example_g00729_impl_errNoPlace {H : Type} : DataW H := .iface "*errors.errorString" (.ptr (.agg [.lit (.string [116, 104, 101, 114, 101, 32, 105, 115, 32, 110, 111, 32, 112, 108, 97, 99, 101, 32, 102, 111, 114, 32, 115, 111, 32, 109, 97, 110, 121, 32, 119, 111, 114, 100, 115])]))

/-- 'laws.FnDeeds': WHATEVER THE INPUT: true; the input reads as it did. -/
def fnDeedsSpec : ChangeSpec := { name := "fnDeeds", vars := ["loop.example/g00729/impl.errNoOp", "loop.example/g00729/impl.errNoPlace", "loop.example/g00729/impl.errInside", "loop.example/g00729/impl.errNoBlock"], fn := fun _ => fun
  | [d, g1, g2, g3, g4] => { results := [.lit (.bool true)], args := [d], vars := [g1, g2, g3, g4] }
  | _ => none }
def fnDeedsRow : OpenClaim := { program := "ythpamclljdcjpaagreatdoor", sum := "69c3034fd2b833790c297f614ac1979e4efc679c898fd2247c75afaac6b734fc", func := "loop.example/g00729/laws.FnDeeds", spec := "fnDeeds", inPlace := ["internal/reflectlite.TypeOf", "internal/reflectlite.ValueOf", "(internal/reflectlite.Value).Type", "(internal/reflectlite.Value).IsNil", "(internal/reflectlite.Value).Elem", "(internal/reflectlite.Value).Set"], unfollowed := true, recurses := true, named := ["loop.example/g00729/impl.errNoOp", "loop.example/g00729/impl.errNoPlace", "loop.example/g00729/impl.errInside", "loop.example/g00729/impl.errNoBlock", "errors.errorType"], ifaces := true, apart := false, laid := [("errors.errorType", laid_errors_errorType), ("loop.example/g00729/impl.errNoOp", laid_loop_example_g00729_impl_errNoOp), ("loop.example/g00729/impl.errNoBlock", laid_loop_example_g00729_impl_errNoBlock), ("loop.example/g00729/impl.errInside", laid_loop_example_g00729_impl_errInside), ("loop.example/g00729/impl.errNoPlace", laid_loop_example_g00729_impl_errNoPlace)] }
def FnDeedsSaid : Prop := fnDeedsRow.holds Tryz.pinned (OpenSpec.ofChange fnDeedsSpec)

/-- ITS FALSE NEIGHBOUR: 'it returns false'. Refute it at one input. -/
def fnDeedsWrong : ChangeSpec := { name := "fnDeeds", vars := ["loop.example/g00729/impl.errNoOp", "loop.example/g00729/impl.errNoPlace", "loop.example/g00729/impl.errInside", "loop.example/g00729/impl.errNoBlock"], fn := fun _ => fun
  | [d, g1, g2, g3, g4] => { results := [.lit (.bool false)], args := [d], vars := [g1, g2, g3, g4] }
  | _ => none }
def FnDeedsWrongFalsely : Prop := fnDeedsRow.holds Tryz.pinned (OpenSpec.ofChange fnDeedsWrong)

/-- 'laws.FnGives': WHATEVER THE INPUT: true; the input reads as it did. -/
def fnGivesSpec : ChangeSpec := { name := "fnGives", vars := ["loop.example/g00729/impl.errNoOp", "loop.example/g00729/impl.errNoPlace", "loop.example/g00729/impl.errInside", "loop.example/g00729/impl.errNoBlock"], fn := fun _ => fun
  | [d, g1, g2, g3, g4] => { results := [.lit (.bool true)], args := [d], vars := [g1, g2, g3, g4] }
  | _ => none }
def fnGivesRow : OpenClaim := { program := "ythpamclljdcjpaagreatdoor", sum := "69c3034fd2b833790c297f614ac1979e4efc679c898fd2247c75afaac6b734fc", func := "loop.example/g00729/laws.FnGives", spec := "fnGives", inPlace := ["internal/reflectlite.TypeOf", "internal/reflectlite.ValueOf", "(internal/reflectlite.Value).Type", "(internal/reflectlite.Value).IsNil", "(internal/reflectlite.Value).Elem", "(internal/reflectlite.Value).Set"], unfollowed := true, recurses := true, named := ["loop.example/g00729/impl.errNoOp", "loop.example/g00729/impl.errNoPlace", "loop.example/g00729/impl.errInside", "loop.example/g00729/impl.errNoBlock", "errors.errorType"], ifaces := true, apart := false, laid := [("errors.errorType", laid_errors_errorType), ("loop.example/g00729/impl.errNoOp", laid_loop_example_g00729_impl_errNoOp), ("loop.example/g00729/impl.errNoBlock", laid_loop_example_g00729_impl_errNoBlock), ("loop.example/g00729/impl.errInside", laid_loop_example_g00729_impl_errInside), ("loop.example/g00729/impl.errNoPlace", laid_loop_example_g00729_impl_errNoPlace)] }
def FnGivesSaid : Prop := fnGivesRow.holds Tryz.pinned (OpenSpec.ofChange fnGivesSpec)

/-- ITS FALSE NEIGHBOUR: 'it returns false'. Refute it at one input. -/
def fnGivesWrong : ChangeSpec := { name := "fnGives", vars := ["loop.example/g00729/impl.errNoOp", "loop.example/g00729/impl.errNoPlace", "loop.example/g00729/impl.errInside", "loop.example/g00729/impl.errNoBlock"], fn := fun _ => fun
  | [d, g1, g2, g3, g4] => { results := [.lit (.bool false)], args := [d], vars := [g1, g2, g3, g4] }
  | _ => none }
def FnGivesWrongFalsely : Prop := fnGivesRow.holds Tryz.pinned (OpenSpec.ofChange fnGivesWrong)

/-- 'laws.FnPlaces': WHATEVER THE INPUT: true; the input reads as it did. -/
def fnPlacesSpec : ChangeSpec := { name := "fnPlaces", vars := ["loop.example/g00729/impl.errNoPlace"], fn := fun _ => fun
  | [d, g1] => { results := [.lit (.bool true)], args := [d], vars := [g1] }
  | _ => none }
def fnPlacesRow : OpenClaim := { program := "ythpamclljdcjpaagreatdoor", sum := "69c3034fd2b833790c297f614ac1979e4efc679c898fd2247c75afaac6b734fc", func := "loop.example/g00729/laws.FnPlaces", spec := "fnPlaces", inPlace := ["internal/reflectlite.TypeOf"], unfollowed := true, recurses := true, named := ["loop.example/g00729/impl.errNoPlace"], ifaces := true, apart := false, laid := [("loop.example/g00729/impl.errNoPlace", laid_loop_example_g00729_impl_errNoPlace)] }
def FnPlacesSaid : Prop := fnPlacesRow.holds Tryz.pinned (OpenSpec.ofChange fnPlacesSpec)

/-- ITS FALSE NEIGHBOUR: 'it returns false'. Refute it at one input. -/
def fnPlacesWrong : ChangeSpec := { name := "fnPlaces", vars := ["loop.example/g00729/impl.errNoPlace"], fn := fun _ => fun
  | [d, g1] => { results := [.lit (.bool false)], args := [d], vars := [g1] }
  | _ => none }
def FnPlacesWrongFalsely : Prop := fnPlacesRow.holds Tryz.pinned (OpenSpec.ofChange fnPlacesWrong)

/-- 'laws.FnRequests': WHATEVER THE INPUT: true; the input reads as it did. -/
def fnRequestsSpec : ChangeSpec := { name := "fnRequests", vars := ["loop.example/g00729/impl.errNoOp", "loop.example/g00729/impl.errNoPlace", "loop.example/g00729/impl.errInside", "loop.example/g00729/impl.errNoBlock"], fn := fun _ => fun
  | [d, g1, g2, g3, g4] => { results := [.lit (.bool true)], args := [d], vars := [g1, g2, g3, g4] }
  | _ => none }
def fnRequestsRow : OpenClaim := { program := "ythpamclljdcjpaagreatdoor", sum := "69c3034fd2b833790c297f614ac1979e4efc679c898fd2247c75afaac6b734fc", func := "loop.example/g00729/laws.FnRequests", spec := "fnRequests", inPlace := ["internal/reflectlite.TypeOf", "internal/reflectlite.ValueOf", "(internal/reflectlite.Value).Type", "(internal/reflectlite.Value).IsNil", "(internal/reflectlite.Value).Elem", "(internal/reflectlite.Value).Set"], unfollowed := true, recurses := true, named := ["loop.example/g00729/impl.errNoOp", "loop.example/g00729/impl.errNoPlace", "loop.example/g00729/impl.errInside", "loop.example/g00729/impl.errNoBlock", "errors.errorType"], ifaces := true, apart := false, laid := [("errors.errorType", laid_errors_errorType), ("loop.example/g00729/impl.errNoOp", laid_loop_example_g00729_impl_errNoOp), ("loop.example/g00729/impl.errNoBlock", laid_loop_example_g00729_impl_errNoBlock), ("loop.example/g00729/impl.errInside", laid_loop_example_g00729_impl_errInside), ("loop.example/g00729/impl.errNoPlace", laid_loop_example_g00729_impl_errNoPlace)] }
def FnRequestsSaid : Prop := fnRequestsRow.holds Tryz.pinned (OpenSpec.ofChange fnRequestsSpec)

/-- ITS FALSE NEIGHBOUR: 'it returns false'. Refute it at one input. -/
def fnRequestsWrong : ChangeSpec := { name := "fnRequests", vars := ["loop.example/g00729/impl.errNoOp", "loop.example/g00729/impl.errNoPlace", "loop.example/g00729/impl.errInside", "loop.example/g00729/impl.errNoBlock"], fn := fun _ => fun
  | [d, g1, g2, g3, g4] => { results := [.lit (.bool false)], args := [d], vars := [g1, g2, g3, g4] }
  | _ => none }
def FnRequestsWrongFalsely : Prop := fnRequestsRow.holds Tryz.pinned (OpenSpec.ofChange fnRequestsWrong)

/-- 'laws.FnExactDoHeap': WHATEVER THE INPUT: true; the input reads as it did. -/
def fnExactDoHeapSpec : ChangeSpec := { name := "fnExactDoHeap", vars := ["loop.example/g00729/impl.errNoOp", "loop.example/g00729/impl.errNoPlace", "loop.example/g00729/impl.errInside", "loop.example/g00729/impl.errNoBlock"], fn := fun _ => fun
  | [d1, d2, d3, g1, g2, g3, g4] => { results := [.lit (.bool true)], args := [d1, d2, d3], vars := [g1, g2, g3, g4] }
  | _ => none }
def fnExactDoHeapRow : OpenClaim := { program := "ythpamclljdcjpaagreatdoor", sum := "69c3034fd2b833790c297f614ac1979e4efc679c898fd2247c75afaac6b734fc", func := "loop.example/g00729/laws.FnExactDoHeap", spec := "fnExactDoHeap", inPlace := ["internal/reflectlite.TypeOf", "internal/reflectlite.ValueOf", "(internal/reflectlite.Value).Type", "(internal/reflectlite.Value).IsNil", "(internal/reflectlite.Value).Elem", "(internal/reflectlite.Value).Set"], unfollowed := true, recurses := true, named := ["loop.example/g00729/impl.errNoOp", "loop.example/g00729/impl.errNoPlace", "loop.example/g00729/impl.errInside", "loop.example/g00729/impl.errNoBlock", "errors.errorType"], ifaces := true, apart := false, laid := [("errors.errorType", laid_errors_errorType), ("loop.example/g00729/impl.errNoOp", laid_loop_example_g00729_impl_errNoOp), ("loop.example/g00729/impl.errNoBlock", laid_loop_example_g00729_impl_errNoBlock), ("loop.example/g00729/impl.errInside", laid_loop_example_g00729_impl_errInside), ("loop.example/g00729/impl.errNoPlace", laid_loop_example_g00729_impl_errNoPlace)] }
def FnExactDoHeapSaid : Prop := fnExactDoHeapRow.holds Tryz.pinned (OpenSpec.ofChange fnExactDoHeapSpec)

/-- ITS FALSE NEIGHBOUR: 'it returns false'. Refute it at one input. -/
def fnExactDoHeapWrong : ChangeSpec := { name := "fnExactDoHeap", vars := ["loop.example/g00729/impl.errNoOp", "loop.example/g00729/impl.errNoPlace", "loop.example/g00729/impl.errInside", "loop.example/g00729/impl.errNoBlock"], fn := fun _ => fun
  | [d1, d2, d3, g1, g2, g3, g4] => { results := [.lit (.bool false)], args := [d1, d2, d3], vars := [g1, g2, g3, g4] }
  | _ => none }
def FnExactDoHeapWrongFalsely : Prop := fnExactDoHeapRow.holds Tryz.pinned (OpenSpec.ofChange fnExactDoHeapWrong)

/-- 'laws.FnExactRunHeap': WHATEVER THE INPUT: true; the input reads as it did. -/
def fnExactRunHeapSpec : ChangeSpec := { name := "fnExactRunHeap", vars := ["loop.example/g00729/impl.errNoOp", "loop.example/g00729/impl.errNoPlace", "loop.example/g00729/impl.errInside", "loop.example/g00729/impl.errNoBlock"], fn := fun _ => fun
  | [d1, d2, g1, g2, g3, g4] => { results := [.lit (.bool true)], args := [d1, d2], vars := [g1, g2, g3, g4] }
  | _ => none }
def fnExactRunHeapRow : OpenClaim := { program := "ythpamclljdcjpaagreatdoor", sum := "69c3034fd2b833790c297f614ac1979e4efc679c898fd2247c75afaac6b734fc", func := "loop.example/g00729/laws.FnExactRunHeap", spec := "fnExactRunHeap", inPlace := ["internal/reflectlite.TypeOf", "internal/reflectlite.ValueOf", "(internal/reflectlite.Value).Type", "(internal/reflectlite.Value).IsNil", "(internal/reflectlite.Value).Elem", "(internal/reflectlite.Value).Set"], unfollowed := true, recurses := true, named := ["loop.example/g00729/impl.errNoOp", "loop.example/g00729/impl.errNoPlace", "loop.example/g00729/impl.errInside", "loop.example/g00729/impl.errNoBlock", "errors.errorType"], ifaces := true, apart := false, laid := [("errors.errorType", laid_errors_errorType), ("loop.example/g00729/impl.errNoOp", laid_loop_example_g00729_impl_errNoOp), ("loop.example/g00729/impl.errNoBlock", laid_loop_example_g00729_impl_errNoBlock), ("loop.example/g00729/impl.errInside", laid_loop_example_g00729_impl_errInside), ("loop.example/g00729/impl.errNoPlace", laid_loop_example_g00729_impl_errNoPlace)] }
def FnExactRunHeapSaid : Prop := fnExactRunHeapRow.holds Tryz.pinned (OpenSpec.ofChange fnExactRunHeapSpec)

/-- ITS FALSE NEIGHBOUR: 'it returns false'. Refute it at one input. -/
def fnExactRunHeapWrong : ChangeSpec := { name := "fnExactRunHeap", vars := ["loop.example/g00729/impl.errNoOp", "loop.example/g00729/impl.errNoPlace", "loop.example/g00729/impl.errInside", "loop.example/g00729/impl.errNoBlock"], fn := fun _ => fun
  | [d1, d2, g1, g2, g3, g4] => { results := [.lit (.bool false)], args := [d1, d2], vars := [g1, g2, g3, g4] }
  | _ => none }
def FnExactRunHeapWrongFalsely : Prop := fnExactRunHeapRow.holds Tryz.pinned (OpenSpec.ofChange fnExactRunHeapWrong)

/-- 'laws.FnExactIsPlaced': WHATEVER THE INPUT: true; the input reads as it did. -/
def fnExactIsPlacedSpec : ChangeSpec := { name := "fnExactIsPlaced", vars := ["loop.example/g00729/impl.errNoPlace"], fn := fun _ => fun
  | [d1, d2, g1] => { results := [.lit (.bool true)], args := [d1, d2], vars := [g1] }
  | _ => none }
def fnExactIsPlacedRow : OpenClaim := { program := "ythpamclljdcjpaagreatdoor", sum := "69c3034fd2b833790c297f614ac1979e4efc679c898fd2247c75afaac6b734fc", func := "loop.example/g00729/laws.FnExactIsPlaced", spec := "fnExactIsPlaced", inPlace := ["internal/reflectlite.TypeOf"], unfollowed := true, recurses := true, named := ["loop.example/g00729/impl.errNoPlace"], ifaces := true, apart := false, laid := [("loop.example/g00729/impl.errNoPlace", laid_loop_example_g00729_impl_errNoPlace)] }
def FnExactIsPlacedSaid : Prop := fnExactIsPlacedRow.holds Tryz.pinned (OpenSpec.ofChange fnExactIsPlacedSpec)

/-- ITS FALSE NEIGHBOUR: 'it returns false'. Refute it at one input. -/
def fnExactIsPlacedWrong : ChangeSpec := { name := "fnExactIsPlaced", vars := ["loop.example/g00729/impl.errNoPlace"], fn := fun _ => fun
  | [d1, d2, g1] => { results := [.lit (.bool false)], args := [d1, d2], vars := [g1] }
  | _ => none }
def FnExactIsPlacedWrongFalsely : Prop := fnExactIsPlacedRow.holds Tryz.pinned (OpenSpec.ofChange fnExactIsPlacedWrong)

/- THE SECOND FORM. 'bulk': how many values and letters a reading holds, each counted each time it is reached (what is shared counts as often as it is met; a slice's spare places count too). A statement '..UptoSaid' is the law's where the arguments, and the package variables that the reading takes, are together of bulk at most 1048576: NARROWER than '..Said'. Prove '..Said' where nothing that the law and all that it calls make is longer than what came in: it says more and counts as full. Else prove '..UptoSaid'. A law counts once. -/
mutual
def uptoBulk {H : Type} : DataW H → Nat
  | .lit (.string bytes) => bytes.length + 1
  | .lit _ => 1
  | .nil => 1
  | .ptr d => uptoBulk d + 1
  | .slice elems spare => uptoBulkAll elems + uptoBulkAll spare + 1
  | .agg parts => uptoBulkAll parts + 1
  | .iface _ d => uptoBulk d + 1
  | .map entries => uptoBulkEntries entries + 1
  | .held _ => 1
def uptoBulkAll {H : Type} : List (DataW H) → Nat
  | [] => 0
  | d :: r => uptoBulk d + uptoBulkAll r
def uptoBulkEntries {H : Type} : List (Lit × DataW H) → Nat
  | [] => 0
  | x :: r => uptoBulkEntry x + uptoBulkEntries r
def uptoBulkEntry {H : Type} : Lit × DataW H → Nat
  | (.string bytes, d) => bytes.length + uptoBulk d + 1
  | (_, d) => uptoBulk d + 1
 end
def uptoSmall : (H : Type) → List (DataW H) → Bool := fun _ ds => decide (uptoBulkAll ds ≤ 1048576)
def OpenSpec.upto (s : _root_.Go.ChangeSpec) : _root_.Go.OpenSpec := { _root_.Go.OpenSpec.ofChange s with cond := some uptoSmall }

/-- 'laws.FnDeeds', WHERE WHAT IT READS IS OF BULK AT MOST 1048576: true; the input reads as it did. -/
def fnDeedsUptoRow : OpenClaim := { program := "ythpamclljdcjpaagreatdoor", sum := "69c3034fd2b833790c297f614ac1979e4efc679c898fd2247c75afaac6b734fc", func := "loop.example/g00729/laws.FnDeeds", spec := "fnDeeds", inPlace := ["internal/reflectlite.TypeOf", "internal/reflectlite.ValueOf", "(internal/reflectlite.Value).Type", "(internal/reflectlite.Value).IsNil", "(internal/reflectlite.Value).Elem", "(internal/reflectlite.Value).Set"], unfollowed := true, recurses := true, named := ["loop.example/g00729/impl.errNoOp", "loop.example/g00729/impl.errNoPlace", "loop.example/g00729/impl.errInside", "loop.example/g00729/impl.errNoBlock", "errors.errorType"], ifaces := true, apart := false, laid := [("errors.errorType", laid_errors_errorType), ("loop.example/g00729/impl.errNoOp", laid_loop_example_g00729_impl_errNoOp), ("loop.example/g00729/impl.errNoBlock", laid_loop_example_g00729_impl_errNoBlock), ("loop.example/g00729/impl.errInside", laid_loop_example_g00729_impl_errInside), ("loop.example/g00729/impl.errNoPlace", laid_loop_example_g00729_impl_errNoPlace)], narrowed := true }
def FnDeedsUptoSaid : Prop := fnDeedsUptoRow.holds Tryz.pinned (OpenSpec.upto fnDeedsSpec)

/-- 'laws.FnGives', WHERE WHAT IT READS IS OF BULK AT MOST 1048576: true; the input reads as it did. -/
def fnGivesUptoRow : OpenClaim := { program := "ythpamclljdcjpaagreatdoor", sum := "69c3034fd2b833790c297f614ac1979e4efc679c898fd2247c75afaac6b734fc", func := "loop.example/g00729/laws.FnGives", spec := "fnGives", inPlace := ["internal/reflectlite.TypeOf", "internal/reflectlite.ValueOf", "(internal/reflectlite.Value).Type", "(internal/reflectlite.Value).IsNil", "(internal/reflectlite.Value).Elem", "(internal/reflectlite.Value).Set"], unfollowed := true, recurses := true, named := ["loop.example/g00729/impl.errNoOp", "loop.example/g00729/impl.errNoPlace", "loop.example/g00729/impl.errInside", "loop.example/g00729/impl.errNoBlock", "errors.errorType"], ifaces := true, apart := false, laid := [("errors.errorType", laid_errors_errorType), ("loop.example/g00729/impl.errNoOp", laid_loop_example_g00729_impl_errNoOp), ("loop.example/g00729/impl.errNoBlock", laid_loop_example_g00729_impl_errNoBlock), ("loop.example/g00729/impl.errInside", laid_loop_example_g00729_impl_errInside), ("loop.example/g00729/impl.errNoPlace", laid_loop_example_g00729_impl_errNoPlace)], narrowed := true }
def FnGivesUptoSaid : Prop := fnGivesUptoRow.holds Tryz.pinned (OpenSpec.upto fnGivesSpec)

/-- 'laws.FnPlaces', WHERE WHAT IT READS IS OF BULK AT MOST 1048576: true; the input reads as it did. -/
def fnPlacesUptoRow : OpenClaim := { program := "ythpamclljdcjpaagreatdoor", sum := "69c3034fd2b833790c297f614ac1979e4efc679c898fd2247c75afaac6b734fc", func := "loop.example/g00729/laws.FnPlaces", spec := "fnPlaces", inPlace := ["internal/reflectlite.TypeOf"], unfollowed := true, recurses := true, named := ["loop.example/g00729/impl.errNoPlace"], ifaces := true, apart := false, laid := [("loop.example/g00729/impl.errNoPlace", laid_loop_example_g00729_impl_errNoPlace)], narrowed := true }
def FnPlacesUptoSaid : Prop := fnPlacesUptoRow.holds Tryz.pinned (OpenSpec.upto fnPlacesSpec)

/-- 'laws.FnRequests', WHERE WHAT IT READS IS OF BULK AT MOST 1048576: true; the input reads as it did. -/
def fnRequestsUptoRow : OpenClaim := { program := "ythpamclljdcjpaagreatdoor", sum := "69c3034fd2b833790c297f614ac1979e4efc679c898fd2247c75afaac6b734fc", func := "loop.example/g00729/laws.FnRequests", spec := "fnRequests", inPlace := ["internal/reflectlite.TypeOf", "internal/reflectlite.ValueOf", "(internal/reflectlite.Value).Type", "(internal/reflectlite.Value).IsNil", "(internal/reflectlite.Value).Elem", "(internal/reflectlite.Value).Set"], unfollowed := true, recurses := true, named := ["loop.example/g00729/impl.errNoOp", "loop.example/g00729/impl.errNoPlace", "loop.example/g00729/impl.errInside", "loop.example/g00729/impl.errNoBlock", "errors.errorType"], ifaces := true, apart := false, laid := [("errors.errorType", laid_errors_errorType), ("loop.example/g00729/impl.errNoOp", laid_loop_example_g00729_impl_errNoOp), ("loop.example/g00729/impl.errNoBlock", laid_loop_example_g00729_impl_errNoBlock), ("loop.example/g00729/impl.errInside", laid_loop_example_g00729_impl_errInside), ("loop.example/g00729/impl.errNoPlace", laid_loop_example_g00729_impl_errNoPlace)], narrowed := true }
def FnRequestsUptoSaid : Prop := fnRequestsUptoRow.holds Tryz.pinned (OpenSpec.upto fnRequestsSpec)

/-- 'laws.FnExactDoHeap', WHERE WHAT IT READS IS OF BULK AT MOST 1048576: true; the input reads as it did. -/
def fnExactDoHeapUptoRow : OpenClaim := { program := "ythpamclljdcjpaagreatdoor", sum := "69c3034fd2b833790c297f614ac1979e4efc679c898fd2247c75afaac6b734fc", func := "loop.example/g00729/laws.FnExactDoHeap", spec := "fnExactDoHeap", inPlace := ["internal/reflectlite.TypeOf", "internal/reflectlite.ValueOf", "(internal/reflectlite.Value).Type", "(internal/reflectlite.Value).IsNil", "(internal/reflectlite.Value).Elem", "(internal/reflectlite.Value).Set"], unfollowed := true, recurses := true, named := ["loop.example/g00729/impl.errNoOp", "loop.example/g00729/impl.errNoPlace", "loop.example/g00729/impl.errInside", "loop.example/g00729/impl.errNoBlock", "errors.errorType"], ifaces := true, apart := false, laid := [("errors.errorType", laid_errors_errorType), ("loop.example/g00729/impl.errNoOp", laid_loop_example_g00729_impl_errNoOp), ("loop.example/g00729/impl.errNoBlock", laid_loop_example_g00729_impl_errNoBlock), ("loop.example/g00729/impl.errInside", laid_loop_example_g00729_impl_errInside), ("loop.example/g00729/impl.errNoPlace", laid_loop_example_g00729_impl_errNoPlace)], narrowed := true }
def FnExactDoHeapUptoSaid : Prop := fnExactDoHeapUptoRow.holds Tryz.pinned (OpenSpec.upto fnExactDoHeapSpec)

/-- 'laws.FnExactRunHeap', WHERE WHAT IT READS IS OF BULK AT MOST 1048576: true; the input reads as it did. -/
def fnExactRunHeapUptoRow : OpenClaim := { program := "ythpamclljdcjpaagreatdoor", sum := "69c3034fd2b833790c297f614ac1979e4efc679c898fd2247c75afaac6b734fc", func := "loop.example/g00729/laws.FnExactRunHeap", spec := "fnExactRunHeap", inPlace := ["internal/reflectlite.TypeOf", "internal/reflectlite.ValueOf", "(internal/reflectlite.Value).Type", "(internal/reflectlite.Value).IsNil", "(internal/reflectlite.Value).Elem", "(internal/reflectlite.Value).Set"], unfollowed := true, recurses := true, named := ["loop.example/g00729/impl.errNoOp", "loop.example/g00729/impl.errNoPlace", "loop.example/g00729/impl.errInside", "loop.example/g00729/impl.errNoBlock", "errors.errorType"], ifaces := true, apart := false, laid := [("errors.errorType", laid_errors_errorType), ("loop.example/g00729/impl.errNoOp", laid_loop_example_g00729_impl_errNoOp), ("loop.example/g00729/impl.errNoBlock", laid_loop_example_g00729_impl_errNoBlock), ("loop.example/g00729/impl.errInside", laid_loop_example_g00729_impl_errInside), ("loop.example/g00729/impl.errNoPlace", laid_loop_example_g00729_impl_errNoPlace)], narrowed := true }
def FnExactRunHeapUptoSaid : Prop := fnExactRunHeapUptoRow.holds Tryz.pinned (OpenSpec.upto fnExactRunHeapSpec)

/-- 'laws.FnExactIsPlaced', WHERE WHAT IT READS IS OF BULK AT MOST 1048576: true; the input reads as it did. -/
def fnExactIsPlacedUptoRow : OpenClaim := { program := "ythpamclljdcjpaagreatdoor", sum := "69c3034fd2b833790c297f614ac1979e4efc679c898fd2247c75afaac6b734fc", func := "loop.example/g00729/laws.FnExactIsPlaced", spec := "fnExactIsPlaced", inPlace := ["internal/reflectlite.TypeOf"], unfollowed := true, recurses := true, named := ["loop.example/g00729/impl.errNoPlace"], ifaces := true, apart := false, laid := [("loop.example/g00729/impl.errNoPlace", laid_loop_example_g00729_impl_errNoPlace)], narrowed := true }
def FnExactIsPlacedUptoSaid : Prop := fnExactIsPlacedUptoRow.holds Tryz.pinned (OpenSpec.upto fnExactIsPlacedSpec)

end Rows
end Go.Proofs.YthpamclljdcjpaaGreatDoor
