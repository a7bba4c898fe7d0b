/-
  No cell of these rows narrows 'for every input' (looked for: loops, veiled, ifaces, maps, wideKeys, modest, calm, conditions, laid).
  DERIVED. THE GIVEN ROWS OF THIS SEAT. 8 by the template 'for every input the law returns true; each argument reads behind the call as it read before'; 0 by the template 'total and deterministic' (their statements: YtoaeglhjaandmaaTotals.lean).
  GIVEN WITH THE SEED: the statements are not yours to turn. If you find one false, say at which input.
  Laid BY PROGRAM, IN A SANDBOX (cutbox-rows.mjs): the forced cells as the released guide's own fill.sh prints them over the translation e162525b54f5d1bb… (all of the seat's roots in one cut). By AI agents, Wed Nov 11 2026. No macro, syntax, notation, axiom, sorry.
-/
import Derived.Test.YtoaeglhjaandmaaChecked
import GoSem.Claim
import GoSem.ClaimJoined
import GoSem.ClaimMapViews
import Derived.JoinedTies
import Derived.KernelRfl
namespace Go.Proofs.Ytoaeglhjaandmaa
/- THE CELL 'sum', in the pinned program and in every row, IS THE sha256 OF THE DUMP (.gsa) THAT YtoaeglhjaandmaaProg.lean LOADS. Nothing in Lean hashes anything: it is a label: what it is worth is what the hold of that sum in a sandbox is worth. -/
noncomputable def Try.pinned : Pinned := { name := "ytoaeglhjaandmaa", sum := "e162525b54f5d1bb43b2493046c9b18c4638264b422b73652e7781b3f467bf08", checked := Try.checked }
namespace Rows
def none {H : Type} : Left H := { results := [], args := [] }

/-- 'laws.FnTables': WHATEVER THE INPUT: true; the input reads as it did. -/
def fnTablesSpec : ChangeSpec := { name := "fnTables", fn := fun _ => fun
  | [d] => { results := [.lit (.bool true)], args := [d] }
  | _ => none }
def fnTablesRow : OpenClaim := { program := "ytoaeglhjaandmaa", sum := "e162525b54f5d1bb43b2493046c9b18c4638264b422b73652e7781b3f467bf08", func := "loop.example/g00729/laws.FnTables", spec := "fnTables", unfollowed := true, recurses := true, plainKeys := false, apart := false }
def FnTablesSaid : Prop := fnTablesRow.holds Try.pinned (OpenSpec.ofChange fnTablesSpec)

/-- ITS FALSE NEIGHBOUR: 'it returns false'. Refute it at one input. -/
def fnTablesWrong : ChangeSpec := { name := "fnTables", fn := fun _ => fun
  | [d] => { results := [.lit (.bool false)], args := [d] }
  | _ => none }
def FnTablesWrongFalsely : Prop := fnTablesRow.holds Try.pinned (OpenSpec.ofChange fnTablesWrong)

/-- 'laws.FnExactTableFault': WHATEVER THE INPUT: true; the input reads as it did. -/
def fnExactTableFaultSpec : ChangeSpec := { name := "fnExactTableFault", fn := fun _ => fun
  | [d1, d2] => { results := [.lit (.bool true)], args := [d1, d2] }
  | _ => none }
def fnExactTableFaultRow : OpenClaim := { program := "ytoaeglhjaandmaa", sum := "e162525b54f5d1bb43b2493046c9b18c4638264b422b73652e7781b3f467bf08", func := "loop.example/g00729/laws.FnExactTableFault", spec := "fnExactTableFault", unfollowed := true, recurses := true, plainKeys := false, apart := false }
def FnExactTableFaultSaid : Prop := fnExactTableFaultRow.holds Try.pinned (OpenSpec.ofChange fnExactTableFaultSpec)

/-- ITS FALSE NEIGHBOUR: 'it returns false'. Refute it at one input. -/
def fnExactTableFaultWrong : ChangeSpec := { name := "fnExactTableFault", fn := fun _ => fun
  | [d1, d2] => { results := [.lit (.bool false)], args := [d1, d2] }
  | _ => none }
def FnExactTableFaultWrongFalsely : Prop := fnExactTableFaultRow.holds Try.pinned (OpenSpec.ofChange fnExactTableFaultWrong)

/-- 'laws.FnExactGrantPage': WHATEVER THE INPUT: true; the input reads as it did. -/
def fnExactGrantPageSpec : ChangeSpec := { name := "fnExactGrantPage", fn := fun _ => fun
  | [d1, d2, d3] => { results := [.lit (.bool true)], args := [d1, d2, d3] }
  | _ => none }
def fnExactGrantPageRow : OpenClaim := { program := "ytoaeglhjaandmaa", sum := "e162525b54f5d1bb43b2493046c9b18c4638264b422b73652e7781b3f467bf08", func := "loop.example/g00729/laws.FnExactGrantPage", spec := "fnExactGrantPage", unfollowed := true, recurses := true, plainKeys := false, apart := false }
def FnExactGrantPageSaid : Prop := fnExactGrantPageRow.holds Try.pinned (OpenSpec.ofChange fnExactGrantPageSpec)

/-- ITS FALSE NEIGHBOUR: 'it returns false'. Refute it at one input. -/
def fnExactGrantPageWrong : ChangeSpec := { name := "fnExactGrantPage", fn := fun _ => fun
  | [d1, d2, d3] => { results := [.lit (.bool false)], args := [d1, d2, d3] }
  | _ => none }
def FnExactGrantPageWrongFalsely : Prop := fnExactGrantPageRow.holds Try.pinned (OpenSpec.ofChange fnExactGrantPageWrong)

/-- 'laws.FnExactRevokePage': WHATEVER THE INPUT: true; the input reads as it did. -/
def fnExactRevokePageSpec : ChangeSpec := { name := "fnExactRevokePage", fn := fun _ => fun
  | [d1, d2, d3] => { results := [.lit (.bool true)], args := [d1, d2, d3] }
  | _ => none }
def fnExactRevokePageRow : OpenClaim := { program := "ytoaeglhjaandmaa", sum := "e162525b54f5d1bb43b2493046c9b18c4638264b422b73652e7781b3f467bf08", func := "loop.example/g00729/laws.FnExactRevokePage", spec := "fnExactRevokePage", unfollowed := true, recurses := true, plainKeys := false, apart := false }
def FnExactRevokePageSaid : Prop := fnExactRevokePageRow.holds Try.pinned (OpenSpec.ofChange fnExactRevokePageSpec)

/-- ITS FALSE NEIGHBOUR: 'it returns false'. Refute it at one input. -/
def fnExactRevokePageWrong : ChangeSpec := { name := "fnExactRevokePage", fn := fun _ => fun
  | [d1, d2, d3] => { results := [.lit (.bool false)], args := [d1, d2, d3] }
  | _ => none }
def FnExactRevokePageWrongFalsely : Prop := fnExactRevokePageRow.holds Try.pinned (OpenSpec.ofChange fnExactRevokePageWrong)

/-- 'laws.FnExactTranslate': WHATEVER THE INPUT: true; the input reads as it did. -/
def fnExactTranslateSpec : ChangeSpec := { name := "fnExactTranslate", fn := fun _ => fun
  | [d1, d2, d3] => { results := [.lit (.bool true)], args := [d1, d2, d3] }
  | _ => none }
def fnExactTranslateRow : OpenClaim := { program := "ytoaeglhjaandmaa", sum := "e162525b54f5d1bb43b2493046c9b18c4638264b422b73652e7781b3f467bf08", func := "loop.example/g00729/laws.FnExactTranslate", spec := "fnExactTranslate", unfollowed := true, recurses := true, plainKeys := false, apart := false }
def FnExactTranslateSaid : Prop := fnExactTranslateRow.holds Try.pinned (OpenSpec.ofChange fnExactTranslateSpec)

/-- ITS FALSE NEIGHBOUR: 'it returns false'. Refute it at one input. -/
def fnExactTranslateWrong : ChangeSpec := { name := "fnExactTranslate", fn := fun _ => fun
  | [d1, d2, d3] => { results := [.lit (.bool false)], args := [d1, d2, d3] }
  | _ => none }
def FnExactTranslateWrongFalsely : Prop := fnExactTranslateRow.holds Try.pinned (OpenSpec.ofChange fnExactTranslateWrong)

/-- 'laws.FnExactGatherWords': WHATEVER THE INPUT: true; the input reads as it did. -/
def fnExactGatherWordsSpec : ChangeSpec := { name := "fnExactGatherWords", fn := fun _ => fun
  | [d1, d2, d3] => { results := [.lit (.bool true)], args := [d1, d2, d3] }
  | _ => none }
def fnExactGatherWordsRow : OpenClaim := { program := "ytoaeglhjaandmaa", sum := "e162525b54f5d1bb43b2493046c9b18c4638264b422b73652e7781b3f467bf08", func := "loop.example/g00729/laws.FnExactGatherWords", spec := "fnExactGatherWords", unfollowed := true, recurses := true, plainKeys := false, apart := false }
def FnExactGatherWordsSaid : Prop := fnExactGatherWordsRow.holds Try.pinned (OpenSpec.ofChange fnExactGatherWordsSpec)

/-- ITS FALSE NEIGHBOUR: 'it returns false'. Refute it at one input. -/
def fnExactGatherWordsWrong : ChangeSpec := { name := "fnExactGatherWords", fn := fun _ => fun
  | [d1, d2, d3] => { results := [.lit (.bool false)], args := [d1, d2, d3] }
  | _ => none }
def FnExactGatherWordsWrongFalsely : Prop := fnExactGatherWordsRow.holds Try.pinned (OpenSpec.ofChange fnExactGatherWordsWrong)

/-- 'laws.FnExactScatterWords': WHATEVER THE INPUT: true; the input reads as it did. -/
def fnExactScatterWordsSpec : ChangeSpec := { name := "fnExactScatterWords", fn := fun _ => fun
  | [d1, d2, d3, d4] => { results := [.lit (.bool true)], args := [d1, d2, d3, d4] }
  | _ => none }
def fnExactScatterWordsRow : OpenClaim := { program := "ytoaeglhjaandmaa", sum := "e162525b54f5d1bb43b2493046c9b18c4638264b422b73652e7781b3f467bf08", func := "loop.example/g00729/laws.FnExactScatterWords", spec := "fnExactScatterWords", unfollowed := true, recurses := true, plainKeys := false, apart := false }
def FnExactScatterWordsSaid : Prop := fnExactScatterWordsRow.holds Try.pinned (OpenSpec.ofChange fnExactScatterWordsSpec)

/-- ITS FALSE NEIGHBOUR: 'it returns false'. Refute it at one input. -/
def fnExactScatterWordsWrong : ChangeSpec := { name := "fnExactScatterWords", fn := fun _ => fun
  | [d1, d2, d3, d4] => { results := [.lit (.bool false)], args := [d1, d2, d3, d4] }
  | _ => none }
def FnExactScatterWordsWrongFalsely : Prop := fnExactScatterWordsRow.holds Try.pinned (OpenSpec.ofChange fnExactScatterWordsWrong)

/-- 'laws.FnExactSameTables': WHATEVER THE INPUT: true; the input reads as it did. -/
def fnExactSameTablesSpec : ChangeSpec := { name := "fnExactSameTables", fn := fun _ => fun
  | [d1, d2] => { results := [.lit (.bool true)], args := [d1, d2] }
  | _ => none }
def fnExactSameTablesRow : OpenClaim := { program := "ytoaeglhjaandmaa", sum := "e162525b54f5d1bb43b2493046c9b18c4638264b422b73652e7781b3f467bf08", func := "loop.example/g00729/laws.FnExactSameTables", spec := "fnExactSameTables", plainKeys := false, apart := false }
def FnExactSameTablesSaid : Prop := fnExactSameTablesRow.holds Try.pinned (OpenSpec.ofChange fnExactSameTablesSpec)

/-- ITS FALSE NEIGHBOUR: 'it returns false'. Refute it at one input. -/
def fnExactSameTablesWrong : ChangeSpec := { name := "fnExactSameTables", fn := fun _ => fun
  | [d1, d2] => { results := [.lit (.bool false)], args := [d1, d2] }
  | _ => none }
def FnExactSameTablesWrongFalsely : Prop := fnExactSameTablesRow.holds Try.pinned (OpenSpec.ofChange fnExactSameTablesWrong)

/- THE SECOND FORM. 'bulk': how many values and letters a reading holds, each counted each time it is reached (what is shared counts as often as it is met; a slice's spare places count too). A statement '..UptoSaid' is the law's where the arguments, and the package variables that the reading takes, are together of bulk at most 1048576: NARROWER than '..Said'. Prove '..Said' where nothing that the law and all that it calls make is longer than what came in: it says more and counts as full. Else prove '..UptoSaid'. A law counts once. -/
mutual
def uptoBulk {H : Type} : DataW H → Nat
  | .lit (.string bytes) => bytes.length + 1
  | .lit _ => 1
  | .nil => 1
  | .ptr d => uptoBulk d + 1
  | .slice elems spare => uptoBulkAll elems + uptoBulkAll spare + 1
  | .agg parts => uptoBulkAll parts + 1
  | .iface _ d => uptoBulk d + 1
  | .map entries => uptoBulkEntries entries + 1
  | .held _ => 1
def uptoBulkAll {H : Type} : List (DataW H) → Nat
  | [] => 0
  | d :: r => uptoBulk d + uptoBulkAll r
def uptoBulkEntries {H : Type} : List (Lit × DataW H) → Nat
  | [] => 0
  | x :: r => uptoBulkEntry x + uptoBulkEntries r
def uptoBulkEntry {H : Type} : Lit × DataW H → Nat
  | (.string bytes, d) => bytes.length + uptoBulk d + 1
  | (_, d) => uptoBulk d + 1
 end
def uptoSmall : (H : Type) → List (DataW H) → Bool := fun _ ds => decide (uptoBulkAll ds ≤ 1048576)
def OpenSpec.upto (s : _root_.Go.ChangeSpec) : _root_.Go.OpenSpec := { _root_.Go.OpenSpec.ofChange s with cond := some uptoSmall }

/-- 'laws.FnTables', WHERE WHAT IT READS IS OF BULK AT MOST 1048576: true; the input reads as it did. -/
def fnTablesUptoRow : OpenClaim := { program := "ytoaeglhjaandmaa", sum := "e162525b54f5d1bb43b2493046c9b18c4638264b422b73652e7781b3f467bf08", func := "loop.example/g00729/laws.FnTables", spec := "fnTables", unfollowed := true, recurses := true, plainKeys := false, apart := false, narrowed := true }
def FnTablesUptoSaid : Prop := fnTablesUptoRow.holds Try.pinned (OpenSpec.upto fnTablesSpec)

/-- 'laws.FnExactTableFault', WHERE WHAT IT READS IS OF BULK AT MOST 1048576: true; the input reads as it did. -/
def fnExactTableFaultUptoRow : OpenClaim := { program := "ytoaeglhjaandmaa", sum := "e162525b54f5d1bb43b2493046c9b18c4638264b422b73652e7781b3f467bf08", func := "loop.example/g00729/laws.FnExactTableFault", spec := "fnExactTableFault", unfollowed := true, recurses := true, plainKeys := false, apart := false, narrowed := true }
def FnExactTableFaultUptoSaid : Prop := fnExactTableFaultUptoRow.holds Try.pinned (OpenSpec.upto fnExactTableFaultSpec)

/-- 'laws.FnExactGrantPage', WHERE WHAT IT READS IS OF BULK AT MOST 1048576: true; the input reads as it did. -/
def fnExactGrantPageUptoRow : OpenClaim := { program := "ytoaeglhjaandmaa", sum := "e162525b54f5d1bb43b2493046c9b18c4638264b422b73652e7781b3f467bf08", func := "loop.example/g00729/laws.FnExactGrantPage", spec := "fnExactGrantPage", unfollowed := true, recurses := true, plainKeys := false, apart := false, narrowed := true }
def FnExactGrantPageUptoSaid : Prop := fnExactGrantPageUptoRow.holds Try.pinned (OpenSpec.upto fnExactGrantPageSpec)

/-- 'laws.FnExactRevokePage', WHERE WHAT IT READS IS OF BULK AT MOST 1048576: true; the input reads as it did. -/
def fnExactRevokePageUptoRow : OpenClaim := { program := "ytoaeglhjaandmaa", sum := "e162525b54f5d1bb43b2493046c9b18c4638264b422b73652e7781b3f467bf08", func := "loop.example/g00729/laws.FnExactRevokePage", spec := "fnExactRevokePage", unfollowed := true, recurses := true, plainKeys := false, apart := false, narrowed := true }
def FnExactRevokePageUptoSaid : Prop := fnExactRevokePageUptoRow.holds Try.pinned (OpenSpec.upto fnExactRevokePageSpec)

/-- 'laws.FnExactTranslate', WHERE WHAT IT READS IS OF BULK AT MOST 1048576: true; the input reads as it did. -/
def fnExactTranslateUptoRow : OpenClaim := { program := "ytoaeglhjaandmaa", sum := "e162525b54f5d1bb43b2493046c9b18c4638264b422b73652e7781b3f467bf08", func := "loop.example/g00729/laws.FnExactTranslate", spec := "fnExactTranslate", unfollowed := true, recurses := true, plainKeys := false, apart := false, narrowed := true }
def FnExactTranslateUptoSaid : Prop := fnExactTranslateUptoRow.holds Try.pinned (OpenSpec.upto fnExactTranslateSpec)

/-- 'laws.FnExactGatherWords', WHERE WHAT IT READS IS OF BULK AT MOST 1048576: true; the input reads as it did. -/
def fnExactGatherWordsUptoRow : OpenClaim := { program := "ytoaeglhjaandmaa", sum := "e162525b54f5d1bb43b2493046c9b18c4638264b422b73652e7781b3f467bf08", func := "loop.example/g00729/laws.FnExactGatherWords", spec := "fnExactGatherWords", unfollowed := true, recurses := true, plainKeys := false, apart := false, narrowed := true }
def FnExactGatherWordsUptoSaid : Prop := fnExactGatherWordsUptoRow.holds Try.pinned (OpenSpec.upto fnExactGatherWordsSpec)

/-- 'laws.FnExactScatterWords', WHERE WHAT IT READS IS OF BULK AT MOST 1048576: true; the input reads as it did. -/
def fnExactScatterWordsUptoRow : OpenClaim := { program := "ytoaeglhjaandmaa", sum := "e162525b54f5d1bb43b2493046c9b18c4638264b422b73652e7781b3f467bf08", func := "loop.example/g00729/laws.FnExactScatterWords", spec := "fnExactScatterWords", unfollowed := true, recurses := true, plainKeys := false, apart := false, narrowed := true }
def FnExactScatterWordsUptoSaid : Prop := fnExactScatterWordsUptoRow.holds Try.pinned (OpenSpec.upto fnExactScatterWordsSpec)

/-- 'laws.FnExactSameTables', WHERE WHAT IT READS IS OF BULK AT MOST 1048576: true; the input reads as it did. -/
def fnExactSameTablesUptoRow : OpenClaim := { program := "ytoaeglhjaandmaa", sum := "e162525b54f5d1bb43b2493046c9b18c4638264b422b73652e7781b3f467bf08", func := "loop.example/g00729/laws.FnExactSameTables", spec := "fnExactSameTables", plainKeys := false, apart := false, narrowed := true }
def FnExactSameTablesUptoSaid : Prop := fnExactSameTablesUptoRow.holds Try.pinned (OpenSpec.upto fnExactSameTablesSpec)

end Rows
end Go.Proofs.Ytoaeglhjaandmaa
