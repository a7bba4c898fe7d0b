/- Results of two numbers, compared. -/
import Derived.Test.YtkikjoalhohlgaaTen
import Derived.Laws.StructEq
namespace Go.Proofs.Ytkikjoalhohlgaa
open Go.RowKit

theorem eqPair_calls {x y : Int} {w : World} :
    Calls Try.prog 56 #[.agg #[.int .i64 x, .int .i64 y], .agg #[.int .i64 x, .int .i64 y]] w fun e w' => e = .returned (.bool true) ∧ Below w.heap.size w w' := by
  have h1 : (x != x) = false := by simp
  have h2 : (y != y) = false := by simp
  go_enter Try.func56, Try.ntmps56
  go_wp2_with (go_quiet (fail))
  go_ret
  exact ⟨rfl, ((Below.refl _ _).alloc (Nat.le_refl _) _).alloc (by simp) _⟩

theorem run_eqPair (x y : Int) (d : Nat) (u : World) : (Op.equalIn (d + 2) 38 (.agg #[.int .i64 x, .int .i64 y]) (.agg #[.int .i64 x, .int .i64 y])).run Try.prog u = .ok true u := by
  rw [run_equalIn_struct u (d + 1) _ _ _ (by kernel_rfl) (by kernel_rfl)]
  have hf : Try.prog.fieldsOf 38 = #[{ name := "Code", type := 2, offset := 0, embedded := false, tag := "", pkgPath := "", byteOffset := 0 }, { name := "Value", type := 2, offset := 1, embedded := false, tag := "", pkgPath := "", byteOffset := 8 }] := by kernel_rfl
  rw [hf]
  have p0 := run_part_plain (P := Try.prog) u (e := 2) (by kernel_rfl) (xs := #[.int .i64 x, .int .i64 y]) (off := 0) (v := .int .i64 x) (by simp)
  have p1 := run_part_plain (P := Try.prog) u (e := 2) (by kernel_rfl) (xs := #[.int .i64 x, .int .i64 y]) (off := 1) (v := .int .i64 y) (by simp)
  simp [Op.eqFields, p0, p1, run_equalIn_int u d 2 .i64 .i64 _ _ Try.underlying2]
theorem run_neqPair (x y : Int) (u : World) : (binOp .neq 38 (.agg #[.int .i64 x, .int .i64 y]) (.agg #[.int .i64 x, .int .i64 y])).run Try.prog u = .ok (.bool false) u := by
  rw [run_neq_struct, run_eqPair]; rfl
theorem run_eqlPair (x y : Int) (u : World) : (binOp .eql 38 (.agg #[.int .i64 x, .int .i64 y]) (.agg #[.int .i64 x, .int .i64 y])).run Try.prog u = .ok (.bool true) u := by
  rw [run_eql_struct, run_eqPair]; rfl
theorem run_field_P (u : World) (x v : Value) : (Instr.field 38 (.agg #[x, v]) 0).run Try.prog u = .ok x u := by
  simp [Instr.field, run_underlying Try.underlying38, part, isAgg, run_underlying Try.underlying2, asAgg]
theorem run_field_P1 (u : World) (x v : Value) : (Instr.field 38 (.agg #[x, v]) 1).run Try.prog u = .ok v u := by
  simp [Instr.field, run_underlying Try.underlying38, part, isAgg, run_underlying Try.underlying2, asAgg]
end Go.Proofs.Ytkikjoalhohlgaa
