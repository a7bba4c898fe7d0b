/- Chapter 4 of the program: what holds a block. -/
import Derived.Test.YtkikjoalhohlgaaImpl4c
import Derived.Handy
namespace Go.Proofs.Ytkikjoalhohlgaa
open Go.RowKit

def blkV : Blk → Value
  | .slot i c s => .iface 107 (.agg #[.int .i64 i, .int .i64 c, .int .i64 s])
  | .run i n => .iface 80 (.agg #[.int .i64 i, .int .i64 n])
def blkO : Option Blk → Value
  | none => .nilIface
  | some b => blkV b

theorem slotSize_calls {i c s : Int} {w : World} (h0 : 0 ≤ c) (h3 : c ≤ 3) :
    Calls Try.prog 121 #[.agg #[.int .i64 i, .int .i64 c, .int .i64 s]] w fun e w' => e = .returned (.int .i64 (sizeW c)) ∧ Below w.heap.size w w' := by
  go_enter Try.func121, Try.ntmps121
  go_wp2_with fail
  refine (wordsOfClass_calls h0 h3).mono ?_
  rintro e w' ⟨rfl, rfl⟩
  go_wp2_with fail
  go_ret
  exact ⟨rfl, (Below.refl _ _).alloc (Nat.le_refl _) _⟩

theorem runSize_calls {i n : Int} {w : World} (h0 : 0 ≤ n) (h3 : n ≤ 4) :
    Calls Try.prog 119 #[.agg #[.int .i64 i, .int .i64 n]] w fun e w' => e = .returned (.int .i64 (n * 16)) ∧ Below w.heap.size w w' := by
  go_enter Try.func119, Try.ntmps119
  go_wp2_with fail
  go_ret
  exact ⟨rfl, (Below.refl _ _).alloc (Nat.le_refl _) _⟩

theorem runStart_calls {i n : Int} {w : World} (h0 : 0 ≤ i) (h3 : i ≤ 40) :
    Calls Try.prog 120 #[.agg #[.int .i64 i, .int .i64 n]] w fun e w' => e = .returned (.int .i64 (i * 16)) ∧ Below w.heap.size w w' := by
  go_enter Try.func120, Try.ntmps120
  go_wp2_with fail
  go_ret
  exact ⟨rfl, (Below.refl _ _).alloc (Nat.le_refl _) _⟩

/-- Three cells, and all that was there, are kept. -/
theorem keep3 {W a b : World} {p q r : Addr} {x y z : Value} (h : a.cell? p = some x ∧ a.cell? q = some y ∧ a.cell? r = some z ∧ Below W.heap.size W a) (hb : Below a.heap.size a b) : b.cell? p = some x ∧ b.cell? q = some y ∧ b.cell? r = some z ∧ Below W.heap.size W b :=
  ⟨(hb.cell (World.block_lt_of_cell? _ _ h.1)).trans h.1, (hb.cell (World.block_lt_of_cell? _ _ h.2.1)).trans h.2.1, (hb.cell (World.block_lt_of_cell? _ _ h.2.2.1)).trans h.2.2.1, h.2.2.2.trans (hb.mono h.2.2.2.size)⟩

set_option maxHeartbeats 1000000 in
theorem slotStart_calls {i c s : Int} {w : World} (h0 : 0 ≤ c) (h3 : c ≤ 3) (hi0 : 0 ≤ i) (hi : i ≤ 40) (hs0 : 0 ≤ s) (hs : s ≤ 15) :
    Calls Try.prog 122 #[.agg #[.int .i64 i, .int .i64 c, .int .i64 s]] w fun e w' => e = .returned (.int .i64 (i * 16 + s * sizeW c)) ∧ Below w.heap.size w w' := by
  have hsz := sizeW_small c
  have hm0 : 0 ≤ s * sizeW c := Int.mul_nonneg hs0 (by omega)
  have hm1 : s * sizeW c ≤ 120 := by
    have := Int.mul_le_mul hs hsz.2 (by omega) (by omega)
    omega
  have hw1 : IntKind.i64.wrap (i * 16) = i * 16 := by rw [IntKind.wrap_i64]; omega
  have hw2 : IntKind.i64.wrap (s * sizeW c) = s * sizeW c := by rw [IntKind.wrap_i64]; omega
  have hw3 : IntKind.i64.wrap (i * 16 + s * sizeW c) = i * 16 + s * sizeW c := by rw [IntKind.wrap_i64]; omega
  obtain ⟨o, ho⟩ : ∃ o, o = Obj.cells #[.int .i64 i, .int .i64 c, .int .i64 s] 107 := ⟨_, rfl⟩
  have hrow : Row (w.alloc o) w.heap.size 107 #[.int .i64 i, .int .i64 c, .int .i64 s] := by rw [ho]; exact heap_alloc_new _ _
  have q0 : (w.alloc o).cell? ⟨w.heap.size, 0, none⟩ = some (.int .i64 i) := by rw [hrow.cell]; rfl
  have q1 : (w.alloc o).cell? ⟨w.heap.size, 1, none⟩ = some (.int .i64 c) := by rw [hrow.cell]; rfl
  have q2 : (w.alloc o).cell? ⟨w.heap.size, 2, none⟩ = some (.int .i64 s) := by rw [hrow.cell]; rfl
  have kB : Below w.heap.size w (w.alloc o) := (Below.refl _ _).alloc (Nat.le_refl _) o
  have kS : w.heap.size < (w.alloc o).heap.size := by simp
  subst ho
  go_enter Try.func122, Try.ntmps122
  go_wp2_with fail
  go_region_held3 (fun w' => w'.cell? ⟨w.heap.size, 0, none⟩ = some (.int .i64 i) ∧ w'.cell? ⟨w.heap.size, 1, none⟩ = some (.int .i64 c) ∧ w'.cell? ⟨w.heap.size, 2, none⟩ = some (.int .i64 s) ∧ Below w.heap.size w w') (first | assumption | exact ⟨q0, q1, q2, kB.drew⟩)
    ((go_at_call 121; obtain ⟨x0, x1, x2, kb⟩ := ‹_ ∧ _ ∧ _ ∧ Below _ _ _›; refine (slotSize_calls h0 h3).mono ?_; rintro e w' ⟨rfl, b1⟩; have hS' := keep3 ⟨x0, x1, x2, kb⟩ b1))
  have kb2 := hS'.2.2.2
  clear hS'
  go_wp2_with fail
  go_ret
  exact ⟨rfl, kb2⟩
end Go.Proofs.Ytkikjoalhohlgaa
