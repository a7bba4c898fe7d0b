/- Chapter 4 of the program: why pages are none. -/
import Derived.Test.YtkikjoalhohlgaaImpl4
import Derived.Test.YtkikjoalhohlgaaSpec4b
import Derived.Test.YtkikjoalhohlgaaPair
namespace Go.Proofs.Ytkikjoalhohlgaa
open Go.RowKit

/-- What a call that answers a page leaves. -/
def GivesPg (w : World) (S : Nat → Prop) (n : Nat) (q : Pg) (e : Ending) (w' : World) : Prop := ∃ a m c, e = .returned (.agg #[.int .i64 q.kind, .int .i64 q.cls, .slice a m c, .int .i64 q.run]) ∧ m ≤ n ∧ Lst KBool w' S a m q.used ∧ Below w.heap.size w w'

theorem neededOf_calls {a : Option Addr} {n cc : Nat} {p : Pg} {S : Nat → Prop} {w : World} (hu : Lst KBool w S a n p.used) :
    Calls Try.prog 84 #[.agg #[.int .i64 p.kind, .int .i64 p.cls, .slice a n cc, .int .i64 p.run]] w (GivesPg w S n (needed p)) := by
  by_cases h1 : p.kind = 1
  · have HN : Hid (needed p = ⟨1, p.cls, p.used, 0⟩) := by show _ = _; unfold needed; rw [if_pos h1]
    rw [h1]
    clear h1
    have hres := heap_alloc2_new w (.cells #[.int .i64 1, .int .i64 p.cls, .slice a n cc, .int .i64 p.run] 45) (.cells #[.int .i64 0, .int .i64 0, .slice none 0 0, .int .i64 0] 45)
    go_enter Try.func84, Try.ntmps84
    go_wp2_with (refine wpList_store_row rfl 45 _ _ rfl (w.heap.size + 1) _ rfl rfl _ _ hres (by kernel_rfl) (by rfl) (by simp [Value.oneCell']) ?_)
    refine bodyPost_ret (results_cell_row rfl _ _ (w.heap.size + 1) _ _ _ _ rfl (setRow_heap _ _ _ _ _ _ hres) Try.underlying45 rfl (by kernel_rfl)) rfl ?_
    have hb := below_setRow (((Below.refl w.heap.size w).alloc (Nat.le_refl _) (.cells #[.int .i64 1, .int .i64 p.cls, .slice a n cc, .int .i64 p.run] 45)).alloc (by simp) (.cells #[.int .i64 0, .int .i64 0, .slice none 0 0, .int .i64 0] 45)) (show w.heap.size ≤ w.heap.size + 1 by omega)
    rw [HN.out]
    exact ⟨_, _, _, rfl, Nat.le_refl _, hu.below (hb _), hb _⟩
  by_cases h2 : p.kind = 2
  · have HN : Hid (needed p = ⟨2, 0, [], p.run⟩) := by show _ = _; unfold needed; rw [if_neg h1, if_pos h2]
    rw [h2]
    clear h1 h2
    have hres := heap_alloc2_new w (.cells #[.int .i64 2, .int .i64 p.cls, .slice a n cc, .int .i64 p.run] 45) (.cells #[.int .i64 0, .int .i64 0, .slice none 0 0, .int .i64 0] 45)
    go_enter Try.func84, Try.ntmps84
    go_wp2_with (refine wpList_store_row rfl 45 _ _ rfl (w.heap.size + 1) _ rfl rfl _ _ hres (by kernel_rfl) (by rfl) (by simp [Value.oneCell']) ?_)
    refine bodyPost_ret (results_cell_row rfl _ _ (w.heap.size + 1) _ _ _ _ rfl (setRow_heap _ _ _ _ _ _ hres) Try.underlying45 rfl (by kernel_rfl)) rfl ?_
    have hb := below_setRow (((Below.refl w.heap.size w).alloc (Nat.le_refl _) (.cells #[.int .i64 2, .int .i64 p.cls, .slice a n cc, .int .i64 p.run] 45)).alloc (by simp) (.cells #[.int .i64 0, .int .i64 0, .slice none 0 0, .int .i64 0] 45)) (show w.heap.size ≤ w.heap.size + 1 by omega)
    rw [HN.out]
    exact ⟨_, _, _, rfl, Nat.zero_le _, Lst.nil, hb _⟩
  have HN : Hid (needed p = ⟨p.kind, 0, [], 0⟩) := by show _ = _; unfold needed; rw [if_neg h1, if_neg h2]
  have q1 : (p.kind == 1) = false := by simpa using h1
  have q2 : (p.kind == 2) = false := by simpa using h2
  clear h1 h2
  have hres := heap_alloc2_new w (.cells #[.int .i64 p.kind, .int .i64 p.cls, .slice a n cc, .int .i64 p.run] 45) (.cells #[.int .i64 0, .int .i64 0, .slice none 0 0, .int .i64 0] 45)
  go_enter Try.func84, Try.ntmps84
  go_wp2_with (refine wpList_store_row rfl 45 _ _ rfl (w.heap.size + 1) _ rfl rfl _ _ hres (by kernel_rfl) (by rfl) (by simp [Value.oneCell']) ?_)
  refine bodyPost_ret (results_cell_row rfl _ _ (w.heap.size + 1) _ _ _ _ rfl (setRow_heap _ _ _ _ _ _ hres) Try.underlying45 rfl (by kernel_rfl)) rfl ?_
  have hb := below_setRow (((Below.refl w.heap.size w).alloc (Nat.le_refl _) (.cells #[.int .i64 p.kind, .int .i64 p.cls, .slice a n cc, .int .i64 p.run] 45)).alloc (by simp) (.cells #[.int .i64 0, .int .i64 0, .slice none 0 0, .int .i64 0] 45)) (show w.heap.size ≤ w.heap.size + 1 by omega)
  rw [HN.out]
  exact ⟨_, _, _, rfl, Nat.zero_le _, Lst.nil, hb _⟩

set_option maxHeartbeats 1000000 in
theorem samePage_calls {a b : Option Addr} {n m c d : Nat} {p q : Pg} {S S' : Nat → Prop} {w : World} (ha : Lst KBool w S a n p.used) (hb : Lst KBool w S' b m q.used) (hn : n ≤ 17592186044416) (hm : m ≤ 17592186044416) :
    Calls Try.prog 75 #[.agg #[.int .i64 p.kind, .int .i64 p.cls, .slice a n c, .int .i64 p.run], .agg #[.int .i64 q.kind, .int .i64 q.cls, .slice b m d, .int .i64 q.run]] w fun e w' => e = .returned (.bool (decide (p = q))) ∧ Below w.heap.size w w' := by
  by_cases k0 : p.kind = q.kind
  rotate_left
  · have HF : Hid (decide (p = q) = false) := by show _ = _; rw [decide_eq_false_iff_not]; exact fun h => k0 (by rw [h])
    have gk0 : (p.kind == q.kind) = false := by simpa using k0
    clear k0
    go_enter Try.func75, Try.ntmps75
    go_wp2_with (go_quiet (fail))
    go_ret
    exact ⟨ret_bool HF.out.symm, ((Below.refl _ _).alloc (Nat.le_refl _) _).alloc (by simp) _⟩
  have gk0 : (p.kind == q.kind) = true := by simpa using k0
  by_cases k1 : p.cls = q.cls
  rotate_left
  · have HF : Hid (decide (p = q) = false) := by show _ = _; rw [decide_eq_false_iff_not]; exact fun h => k1 (by rw [h])
    have gk1 : (p.cls == q.cls) = false := by simpa using k1
    clear k1
    go_enter Try.func75, Try.ntmps75
    go_wp2_with (go_quiet (fail))
    go_ret
    exact ⟨ret_bool HF.out.symm, ((Below.refl _ _).alloc (Nat.le_refl _) _).alloc (by simp) _⟩
  have gk1 : (p.cls == q.cls) = true := by simpa using k1
  by_cases k2 : p.run = q.run
  rotate_left
  · have HF : Hid (decide (p = q) = false) := by show _ = _; rw [decide_eq_false_iff_not]; exact fun h => k2 (by rw [h])
    have gk2 : (p.run == q.run) = false := by simpa using k2
    clear k2
    go_enter Try.func75, Try.ntmps75
    go_wp2_with (go_quiet (fail))
    go_ret
    exact ⟨ret_bool HF.out.symm, ((Below.refl _ _).alloc (Nat.le_refl _) _).alloc (by simp) _⟩
  have gk2 : (p.run == q.run) = true := by simpa using k2
  have HF : Hid (decide (p.used = q.used) = decide (p = q)) := by
    show _ = _
    congr 1
    rw [eq_iff_iff]
    exact ⟨fun h => Pg.ext_ k0 k1 h k2, fun h => by rw [h]⟩
  clear k0 k1 k2
  go_enter Try.func75, Try.ntmps75
  go_wp2_with fail
  refine (equalB_calls ((ha.alloc _).alloc _) ((hb.alloc _).alloc _) hn hm).mono ?_
  rw [HF.out]
  rintro e w1 ⟨rfl, hb1⟩
  go_wp2_with fail
  go_ret
  exact ⟨rfl, (((Below.refl _ _).alloc (Nat.le_refl _) _).alloc (by simp) _).trans (hb1.mono (by simp; omega))⟩

theorem slots_known {c : Int} {w : World} (h0 : 0 ≤ c) (h3 : c ≤ 3) : Calls Try.prog 96 #[.int .i64 c] w fun e w' => e = .returned (.agg #[.int .i64 0, .int .i64 (16 / sizeW c)]) ∧ Below w.heap.size w w' :=
  slotsOf_calls.mono fun e w' h => by rw [slotsOf_yes h0 h3] at h; exact h
/-- Two cells, and all that was there, are kept. -/
theorem keep2 {W a b : World} {p q : Addr} {x y : Value} (h : a.cell? p = some x ∧ a.cell? q = some y ∧ Below W.heap.size W a) (hb : Below a.heap.size a b) : b.cell? p = some x ∧ b.cell? q = some y ∧ Below W.heap.size W b :=
  ⟨(hb.cell (World.block_lt_of_cell? _ _ h.1)).trans h.1, (hb.cell (World.block_lt_of_cell? _ _ h.2.1)).trans h.2.1, h.2.2.trans (hb.mono h.2.2.size)⟩
/-- Of a box, its four cells; what was there is kept. -/
def Box4 (W : World) (b : Nat) (x0 x1 x2 x3 : Value) (w' : World) : Prop := w'.cell? ⟨b, 0, none⟩ = some x0 ∧ w'.cell? ⟨b, 1, none⟩ = some x1 ∧ w'.cell? ⟨b, 2, none⟩ = some x2 ∧ w'.cell? ⟨b, 3, none⟩ = some x3 ∧ Below W.heap.size W w'

set_option maxHeartbeats 1000000 in
theorem usedFault_calls {a : Option Addr} {n cc : Nat} {p : Pg} {S : Nat → Prop} {w : World} (hu : Lst KBool w S a n p.used) (hn : n ≤ 17592186044416) (h0 : 0 ≤ p.cls) (h3 : p.cls ≤ 3) :
    Calls Try.prog 85 #[.agg #[.int .i64 p.kind, .int .i64 p.cls, .slice a n cc, .int .i64 p.run]] w fun e w' => e = .returned (.int .i64 (usedF p)) ∧ Below w.heap.size w w' := by
  obtain ⟨o, ho⟩ : ∃ o, o = Obj.cells #[.int .i64 p.kind, .int .i64 p.cls, .slice a n cc, .int .i64 p.run] 45 := ⟨_, rfl⟩
  have hrow : Row (w.alloc o) w.heap.size 45 #[.int .i64 p.kind, .int .i64 p.cls, .slice a n cc, .int .i64 p.run] := by rw [ho]; exact heap_alloc_new _ _
  have q1 : (w.alloc o).cell? ⟨w.heap.size, 1, none⟩ = some (.int .i64 p.cls) := by rw [hrow.cell]; rfl
  have q2 : (w.alloc o).cell? ⟨w.heap.size, 2, none⟩ = some (.slice a n cc) := by rw [hrow.cell]; rfl
  have kB : Below w.heap.size w (w.alloc o) := (Below.refl _ _).alloc (Nat.le_refl _) o
  have kS : w.heap.size < (w.alloc o).heap.size := by simp
  have hL := hu.1
  have rf := fun W => run_field_P1 W (.int .i64 0) (.int .i64 (16 / sizeW p.cls))
  have hu1 := hu.alloc o
  have HU : Hid (usedF p = if (n : Int) = 16 / sizeW p.cls then (if anyB p.used = true then 0 else 4) else 2) := by show _ = _; unfold usedF; rw [hL]
  clear hL
  subst ho
  by_cases hs : (n : Int) = 16 / sizeW p.cls
  rotate_left
  · have HF : Hid (usedF p = 2) := by show _ = _; rw [HU.out, if_neg hs]
    have hq : ((n : Int) != 16 / sizeW p.cls) = true := by simpa using hs
    clear hs
    go_enter Try.func85, Try.ntmps85
    go_wp2_with fail
    go_region_held3 (fun w' => w'.cell? ⟨w.heap.size, 1, none⟩ = some (.int .i64 p.cls) ∧ w'.cell? ⟨w.heap.size, 2, none⟩ = some (.slice a n cc) ∧ Below w.heap.size w w') (first | assumption | exact ⟨q1, q2, kB.drew⟩)
      ((go_at_call 96; obtain ⟨x1, x2, kb⟩ := ‹_ ∧ _ ∧ Below _ _ _›; refine (slots_known h0 h3).mono ?_; rintro e w' ⟨rfl, b1⟩; have hS' := keep2 ⟨x1, x2, kb⟩ b1))
    have kb2 := hS'.2.2
    clear hS'
    go_wp2_with fail
    go_ret
    exact ⟨ret_int HF.out.symm, kb2⟩
  have hq : ((n : Int) != 16 / sizeW p.cls) = false := by simpa using hs
  have HU2 : Hid (usedF p = if anyB p.used = true then 0 else 4) := by show _ = _; rw [HU.out, if_pos hs]
  clear hs
  rcases hx : anyB p.used with _ | _
  · have HF : Hid (usedF p = 4) := by show _ = _; rw [HU2.out, hx]; rfl
    go_enter Try.func85, Try.ntmps85
    go_wp2_with fail
    go_region_held3 (fun w' => w'.cell? ⟨w.heap.size, 1, none⟩ = some (.int .i64 p.cls) ∧ w'.cell? ⟨w.heap.size, 2, none⟩ = some (.slice a n cc) ∧ Below w.heap.size w w') (first | assumption | exact ⟨q1, q2, kB.drew⟩)
      ((go_at_call 96; obtain ⟨x1, x2, kb⟩ := ‹_ ∧ _ ∧ Below _ _ _›; refine (slots_known h0 h3).mono ?_; rintro e w' ⟨rfl, b1⟩; have hS' := keep2 ⟨x1, x2, kb⟩ b1))
    have kb2 := hS'.2.2
    have z2 := hS'.2.1
    clear hS'
    go_wp2_with fail
    refine (containsB_calls (hu.below kb2) hn).mono ?_
    rw [hx]
    rintro e w1 ⟨rfl, rfl⟩
    go_wp2_with fail
    go_ret
    exact ⟨ret_int HF.out.symm, kb2⟩
  · have HF : Hid (usedF p = 0) := by show _ = _; rw [HU2.out, hx]; rfl
    go_enter Try.func85, Try.ntmps85
    go_wp2_with fail
    go_region_held3 (fun w' => w'.cell? ⟨w.heap.size, 1, none⟩ = some (.int .i64 p.cls) ∧ w'.cell? ⟨w.heap.size, 2, none⟩ = some (.slice a n cc) ∧ Below w.heap.size w w') (first | assumption | exact ⟨q1, q2, kB.drew⟩)
      ((go_at_call 96; obtain ⟨x1, x2, kb⟩ := ‹_ ∧ _ ∧ Below _ _ _›; refine (slots_known h0 h3).mono ?_; rintro e w' ⟨rfl, b1⟩; have hS' := keep2 ⟨x1, x2, kb⟩ b1))
    have kb2 := hS'.2.2
    have z2 := hS'.2.1
    clear hS'
    go_wp2_with fail
    refine (containsB_calls (hu.below kb2) hn).mono ?_
    rw [hx]
    rintro e w1 ⟨rfl, rfl⟩
    go_wp2_with fail
    go_ret
    exact ⟨ret_int HF.out.symm, kb2⟩
end Go.Proofs.Ytkikjoalhohlgaa
