/- Chapter 4's law: what holds of FindSlot, TakeRun, DropBlock that tell no code. -/
import Derived.Test.YtkikjoalhohlgaaFacts4b
import Derived.Test.YtkikjoalhohlgaaImpl3
namespace Go.Proofs.Ytkikjoalhohlgaa
open Go.RowKit

theorem start_of {ps : List Pg} {a : Int} {b : Blk} (h : heldAt ps a = (0, some b)) : blockStart ps a = (0, b.start) := by unfold blockStart; rw [h]
theorem size_of_held {ps : List Pg} {a : Int} {b : Blk} (h : heldAt ps a = (0, some b)) : blockSize ps a = (0, b.size) := by unfold blockSize; rw [h]
theorem drop_of {ps : List Pg} {a : Int} {b : Blk} (h : heldAt ps a = (0, some b)) (he : b.start = a) : dropBlock ps a = (0, dropBlk ps b, a) := by unfold dropBlock; rw [h]; simp only; rw [if_pos he]
/-- A slot that was found. -/
theorem find_ok {ps : List Pg} {c : Int} (h : (findSlot ps c).1 = 0) : ∃ (qs : List Pg) (a : Int), findSlot ps c = (0, qs, a) ∧ 0 ≤ a ∧ a ≤ 640 ∧ (blockStart ps a).1 = 4 ∧ blockStart qs a = (0, a) ∧ pagesFault qs = 0 ∧ dropBlock qs a = (0, ps, a) ∧ blockSize qs a = sizeOf3 c := by
  unfold findSlot at h ⊢
  by_cases hv : pagesFault ps = 0
  · rw [if_pos hv] at h ⊢
    rcases hw : within 0 3 [c] with _ | _
    · rw [hw] at h; simp at h
    · rw [hw] at h
      have hc := within_range hw
      simp only [if_true] at h ⊢
      cases hs : slotFor ps c with
      | none => rw [hs] at h; simp at h
      | some x =>
        obtain ⟨i, s⟩ := x
        obtain ⟨a, h1, h2, h3, h4, h5, h6⟩ := slot_taken hv hc.1 hc.2 hs
        have hr := block_range h3 h4
        have hl := (pagesFault_ok h3).1
        refine ⟨_, _, rfl, ?_⟩
        rw [h1]
        refine ⟨by omega, by omega, h2, by rw [start_of h4, h5], h3, by rw [drop_of h4 h5, h6], ?_⟩
        rw [size_of_held h4, sizeOf3_yes hc.1 hc.2]; rfl
  · rw [if_neg hv] at h; exact absurd h hv
/-- A run that was taken. -/
theorem take_ok {ps : List Pg} {a m : Int} (h : (takeRun ps a m).1 = 0) : ∃ (qs : List Pg) (k : Nat), m = k ∧ takeRun ps a m = (0, qs, a * 16) ∧ 0 ≤ a ∧ a ≤ 40 ∧ 1 ≤ k ∧ k ≤ 4 ∧ (∀ r : Int, 0 ≤ r → r < (k : Int) * 16 → blockSize qs (a * 16 + r) = (0, (k : Int) * 16)) ∧ pagesFault qs = 0 ∧ dropBlock qs (a * 16) = (0, ps, a * 16) := by
  unfold takeRun at h ⊢
  by_cases hv : pagesFault ps = 0
  · rw [if_pos hv] at h ⊢
    by_cases hc : within 1 4 [m] = true ∧ within 0 ((ps.length : Int) - m) [a] = true
    · rw [if_pos hc] at h ⊢
      have h1 := within_range hc.1
      have h2 := within_range hc.2
      obtain ⟨k, rfl⟩ := Int.eq_ofNat_of_zero_le (show 0 ≤ m by omega)
      obtain ⟨i, rfl⟩ := Int.eq_ofNat_of_zero_le (show 0 ≤ a by omega)
      have hl := (pagesFault_ok hv).1
      rw [Int.toNat_natCast, Int.toNat_natCast] at h ⊢
      by_cases hf : freeN k (ps.drop i) = true
      · rw [if_pos hf]
        obtain ⟨h3, h4, h5, h6⟩ := run_taken hv (i := i) (n := k) (by omega) (by omega) hf (by omega)
        have h50 : heldAt (putRun ps i k) ((i : Int) * 16) = (0, some (.run i k)) := by have := h5 0 (by omega); simpa using this
        refine ⟨_, k, rfl, rfl, by omega, by omega, by omega, by omega, fun r hr0 hr => ?_, h3, ?_⟩
        · have := h5 r.toNat (by omega)
          rw [show ((i * 16 + r.toNat : Nat) : Int) = (i : Int) * 16 + r by omega] at this
          exact size_of_held this
        · rw [drop_of h50 rfl, h6]
      · rw [if_neg hf] at h; simp at h
    · rw [if_neg hc] at h; simp at h
  · rw [if_neg hv] at h; exact absurd h hv
/-- A block that was dropped. -/
theorem drop_ok {ps : List Pg} {a : Int} (h : (dropBlock ps a).1 = 0) : ∃ qs : List Pg, dropBlock ps a = (0, qs, a) ∧ pagesFault qs = 0 ∧ (blockStart qs a).1 = 4 ∧ ∃ x y : Nat, usedInR qs = (0, (x : Int)) ∧ usedInR ps = (0, (y : Int)) ∧ x ≤ y := by
  unfold dropBlock at h ⊢
  rcases hh : heldAt ps a with ⟨c, b⟩
  cases b with
  | none =>
    rw [hh] at h
    by_cases hv : pagesFault ps = 0
    · have := held_code hv hh; simp only at h; omega
    · unfold heldAt at hh; rw [if_neg hv] at hh; simp at hh; simp only at h; exact absurd (hh.trans h) hv
  | some b =>
    rw [hh] at h
    simp only at h ⊢
    have hv : pagesFault ps = 0 := by
      by_cases hv : pagesFault ps = 0
      · exact hv
      · unfold heldAt at hh; rw [if_neg hv] at hh; simp at hh
    obtain rfl := (held_info hv hh).1
    by_cases he : b.start = a
    · rw [if_pos he]
      obtain ⟨h1, h2, h3, _⟩ := dropped hv hh he
      refine ⟨_, rfl, h1, by unfold blockStart; rw [h2], usedIn (dropBlk ps b), usedIn ps, by unfold usedInR; rw [if_pos h1], by unfold usedInR; rw [if_pos hv], h3⟩
    · rw [if_neg he] at h; simp at h
end Go.Proofs.Ytkikjoalhohlgaa
