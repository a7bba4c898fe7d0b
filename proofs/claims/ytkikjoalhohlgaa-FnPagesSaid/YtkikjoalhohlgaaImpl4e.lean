/- Chapter 4 of the program: where a block begins, how great it is. -/
import Derived.Test.YtkikjoalhohlgaaImpl4d
namespace Go.Proofs.Ytkikjoalhohlgaa
open Go.RowKit

/-- What is held has a place and a size of small numbers. -/
theorem held_slot_small {ps : List Pg} {a : Int} {c k : Int} {i s : Nat} (hv : pagesFault ps = 0) (h : heldAt ps a = (c, some (.slot i k s))) : 0 ≤ k ∧ k ≤ 3 ∧ (i : Int) ≤ 40 ∧ (s : Int) ≤ 15 := by
  obtain ⟨_, _, _, hi⟩ := held_info hv h
  rcases hi with ⟨i', k', s', p, he, hp, h1, h2, h0, h3, hu, hl, _, _, rfl⟩ | ⟨i', p, he, _⟩
  · injection he with e1 e2 e3
    subst e1 e2 e3
    have hil := (List.getElem?_eq_some_iff.1 hp).1
    have := (pagesFault_ok hv).1
    have := Nat.div_le_self (a.toNat % 16) (sizeW k).toNat
    exact ⟨h0, h3, by omega, by omega⟩
  · cases he
theorem held_run_small {ps : List Pg} {a : Int} {c m : Int} {i : Nat} (hv : pagesFault ps = 0) (h : heldAt ps a = (c, some (.run i m))) : 1 ≤ m ∧ m ≤ 4 ∧ (i : Int) + m ≤ ps.length ∧ ps.length ≤ 40 ∧ ∃ p, ps[i]? = some p ∧ p.kind = 2 ∧ p.run = m := by
  obtain ⟨_, _, _, hi⟩ := held_info hv h
  rcases hi with ⟨i', k', s', p, he, _⟩ | ⟨i', p, he, hp, h2, _⟩
  · cases he
  · injection he with e1 e2
    subst e1 e2
    have hr := ok_run hv hp h2
    have hf := run_fits hv hp h2
    exact ⟨hr.1, hr.2, hf, (pagesFault_ok hv).1, p, hp, h2, rfl⟩

set_option maxHeartbeats 2000000 in
theorem blockStart_calls {ao : Option Addr} {n cc : Nat} {at_ : Int} {ps : List Pg} {S : Nat → Prop} {w : World} (hT : Lst KPage w S ao n ps) (hS : ShortP 17592186044416 ps) (hn : n ≤ cc) (hc : cc ≤ 9223372036854775807) (hn4 : n ≤ 17592186044416) :
    Calls Try.prog 30 #[.slice ao n cc, .int .i64 at_] w (Pair w (blockStart ps at_)) := by
  rcases hh : heldAt ps at_ with ⟨c, b⟩
  rcases b with _ | b
  · have HR : Hid (blockStart ps at_ = (c, 0)) := by show _ = _; unfold blockStart; rw [hh]
    have hq : (c != 0) = true := by
      by_cases hv : pagesFault ps = 0
      · have := held_code hv hh; simp; omega
      · unfold heldAt at hh; rw [if_neg hv] at hh; injection hh with h1 _; simp; omega
    go_enter Try.func30, Try.ntmps30
    go_wp2_with fail
    refine (heldAt_calls (hT.alloc _) hS hn hc hn4).mono ?_
    rw [hh]
    rintro e w1 ⟨rfl, hb1⟩
    have hres := Row.new hb1
    have hb := below_past hb1
    clear hb1
    simp only [heldV, blkO, blkV]
    go_wp2_with (refine wpList_store_row rfl 38 _ _ rfl (w.heap.size) _ rfl rfl _ _ hres (by kernel_rfl) (by rfl) (by simp [Value.oneCell']) ?_)
    refine bodyPost_ret (results_cell_row rfl _ _ (w.heap.size) _ _ _ _ rfl (setRow_heap _ _ _ _ _ _ hres) Try.underlying38 rfl (by kernel_rfl)) rfl ?_
    exact pair_done hb (Nat.le_refl _) _ HR.out
  · by_cases hv : pagesFault ps = 0
    rotate_left
    · unfold heldAt at hh; rw [if_neg hv] at hh; cases hh
    have hc0 := (held_info hv hh).1
    subst hc0
    rcases b with ⟨i, k, s⟩ | ⟨i, m⟩
    · obtain ⟨h0, h3, hi, hs⟩ := held_slot_small hv hh
      have HR : Hid (blockStart ps at_ = (0, (i : Int) * 16 + s * sizeW k)) := by show _ = _; unfold blockStart; rw [hh]; rfl
      clear hv
      go_enter Try.func30, Try.ntmps30
      go_wp2_with fail
      refine (heldAt_calls (hT.alloc _) hS hn hc hn4).mono ?_
      rw [hh]
      rintro e w1 ⟨rfl, hb1⟩
      have hres := Row.new hb1
      have hb := below_past hb1
      clear hb1
      simp only [heldV, blkO, blkV]
      go_wp2_with fail
      refine (slotStart_calls h0 h3 (by omega) hi (by omega) hs).mono ?_
      rintro e w2 ⟨rfl, hb2⟩
      have hres2 := Row.below hres hb2
      have hb3 := hb.trans (hb2.mono hb.size)
      clear hb2
      go_wp2_with (refine wpList_store_row rfl 38 _ _ rfl (w.heap.size) _ rfl rfl _ _ hres2 (by kernel_rfl) (by rfl) (by simp [Value.oneCell']) ?_)
      refine bodyPost_ret (results_cell_row rfl _ _ (w.heap.size) _ _ _ _ rfl (setRow_heap _ _ _ _ _ _ hres2) Try.underlying38 rfl (by kernel_rfl)) rfl ?_
      exact pair_done hb3 (Nat.le_refl _) _ HR.out
    · obtain ⟨hm1, hm4, him, hl40, _⟩ := held_run_small hv hh
      have HR : Hid (blockStart ps at_ = (0, (i : Int) * 16)) := by show _ = _; unfold blockStart; rw [hh]; rfl
      clear hv
      go_enter Try.func30, Try.ntmps30
      go_wp2_with fail
      refine (heldAt_calls (hT.alloc _) hS hn hc hn4).mono ?_
      rw [hh]
      rintro e w1 ⟨rfl, hb1⟩
      have hres := Row.new hb1
      have hb := below_past hb1
      clear hb1
      simp only [heldV, blkO, blkV]
      go_wp2_with fail
      refine (runStart_calls (by omega) (by omega)).mono ?_
      rintro e w2 ⟨rfl, hb2⟩
      have hres2 := Row.below hres hb2
      have hb3 := hb.trans (hb2.mono hb.size)
      clear hb2
      go_wp2_with (refine wpList_store_row rfl 38 _ _ rfl (w.heap.size) _ rfl rfl _ _ hres2 (by kernel_rfl) (by rfl) (by simp [Value.oneCell']) ?_)
      refine bodyPost_ret (results_cell_row rfl _ _ (w.heap.size) _ _ _ _ rfl (setRow_heap _ _ _ _ _ _ hres2) Try.underlying38 rfl (by kernel_rfl)) rfl ?_
      exact pair_done hb3 (Nat.le_refl _) _ HR.out

set_option maxHeartbeats 2000000 in
theorem blockSize_calls {ao : Option Addr} {n cc : Nat} {at_ : Int} {ps : List Pg} {S : Nat → Prop} {w : World} (hT : Lst KPage w S ao n ps) (hS : ShortP 17592186044416 ps) (hn : n ≤ cc) (hc : cc ≤ 9223372036854775807) (hn4 : n ≤ 17592186044416) :
    Calls Try.prog 31 #[.slice ao n cc, .int .i64 at_] w (Pair w (blockSize ps at_)) := by
  rcases hh : heldAt ps at_ with ⟨c, b⟩
  rcases b with _ | b
  · have HR : Hid (blockSize ps at_ = (c, 0)) := by show _ = _; unfold blockSize; rw [hh]
    have hq : (c != 0) = true := by
      by_cases hv : pagesFault ps = 0
      · have := held_code hv hh; simp; omega
      · unfold heldAt at hh; rw [if_neg hv] at hh; injection hh with h1 _; simp; omega
    go_enter Try.func31, Try.ntmps31
    go_wp2_with fail
    refine (heldAt_calls (hT.alloc _) hS hn hc hn4).mono ?_
    rw [hh]
    rintro e w1 ⟨rfl, hb1⟩
    have hres := Row.new hb1
    have hb := below_past hb1
    clear hb1
    simp only [heldV, blkO, blkV]
    go_wp2_with (refine wpList_store_row rfl 38 _ _ rfl (w.heap.size) _ rfl rfl _ _ hres (by kernel_rfl) (by rfl) (by simp [Value.oneCell']) ?_)
    refine bodyPost_ret (results_cell_row rfl _ _ (w.heap.size) _ _ _ _ rfl (setRow_heap _ _ _ _ _ _ hres) Try.underlying38 rfl (by kernel_rfl)) rfl ?_
    exact pair_done hb (Nat.le_refl _) _ HR.out
  · by_cases hv : pagesFault ps = 0
    rotate_left
    · unfold heldAt at hh; rw [if_neg hv] at hh; cases hh
    have hc0 := (held_info hv hh).1
    subst hc0
    rcases b with ⟨i, k, s⟩ | ⟨i, m⟩
    · obtain ⟨h0, h3, hi, hs⟩ := held_slot_small hv hh
      have HR : Hid (blockSize ps at_ = (0, sizeW k)) := by show _ = _; unfold blockSize; rw [hh]; rfl
      clear hv
      go_enter Try.func31, Try.ntmps31
      go_wp2_with fail
      refine (heldAt_calls (hT.alloc _) hS hn hc hn4).mono ?_
      rw [hh]
      rintro e w1 ⟨rfl, hb1⟩
      have hres := Row.new hb1
      have hb := below_past hb1
      clear hb1
      simp only [heldV, blkO, blkV]
      go_wp2_with fail
      refine (slotSize_calls h0 h3).mono ?_
      rintro e w2 ⟨rfl, hb2⟩
      have hres2 := Row.below hres hb2
      have hb3 := hb.trans (hb2.mono hb.size)
      clear hb2
      go_wp2_with (refine wpList_store_row rfl 38 _ _ rfl (w.heap.size) _ rfl rfl _ _ hres2 (by kernel_rfl) (by rfl) (by simp [Value.oneCell']) ?_)
      refine bodyPost_ret (results_cell_row rfl _ _ (w.heap.size) _ _ _ _ rfl (setRow_heap _ _ _ _ _ _ hres2) Try.underlying38 rfl (by kernel_rfl)) rfl ?_
      exact pair_done hb3 (Nat.le_refl _) _ HR.out
    · obtain ⟨hm1, hm4, him, hl40, _⟩ := held_run_small hv hh
      have HR : Hid (blockSize ps at_ = (0, m * 16)) := by show _ = _; unfold blockSize; rw [hh]; rfl
      clear hv
      go_enter Try.func31, Try.ntmps31
      go_wp2_with fail
      refine (heldAt_calls (hT.alloc _) hS hn hc hn4).mono ?_
      rw [hh]
      rintro e w1 ⟨rfl, hb1⟩
      have hres := Row.new hb1
      have hb := below_past hb1
      clear hb1
      simp only [heldV, blkO, blkV]
      go_wp2_with fail
      refine (runSize_calls (by omega) hm4).mono ?_
      rintro e w2 ⟨rfl, hb2⟩
      have hres2 := Row.below hres hb2
      have hb3 := hb.trans (hb2.mono hb.size)
      clear hb2
      go_wp2_with (refine wpList_store_row rfl 38 _ _ rfl (w.heap.size) _ rfl rfl _ _ hres2 (by kernel_rfl) (by rfl) (by simp [Value.oneCell']) ?_)
      refine bodyPost_ret (results_cell_row rfl _ _ (w.heap.size) _ _ _ _ rfl (setRow_heap _ _ _ _ _ _ hres2) Try.underlying38 rfl (by kernel_rfl)) rfl ?_
      exact pair_done hb3 (Nat.le_refl _) _ HR.out

end Go.Proofs.Ytkikjoalhohlgaa
