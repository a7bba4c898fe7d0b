/- Chapter 1, plain facts on words and frames. -/
import Derived.Test.YtfhdcbahgddlhaaBase
namespace Go.Proofs.Ytfhdcbahgddlhaa
open Go.RowKit

theorem getElem?_splice {α : Type} (L cs : List α) (off i : Nat) (h : off + cs.length ≤ L.length) :
    (splice L off cs)[i]? = if off ≤ i ∧ i < off + cs.length then cs[i - off]? else L[i]? := by
  unfold splice
  have hl : (L.take off).length = off := by simp; omega
  by_cases h1 : i < off
  · rw [List.getElem?_append_left (by omega), if_neg (by omega), List.getElem?_take, if_pos h1]
  · rw [List.getElem?_append_right (by omega), hl]
    by_cases h2 : i < off + cs.length
    · rw [List.getElem?_append_left (by omega), if_pos (by omega)]
    · rw [List.getElem?_append_right (by omega), if_neg (by omega), List.getElem?_drop]
      congr 1; omega
theorem getElem?_frameOf (xs : List Int) (f i : Nat) : (frameOf xs f)[i]? = if i < 16 then xs[f * 16 + i]? else none := by
  unfold frameOf
  rw [List.getElem?_take]
  split
  · rw [List.getElem?_drop]
  · rfl
theorem frameOf_put {xs page : List Int} {f : Nat} (hp : page.length = 16) (hf : (f + 1) * 16 ≤ xs.length) : frameOf (putFrame xs f page) f = page := by
  apply List.ext_getElem?
  intro i
  rw [getElem?_frameOf, putFrame, getElem?_splice _ _ _ _ (by omega)]
  split
  · rw [if_pos (by omega)]; congr 1; omega
  · rw [List.getElem?_eq_none (by omega)]
theorem frameOf_put_ne {xs page : List Int} {f g : Nat} (hp : page.length = 16) (hf : (f + 1) * 16 ≤ xs.length) (hne : g ≠ f) : frameOf (putFrame xs f page) g = frameOf xs g := by
  apply List.ext_getElem?
  intro i
  rw [getElem?_frameOf, getElem?_frameOf, putFrame, getElem?_splice _ _ _ _ (by omega)]
  split
  · rw [if_neg (by omega)]
  · rfl
theorem put_frameOf {xs : List Int} {f : Nat} {page : List Int} (hp : page.length = 16) (hf : (f + 1) * 16 ≤ xs.length) : putFrame (putFrame xs f page) f (frameOf xs f) = xs := by
  have hl := length_frameOf hf
  apply List.ext_getElem?
  intro i
  have h2 := length_putFrame (xs := xs) (page := page) (m := f) (by omega)
  rw [putFrame, getElem?_splice _ _ _ _ (by omega), hl]
  split
  · rw [getElem?_frameOf, if_pos (by omega)]; congr 1; omega
  · rw [putFrame, getElem?_splice _ _ _ _ (by omega), if_neg (by omega)]
theorem within_all {lo hi : Int} {xs : List Int} : within lo hi xs = true ↔ ∀ v ∈ xs, lo ≤ v ∧ v ≤ hi := by
  simp [within, List.all_eq_true]
theorem within_put {lo hi : Int} {xs page : List Int} {f : Nat} (h1 : within lo hi xs = true) (h2 : within lo hi page = true) : within lo hi (putFrame xs f page) = true := by
  rw [within_all] at *
  intro v hv
  unfold putFrame splice at hv
  rcases List.mem_append.1 hv with h | h
  · exact h1 v (List.mem_of_mem_take h)
  · rcases List.mem_append.1 h with h | h
    · exact h2 v h
    · exact h1 v (List.mem_of_mem_drop h)
theorem within_frameOf {lo hi : Int} {xs : List Int} {f : Nat} (h : within lo hi xs = true) : within lo hi (frameOf xs f) = true := by
  rw [within_all] at *
  exact fun v hv => h v (List.mem_of_mem_drop (List.mem_of_mem_take hv))
theorem arenaFault_put {xs page : List Int} {f : Nat} (ha : arenaFault xs = 0) (hf : (f + 1) * 16 ≤ xs.length) (hp : page.length = 16) (hw : within (-1000000000) 1000000000 page = true) : arenaFault (putFrame xs f page) = 0 := by
  have h := arenaFault_ok ha
  unfold arenaFault
  rw [length_putFrame (by omega), if_neg (by omega), if_pos (within_put h.2.2.2 hw)]
theorem frameFault_of {xs : List Int} {f : Int} (ha : arenaFault xs = 0) (h0 : 0 ≤ f) (h1 : (f + 1) * 16 ≤ xs.length) : frameFault xs f = 0 := by
  unfold frameFault
  rw [if_pos ha, if_pos]
  rw [within_one]; simp; omega
theorem zeros_within (n : Nat) : within (-1000000000) 1000000000 (List.replicate n 0) = true := by
  rw [within_all]; intro v hv; have := List.eq_of_mem_replicate hv; omega

/-- What was written is read, and all other frames are as they were. -/
theorem write_ok {xs page : List Int} {f : Int} (h : (writeFrame xs f page).1 = 0) :
    (writeFrame xs f page).2.length = xs.length ∧ frameWords (writeFrame xs f page).2 f = (0, page) ∧ ∀ g : Int, 0 ≤ g → (g + 1) * 16 ≤ xs.length → g ≠ f → frameWords (writeFrame xs f page).2 g = frameWords xs g := by
  unfold writeFrame at h ⊢
  split at h
  · rename_i h0
    obtain ⟨h1, h2, h3⟩ := frameFault_ok h0
    have hlen : (f.toNat + 1) * 16 ≤ xs.length := by omega
    split at h
    · rename_i h16
      split at h
      · rename_i hw
        rw [if_pos h0, if_pos h16, if_pos hw]
        have hl := length_putFrame (xs := xs) (page := page) (m := f.toNat) (by omega)
        have hfault : ∀ g : Int, 0 ≤ g → (g + 1) * 16 ≤ xs.length → frameFault (putFrame xs f.toNat page) g = 0 := fun g g0 g1 => frameFault_of (arenaFault_put h1 hlen h16 hw) g0 (by rw [hl]; exact g1)
        refine ⟨hl, ?_, fun g g0 g1 hne => ?_⟩
        · unfold frameWords
          rw [if_pos (hfault f h2 h3), frameOf_put h16 hlen]
        · unfold frameWords
          rw [if_pos (hfault g g0 g1), if_pos (frameFault_of h1 g0 g1), frameOf_put_ne h16 hlen (by omega)]
      · simp at h
    · simp at h
  · rename_i h0; exact absurd h h0

theorem zero_ok {xs : List Int} {f : Int} (h : (zeroFrame xs f).1 = 0) :
    isZeroFrame (zeroFrame xs f).2 f = true ∧ writeFrame (zeroFrame xs f).2 f (frameWords xs f).2 = (0, xs) ∧ frameFault xs f = 0 := by
  unfold zeroFrame at h ⊢
  split at h
  · rename_i h0
    obtain ⟨h1, h2, h3⟩ := frameFault_ok h0
    have hlen : (f.toNat + 1) * 16 ≤ xs.length := by omega
    rw [if_pos h0]
    have hl := length_putFrame (xs := xs) (page := List.replicate 16 0) (m := f.toNat) (by rw [List.length_replicate]; omega)
    have hz : frameFault (putFrame xs f.toNat (List.replicate 16 0)) f = 0 := frameFault_of (arenaFault_put h1 hlen (by simp) (zeros_within _)) h2 (by rw [hl]; exact h3)
    refine ⟨?_, ?_, h0⟩
    · unfold isZeroFrame
      rw [hz, frameOf_put (by simp) hlen]; simp
    · unfold writeFrame frameWords
      rw [if_pos h0, if_pos hz, if_pos (length_frameOf hlen), if_pos (within_frameOf (arenaFault_ok h1).2.2.2), put_frameOf (by simp) hlen]
  · rename_i h0; exact absurd h h0

theorem new_ok {n : Int} (h : (newArena n).1 = 0) : ((newArena n).2.length : Int) = n * 16 ∧ isZeroFrame (newArena n).2 (n - 1) = true ∧ 1 ≤ n ∧ n ≤ 40 := by
  unfold newArena at h ⊢
  split at h
  · rename_i hw
    rw [if_pos hw]
    rw [within_one] at hw
    simp at hw
    have hlen : (List.replicate (n.toNat * 16) (0 : Int)).length = n.toNat * 16 := by simp
    have ha : arenaFault (List.replicate (n.toNat * 16) 0) = 0 := by
      unfold arenaFault; rw [hlen, if_neg (by omega), if_pos (zeros_within _)]
    have hz : frameFault (List.replicate (n.toNat * 16) 0) (n - 1) = 0 := frameFault_of ha (by omega) (by rw [hlen]; omega)
    refine ⟨by rw [hlen]; omega, ?_, hw.1, hw.2⟩
    unfold isZeroFrame
    rw [hz]
    simp only [decide_true, Bool.true_and, decide_eq_true_iff]
    apply List.ext_getElem?
    intro i
    rw [getElem?_frameOf, List.getElem?_replicate, List.getElem?_replicate]
    split
    · rw [if_pos (by omega)]
    · rfl
  · simp at h
end Go.Proofs.Ytfhdcbahgddlhaa
