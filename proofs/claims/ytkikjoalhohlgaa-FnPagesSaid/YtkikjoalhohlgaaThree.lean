/- Chapter 3: what its functions answer, in plain words. -/
import Derived.Test.YtkikjoalhohlgaaTen
namespace Go.Proofs.Ytkikjoalhohlgaa
open Go.RowKit

/-- How many words a block of the class has. -/
def sizeW (c : Int) : Int := if c = 0 then 1 else if c = 1 then 2 else if c = 2 then 4 else 8
/-- The lowest class whose blocks have so many words. -/
def classW (s : Int) : Int := if s ≤ 1 then 0 else if s ≤ 2 then 1 else if s ≤ 4 then 2 else 3
/-- How many steps a kind takes. -/
def stepsW (k : Int) : Int := if k = 1 then 3 else if k = 2 then 4 else if k = 3 then 2 else if k = 4 then 5 else if k = 5 then 2 else if k = 6 then 2 else 1

def classOf (s : Int) : Int × Int := if within 1 8 [s] = true then (0, classW s) else (3, 0)
def sizeOf3 (c : Int) : Int × Int := if within 0 3 [c] = true then (0, sizeW c) else (3, 0)
def slotsOf (c : Int) : Int × Int := if within 0 3 [c] = true then (0, 16 / sizeW c) else (3, 0)
def pagesOf (s : Int) : Int × Int := if within 9 64 [s] = true then (0, (s + 15) / 16) else (3, 0)
def stepsOf (k : Int) : Int × Int := if within 1 8 [k] = true then (0, stepsW k) else (3, 0)

theorem within_yes1 {lo hi v : Int} (h1 : lo ≤ v) (h2 : v ≤ hi) : within lo hi [v] = true := by rw [within_one]; simp; omega
theorem within_no1 {lo hi v : Int} (h : v < lo ∨ hi < v) : within lo hi [v] = false := by rw [within_one]; simp; omega
theorem within_range {lo hi v : Int} (h : within lo hi [v] = true) : lo ≤ v ∧ v ≤ hi := by rw [within_one] at h; simpa using h

theorem classOf_yes {s : Int} (h1 : 1 ≤ s) (h2 : s ≤ 8) : classOf s = (0, classW s) := by unfold classOf; rw [if_pos (within_yes1 h1 h2)]
theorem classOf_no {s : Int} (h : within 1 8 [s] = false) : classOf s = (3, 0) := by unfold classOf; rw [h]; rfl
theorem sizeOf3_yes {c : Int} (h1 : 0 ≤ c) (h2 : c ≤ 3) : sizeOf3 c = (0, sizeW c) := by unfold sizeOf3; rw [if_pos (within_yes1 h1 h2)]
theorem sizeOf3_no {c : Int} (h : within 0 3 [c] = false) : sizeOf3 c = (3, 0) := by unfold sizeOf3; rw [h]; rfl
theorem slotsOf_yes {c : Int} (h1 : 0 ≤ c) (h2 : c ≤ 3) : slotsOf c = (0, 16 / sizeW c) := by unfold slotsOf; rw [if_pos (within_yes1 h1 h2)]
theorem slotsOf_no {c : Int} (h : within 0 3 [c] = false) : slotsOf c = (3, 0) := by unfold slotsOf; rw [h]; rfl
theorem pagesOf_yes {s : Int} (h1 : 9 ≤ s) (h2 : s ≤ 64) : pagesOf s = (0, (s + 15) / 16) := by unfold pagesOf; rw [if_pos (within_yes1 h1 h2)]
theorem pagesOf_no {s : Int} (h : within 9 64 [s] = false) : pagesOf s = (3, 0) := by unfold pagesOf; rw [h]; rfl
theorem stepsOf_yes {k : Int} (h1 : 1 ≤ k) (h2 : k ≤ 8) : stepsOf k = (0, stepsW k) := by unfold stepsOf; rw [if_pos (within_yes1 h1 h2)]
theorem stepsOf_no {k : Int} (h : within 1 8 [k] = false) : stepsOf k = (3, 0) := by unfold stepsOf; rw [h]; rfl

theorem sizeW_small (c : Int) : 1 ≤ sizeW c ∧ sizeW c ≤ 8 := by unfold sizeW; split <;> (try split) <;> (try split) <;> omega
theorem classW_small (s : Int) : 0 ≤ classW s ∧ classW s ≤ 3 := by unfold classW; split <;> (try split) <;> (try split) <;> omega
theorem stepsW_small (k : Int) : 1 ≤ stepsW k ∧ stepsW k ≤ 5 := by unfold stepsW; repeat' split; all_goals omega
theorem classW_holds {s : Int} (h2 : s ≤ 8) : s ≤ sizeW (classW s) := by
  unfold classW sizeW; repeat' split
  all_goals omega
theorem classW_lowest {s : Int} (h : classW s ≠ 0) : sizeW (classW s - 1) < s := by
  unfold classW sizeW at *; repeat' split
  all_goals (repeat' split at h); all_goals omega
theorem sizeW_slots {c : Int} (h1 : 0 ≤ c) (h2 : c ≤ 3) : sizeW c * (16 / sizeW c) = 16 := by
  rcases (show c = 0 ∨ c = 1 ∨ c = 2 ∨ c = 3 by omega) with rfl | rfl | rfl | rfl <;> decide
end Go.Proofs.Ytkikjoalhohlgaa
