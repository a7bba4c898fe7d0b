/- The contracts of the helpers of the laws over slices of whole numbers: copy, compare, mark, hold. -/
import Derived.Test.YtkikjoalhohlgaaBase
namespace Go.Proofs.Ytkikjoalhohlgaa
open Go.RowKit

theorem info64 : (Try.prog.info? 2).map (fun i => (i.zero, i.size, i.bytes)) = some (some (.int .i64 0), 1, 8) := by kernel_rfl

theorem take_eq_snoc {xs ys : List Int} {k : Nat} (hx : k < xs.length) (hy : k < ys.length) (h : xs.take k = ys.take k) (e : (xs[k] != ys[k]) = false) : xs.take (k + 1) = ys.take (k + 1) := by
  have e' : xs[k] = ys[k] := by simpa using e
  rw [List.take_succ_eq_append_getElem hx, List.take_succ_eq_append_getElem hy, h, e']

theorem ne_of_at {xs ys : List Int} {k : Nat} (hx : k < xs.length) (hy : k < ys.length) (e : (xs[k] != ys[k]) = true) : decide (xs = ys) = false := by
  simp only [decide_eq_false_iff_not]; rintro rfl; simp at e

/-- What a call that makes one new slice of numbers leaves. -/
def Makes (w : World) (n : Nat) (xs : List Int) (e : Ending) (w' : World) : Prop := ∃ v, e = .returned v ∧ OwnI w' w.heap.size v n xs ∧ Below w.heap.size w w'

theorem set_own {w : World} {B g n cap : Nat} {xs : List Int} {k : Nat} (hk : k < xs.length) (h : w.ownsRow B 2 1 (.slice (some ⟨g, 0, none⟩) n cap) n ((fill xs k).map (Value.int .i64))) :
    (w.setCell ⟨g, k, none⟩ (.int .i64 xs[k])).ownsRow B 2 1 (.slice (some ⟨g, 0, none⟩) n cap) n ((fill xs (k + 1)).map (Value.int .i64)) := by
  have := (h.stored k (.int .i64 xs[k])).1
  rw [← fill_step xs hk, List.map_set]
  exact this

end Go.Proofs.Ytkikjoalhohlgaa
