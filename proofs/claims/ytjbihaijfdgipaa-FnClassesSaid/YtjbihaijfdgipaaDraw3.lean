/- The draws of chapter 3: a number out of a few. -/
import Derived.Test.YtjbihaijfdgipaaSrc
namespace Go.Proofs.Ytjbihaijfdgipaa
open Go.RowKit

/-- What a draw of a number leaves. -/
def DrawnNum (w : World) (e : Ending) (w' : World) : Prop := ∃ r : Int, e = .returned (.int .i64 r) ∧ -1 ≤ r ∧ r ≤ 65 ∧ Below w.heap.size w w'
theorem small_of {xs : List Int} {r : Int} (h : r ∈ xs) (hx : within (-1) 65 xs = true) : -1 ≤ r ∧ r ≤ 65 := by
  have := List.all_eq_true.1 hx r h
  simpa using this

theorem drawClassOf_calls {ao : Option Addr} {nb cb : Nat} {bs : List Int} {w : World} (hb : Bytes w ao nb bs) (hn : nb ≤ 1048576) :
    Calls Try.prog 11 #[.slice ao nb cb] w (DrawnNum w) := by
  go_enter Try.func11, Try.ntmps11
  go_wp2_with fail
  refine (source_calls hb hn).mono ?_
  rintro e w1 ⟨rfl, S1, B1⟩
  have sl := S1.lt
  go_wp2_with fail
  refine (pick_calls (S1.below ((Below.refl _ _).alloc (Nat.le_refl _) _)) (by omega) (Ints.lit (n := 9) (xs := [1, 2, 3, 4, 5, 8, 0, 9, -1]) (by simp) rfl) (by omega) (by omega) (by simp; omega)).mono ?_
  rintro e w2 ⟨x, rfl, hx, _, hg⟩
  have hs := small_of hx (by decide)
  have B := below_of_grown (B1.alloc B1.size _) hg
  clear hx hg B1 S1
  go_wp2_with fail
  go_ret
  exact ⟨_, rfl, hs.1, hs.2, B⟩

theorem drawSizeOf_calls {ao : Option Addr} {nb cb : Nat} {bs : List Int} {w : World} (hb : Bytes w ao nb bs) (hn : nb ≤ 1048576) :
    Calls Try.prog 13 #[.slice ao nb cb] w (DrawnNum w) := by
  go_enter Try.func13, Try.ntmps13
  go_wp2_with fail
  refine (source_calls hb hn).mono ?_
  rintro e w1 ⟨rfl, S1, B1⟩
  have sl := S1.lt
  go_wp2_with fail
  refine (pick_calls (S1.below ((Below.refl _ _).alloc (Nat.le_refl _) _)) (by omega) (Ints.lit (n := 6) (xs := [0, 1, 2, 3, 4, -1]) (by simp) rfl) (by omega) (by omega) (by simp; omega)).mono ?_
  rintro e w2 ⟨x, rfl, hx, _, hg⟩
  have hs := small_of hx (by decide)
  have B := below_of_grown (B1.alloc B1.size _) hg
  clear hx hg B1 S1
  go_wp2_with fail
  go_ret
  exact ⟨_, rfl, hs.1, hs.2, B⟩

theorem drawPagesOf_calls {ao : Option Addr} {nb cb : Nat} {bs : List Int} {w : World} (hb : Bytes w ao nb bs) (hn : nb ≤ 1048576) :
    Calls Try.prog 16 #[.slice ao nb cb] w (DrawnNum w) := by
  go_enter Try.func16, Try.ntmps16
  go_wp2_with fail
  refine (source_calls hb hn).mono ?_
  rintro e w1 ⟨rfl, S1, B1⟩
  have sl := S1.lt
  go_wp2_with fail
  refine (pick_calls (S1.below ((Below.refl _ _).alloc (Nat.le_refl _) _)) (by omega) (Ints.lit (n := 8) (xs := [9, 16, 17, 32, 64, 65, 8, 0]) (by simp) rfl) (by omega) (by omega) (by simp; omega)).mono ?_
  rintro e w2 ⟨x, rfl, hx, _, hg⟩
  have hs := small_of hx (by decide)
  have B := below_of_grown (B1.alloc B1.size _) hg
  clear hx hg B1 S1
  go_wp2_with fail
  go_ret
  exact ⟨_, rfl, hs.1, hs.2, B⟩

theorem drawStepsOf_calls {ao : Option Addr} {nb cb : Nat} {bs : List Int} {w : World} (hb : Bytes w ao nb bs) (hn : nb ≤ 1048576) :
    Calls Try.prog 18 #[.slice ao nb cb] w (DrawnNum w) := by
  go_enter Try.func18, Try.ntmps18
  go_wp2_with fail
  refine (source_calls hb hn).mono ?_
  rintro e w1 ⟨rfl, S1, B1⟩
  go_wp2_with fail
  refine (next_calls S1 (by omega)).mono ?_
  rintro e w2 ⟨x, rfl, h0, h1, _, _, hg⟩
  have h2 := h1 (by omega)
  have B := below_of_grown B1 hg
  clear hg B1 S1 h1
  go_wp2_with fail
  go_ret
  exact ⟨_, rfl, by omega, by omega, B⟩
end Go.Proofs.Ytjbihaijfdgipaa
