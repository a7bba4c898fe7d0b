/- The source of draws, further: one that begins later, and a chance. -/
import Derived.Test.YtkikjoalhohlgaaSrc
namespace Go.Proofs.Ytkikjoalhohlgaa
open Go.RowKit

/-- What a chance leaves. -/
def Chances (w : World) (p k : Nat) (e : Ending) (w' : World) : Prop := ∃ b : Bool, e = .returned (.bool b) ∧ Src w' p (k + 1) ∧ w.grownBy w' (some p)
theorem chance_calls {p k : Nat} {n : Int} {w : World} (hs : Src w p k) (hk : k ≤ 4294967296) :
    Calls Try.prog 64 #[.pointer (some ⟨p, 0, none⟩), .int .i64 n] w (Chances w p k) := by
  go_enter Try.func64, Try.ntmps64
  go_wp2_with fail
  refine (next_calls hs hk).mono ?_
  rintro e w1 ⟨r, rfl, _, _, _, hs1, hg1⟩
  have F := Lib.hid (And.intro hs1 hg1)
  clear hs1 hg1
  go_wp2_with fail
  go_ret
  exact ⟨_, rfl, F.out.1, F.out.2⟩
end Go.Proofs.Ytkikjoalhohlgaa
