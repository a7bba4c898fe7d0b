/- The laws' helpers over configs: how great one is, its copy, and whether two are the same. -/
import Derived.Test.YtmibekddapnaaaaTen
namespace Go.Proofs.Ytmibekddapnaaaa
open Go.RowKit

theorem szInts_calls {a : Option Addr} {n c : Nat} {r : Int} {w : World} (hn : n ≤ 9223372036854775807) (h0 : 0 ≤ r) (h1 : r ≤ 1048576) :
    Calls Try.prog 62 #[.slice a n c, .int .i64 r] w fun e w' => e = .returned (.int .i64 (if r - n < 0 then -1 else r - n)) ∧ w = w' := by
  by_cases h : r - (n : Int) < 0
  · rw [if_pos h]
    go_enter Try.func62, Try.ntmps62
    go_wp2
    go_ret
    exact ⟨rfl, rfl⟩
  · rw [if_neg h]
    go_enter Try.func62, Try.ntmps62
    go_wp2
    go_ret
    exact ⟨rfl, rfl⟩

theorem szTen_calls {a : Option Addr} {n c : Nat} {r cpus : Int} {w : World} (hn : n ≤ 9223372036854775807) (h0 : 0 ≤ r) (h1 : r ≤ 1048576) :
    Calls Try.prog 58 #[.agg #[.slice a n c, .int .i64 cpus], .int .i64 r] w fun e w' => e = .returned (.int .i64 (if r - n < 0 then -1 else r - n)) ∧ Below w.heap.size w w' := by
  by_cases h : r - (n : Int) < 0
  · have HE := Lib.hid (show (if r - (n : Int) < 0 then (-1 : Int) else r - n) = -1 from if_pos h)
    go_enter Try.func58, Try.ntmps58
    go_wp2_with fail
    refine (szInts_calls hn h0 h1).mono ?_
    rintro e w' ⟨rfl, rfl⟩
    rw [HE.out]
    go_wp2_with fail
    go_ret
    exact ⟨rfl, (Below.refl _ _).alloc (Nat.le_refl _) _⟩
  · have HE := Lib.hid (show (if r - (n : Int) < 0 then (-1 : Int) else r - n) = r - n from if_neg h)
    have hge : ¬ (r - (n : Int) < 0) := h
    go_enter Try.func58, Try.ntmps58
    go_wp2_with fail
    refine (szInts_calls hn h0 h1).mono ?_
    rintro e w' ⟨rfl, rfl⟩
    rw [HE.out]
    go_wp2_with fail
    go_ret
    exact ⟨rfl, (Below.refl _ _).alloc (Nat.le_refl _) _⟩

/-- What the sizes tell: where they are not too great, no list is. -/
def Sized (n : Nat) (ts : List (List Int × Int)) (w : World) (e : Ending) (w' : World) : Prop :=
  (e = .returned (.int .i64 (-1)) ∨ ∃ r : Int, e = .returned (.int .i64 r) ∧ 0 ≤ r ∧ r ≤ 1048576 ∧ n ≤ 1048576 ∧ Short 1048576 ts) ∧ Below w.heap.size w w'

set_option maxHeartbeats 400000 in
theorem szTens_calls {ao : Option Addr} {n cc : Nat} {ts : List (List Int × Int)} {w : World} (hT : Tens w ao n ts) (hS : Short 9223372036854775807 ts) (hn : n ≤ 9223372036854775807) :
    Calls Try.prog 47 #[.slice ao n cc, .int .i64 1048576] w (Sized n ts w) := by
  have HL := Lib.hid hT.1
  have HS := Lib.hid hS
  by_cases hbig : n ≤ 1048576
  rotate_left
  · have h : (1048576 : Int) - (n : Int) < 0 := by omega
    go_enter Try.func47, Try.ntmps47
    go_wp2_with fail
    go_ret
    exact ⟨.inl rfl, Below.refl _ _⟩
  have h : ¬ ((1048576 : Int) - (n : Int) < 0) := by omega
  go_enter Try.func47, Try.ntmps47
  go_wp2_with fail
  go_loopw [1, 5] (fun q i wr => ∃ k r : Nat, k ≤ n ∧ i = .int .i64 k ∧ r ≤ 1048576 ∧ q = .int .i64 r ∧ Hid (∀ j, j < k → (tenAt ts j).1.length ≤ 1048576) ∧ Below w.heap.size w wr) (fun _ i _ => n - (intOf i).toNat)
  case atStart => exact ⟨0, 1048576 - n, Nat.zero_le _, rfl, by omega, by rw [Int.ofNat_sub hbig]; rfl, fun j hj => by omega, Below.refl _ _⟩
  case round =>
    obtain ⟨k, r, hk, rfl, hr, rfl, HW, hbw⟩ := hrel
    by_cases hlt : k < n
    · obtain ⟨b, off, rfl, hten⟩ := hT.at_ hlt
      obtain ⟨d0, a, l, c, hlc, e0, e1, hI⟩ := hten.below hbw
      have hlx := hI.1
      have hl : l ≤ 9223372036854775807 := by have := HS.out.at_ k; omega
      by_cases hneg : (r : Int) - (l : Int) < 0
      · have HE := Lib.hid (show (if (r : Int) - (l : Int) < 0 then (-1 : Int) else r - l) = -1 from if_pos hneg)
        clear hlx
        go_wp2_with fail
        refine (szTen_calls hl (by omega) (by omega)).mono ?_
        rintro e w1 ⟨rfl, hb1⟩
        rw [HE.out]
        go_wp2_with fail
        go_ret
        exact ⟨.inl rfl, hbw.trans (hb1.mono hbw.size)⟩
      · have HE := Lib.hid (show (if (r : Int) - (l : Int) < 0 then (-1 : Int) else r - l) = ((r - l : Nat) : Int) by rw [if_neg hneg]; omega)
        have HH : Hid (∀ j, j < k + 1 → (tenAt ts j).1.length ≤ 1048576) := fun j hj => by
          by_cases e : j = k
          · rw [e]; omega
          · exact HW.out j (by omega)
        have hge : ¬ (((r - l : Nat) : Int) < 0) := by omega
        clear hlx
        go_wp2_with fail
        refine (szTen_calls hl (by omega) (by omega)).mono ?_
        rintro e w1 ⟨rfl, hb1⟩
        rw [HE.out]
        go_wp2_with fail
        go_roundw
        case rel => exact ⟨k + 1, r - l, by omega, by go_num, by omega, rfl, HH, hbw.trans (hb1.mono hbw.size)⟩
        case measure => simp [intOf]; omega
    · have HF : Hid (Short 1048576 ts) := by
        intro t ht
        obtain ⟨j, hj, rfl⟩ := List.getElem_of_mem ht
        have := HW.out j (by have := HL.out; omega)
        simpa [tenAt, List.getD, hj] using this
      go_wp2_with fail
      go_ret
      exact ⟨.inr ⟨_, rfl, by omega, by omega, hbig, HF.out⟩, hbw⟩

theorem szConfig_calls {ao : Option Addr} {n cc : Nat} {F C : Int} {ts : List (List Int × Int)} {w : World} (hT : Tens w ao n ts) (hS : Short 9223372036854775807 ts) (hn : n ≤ 9223372036854775807) :
    Calls Try.prog 24 #[.agg #[.int .i64 F, .int .i64 C, .slice ao n cc], .int .i64 1048576] w (Sized n ts w) := by
  go_enter Try.func24, Try.ntmps24
  go_wp2_with fail
  refine (szTens_calls (hT.alloc _) hS hn).mono ?_
  rintro e w1 ⟨rfl | ⟨r, rfl, h0, h1, h2, h3⟩, hb1⟩
  · go_wp2_with fail
    go_ret
    exact ⟨.inl rfl, below_past hb1⟩
  · have hge : ¬ (r < 0) := by omega
    have H3 := Lib.hid h3
    go_wp2_with fail
    go_ret
    exact ⟨.inr ⟨_, rfl, h0, h1, h2, H3.out⟩, below_past hb1⟩
end Go.Proofs.Ytmibekddapnaaaa
