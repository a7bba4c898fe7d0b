/- Chapter 4 of the model: why pages are none. -/
import Derived.Test.YtkikjoalhohlgaaPlain4
import Derived.Test.YtkikjoalhohlgaaSpec3
namespace Go.Proofs.Ytkikjoalhohlgaa
open Go.RowKit

theorem l4Any_calls {a : Option Addr} {n c : Nat} {us : List Bool} {S : Nat → Prop} {w : World} (hu : Lst KBool w S a n us) (hn : n ≤ 17592186044416) :
    Calls Try.prog 87 #[.slice a n c] w fun e w' => e = .returned (.bool (anyB us)) ∧ w = w' := by
  have HL := Lib.hid hu.1
  go_enter Try.func87, Try.ntmps87
  go_wp2
  go_loop [3] (fun i => ∃ k : Nat, k ≤ n ∧ i = .int .i64 k ∧ Hid (anyB us = anyB (us.drop k))) (fun i => n - (intOf i).toNat)
  case atStart => exact ⟨0, Nat.zero_le _, rfl, rfl⟩
  case round =>
    obtain ⟨k, hk, rfl, HW⟩ := hrel
    by_cases hlt : k < n
    · obtain ⟨ba, oa, rfl, hba, hca⟩ := hu.bool_at hlt
      have hkx : k < us.length := by rw [HL.out]; exact hlt
      have HD := Lib.hid (drop_at (List.getElem?_eq_getElem hkx))
      rcases hv : us[k] with _ | _
      · have HS : Hid (anyB us = anyB (us.drop (k + 1))) := by have := HW.out; rw [HD.out, hv] at this; exact this
        go_wp2
        go_round
        case rel => exact ⟨k + 1, by omega, by go_num, HS⟩
        case measure => simp [intOf]; omega
      · have HS : Hid (anyB us = true) := by have := HW.out; rw [HD.out, hv] at this; exact this
        go_wp2
        go_ret
        exact ⟨ret_bool HS.out.symm, rfl⟩
    · have HS : Hid (anyB us = false) := by have := HW.out; rw [drop_end (by rw [HL.out]; omega)] at this; exact this
      go_wp2
      go_ret
      exact ⟨ret_bool HS.out.symm, rfl⟩

theorem sPageFault_x {a : Option Addr} {n cc : Nat} {k c r : Int} {us : List Bool} {S : Nat → Prop} {w : World} (hu : Lst KBool w S a n us) (hn : n ≤ 17592186044416) (hk : within 0 3 [k] = false) :
    Calls Try.prog 44 #[.agg #[.int .i64 k, .int .i64 c, .slice a n cc, .int .i64 r]] w fun e w' => e = .returned (.int .i64 3) ∧ Below w.heap.size w w' := by
  go_enter Try.func44, Try.ntmps44
  go_wp2_with fail
  refine l1In_calls.mono ?_
  rintro e w' ⟨rfl, rfl⟩
  go_wp2_with fail
  go_ret
  first | exact ⟨rfl, (Below.refl _ _).alloc (Nat.le_refl _) _⟩ | exact ⟨rfl, below_drewN ((Below.refl _ _).alloc (Nat.le_refl _) _) _⟩

theorem sPageFault_1a {a : Option Addr} {n cc : Nat} {c r : Int} {us : List Bool} {S : Nat → Prop} {w : World} (hu : Lst KBool w S a n us) (hn : n ≤ 17592186044416) (hc : within 0 3 [c] = false) :
    Calls Try.prog 44 #[.agg #[.int .i64 1, .int .i64 c, .slice a n cc, .int .i64 r]] w fun e w' => e = .returned (.int .i64 3) ∧ Below w.heap.size w w' := by
  have hk : within 0 3 [(1 : Int)] = true := rfl
  go_enter Try.func44, Try.ntmps44
  go_wp2_with fail
  refine l1In_calls.mono ?_
  rintro e w' ⟨rfl, rfl⟩
  go_wp2_with fail
  refine l3IsClass_calls.mono ?_
  rintro e w' ⟨rfl, rfl⟩
  go_wp2_with fail
  go_ret
  first | exact ⟨rfl, (Below.refl _ _).alloc (Nat.le_refl _) _⟩ | exact ⟨rfl, below_drewN ((Below.refl _ _).alloc (Nat.le_refl _) _) _⟩

theorem sPageFault_1b {a : Option Addr} {n cc : Nat} {c r : Int} {us : List Bool} {S : Nat → Prop} {w : World} (hu : Lst KBool w S a n us) (hn : n ≤ 17592186044416) (hc : within 0 3 [c] = true) (hr : (r != 0) = true) :
    Calls Try.prog 44 #[.agg #[.int .i64 1, .int .i64 c, .slice a n cc, .int .i64 r]] w fun e w' => e = .returned (.int .i64 1) ∧ Below w.heap.size w w' := by
  have hk : within 0 3 [(1 : Int)] = true := rfl
  go_enter Try.func44, Try.ntmps44
  go_wp2_with fail
  refine l1In_calls.mono ?_
  rintro e w' ⟨rfl, rfl⟩
  go_wp2_with fail
  refine l3IsClass_calls.mono ?_
  rintro e w' ⟨rfl, rfl⟩
  go_wp2_with fail
  go_ret
  first | exact ⟨rfl, (Below.refl _ _).alloc (Nat.le_refl _) _⟩ | exact ⟨rfl, below_drewN ((Below.refl _ _).alloc (Nat.le_refl _) _) _⟩

theorem sPageFault_1c {a : Option Addr} {n cc : Nat} {c r : Int} {us : List Bool} {S : Nat → Prop} {w : World} (hu : Lst KBool w S a n us) (hn : n ≤ 17592186044416) (h0 : 0 ≤ c) (h3 : c ≤ 3) (hc : within 0 3 [c] = true) (hr : (r != 0) = false) (hs : ((n : Int) != 16 / sizeW c) = true) :
    Calls Try.prog 44 #[.agg #[.int .i64 1, .int .i64 c, .slice a n cc, .int .i64 r]] w fun e w' => e = .returned (.int .i64 2) ∧ Below w.heap.size w w' := by
  have hk : within 0 3 [(1 : Int)] = true := rfl
  go_enter Try.func44, Try.ntmps44
  go_wp2_with fail
  refine l1In_calls.mono ?_
  rintro e w' ⟨rfl, rfl⟩
  go_wp2_with fail
  refine l3IsClass_calls.mono ?_
  rintro e w' ⟨rfl, rfl⟩
  go_wp2_with fail
  go_quiet ((go_at_call 86; exact Calls.quiet_of_same ((l3Slots_calls h0 h3).mono fun _ _ ⟨h1, h2⟩ => ⟨h1, h2.symm⟩)))
  go_wp2_with fail
  go_ret
  first | exact ⟨rfl, (Below.refl _ _).alloc (Nat.le_refl _) _⟩ | exact ⟨rfl, below_drewN ((Below.refl _ _).alloc (Nat.le_refl _) _) _⟩

theorem sPageFault_1d {a : Option Addr} {n cc : Nat} {c r : Int} {us : List Bool} {S : Nat → Prop} {w : World} (hu : Lst KBool w S a n us) (hn : n ≤ 17592186044416) (h0 : 0 ≤ c) (h3 : c ≤ 3) (hc : within 0 3 [c] = true) (hr : (r != 0) = false) (hs : ((n : Int) != 16 / sizeW c) = false) (ha : anyB us = false) :
    Calls Try.prog 44 #[.agg #[.int .i64 1, .int .i64 c, .slice a n cc, .int .i64 r]] w fun e w' => e = .returned (.int .i64 4) ∧ Below w.heap.size w w' := by
  have hk : within 0 3 [(1 : Int)] = true := rfl
  go_enter Try.func44, Try.ntmps44
  go_wp2_with fail
  refine l1In_calls.mono ?_
  rintro e w' ⟨rfl, rfl⟩
  go_wp2_with fail
  refine l3IsClass_calls.mono ?_
  rintro e w' ⟨rfl, rfl⟩
  go_wp2_with fail
  go_quiet ((go_at_call 86; exact Calls.quiet_of_same ((l3Slots_calls h0 h3).mono fun _ _ ⟨h1, h2⟩ => ⟨h1, h2.symm⟩)))
  go_wp2_with fail
  refine (l4Any_calls (hu.below (below_drewN ((Below.refl _ _).alloc (Nat.le_refl _) _) _)) hn).mono ?_
  rintro e w' ⟨rfl, rfl⟩
  go_wp2_with fail
  go_ret
  first | exact ⟨rfl, (Below.refl _ _).alloc (Nat.le_refl _) _⟩ | exact ⟨rfl, below_drewN ((Below.refl _ _).alloc (Nat.le_refl _) _) _⟩

theorem sPageFault_1e {a : Option Addr} {n cc : Nat} {c r : Int} {us : List Bool} {S : Nat → Prop} {w : World} (hu : Lst KBool w S a n us) (hn : n ≤ 17592186044416) (h0 : 0 ≤ c) (h3 : c ≤ 3) (hc : within 0 3 [c] = true) (hr : (r != 0) = false) (hs : ((n : Int) != 16 / sizeW c) = false) (ha : anyB us = true) :
    Calls Try.prog 44 #[.agg #[.int .i64 1, .int .i64 c, .slice a n cc, .int .i64 r]] w fun e w' => e = .returned (.int .i64 0) ∧ Below w.heap.size w w' := by
  have hk : within 0 3 [(1 : Int)] = true := rfl
  go_enter Try.func44, Try.ntmps44
  go_wp2_with fail
  refine l1In_calls.mono ?_
  rintro e w' ⟨rfl, rfl⟩
  go_wp2_with fail
  refine l3IsClass_calls.mono ?_
  rintro e w' ⟨rfl, rfl⟩
  go_wp2_with fail
  go_quiet ((go_at_call 86; exact Calls.quiet_of_same ((l3Slots_calls h0 h3).mono fun _ _ ⟨h1, h2⟩ => ⟨h1, h2.symm⟩)))
  go_wp2_with fail
  refine (l4Any_calls (hu.below (below_drewN ((Below.refl _ _).alloc (Nat.le_refl _) _) _)) hn).mono ?_
  rintro e w' ⟨rfl, rfl⟩
  go_wp2_with fail
  go_ret
  first | exact ⟨rfl, (Below.refl _ _).alloc (Nat.le_refl _) _⟩ | exact ⟨rfl, below_drewN ((Below.refl _ _).alloc (Nat.le_refl _) _) _⟩

theorem sPageFault_2a {a : Option Addr} {n cc : Nat} {c r : Int} {us : List Bool} {S : Nat → Prop} {w : World} (hu : Lst KBool w S a n us) (hn : n ≤ 17592186044416) (hr : within 1 4 [r] = false) :
    Calls Try.prog 44 #[.agg #[.int .i64 2, .int .i64 c, .slice a n cc, .int .i64 r]] w fun e w' => e = .returned (.int .i64 3) ∧ Below w.heap.size w w' := by
  have hk : within 0 3 [(2 : Int)] = true := rfl
  go_enter Try.func44, Try.ntmps44
  go_wp2_with fail
  refine l1In_calls.mono ?_
  rintro e w' ⟨rfl, rfl⟩
  go_wp2_with fail
  refine l1In_calls.mono ?_
  rintro e w' ⟨rfl, rfl⟩
  go_wp2_with fail
  go_ret
  first | exact ⟨rfl, (Below.refl _ _).alloc (Nat.le_refl _) _⟩ | exact ⟨rfl, below_drewN ((Below.refl _ _).alloc (Nat.le_refl _) _) _⟩

theorem sPageFault_2b {a : Option Addr} {n cc : Nat} {c r : Int} {us : List Bool} {S : Nat → Prop} {w : World} (hu : Lst KBool w S a n us) (hn : n ≤ 17592186044416) (hr : within 1 4 [r] = true) (hc : (c != 0) = true) :
    Calls Try.prog 44 #[.agg #[.int .i64 2, .int .i64 c, .slice a n cc, .int .i64 r]] w fun e w' => e = .returned (.int .i64 1) ∧ Below w.heap.size w w' := by
  have hk : within 0 3 [(2 : Int)] = true := rfl
  go_enter Try.func44, Try.ntmps44
  go_wp2_with fail
  refine l1In_calls.mono ?_
  rintro e w' ⟨rfl, rfl⟩
  go_wp2_with fail
  refine l1In_calls.mono ?_
  rintro e w' ⟨rfl, rfl⟩
  go_wp2_with fail
  go_ret
  first | exact ⟨rfl, (Below.refl _ _).alloc (Nat.le_refl _) _⟩ | exact ⟨rfl, below_drewN ((Below.refl _ _).alloc (Nat.le_refl _) _) _⟩

theorem sPageFault_2c {a : Option Addr} {n cc : Nat} {c r : Int} {us : List Bool} {S : Nat → Prop} {w : World} (hu : Lst KBool w S a n us) (hn : n ≤ 17592186044416) (hr : within 1 4 [r] = true) (hc : (c != 0) = false) (h0 : 0 < n) :
    Calls Try.prog 44 #[.agg #[.int .i64 2, .int .i64 c, .slice a n cc, .int .i64 r]] w fun e w' => e = .returned (.int .i64 1) ∧ Below w.heap.size w w' := by
  have hk : within 0 3 [(2 : Int)] = true := rfl
  go_enter Try.func44, Try.ntmps44
  go_wp2_with fail
  refine l1In_calls.mono ?_
  rintro e w' ⟨rfl, rfl⟩
  go_wp2_with fail
  refine l1In_calls.mono ?_
  rintro e w' ⟨rfl, rfl⟩
  go_wp2_with fail
  go_ret
  first | exact ⟨rfl, (Below.refl _ _).alloc (Nat.le_refl _) _⟩ | exact ⟨rfl, below_drewN ((Below.refl _ _).alloc (Nat.le_refl _) _) _⟩

theorem sPageFault_2d {a : Option Addr} {n cc : Nat} {c r : Int} {us : List Bool} {S : Nat → Prop} {w : World} (hu : Lst KBool w S a n us) (hn : n ≤ 17592186044416) (hr : within 1 4 [r] = true) (hc : (c != 0) = false) (h0 : n = 0) :
    Calls Try.prog 44 #[.agg #[.int .i64 2, .int .i64 c, .slice a n cc, .int .i64 r]] w fun e w' => e = .returned (.int .i64 0) ∧ Below w.heap.size w w' := by
  have hk : within 0 3 [(2 : Int)] = true := rfl
  subst h0
  go_enter Try.func44, Try.ntmps44
  go_wp2_with fail
  refine l1In_calls.mono ?_
  rintro e w' ⟨rfl, rfl⟩
  go_wp2_with fail
  refine l1In_calls.mono ?_
  rintro e w' ⟨rfl, rfl⟩
  go_wp2_with fail
  go_quiet (fail)
  go_wp2_with fail
  go_ret
  first | exact ⟨rfl, (Below.refl _ _).alloc (Nat.le_refl _) _⟩ | exact ⟨rfl, below_drewN ((Below.refl _ _).alloc (Nat.le_refl _) _) _⟩

theorem sPageFault_0a {a : Option Addr} {n cc : Nat} {c r : Int} {us : List Bool} {S : Nat → Prop} {w : World} (hu : Lst KBool w S a n us) (hn : n ≤ 17592186044416) (hc : (c != 0) = true) :
    Calls Try.prog 44 #[.agg #[.int .i64 0, .int .i64 c, .slice a n cc, .int .i64 r]] w fun e w' => e = .returned (.int .i64 1) ∧ Below w.heap.size w w' := by
  have hk : within 0 3 [(0 : Int)] = true := rfl
  go_enter Try.func44, Try.ntmps44
  go_wp2_with fail
  refine l1In_calls.mono ?_
  rintro e w' ⟨rfl, rfl⟩
  go_wp2_with fail
  go_ret
  first | exact ⟨rfl, (Below.refl _ _).alloc (Nat.le_refl _) _⟩ | exact ⟨rfl, below_drewN ((Below.refl _ _).alloc (Nat.le_refl _) _) _⟩

theorem sPageFault_0b {a : Option Addr} {n cc : Nat} {c r : Int} {us : List Bool} {S : Nat → Prop} {w : World} (hu : Lst KBool w S a n us) (hn : n ≤ 17592186044416) (hc : (c != 0) = false) (h0 : 0 < n) :
    Calls Try.prog 44 #[.agg #[.int .i64 0, .int .i64 c, .slice a n cc, .int .i64 r]] w fun e w' => e = .returned (.int .i64 1) ∧ Below w.heap.size w w' := by
  have hk : within 0 3 [(0 : Int)] = true := rfl
  go_enter Try.func44, Try.ntmps44
  go_wp2_with fail
  refine l1In_calls.mono ?_
  rintro e w' ⟨rfl, rfl⟩
  go_wp2_with fail
  go_ret
  first | exact ⟨rfl, (Below.refl _ _).alloc (Nat.le_refl _) _⟩ | exact ⟨rfl, below_drewN ((Below.refl _ _).alloc (Nat.le_refl _) _) _⟩

theorem sPageFault_0c {a : Option Addr} {n cc : Nat} {c r : Int} {us : List Bool} {S : Nat → Prop} {w : World} (hu : Lst KBool w S a n us) (hn : n ≤ 17592186044416) (hc : (c != 0) = false) (h0 : n = 0) (hr : (r != 0) = true) :
    Calls Try.prog 44 #[.agg #[.int .i64 0, .int .i64 c, .slice a n cc, .int .i64 r]] w fun e w' => e = .returned (.int .i64 1) ∧ Below w.heap.size w w' := by
  have hk : within 0 3 [(0 : Int)] = true := rfl
  subst h0
  go_enter Try.func44, Try.ntmps44
  go_wp2_with fail
  refine l1In_calls.mono ?_
  rintro e w' ⟨rfl, rfl⟩
  go_wp2_with fail
  go_ret
  first | exact ⟨rfl, (Below.refl _ _).alloc (Nat.le_refl _) _⟩ | exact ⟨rfl, below_drewN ((Below.refl _ _).alloc (Nat.le_refl _) _) _⟩

theorem sPageFault_0d {a : Option Addr} {n cc : Nat} {c r : Int} {us : List Bool} {S : Nat → Prop} {w : World} (hu : Lst KBool w S a n us) (hn : n ≤ 17592186044416) (hc : (c != 0) = false) (h0 : n = 0) (hr : (r != 0) = false) :
    Calls Try.prog 44 #[.agg #[.int .i64 0, .int .i64 c, .slice a n cc, .int .i64 r]] w fun e w' => e = .returned (.int .i64 0) ∧ Below w.heap.size w w' := by
  have hk : within 0 3 [(0 : Int)] = true := rfl
  subst h0
  go_enter Try.func44, Try.ntmps44
  go_wp2_with fail
  refine l1In_calls.mono ?_
  rintro e w' ⟨rfl, rfl⟩
  go_wp2_with fail
  go_quiet (fail)
  go_wp2_with fail
  go_ret
  first | exact ⟨rfl, (Below.refl _ _).alloc (Nat.le_refl _) _⟩ | exact ⟨rfl, below_drewN ((Below.refl _ _).alloc (Nat.le_refl _) _) _⟩

theorem sPageFault_3a {a : Option Addr} {n cc : Nat} {c r : Int} {us : List Bool} {S : Nat → Prop} {w : World} (hu : Lst KBool w S a n us) (hn : n ≤ 17592186044416) (hc : (c != 0) = true) :
    Calls Try.prog 44 #[.agg #[.int .i64 3, .int .i64 c, .slice a n cc, .int .i64 r]] w fun e w' => e = .returned (.int .i64 1) ∧ Below w.heap.size w w' := by
  have hk : within 0 3 [(3 : Int)] = true := rfl
  go_enter Try.func44, Try.ntmps44
  go_wp2_with fail
  refine l1In_calls.mono ?_
  rintro e w' ⟨rfl, rfl⟩
  go_wp2_with fail
  go_ret
  first | exact ⟨rfl, (Below.refl _ _).alloc (Nat.le_refl _) _⟩ | exact ⟨rfl, below_drewN ((Below.refl _ _).alloc (Nat.le_refl _) _) _⟩

theorem sPageFault_3b {a : Option Addr} {n cc : Nat} {c r : Int} {us : List Bool} {S : Nat → Prop} {w : World} (hu : Lst KBool w S a n us) (hn : n ≤ 17592186044416) (hc : (c != 0) = false) (h0 : 0 < n) :
    Calls Try.prog 44 #[.agg #[.int .i64 3, .int .i64 c, .slice a n cc, .int .i64 r]] w fun e w' => e = .returned (.int .i64 1) ∧ Below w.heap.size w w' := by
  have hk : within 0 3 [(3 : Int)] = true := rfl
  go_enter Try.func44, Try.ntmps44
  go_wp2_with fail
  refine l1In_calls.mono ?_
  rintro e w' ⟨rfl, rfl⟩
  go_wp2_with fail
  go_ret
  first | exact ⟨rfl, (Below.refl _ _).alloc (Nat.le_refl _) _⟩ | exact ⟨rfl, below_drewN ((Below.refl _ _).alloc (Nat.le_refl _) _) _⟩

theorem sPageFault_3c {a : Option Addr} {n cc : Nat} {c r : Int} {us : List Bool} {S : Nat → Prop} {w : World} (hu : Lst KBool w S a n us) (hn : n ≤ 17592186044416) (hc : (c != 0) = false) (h0 : n = 0) (hr : (r != 0) = true) :
    Calls Try.prog 44 #[.agg #[.int .i64 3, .int .i64 c, .slice a n cc, .int .i64 r]] w fun e w' => e = .returned (.int .i64 1) ∧ Below w.heap.size w w' := by
  have hk : within 0 3 [(3 : Int)] = true := rfl
  subst h0
  go_enter Try.func44, Try.ntmps44
  go_wp2_with fail
  refine l1In_calls.mono ?_
  rintro e w' ⟨rfl, rfl⟩
  go_wp2_with fail
  go_ret
  first | exact ⟨rfl, (Below.refl _ _).alloc (Nat.le_refl _) _⟩ | exact ⟨rfl, below_drewN ((Below.refl _ _).alloc (Nat.le_refl _) _) _⟩

theorem sPageFault_3d {a : Option Addr} {n cc : Nat} {c r : Int} {us : List Bool} {S : Nat → Prop} {w : World} (hu : Lst KBool w S a n us) (hn : n ≤ 17592186044416) (hc : (c != 0) = false) (h0 : n = 0) (hr : (r != 0) = false) :
    Calls Try.prog 44 #[.agg #[.int .i64 3, .int .i64 c, .slice a n cc, .int .i64 r]] w fun e w' => e = .returned (.int .i64 0) ∧ Below w.heap.size w w' := by
  have hk : within 0 3 [(3 : Int)] = true := rfl
  subst h0
  go_enter Try.func44, Try.ntmps44
  go_wp2_with fail
  refine l1In_calls.mono ?_
  rintro e w' ⟨rfl, rfl⟩
  go_wp2_with fail
  go_quiet (fail)
  go_wp2_with fail
  go_ret
  first | exact ⟨rfl, (Below.refl _ _).alloc (Nat.le_refl _) _⟩ | exact ⟨rfl, below_drewN ((Below.refl _ _).alloc (Nat.le_refl _) _) _⟩

/-- What a page's fault is, case by case. -/
theorem pf_x {k c r : Int} {us : List Bool} (h : within 0 3 [k] = false) : pageFault ⟨k, c, us, r⟩ = 3 := by
  rw [within_one] at h
  simp only [decide_eq_false_iff_not] at h
  unfold pageFault
  dsimp only
  rw [if_neg (by omega), if_neg (by omega), if_neg (by omega)]
theorem pf_1a {c r : Int} {us : List Bool} (h : within 0 3 [c] = false) : pageFault ⟨1, c, us, r⟩ = 3 := by simp [pageFault, h]
theorem pf_1b {c r : Int} {us : List Bool} (h : within 0 3 [c] = true) (hr : r ≠ 0) : pageFault ⟨1, c, us, r⟩ = 1 := by simp [pageFault, h, hr]
theorem pf_1c {c r : Int} {us : List Bool} (h : within 0 3 [c] = true) (hr : r = 0) (hs : (us.length : Int) ≠ 16 / sizeW c) : pageFault ⟨1, c, us, r⟩ = 2 := by simp [pageFault, h, hr, hs]
theorem pf_1d {c r : Int} {us : List Bool} (h : within 0 3 [c] = true) (hr : r = 0) (hs : (us.length : Int) = 16 / sizeW c) (ha : anyB us = false) : pageFault ⟨1, c, us, r⟩ = 4 := by simp [pageFault, h, hr, hs, ha]
theorem pf_1e {c r : Int} {us : List Bool} (h : within 0 3 [c] = true) (hr : r = 0) (hs : (us.length : Int) = 16 / sizeW c) (ha : anyB us = true) : pageFault ⟨1, c, us, r⟩ = 0 := by simp [pageFault, h, hr, hs, ha]
theorem pf_2a {c r : Int} {us : List Bool} (h : within 1 4 [r] = false) : pageFault ⟨2, c, us, r⟩ = 3 := by simp [pageFault, h]
theorem pf_2b {c r : Int} {us : List Bool} (h : within 1 4 [r] = true) (hc : c ≠ 0) : pageFault ⟨2, c, us, r⟩ = 1 := by simp [pageFault, h, hc]
theorem pf_2c {c r : Int} {us : List Bool} (h : within 1 4 [r] = true) (hu : us ≠ []) : pageFault ⟨2, c, us, r⟩ = 1 := by simp [pageFault, h, hu]
theorem pf_2d {c r : Int} {us : List Bool} (h : within 1 4 [r] = true) (hc : c = 0) (hu : us = []) : pageFault ⟨2, c, us, r⟩ = 0 := by simp [pageFault, h, hc, hu]
theorem pf_03a {k c r : Int} {us : List Bool} (hk : k = 0 ∨ k = 3) (hc : c ≠ 0) : pageFault ⟨k, c, us, r⟩ = 1 := by rcases hk with rfl | rfl <;> simp [pageFault, hc]
theorem pf_03b {k c r : Int} {us : List Bool} (hk : k = 0 ∨ k = 3) (hu : us ≠ []) : pageFault ⟨k, c, us, r⟩ = 1 := by rcases hk with rfl | rfl <;> simp [pageFault, hu]
theorem pf_03c {k c r : Int} {us : List Bool} (hk : k = 0 ∨ k = 3) (hr : r ≠ 0) : pageFault ⟨k, c, us, r⟩ = 1 := by rcases hk with rfl | rfl <;> simp [pageFault, hr]
theorem pf_03d {k c r : Int} {us : List Bool} (hk : k = 0 ∨ k = 3) (hc : c = 0) (hu : us = []) (hr : r = 0) : pageFault ⟨k, c, us, r⟩ = 0 := by rcases hk with rfl | rfl <;> simp [pageFault, hr, hc, hu]

theorem sPageFault_calls {a : Option Addr} {n cc : Nat} {k c r : Int} {us : List Bool} {S : Nat → Prop} {w : World} (hu : Lst KBool w S a n us) (hn : n ≤ 17592186044416) :
    Calls Try.prog 44 #[.agg #[.int .i64 k, .int .i64 c, .slice a n cc, .int .i64 r]] w fun e w' => e = .returned (.int .i64 (pageFault ⟨k, c, us, r⟩)) ∧ Below w.heap.size w w' := by
  have hl := hu.1
  have hne : 0 < n → us ≠ [] := by rintro h0 rfl; simp at hl; omega
  have hnn : n = 0 → us = [] := fun h => List.eq_nil_of_length_eq_zero (by omega)
  rcases hk : within 0 3 [k] with _ | _
  · rw [pf_x hk]; exact sPageFault_x hu hn hk
  have hk2 := within_range hk
  by_cases e1 : k = 1
  · subst e1
    rcases hc : within 0 3 [c] with _ | _
    · rw [pf_1a hc]; exact sPageFault_1a hu hn hc
    have hc2 := within_range hc
    by_cases hr : r = 0
    · by_cases hs : (n : Int) = 16 / sizeW c
      · rcases ha : anyB us with _ | _
        · rw [pf_1d hc hr (by rw [hl]; exact hs) ha]; exact sPageFault_1d hu hn hc2.1 hc2.2 hc (by simpa using hr) (by simpa using hs) ha
        · rw [pf_1e hc hr (by rw [hl]; exact hs) ha]; exact sPageFault_1e hu hn hc2.1 hc2.2 hc (by simpa using hr) (by simpa using hs) ha
      · rw [pf_1c hc hr (by rw [hl]; exact hs)]; exact sPageFault_1c hu hn hc2.1 hc2.2 hc (by simpa using hr) (by simpa using hs)
    · rw [pf_1b hc hr]; exact sPageFault_1b hu hn hc (by simpa using hr)
  by_cases e2 : k = 2
  · subst e2
    rcases hr : within 1 4 [r] with _ | _
    · rw [pf_2a hr]; exact sPageFault_2a hu hn hr
    by_cases hc : c = 0
    · by_cases h0 : n = 0
      · rw [pf_2d hr hc (hnn h0)]; exact sPageFault_2d hu hn hr (by simpa using hc) h0
      · rw [pf_2c hr (hne (by omega))]; exact sPageFault_2c hu hn hr (by simpa using hc) (by omega)
    · rw [pf_2b hr hc]; exact sPageFault_2b hu hn hr (by simpa using hc)
  have e03 : k = 0 ∨ k = 3 := by omega
  by_cases hc : c = 0
  · by_cases h0 : n = 0
    · by_cases hr : r = 0
      · rw [pf_03d e03 hc (hnn h0) hr]
        rcases e03 with rfl | rfl
        · exact sPageFault_0d hu hn (by simpa using hc) h0 (by simpa using hr)
        · exact sPageFault_3d hu hn (by simpa using hc) h0 (by simpa using hr)
      · rw [pf_03c e03 hr]
        rcases e03 with rfl | rfl
        · exact sPageFault_0c hu hn (by simpa using hc) h0 (by simpa using hr)
        · exact sPageFault_3c hu hn (by simpa using hc) h0 (by simpa using hr)
    · rw [pf_03b e03 (hne (by omega))]
      rcases e03 with rfl | rfl
      · exact sPageFault_0b hu hn (by simpa using hc) (by omega)
      · exact sPageFault_3b hu hn (by simpa using hc) (by omega)
  · rw [pf_03a e03 hc]
    rcases e03 with rfl | rfl
    · exact sPageFault_0a hu hn (by simpa using hc)
    · exact sPageFault_3a hu hn (by simpa using hc)
end Go.Proofs.Ytkikjoalhohlgaa
