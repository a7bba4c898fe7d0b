/- The contracts of the helpers of the laws over slices of whole numbers: copy, compare, mark, hold. -/
import Derived.Test.YtjbihaijfdgipaaBase
namespace Go.Proofs.Ytjbihaijfdgipaa
open Go.RowKit

theorem run_field_R (u : World) (x v : Value) : (Instr.field 34 (.agg #[x, v]) 0).run Try.prog u = .ok x u := by
  simp [Instr.field, run_underlying Try.underlying34, part, isAgg, run_underlying Try.underlying2, asAgg]
theorem run_field_R1 (u : World) (x v : Value) : (Instr.field 34 (.agg #[x, v]) 1).run Try.prog u = .ok v u := by
  simp [Instr.field, run_underlying Try.underlying34, part, isAgg, run_underlying Try.underlying32, asAgg]
theorem info64 : (Try.prog.info? 2).map (fun i => (i.zero, i.size, i.bytes)) = some (some (.int .i64 0), 1, 8) := by kernel_rfl

theorem take_eq_snoc {xs ys : List Int} {k : Nat} (hx : k < xs.length) (hy : k < ys.length) (h : xs.take k = ys.take k) (e : (xs[k] != ys[k]) = false) : xs.take (k + 1) = ys.take (k + 1) := by
  have e' : xs[k] = ys[k] := by simpa using e
  rw [List.take_succ_eq_append_getElem hx, List.take_succ_eq_append_getElem hy, h, e']

theorem ne_of_at {xs ys : List Int} {k : Nat} (hx : k < xs.length) (hy : k < ys.length) (e : (xs[k] != ys[k]) = true) : decide (xs = ys) = false := by
  simp only [decide_eq_false_iff_not]; rintro rfl; simp at e

/-- Two slices that hold the same: the comparison says yes. -/
theorem eq_calls {a b : Option Addr} {n m c d : Nat} {xs : List Int} {w : World} (ha : Ints w a n xs) (hb : Ints w b m xs) (hx : n ≤ 17592186044416) :
    Calls Try.prog 56 #[.slice a n c, .slice b m d] w fun e w' => e = .returned (.bool true) ∧ Below w.heap.size w w' := by
  obtain rfl : n = m := ha.1.symm.trans hb.1
  have h1 : ((n : Int) != (n : Int)) = false := by simp
  have HL := Lib.hid ha.1
  go_enter Try.func56, Try.ntmps56
  go_wp2
  go_loopw [5] (fun i wr => ∃ k : Nat, k ≤ n ∧ i = .int .i64 k ∧ Below w.heap.size w wr) (fun i _ => n - (intOf i).toNat)
  case atStart => exact ⟨0, Nat.zero_le _, rfl, Below.refl _ _⟩
  case round =>
    obtain ⟨k, hk, rfl, hbw⟩ := hrel
    by_cases hlt : k < n
    · obtain ⟨ba, oa, rfl, hba, hca⟩ := (ha.below hbw).at_ hlt
      obtain ⟨bb, ob, rfl, hbb, hcb⟩ := (hb.below hbw).at_ hlt
      have hkx : k < xs.length := by rw [HL.out]; exact hlt
      have h2 : (xs[k] != xs[k]) = false := by simp
      go_wp2_with (go_quiet (fail))
      go_roundw
      case rel => exact ⟨k + 1, by omega, by go_num, below_drewN hbw _⟩
      case measure => simp [intOf]; omega
    · go_wp2
      go_ret
      exact ⟨rfl, hbw⟩

/-- What a call that makes one new slice of numbers leaves. -/
def Makes (w : World) (n : Nat) (xs : List Int) (e : Ending) (w' : World) : Prop := ∃ v, e = .returned v ∧ OwnI w' w.heap.size v n xs ∧ Below w.heap.size w w'

theorem set_own {w : World} {B g n cap : Nat} {xs : List Int} {k : Nat} (hk : k < xs.length) (h : w.ownsRow B 2 1 (.slice (some ⟨g, 0, none⟩) n cap) n ((fill xs k).map (Value.int .i64))) :
    (w.setCell ⟨g, k, none⟩ (.int .i64 xs[k])).ownsRow B 2 1 (.slice (some ⟨g, 0, none⟩) n cap) n ((fill xs (k + 1)).map (Value.int .i64)) := by
  have := (h.stored k (.int .i64 xs[k])).1
  rw [← fill_step xs hk, List.map_set]
  exact this

set_option maxHeartbeats 400000 in
theorem to_calls {a : Option Addr} {n c : Nat} {xs : List Int} {w : World} (ha : Ints w a n xs) (hx : n ≤ 17592186044416) :
    Calls Try.prog 69 #[.slice a n c] w (Makes w n xs) := by
  obtain ⟨i0, hi, hz0, hz1, hz2⟩ := info_parts info64
  have HL := Lib.hid ha.1
  go_enter Try.func69, Try.ntmps69
  go_wp2_with (at_make; go_must (refine wpList_make_full _ rfl _ _ 32 rfl w.heap.size 2 i0 (.int .i64 0) 1 Try.underlying32 hi hz0 hz1 _ _ _ _ n rfl rfl rfl rfl (by rw [hz2]; omega) (by unfold maxLen; omega) (Nat.le_refl _) ?_); intro w1 hown hg)
  have hb1 : Below w.heap.size w w1 := (Below.refl _ _).grown hg (Nat.le_refl _) (by simp)
  have hown1 : w1.ownsRow w.heap.size 2 1 (.slice (some ⟨w.heap.size, 0, none⟩) n n) n ((fill xs 0).map (Value.int .i64)) := by
    rw [fill_zero, HL.out]; simpa [toList_madeCells_one, Value.cells] using hown
  clear hown hg
  go_loopw [4] (fun i wr => ∃ k : Nat, k ≤ n ∧ i = .int .i64 k ∧ Below w.heap.size w wr ∧ wr.ownsRow w.heap.size 2 1 (.slice (some ⟨w.heap.size, 0, none⟩) n n) n ((fill xs k).map (Value.int .i64))) (fun i _ => n - (intOf i).toNat)
  case atStart => exact ⟨0, Nat.zero_le _, rfl, hb1, hown1⟩
  case round =>
    obtain ⟨k, hk, rfl, hbw, HO⟩ := hrel
    by_cases hlt : k < n
    · obtain ⟨ba, oa, rfl, hba, hca⟩ := (ha.below hbw).at_ hlt
      have hkx : k < xs.length := by rw [HL.out]; exact hlt
      have hfr := HO.frozenAt k
      have hcl := HO.cellAt k (by omega)
      have hcl2 : wr.cell? ⟨w.heap.size, k, none⟩ = some (.int .i64 0) := by
        rw [hcl, List.getElem?_map, fill_at xs hkx]; rfl
      clear hcl
      have H := Lib.hid HO
      clear HO
      go_wp2
      have H2 := set_own hkx H.out
      go_roundw
      case rel => exact ⟨k + 1, by omega, by go_num, hbw.setCell (Nat.le_refl _) _, H2⟩
      case measure => simp [intOf]; omega
    · obtain rfl : k = n := by omega
      have H : Hid (OwnI wr w.heap.size (.slice (some ⟨w.heap.size, 0, none⟩) k k) k xs) := by
        have := HO; rw [← HL.out, fill_full, HL.out] at this; exact ⟨_, this⟩
      clear HO
      go_wp2
      go_ret
      exact ⟨_, rfl, H.out, hbw⟩

set_option maxHeartbeats 400000 in
theorem mark_calls {ao : Option Addr} {n c lo hi : Nat} {xs : List Int} {K : Int} {w : World} (ho : OwnIn w lo hi (.slice ao n c) n xs) (hx : n ≤ 17592186044416) (h0 : 0 ≤ K) (hK : K ≤ 1125899906842624) :
    Calls Try.prog 59 #[.slice ao n c, .int .i64 K] w fun e w' => e = .returned (.int .i64 (K + n)) ∧ OwnIn w' lo hi (.slice ao n c) n (marks K n) ∧ Touch lo hi w w' := by
  have HL : Hid (xs.length = n) := by obtain ⟨⟨_, h, _⟩, _⟩ := ho; simpa [Hid] using h
  go_enter Try.func59, Try.ntmps59
  go_wp2
  go_loopw [1, 5] (fun q i wr => ∃ k : Nat, k ≤ n ∧ i = .int .i64 k ∧ q = .int .i64 (K + k) ∧ OwnIn wr lo hi (.slice ao n c) n (markedTo xs K k) ∧ Touch lo hi w wr) (fun _ i _ => n - (intOf i).toNat)
  case atStart => exact ⟨0, Nat.zero_le _, rfl, by simp, by rw [markedTo_zero]; exact ho, Touch.refl _ _ _⟩
  case round =>
    obtain ⟨k, hk, rfl, rfl, HO, HT⟩ := hrel
    by_cases hlt : k < n
    · obtain ⟨t, g, cap, cur, he, _⟩ := HO.1.form (by omega)
      injection he with he _ hcap
      subst he
      have hlo := HO.1.lt
      have hhi := HO.2 g rfl
      obtain ⟨hcl, hfr⟩ := HO.1.cell hlt
      have hst := HO.1.stored k (K + k)
      rw [markedTo_step xs K (by rw [HL.out]; exact hlt)] at hst
      have HS : Hid (OwnIn (wr.setCell ⟨g, k, none⟩ (.int .i64 (K + k))) lo hi (.slice (some ⟨g, 0, none⟩) n c) n (markedTo xs K (k + 1)) ∧ Touch lo hi w (wr.setCell ⟨g, k, none⟩ (.int .i64 (K + k)))) :=
        ⟨⟨hst.1, HO.2⟩, HT.trans (Touch.of_grown hst.2 (by intro k hk; simp at hk; omega))⟩
      clear hst HO HT
      go_wp2
      go_roundw
      case rel => exact ⟨k + 1, by omega, by go_num, by go_num, HS.out.1, HS.out.2⟩
      case measure => simp [intOf]; omega
    · obtain rfl : k = n := by omega
      have HF : Hid (OwnIn wr lo hi (.slice ao k c) k (marks K k) ∧ Touch lo hi w wr) := by
        have := markedTo_full xs K
        rw [HL.out] at this
        rw [this] at HO
        exact ⟨HO, HT⟩
      clear HO HT
      go_wp2
      go_ret
      exact ⟨rfl, HF.out.1, HF.out.2⟩

theorem held_calls {ao : Option Addr} {n c : Nat} {K : Int} {w : World} (ha : Ints w ao n (marks K n)) (hx : n ≤ 17592186044416) (h0 : 0 ≤ K) (hK : K ≤ 1125899906842624) :
    Calls Try.prog 60 #[.slice ao n c, .int .i64 K] w fun e w' => e = .returned (.int .i64 (K + n)) ∧ w = w' := by
  go_enter Try.func60, Try.ntmps60
  go_wp2
  go_loop [1, 5] (fun q i => ∃ k : Nat, k ≤ n ∧ i = .int .i64 k ∧ q = .int .i64 (K + k)) (fun _ i => n - (intOf i).toNat)
  case atStart => exact ⟨0, Nat.zero_le _, rfl, by simp⟩
  case round =>
    obtain ⟨k, hk, rfl, rfl⟩ := hrel
    by_cases hlt : k < n
    · obtain ⟨b, off, rfl, _, hc⟩ := ha.at_ hlt
      rw [marks_at K hlt] at hc
      have hne : (K + (k : Int) != K + (k : Int)) = false := by simp
      go_wp2
      go_round
      case rel => exact ⟨k + 1, by omega, by go_num, by go_num⟩
      case measure => simp [intOf]; omega
    · obtain rfl : k = n := by omega
      go_wp2
      go_ret
      exact ⟨rfl, rfl⟩

/-- Results of a code and words: compared, marked, held. -/
theorem eqR_calls {a b : Option Addr} {n m c d : Nat} {q : Int} {xs : List Int} {w : World} (ha : Ints w a n xs) (hb : Ints w b m xs) (hx : n ≤ 17592186044416) :
    Calls Try.prog 29 #[.agg #[.int .i64 q, .slice a n c], .agg #[.int .i64 q, .slice b m d]] w fun e w' => e = .returned (.bool true) ∧ Below w.heap.size w w' := by
  have hq : (q != q) = false := by simp
  go_enter Try.func29, Try.ntmps29
  go_wp2_with (first | (go_at_call 56; go_must (refine (eq_calls ((ha.alloc _).alloc _) ((hb.alloc _).alloc _) hx).mono ?_); rintro e w1 ⟨rfl, hb1⟩) | (go_quiet (fail)))
  go_ret
  exact ⟨rfl, (((Below.refl _ _).alloc (Nat.le_refl _) _).alloc (by simp) _).trans (hb1.mono (by simp; omega))⟩

theorem markR_calls {ao : Option Addr} {n c lo hi : Nat} {xs : List Int} {q K : Int} {w : World} (ho : OwnIn w lo hi (.slice ao n c) n xs) (hx : n ≤ 17592186044416) (h0 : 0 ≤ K) (hK : K ≤ 1125899906842624) :
    Calls Try.prog 32 #[.agg #[.int .i64 q, .slice ao n c], .int .i64 K] w fun e w' => e = .returned (.int .i64 (K + n)) ∧ OwnIn w' lo hi (.slice ao n c) n (marks K n) ∧ Touch lo hi w w' := by
  have HO := Lib.hid ho
  clear ho
  go_enter Try.func32, Try.ntmps32
  go_wp2_with fail
  have ho1 := HO.out.below ((Below.refl w.heap.size w).alloc (Nat.le_refl _) (.cells #[.int .i64 q, .slice ao n c] 34))
  refine (mark_calls ho1 hx h0 hK).mono ?_
  rintro e w1 ⟨rfl, ho2, ht⟩
  have HO2 : Hid (OwnIn w1 lo hi (.slice ao n c) n (marks K n) ∧ Touch lo hi w w1) := ⟨ho2, (Touch.of_below ((Below.refl w.heap.size w).alloc (Nat.le_refl _) _)).trans ht⟩
  clear ho1 ho2 ht
  go_wp2_with fail
  go_ret
  exact ⟨rfl, HO2.out.1, HO2.out.2⟩

theorem heldR_calls {ao : Option Addr} {n c : Nat} {q K : Int} {w : World} (ha : Ints w ao n (marks K n)) (hx : n ≤ 17592186044416) (h0 : 0 ≤ K) (hK : K ≤ 1125899906842624) :
    Calls Try.prog 33 #[.agg #[.int .i64 q, .slice ao n c], .int .i64 K] w fun e w' => e = .returned (.int .i64 (K + n)) ∧ Below w.heap.size w w' := by
  go_enter Try.func33, Try.ntmps33
  go_wp2_with fail
  refine (held_calls (ha.alloc _) hx h0 hK).mono ?_
  rintro e w1 ⟨rfl, rfl⟩
  have hlt : ¬ (K + (n : Int) < 0) := by omega
  go_wp2_with fail
  go_ret
  exact ⟨rfl, (Below.refl _ _).alloc (Nat.le_refl _) _⟩
end Go.Proofs.Ytjbihaijfdgipaa
