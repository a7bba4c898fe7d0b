/- The laws' helpers over configs: compared whole, marked; results of two numbers compared. -/
import Derived.Test.YtmibekddapnaaaaHelp2c
namespace Go.Proofs.Ytmibekddapnaaaa
open Go.RowKit

theorem eqConfig_calls {a b : Option Addr} {n m c d : Nat} {F C : Int} {ts : List (List Int × Int)} {w : World} (ha : Tens w a n ts) (hb : Tens w b m ts) (hS : Short 17592186044416 ts) (hn : n ≤ 1048576) :
    Calls Try.prog 26 #[.agg #[.int .i64 F, .int .i64 C, .slice a n c], .agg #[.int .i64 F, .int .i64 C, .slice b m d]] w fun e w' => e = .returned (.bool true) ∧ Below w.heap.size w w' := by
  have h1 : (F != F) = false := by simp
  have h2 : (C != C) = false := by simp
  go_enter Try.func26, Try.ntmps26
  go_wp2_with (first
    | (go_at_call 49; go_must (refine (eqTens_calls ((ha.alloc _).alloc _) ((hb.alloc _).alloc _) hS hn).mono ?_); rintro e w1 ⟨rfl, hb1⟩)
    | (go_quiet (fail)))
  go_ret
  exact ⟨rfl, (((Below.refl _ _).alloc (Nat.le_refl _) _).alloc (by simp) _).trans (hb1.mono (by simp; omega))⟩

theorem eqPair_calls {x y : Int} {w : World} :
    Calls Try.prog 27 #[.agg #[.int .i64 x, .int .i64 y], .agg #[.int .i64 x, .int .i64 y]] w fun e w' => e = .returned (.bool true) ∧ Below w.heap.size w w' := by
  have h1 : (x != x) = false := by simp
  have h2 : (y != y) = false := by simp
  go_enter Try.func27, Try.ntmps27
  go_wp2_with (go_quiet (fail))
  go_ret
  exact ⟨rfl, ((Below.refl _ _).alloc (Nat.le_refl _) _).alloc (by simp) _⟩

/-- What marking one tenant asks and leaves. -/
theorem TenIn.mark {w : World} {g H n j : Nat} {ts : List (List Int × Int)} (h : TenIn w g H n ts) (hj : j < n) :
    ∃ a m c lo hi, w.cell? ⟨g, j * 2, none⟩ = some (.slice a m c) ∧ (tenAt ts j).1.length = m ∧ OwnIn w lo hi (.slice a m c) m (tenAt ts j).1 ∧ g < lo ∧ hi ≤ H ∧
      ∀ (w1 : World) (zs : List Int) (K : Int), OwnIn w1 lo hi (.slice a m c) m zs → Touch lo hi w w1 →
        (∃ u, w1.cell? ⟨g, j * 2 + 1, none⟩ = some u) ∧ w1.frozen? ⟨g, j * 2 + 1, none⟩ = false ∧ TenIn (w1.setCell ⟨g, j * 2 + 1, none⟩ (.int .i64 K)) g H n (ts.set j (zs, K)) := by
  obtain ⟨h0, hgH, hl, cur, Bs, h1, h2, h3, h4, h5, h6⟩ := h
  obtain ⟨a, m, c, e0, e1, e2, e3⟩ := h6 j hj
  have b0 := mono_up h4 (Nat.zero_le j) (by omega)
  have b1 := mono_up h4 (i := j + 1) (j := n) (by omega) (by omega)
  have hg : g < w.heap.size := by omega
  refine ⟨a, m, c, Bs j, Bs (j + 1), by rw [cell_of_row w g _ _ _ _ h1]; exact e1, e3.lohi.symm, e3, by omega, by omega, fun w1 zs K ho ht => ?_⟩
  have hg1 : w1.heap[g]? = some (.cells cur 67 (0, 0)) := (ht.block g hg (.inl (by omega))).trans h1
  refine ⟨⟨_, by rw [cell_of_row w1 g _ _ _ _ hg1]; exact Array.getElem?_eq_getElem (by omega)⟩, frozen_of_row w1 g _ _ _ hg1, by simpa using Nat.le_trans h0 ht.size, hgH, by simpa using hl, cur.setIfInBounds (j * 2 + 1) (.int .i64 K), Bs, heap_setCell_same w1 g (j * 2 + 1) _ _ _ hg1, by simpa using h2, h3, h4, h5, fun i hi => ?_⟩
  obtain ⟨a', m', c', f0, f1, f2, f3⟩ := h6 i hi
  have b2 := mono_up h4 (Nat.zero_le i) (by omega)
  by_cases e : i = j
  · subst e
    rw [e1] at f1
    simp only [Option.some.injEq, Value.slice.injEq] at f1
    obtain ⟨rfl, rfl, rfl⟩ := f1
    have ht2 : tenAt (ts.set i (zs, K)) i = (zs, K) := by simp [tenAt, List.getD, hl ▸ hi]
    refine ⟨a, m, c, e0, ?_, ?_, ?_⟩
    · rw [Array.getElem?_setIfInBounds_ne (by omega)]; exact e1
    · rw [ht2, Array.getElem?_setIfInBounds_self_of_lt (by omega)]
    · rw [ht2]
      exact ⟨ho.1.set_ (by show g < Bs i; omega) _, ho.2⟩
  · have ht2 : tenAt (ts.set j (zs, K)) i = tenAt ts i := by simp [tenAt, List.getD, List.getElem?_set, Ne.symm e]
    refine ⟨a', m', c', f0, ?_, ?_, ?_⟩
    · rw [Array.getElem?_setIfInBounds_ne (by omega)]; exact f1
    · rw [ht2, Array.getElem?_setIfInBounds_ne (by omega)]; exact f2
    · rw [ht2]
      have hd : Bs (i + 1) ≤ Bs j ∨ Bs (j + 1) ≤ Bs i := by
        rcases Nat.lt_or_ge i j with hij | hij
        · exact .inl (mono_up h4 (by omega) (by omega))
        · exact .inr (mono_up h4 (by omega) (by omega))
      have f4 := f3.touch ht (by omega)
      exact ⟨f4.1.set_ (by show g < Bs i; omega) _, f4.2⟩
theorem Short.set_ {N : Nat} {ts : List (List Int × Int)} (h : Short N ts) {j : Nat} {z : List Int × Int} (hz : z.1.length ≤ N) : Short N (ts.set j z) := by
  intro t ht
  rcases List.mem_or_eq_of_mem_set ht with h1 | h1
  · exact h t h1
  · rw [h1]; exact hz

set_option maxHeartbeats 800000 in
theorem markTens_calls {g H n c : Nat} {ts : List (List Int × Int)} {w : World} (hT : TenIn w g H n ts) (hS : Short 1048576 ts) (hn : n ≤ 1048576) :
    Calls Try.prog 51 #[.slice (some ⟨g, 0, none⟩) n c, .int .i64 1] w fun e w' => (∃ K : Int, e = .returned (.int .i64 K) ∧ 0 ≤ K) ∧ Touch g H w w' := by
  have hgH : g < H := hT.2.1
  go_enter Try.func51, Try.ntmps51
  go_wp2
  go_loopw [1, 5] (fun q i wr => ∃ j K : Nat, j ≤ n ∧ i = .int .i64 j ∧ q = .int .i64 K ∧ Hid (K ≤ 1 + j * 1048577) ∧ (∃ ts', TenIn wr g H n ts' ∧ Short 1048576 ts') ∧ Touch g H w wr) (fun _ i _ => n - (intOf i).toNat)
  case atStart => exact ⟨0, 1, Nat.zero_le _, rfl, rfl, by show 1 ≤ _; omega, ⟨ts, hT, hS⟩, Touch.refl _ _ _⟩
  case round =>
    obtain ⟨j, K, hj, rfl, rfl, HK, ⟨ts', hT', hS'⟩, ht⟩ := hrel
    by_cases hlt : j < n
    · obtain ⟨a, m, cm, lo, hi, hc, hm, ho, hlo, hhi, hstep⟩ := hT'.mark hlt
      have hm2 : m ≤ 1048576 := by have := hS'.at_ j; omega
      have hK2 : K ≤ 1099512676353 := by have := HK.out; omega
      have hgl := World.block_lt_of_cell? _ _ hc
      have HM := Lib.hid hm
      have HST := Lib.hid hstep
      have HS' := Lib.hid hS'
      clear hm hstep hT'
      go_wp2_with fail
      refine (mark_calls ho (by omega) (by omega) (by omega)).mono ?_
      rintro e w1 ⟨rfl, ho2, ht2⟩
      obtain ⟨⟨u, q0⟩, f0, hT2⟩ := HST.out w1 (marks K m) (K + m) ho2 ht2
      have F : Hid ((∃ ts', TenIn (w1.setCell ⟨g, j * 2 + 1, none⟩ (.int .i64 (K + m))) g H n ts' ∧ Short 1048576 ts') ∧ Touch g H w (w1.setCell ⟨g, j * 2 + 1, none⟩ (.int .i64 (K + m)))) := by
        refine ⟨⟨_, hT2, HS'.out.set_ (by rw [length_marks]; exact hm2)⟩, (ht.trans ?_).trans (Touch.of_grown (grown_set w1 ⟨g, j * 2 + 1, none⟩ _) (by intro k hk; injection hk with hk; subst hk; exact ⟨Nat.le_refl _, hgH⟩))⟩
        exact ⟨ht2.os, ht2.tape, ht2.output, ht2.size, fun k hk hd => ht2.block k hk (by omega)⟩
      have HK2 : Hid (K + m + 1 ≤ 1 + (j + 1) * 1048577) := by have := HK.out; show _ ≤ _; omega
      have hk3 : (K : Int) + (m : Int) ≤ 1099513724929 := by omega
      clear hT2 ho2 ht2 ho
      go_wp2_with fail
      go_roundw
      case rel => exact ⟨j + 1, K + m + 1, by omega, by go_num, by go_num, HK2, F.out.1, F.out.2⟩
      case measure => simp [intOf]; omega
    · go_wp2_with fail
      go_ret
      exact ⟨⟨_, rfl, by omega⟩, ht⟩

theorem markConfig_calls {g H n c : Nat} {F C : Int} {ts : List (List Int × Int)} {w : World} (hT : TenIn w g H n ts) (hS : Short 1048576 ts) (hn : n ≤ 1048576) :
    Calls Try.prog 29 #[.agg #[.int .i64 F, .int .i64 C, .slice (some ⟨g, 0, none⟩) n c], .int .i64 1] w fun e w' => (∃ K : Int, e = .returned (.int .i64 K) ∧ 0 ≤ K) ∧ Touch g H w w' := by
  go_enter Try.func29, Try.ntmps29
  go_wp2_with fail
  refine (markTens_calls (hT.below ((Below.refl _ _).alloc (Nat.le_refl _) _)) hS hn).mono ?_
  rintro e w1 ⟨⟨K, rfl, hK⟩, ht⟩
  have ht2 := touch_past ht
  clear ht
  go_wp2_with fail
  go_ret
  exact ⟨⟨_, rfl, hK⟩, ht2⟩
end Go.Proofs.Ytmibekddapnaaaa
