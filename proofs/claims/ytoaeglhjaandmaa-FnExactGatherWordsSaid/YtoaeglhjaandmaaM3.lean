/- Joined texts (Help2d, Law2a, Help7, Nest, Leaf, Page, Three, Plain4, Impl3, Help4, Help4b, Impl4, Spec3, Spec4, Spec4b): steps of the proofs of chapter 5's laws. -/
import Derived.Deep.RegionHeld3
import Derived.Deep.QuietTactic
import Derived.Test.YtoaeglhjaandmaaM1
import Derived.Test.YtoaeglhjaandmaaM2
set_option linter.unusedVariables false
set_option linter.unusedSimpArgs false
/- The laws' helpers over configs: compared whole, marked; results of two numbers compared. -/
namespace Go.Proofs.Ytoaeglhjaandmaa
set_option maxRecDepth 100000
open Go.RowKit

theorem eqConfig_calls {a b : Option Addr} {n m c d : Nat} {F C : Int} {ts : List (List Int × Int)} {w : World} (ha : Tens w a n ts) (hb : Tens w b m ts) (hS : Short 17592186044416 ts) (hn : n ≤ 1048576) :
    Calls Try.prog 30 #[.agg #[.int .i64 F, .int .i64 C, .slice a n c], .agg #[.int .i64 F, .int .i64 C, .slice b m d]] w fun e w' => e = .returned (.bool true) ∧ Below w.heap.size w w' := by
  have h1 : (F != F) = false := by simp
  have h2 : (C != C) = false := by simp
  go_enter Try.func30, Try.ntmps30
  go_wp2_with (first
    | (go_at_call 75; go_must (refine (eqTens_calls ((ha.alloc _).alloc _) ((hb.alloc _).alloc _) hS hn).mono ?_); rintro e w1 ⟨rfl, hb1⟩)
    | (go_quiet (fail)))
  go_ret
  exact ⟨rfl, (((Below.refl _ _).alloc (Nat.le_refl _) _).alloc (by simp) _).trans (hb1.mono (by simp; omega))⟩

/-- What marking one tenant asks and leaves. -/
theorem TenIn.mark {w : World} {g H n j : Nat} {ts : List (List Int × Int)} (h : TenIn w g H n ts) (hj : j < n) :
    ∃ a m c lo hi, w.cell? ⟨g, j * 2, none⟩ = some (.slice a m c) ∧ (tenAt ts j).1.length = m ∧ OwnIn w lo hi (.slice a m c) m (tenAt ts j).1 ∧ g < lo ∧ hi ≤ H ∧
      ∀ (w1 : World) (zs : List Int) (K : Int), OwnIn w1 lo hi (.slice a m c) m zs → Touch lo hi w w1 →
        (∃ u, w1.cell? ⟨g, j * 2 + 1, none⟩ = some u) ∧ w1.frozen? ⟨g, j * 2 + 1, none⟩ = false ∧ TenIn (w1.setCell ⟨g, j * 2 + 1, none⟩ (.int .i64 K)) g H n (ts.set j (zs, K)) := by
  obtain ⟨h0, hgH, hl, cur, Bs, h1, h2, h3, h4, h5, h6⟩ := h
  obtain ⟨a, m, c, e0, e1, e2, e3⟩ := h6 j hj
  have b0 := mono_up h4 (Nat.zero_le j) (by omega)
  have b1 := mono_up h4 (i := j + 1) (j := n) (by omega) (by omega)
  have hg : g < w.heap.size := by omega
  refine ⟨a, m, c, Bs j, Bs (j + 1), by rw [cell_of_row w g _ _ _ _ h1]; exact e1, e3.lohi.symm, e3, by omega, by omega, fun w1 zs K ho ht => ?_⟩
  have hg1 : w1.heap[g]? = some (.cells cur 117 (0, 0)) := (ht.block g hg (.inl (by omega))).trans h1
  refine ⟨⟨_, by rw [cell_of_row w1 g _ _ _ _ hg1]; exact Array.getElem?_eq_getElem (by omega)⟩, frozen_of_row w1 g _ _ _ hg1, by simpa using Nat.le_trans h0 ht.size, hgH, by simpa using hl, cur.setIfInBounds (j * 2 + 1) (.int .i64 K), Bs, heap_setCell_same w1 g (j * 2 + 1) _ _ _ hg1, by simpa using h2, h3, h4, h5, fun i hi => ?_⟩
  obtain ⟨a', m', c', f0, f1, f2, f3⟩ := h6 i hi
  have b2 := mono_up h4 (Nat.zero_le i) (by omega)
  by_cases e : i = j
  · subst e
    rw [e1] at f1
    simp only [Option.some.injEq, Value.slice.injEq] at f1
    obtain ⟨rfl, rfl, rfl⟩ := f1
    have ht2 : tenAt (ts.set i (zs, K)) i = (zs, K) := by simp [tenAt, List.getD, hl ▸ hi]
    refine ⟨a, m, c, e0, ?_, ?_, ?_⟩
    · rw [Array.getElem?_setIfInBounds_ne (by omega)]; exact e1
    · rw [ht2, Array.getElem?_setIfInBounds_self_of_lt (by omega)]
    · rw [ht2]
      exact ⟨ho.1.set_ (by show g < Bs i; omega) _, ho.2⟩
  · have ht2 : tenAt (ts.set j (zs, K)) i = tenAt ts i := by simp [tenAt, List.getD, List.getElem?_set, Ne.symm e]
    refine ⟨a', m', c', f0, ?_, ?_, ?_⟩
    · rw [Array.getElem?_setIfInBounds_ne (by omega)]; exact f1
    · rw [ht2, Array.getElem?_setIfInBounds_ne (by omega)]; exact f2
    · rw [ht2]
      have hd : Bs (i + 1) ≤ Bs j ∨ Bs (j + 1) ≤ Bs i := by
        rcases Nat.lt_or_ge i j with hij | hij
        · exact .inl (mono_up h4 (by omega) (by omega))
        · exact .inr (mono_up h4 (by omega) (by omega))
      have f4 := f3.touch ht (by omega)
      exact ⟨f4.1.set_ (by show g < Bs i; omega) _, f4.2⟩
theorem Short.set_ {N : Nat} {ts : List (List Int × Int)} (h : Short N ts) {j : Nat} {z : List Int × Int} (hz : z.1.length ≤ N) : Short N (ts.set j z) := by
  intro t ht
  rcases List.mem_or_eq_of_mem_set ht with h1 | h1
  · exact h t h1
  · rw [h1]; exact hz

set_option maxHeartbeats 800000 in
theorem markTens_calls {g H n c : Nat} {ts : List (List Int × Int)} {w : World} (hT : TenIn w g H n ts) (hS : Short 1048576 ts) (hn : n ≤ 1048576) :
    Calls Try.prog 76 #[.slice (some ⟨g, 0, none⟩) n c, .int .i64 1] w fun e w' => (∃ K : Int, e = .returned (.int .i64 K) ∧ 0 ≤ K ∧ K ≤ 1099512676353) ∧ Touch g H w w' := by
  have hgH : g < H := hT.2.1
  go_enter Try.func76, Try.ntmps76
  go_wp2
  go_loopw [1, 5] (fun q i wr => ∃ j K : Nat, j ≤ n ∧ i = .int .i64 j ∧ q = .int .i64 K ∧ Hid (K ≤ 1 + j * 1048577) ∧ (∃ ts', TenIn wr g H n ts' ∧ Short 1048576 ts') ∧ Touch g H w wr) (fun _ i _ => n - (intOf i).toNat)
  case atStart => exact ⟨0, 1, Nat.zero_le _, rfl, rfl, by show 1 ≤ _; omega, ⟨ts, hT, hS⟩, Touch.refl _ _ _⟩
  case round =>
    obtain ⟨j, K, hj, rfl, rfl, HK, ⟨ts', hT', hS'⟩, ht⟩ := hrel
    by_cases hlt : j < n
    · obtain ⟨a, m, cm, lo, hi, hc, hm, ho, hlo, hhi, hstep⟩ := hT'.mark hlt
      have hm2 : m ≤ 1048576 := by have := hS'.at_ j; omega
      have hK2 : K ≤ 1099512676353 := by have := HK.out; omega
      have hgl := World.block_lt_of_cell? _ _ hc
      have HM := Lib.hid hm
      have HST := Lib.hid hstep
      have HS' := Lib.hid hS'
      clear hm hstep hT'
      go_wp2_with fail
      refine (mark_calls ho (by omega) (by omega) (by omega)).mono ?_
      rintro e w1 ⟨rfl, ho2, ht2⟩
      obtain ⟨⟨u, q0⟩, f0, hT2⟩ := HST.out w1 (marks K m) (K + m) ho2 ht2
      have F : Hid ((∃ ts', TenIn (w1.setCell ⟨g, j * 2 + 1, none⟩ (.int .i64 (K + m))) g H n ts' ∧ Short 1048576 ts') ∧ Touch g H w (w1.setCell ⟨g, j * 2 + 1, none⟩ (.int .i64 (K + m)))) := by
        refine ⟨⟨_, hT2, HS'.out.set_ (by rw [length_marks]; exact hm2)⟩, (ht.trans ?_).trans (Touch.of_grown (grown_set w1 ⟨g, j * 2 + 1, none⟩ _) (by intro k hk; injection hk with hk; subst hk; exact ⟨Nat.le_refl _, hgH⟩))⟩
        exact ⟨ht2.os, ht2.tape, ht2.output, ht2.size, fun k hk hd => ht2.block k hk (by omega)⟩
      have HK2 : Hid (K + m + 1 ≤ 1 + (j + 1) * 1048577) := by have := HK.out; show _ ≤ _; omega
      have hk3 : (K : Int) + (m : Int) ≤ 1099513724929 := by omega
      clear hT2 ho2 ht2 ho
      go_wp2_with fail
      go_roundw
      case rel => exact ⟨j + 1, K + m + 1, by omega, by go_num, by go_num, HK2, F.out.1, F.out.2⟩
      case measure => simp [intOf]; omega
    · go_wp2_with fail
      go_ret
      exact ⟨⟨_, rfl, by omega, by have := HK.out; omega⟩, ht⟩

theorem markConfig_calls {g H n c : Nat} {F C : Int} {ts : List (List Int × Int)} {w : World} (hT : TenIn w g H n ts) (hS : Short 1048576 ts) (hn : n ≤ 1048576) :
    Calls Try.prog 33 #[.agg #[.int .i64 F, .int .i64 C, .slice (some ⟨g, 0, none⟩) n c], .int .i64 1] w fun e w' => (∃ K : Int, e = .returned (.int .i64 K) ∧ 0 ≤ K ∧ K ≤ 1099512676353) ∧ Touch g H w w' := by
  go_enter Try.func33, Try.ntmps33
  go_wp2_with fail
  refine (markTens_calls (hT.below ((Below.refl _ _).alloc (Nat.le_refl _) _)) hS hn).mono ?_
  rintro e w1 ⟨⟨K, rfl, hK⟩, ht⟩
  have ht2 := touch_past ht
  clear ht
  go_wp2_with fail
  go_ret
  exact ⟨⟨_, rfl, hK⟩, ht2⟩
end Go.Proofs.Ytoaeglhjaandmaa

/- The laws of 'ConfigFault', 'ColourOf', 'RoomFor', 'OwnerOf' answer true at every argument and write nothing that was there. -/
namespace Go.Proofs.Ytoaeglhjaandmaa
open Go.RowKit

theorem Short.mono {N M : Nat} {ts : List (List Int × Int)} (h : Short N ts) (hNM : N ≤ M) : Short M ts := fun t ht => Nat.le_trans (h t ht) hNM

end Go.Proofs.Ytoaeglhjaandmaa

/- The laws' helpers over tables: how great one is, its copy, whether two are the same, marks. -/
namespace Go.Proofs.Ytoaeglhjaandmaa
open Go.RowKit

theorem szTable_calls {ao : Option Addr} {n c : Nat} {tn r : Int} {w : World} (hn : n ≤ 9223372036854775807) (h0 : 0 ≤ r) (h1 : r ≤ 1048576) :
    Calls Try.prog 27 #[.agg #[.int .i64 tn, .slice ao n c], .int .i64 r] w fun e w' => e = .returned (.int .i64 (if r - n < 0 then -1 else r - n)) ∧ Below w.heap.size w w' := by
  by_cases h : r - (n : Int) < 0
  · have HE := Lib.hid (show (if r - (n : Int) < 0 then (-1 : Int) else r - n) = -1 from if_pos h)
    go_enter Try.func27, Try.ntmps27
    go_wp2_with fail
    refine (szInts_calls hn h0 h1).mono ?_
    rintro e w' ⟨rfl, rfl⟩
    rw [HE.out]
    go_wp2_with fail
    go_ret
    exact ⟨rfl, (Below.refl _ _).alloc (Nat.le_refl _) _⟩
  · have HE := Lib.hid (show (if r - (n : Int) < 0 then (-1 : Int) else r - n) = r - n from if_neg h)
    have hge : ¬ (r - (n : Int) < 0) := h
    go_enter Try.func27, Try.ntmps27
    go_wp2_with fail
    refine (szInts_calls hn h0 h1).mono ?_
    rintro e w' ⟨rfl, rfl⟩
    rw [HE.out]
    go_wp2_with fail
    go_ret
    exact ⟨rfl, (Below.refl _ _).alloc (Nat.le_refl _) _⟩

set_option maxHeartbeats 400000 in
theorem toTable_calls {a : Option Addr} {n c : Nat} {xs : List Int} {tn : Int} {w : World} (ha : Ints w a n xs) (hx : n ≤ 17592186044416) :
    Calls Try.prog 29 #[.agg #[.int .i64 tn, .slice a n c]] w fun e w' => ∃ v, e = .returned (.agg #[.int .i64 tn, v]) ∧ OwnI w' w.heap.size v n xs ∧ Below w.heap.size w w' := by
  go_enter Try.func29, Try.ntmps29
  go_wp2_with fail
  refine (to_calls (((ha.alloc _).alloc _).alloc _) hx).mono ?_
  rintro e w1 ⟨v, rfl, hown, hb1⟩
  obtain ⟨h0, h1, h2, hb, hs⟩ := three_new hb1
  obtain ⟨vo, vc, rfl, hvc, _, _⟩ := hown.shape
  have r0 := Row.cell (w := w1) h0 0
  have r1 := Row.cell (w := w1) h0 1
  have q0 := Row.cell (w := w1) h2 0
  have q1 := Row.cell (w := w1) h2 1
  have f0 := frozen_of_row w1 (w.heap.size + 2) 0 _ _ h2
  have f1 := frozen_of_row w1 (w.heap.size + 2) 1 _ _ h2
  simp at r0 r1 q0 q1
  have HO := Lib.hid hown
  clear hb1 hown
  have hres := (heap_setCell_other w1 ⟨w.heap.size + 1 + 1, 1, none⟩ (w.heap.size + 1) (.slice vo n vc) (by simp)).trans h1
  go_wp2_with (refine wpList_store_row rfl 29 _ _ rfl (w.heap.size + 1) _ rfl rfl _ _ hres (by kernel_rfl) (by rfl) (by simp [Value.oneCell']) ?_)
  refine bodyPost_ret (results_cell_row rfl _ _ (w.heap.size + 1) _ _ _ _ rfl (setRow_heap _ _ _ _ _ _ hres) Try.underlying29 rfl (by kernel_rfl)) rfl ?_
  refine ⟨_, rfl, ((HO.out.base (B' := w.heap.size + 3) (by simp)).set_ (by simp) _).setRow (by omega) _ |>.base (by omega), ?_⟩
  exact below_setRow (hb.setCell (by simp; omega) _) (by omega) _

set_option maxHeartbeats 400000 in
theorem eqTable_calls {a b : Option Addr} {n m c d : Nat} {xs : List Int} {tn : Int} {w : World} (ha : Ints w a n xs) (hb : Ints w b m xs) (hx : n ≤ 17592186044416) :
    Calls Try.prog 31 #[.agg #[.int .i64 tn, .slice a n c], .agg #[.int .i64 tn, .slice b m d]] w fun e w' => e = .returned (.bool true) ∧ Below w.heap.size w w' := by
  have hq : (tn != tn) = false := by simp
  go_enter Try.func31, Try.ntmps31
  go_wp2_with (first | (go_at_call 42; go_must (refine (eq_calls ((ha.alloc _).alloc _) ((hb.alloc _).alloc _) hx).mono ?_); rintro e w1 ⟨rfl, hb1⟩) | (go_quiet (fail)))
  go_ret
  exact ⟨rfl, (((Below.refl _ _).alloc (Nat.le_refl _) _).alloc (by simp) _).trans (hb1.mono (by simp; omega))⟩

set_option maxHeartbeats 400000 in
theorem eqTabR_calls {a b : Option Addr} {n m c d : Nat} {xs : List Int} {q tn : Int} {w : World} (ha : Ints w a n xs) (hb : Ints w b m xs) (hx : n ≤ 17592186044416) :
    Calls Try.prog 32 #[.agg #[.int .i64 q, .int .i64 tn, .slice a n c], .agg #[.int .i64 q, .int .i64 tn, .slice b m d]] w fun e w' => e = .returned (.bool true) ∧ Below w.heap.size w w' := by
  have hq : (q != q) = false := by simp
  go_enter Try.func32, Try.ntmps32
  go_wp2_with (first | (go_at_call 31; go_must (refine (eqTable_calls ((ha.alloc _).alloc _) ((hb.alloc _).alloc _) hx).mono ?_); rintro e w1 ⟨rfl, hb1⟩) | (go_quiet (fail)))
  go_ret
  exact ⟨rfl, (((Below.refl _ _).alloc (Nat.le_refl _) _).alloc (by simp) _).trans (hb1.mono (by simp; omega))⟩

theorem markTable_calls {ao : Option Addr} {n c lo hi : Nat} {xs : List Int} {q K : Int} {w : World} (ho : OwnIn w lo hi (.slice ao n c) n xs) (hx : n ≤ 17592186044416) (h0 : 0 ≤ K) (hK : K ≤ 1125899906842624) :
    Calls Try.prog 34 #[.agg #[.int .i64 q, .slice ao n c], .int .i64 K] w fun e w' => e = .returned (.int .i64 (K + n)) ∧ OwnIn w' lo hi (.slice ao n c) n (marks K n) ∧ Touch lo hi w w' := by
  have HO := Lib.hid ho
  clear ho
  go_enter Try.func34, Try.ntmps34
  go_wp2_with fail
  have ho1 := HO.out.below ((Below.refl w.heap.size w).alloc (Nat.le_refl _) (.cells #[.int .i64 q, .slice ao n c] 29))
  refine (mark_calls ho1 hx h0 hK).mono ?_
  rintro e w1 ⟨rfl, ho2, ht⟩
  have HO2 : Hid (OwnIn w1 lo hi (.slice ao n c) n (marks K n) ∧ Touch lo hi w w1) := ⟨ho2, (Touch.of_below ((Below.refl w.heap.size w).alloc (Nat.le_refl _) _)).trans ht⟩
  clear ho1 ho2 ht
  go_wp2_with fail
  go_ret
  exact ⟨rfl, HO2.out.1, HO2.out.2⟩

theorem markTabR_calls {ao : Option Addr} {n c lo hi : Nat} {xs : List Int} {q tn K : Int} {w : World} (ho : OwnIn w lo hi (.slice ao n c) n xs) (hx : n ≤ 17592186044416) (h0 : 0 ≤ K) (hK : K ≤ 1125899906842624) :
    Calls Try.prog 35 #[.agg #[.int .i64 q, .int .i64 tn, .slice ao n c], .int .i64 K] w fun e w' => e = .returned (.int .i64 (K + n)) ∧ OwnIn w' lo hi (.slice ao n c) n (marks K n) ∧ Touch lo hi w w' := by
  have HO := Lib.hid ho
  clear ho
  go_enter Try.func35, Try.ntmps35
  go_wp2_with fail
  have ho1 := HO.out.below ((Below.refl w.heap.size w).alloc (Nat.le_refl _) (.cells #[.int .i64 q, .int .i64 tn, .slice ao n c] 33))
  refine (markTable_calls ho1 hx h0 hK).mono ?_
  rintro e w1 ⟨rfl, ho2, ht⟩
  have HO2 : Hid (OwnIn w1 lo hi (.slice ao n c) n (marks K n) ∧ Touch lo hi w w1) := ⟨ho2, (Touch.of_below ((Below.refl w.heap.size w).alloc (Nat.le_refl _) _)).trans ht⟩
  clear ho1 ho2 ht
  go_wp2_with fail
  go_ret
  exact ⟨rfl, HO2.out.1, HO2.out.2⟩

theorem heldTable_calls {ao : Option Addr} {n c : Nat} {q K : Int} {w : World} (ha : Ints w ao n (marks K n)) (hx : n ≤ 17592186044416) (h0 : 0 ≤ K) (hK : K ≤ 1125899906842624) :
    Calls Try.prog 77 #[.agg #[.int .i64 q, .slice ao n c], .int .i64 K] w fun e w' => e = .returned (.int .i64 (K + n)) ∧ Below w.heap.size w w' := by
  go_enter Try.func77, Try.ntmps77
  go_wp2_with fail
  refine (held_calls (ha.alloc _) hx h0 hK).mono ?_
  rintro e w1 ⟨rfl, rfl⟩
  have hlt : ¬ (K + (n : Int) < 0) := by omega
  go_wp2_with fail
  go_ret
  exact ⟨rfl, (Below.refl _ _).alloc (Nat.le_refl _) _⟩

theorem heldTabR_calls {ao : Option Addr} {n c : Nat} {q tn K : Int} {w : World} (ha : Ints w ao n (marks K n)) (hx : n ≤ 17592186044416) (h0 : 0 ≤ K) (hK : K ≤ 1125899906842624) :
    Calls Try.prog 36 #[.agg #[.int .i64 q, .int .i64 tn, .slice ao n c], .int .i64 K] w fun e w' => e = .returned (.int .i64 (K + n)) ∧ Below w.heap.size w w' := by
  go_enter Try.func36, Try.ntmps36
  go_wp2_with fail
  refine (heldTable_calls (ha.alloc _) hx h0 hK).mono ?_
  rintro e w1 ⟨rfl, hb1⟩
  have hlt : ¬ (K + (n : Int) < 0) := by omega
  go_wp2_with fail
  go_ret
  exact ⟨rfl, below_past hb1⟩
end Go.Proofs.Ytoaeglhjaandmaa

/- Data that lead to further memory, told once for all types: how a datum lies in cells, slices that are read, slices that own all they lead to. -/
namespace Go.Proofs.Ytoaeglhjaandmaa
open Go.RowKit

/-- w' is w with new blocks, and with writes to the blocks T alone. -/
structure Turn (T : Nat → Prop) (w w' : World) : Prop where
  os : w'.os = w.os
  tape : w'.tape = w.tape
  output : w'.output = w.output
  size : w.heap.size ≤ w'.heap.size
  block : ∀ k, k < w.heap.size → ¬ T k → w'.heap[k]? = w.heap[k]?

theorem Turn.refl (T : Nat → Prop) (w : World) : Turn T w w := ⟨rfl, rfl, rfl, Nat.le_refl _, fun _ _ _ => rfl⟩
theorem Turn.trans {T U : Nat → Prop} {a b c : World} (h : Turn T a b) (k : Turn U b c) (hU : ∀ i, U i → i < a.heap.size → T i) : Turn T a c :=
  ⟨k.os.trans h.os, k.tape.trans h.tape, k.output.trans h.output, Nat.le_trans h.size k.size, fun i hi hn => (k.block i (Nat.lt_of_lt_of_le hi h.size) (fun hu => hn (hU i hu hi))).trans (h.block i hi hn)⟩
theorem Turn.mono {T U : Nat → Prop} {a b : World} (h : Turn T a b) (hU : ∀ i, T i → i < a.heap.size → U i) : Turn U a b :=
  ⟨h.os, h.tape, h.output, h.size, fun i hi hn => h.block i hi (fun ht => hn (hU i ht hi))⟩
theorem Turn.of_below {T : Nat → Prop} {w w' : World} (h : Below w.heap.size w w') : Turn T w w' := ⟨h.os, h.tape, h.output, h.size, fun k hk _ => h.block k hk⟩
theorem Turn.of_grown {w w' : World} {v : Value} (h : w.grownBy w' v.ownBlock) : Turn (fun k => v.ownBlock = some k) w w' := ⟨h.os, h.tape, h.output, h.size, fun k hk hn => h.block k hk (fun e => hn e.symm)⟩
theorem Turn.below {T : Nat → Prop} {B : Nat} {w0 w w' : World} (hb : Below B w0 w) (h : Turn T w w') (hB : B ≤ w.heap.size) (hT : ∀ k, T k → B ≤ k) : Below B w0 w' :=
  ⟨h.os.trans hb.os, h.tape.trans hb.tape, h.output.trans hb.output, Nat.le_trans hb.size h.size, fun k hk => (h.block k (by omega) (fun ht => by have := hT k ht; omega)).trans (hb.block k hk)⟩
theorem Turn.none_ {w w' : World} (h : Turn (fun _ => False) w w') : Below w.heap.size w w' := Turn.below (Below.refl _ _) h (Nat.le_refl _) (fun _ h => h.elim)
theorem Turn.set (w : World) (a : Addr) (u : Value) : Turn (fun k => k = a.block) w (w.setCell a u) := ⟨rfl, rfl, rfl, by simp [World.setCell], fun k _ hn => heap_setCell_other w a k _ hn⟩
theorem Turn.setRow (w : World) (g : Nat) (cs : Array Value) : Turn (fun k => k = g) w (w.setRow g cs) := ⟨rfl, rfl, rfl, by simp, fun k _ hn => setRow_other w g k cs hn⟩
theorem Turn.alloc (T : Nat → Prop) (w : World) (o : Obj) : Turn T w (w.alloc o) := Turn.of_below ((Below.refl _ _).alloc (Nat.le_refl _) o)
theorem Turn.drewN {T : Nat → Prop} {w w' : World} (h : Turn T w w') (n : Nat) : Turn T w (w'.drewN n) := ⟨h.os, h.tape, h.output, h.size, h.block⟩
theorem Turn.row {T : Nat → Prop} {w w' : World} {b : Nat} {t : TypeId} {cs : Array Value} (h : Turn T w w') (hr : Row w b t cs) (hn : ¬ T b) : Row w' b t cs := (h.block b hr.lt hn).trans hr

/-- How a datum lies in cells. 'rd': it reads so, in blocks of S. 'own': all that it leads to lies in blocks of S, each of them its own. -/
structure Lay (α : Type) where
  sz : Nat
  rd : World → (Nat → Prop) → List Value → α → Prop
  own : World → (Nat → Prop) → List Value → α → Prop
  rd_len : ∀ {w S cs x}, rd w S cs x → cs.length = sz
  rd_turn : ∀ {w w' S T cs x}, rd w S cs x → Turn T w w' → (∀ k, S k → k < w.heap.size → ¬ T k) → rd w' S cs x
  rd_mono : ∀ {w S S' cs x}, rd w S cs x → (∀ k, S k → k < w.heap.size → S' k) → rd w S' cs x
  own_turn : ∀ {w w' S T cs x}, own w S cs x → Turn T w w' → (∀ k, S k → k < w.heap.size → ¬ T k) → own w' S cs x
  own_mono : ∀ {w S S' cs x}, own w S cs x → (∀ k, S k → k < w.heap.size → S' k) → own w S' cs x
  own_rd : ∀ {w S cs x}, own w S cs x → rd w S cs x

/-- The slice of n elements at 'ao' reads as xs, in blocks of S. -/
def Lst {α : Type} (K : Lay α) (w : World) (S : Nat → Prop) (ao : Option Addr) (n : Nat) (xs : List α) : Prop :=
  xs.length = n ∧ (0 < n → ∃ b off, ao = some ⟨b, off, none⟩ ∧ b < w.heap.size ∧ S b ∧ ∀ j x, xs[j]? = some x → ∃ cs, cs.length = K.sz ∧ (∀ i, i < K.sz → w.cell? ⟨b, off + j * K.sz + i, none⟩ = cs[i]?) ∧ K.rd w S cs x)

section
variable {α : Type} {K : Lay α} {w w' : World} {S S' T : Nat → Prop} {ao : Option Addr} {n : Nat} {xs : List α}
theorem Lst.turn (h : Lst K w S ao n xs) (ht : Turn T w w') (hd : ∀ k, S k → k < w.heap.size → ¬ T k) : Lst K w' S ao n xs := by
  refine ⟨h.1, fun h0 => ?_⟩
  obtain ⟨b, off, rfl, hb, hs, hc⟩ := h.2 h0
  refine ⟨b, off, rfl, Nat.lt_of_lt_of_le hb ht.size, hs, fun j x hj => ?_⟩
  obtain ⟨cs, hl, hcs, hr⟩ := hc j x hj
  exact ⟨cs, hl, fun i hi => by rw [World.cell?_of_block (w := w) (a := ⟨b, _, none⟩) (ht.block b hb (hd b hs hb))]; exact hcs i hi, K.rd_turn hr ht hd⟩
theorem Lst.below (h : Lst K w S ao n xs) (hb : Below w.heap.size w w') : Lst K w' S ao n xs := h.turn (T := fun _ => False) (Turn.of_below hb) (fun _ _ _ h => h)
theorem Lst.alloc (h : Lst K w S ao n xs) (o : Obj) : Lst K (w.alloc o) S ao n xs := h.below ((Below.refl _ _).alloc (Nat.le_refl _) o)
theorem Lst.mono (h : Lst K w S ao n xs) (hS : ∀ k, S k → k < w.heap.size → S' k) : Lst K w S' ao n xs := by
  refine ⟨h.1, fun h0 => ?_⟩
  obtain ⟨b, off, rfl, hb, hs, hc⟩ := h.2 h0
  refine ⟨b, off, rfl, hb, hS b hs hb, fun j x hj => ?_⟩
  obtain ⟨cs, hl, hcs, hr⟩ := hc j x hj
  exact ⟨cs, hl, hcs, K.rd_mono hr hS⟩
theorem Lst.nil : Lst K w S ao 0 [] := ⟨rfl, fun h => absurd h (by omega)⟩
theorem Lst.at_ (h : Lst K w S ao n xs) {j : Nat} (hj : j < n) : ∃ b off cs x, ao = some ⟨b, off, none⟩ ∧ b < w.heap.size ∧ S b ∧ xs[j]? = some x ∧ cs.length = K.sz ∧ (∀ i, i < K.sz → w.cell? ⟨b, off + j * K.sz + i, none⟩ = cs[i]?) ∧ K.rd w S cs x := by
  obtain ⟨b, off, rfl, hb, hs, hc⟩ := h.2 (by omega)
  have hx : xs[j]? = some (xs[j]'(by have := h.1; omega)) := List.getElem?_eq_getElem _
  obtain ⟨cs, hl, hcs, hr⟩ := hc j _ hx
  exact ⟨b, off, cs, _, rfl, hb, hs, hx, hl, hcs, hr⟩
theorem Lst.lt (h : Lst K w S ao n xs) (h0 : 0 < n) : ∃ b off, ao = some ⟨b, off, none⟩ ∧ b < w.heap.size ∧ S b := by
  obtain ⟨b, off, rfl, hb, hs, _⟩ := h.2 h0
  exact ⟨b, off, rfl, hb, hs⟩
/-- A part of a slice. -/
theorem Lst.part {b off : Nat} (h : Lst K w S (some ⟨b, off, none⟩) n xs) {i m : Nat} (hi : i + m ≤ n) : Lst K w S (some ⟨b, off + i * K.sz, none⟩) m ((xs.drop i).take m) := by
  have hl := h.1
  refine ⟨by simp; omega, fun h0 => ?_⟩
  obtain ⟨b', off', he, hb, hs, hc⟩ := h.2 (by omega)
  injection he with he
  injection he with he1 he2
  subst he1 he2
  refine ⟨b, _, rfl, hb, hs, fun j x hj => ?_⟩
  rw [List.getElem?_take] at hj
  split at hj
  · rw [List.getElem?_drop] at hj
    obtain ⟨cs, hl, hcs, hr⟩ := hc _ x hj
    exact ⟨cs, hl, fun q hq => by rw [← hcs q hq, show off + i * K.sz + j * K.sz + q = off + (i + j) * K.sz + q by rw [Nat.add_mul]; omega], hr⟩
  · cases hj
end

/-- The slice value v, of n elements of type t, owns the elements xs and all that they lead to, in blocks of S. -/
def Own {α : Type} (K : Lay α) (t : TypeId) (w : World) (S : Nat → Prop) (v : Value) (n : Nat) (xs : List α) : Prop :=
  xs.length = n ∧ ((v = .slice none 0 0 ∧ n = 0) ∨ ∃ (g cap : Nat) (cur : Array Value) (F : Nat → Nat → Prop), v = .slice (some ⟨g, 0, none⟩) n cap ∧ S g ∧ Row w g t cur ∧ n ≤ cap ∧ cap ≤ maxLen ∧ cur.size = cap * K.sz ∧
    (∀ j k, F j k → S k ∧ k ≠ g) ∧ (∀ i j k, F i k → F j k → i = j) ∧ ∀ j x, xs[j]? = some x → ∃ cs, cs.length = K.sz ∧ (∀ i, i < K.sz → cur[j * K.sz + i]? = cs[i]?) ∧ K.own w (F j) cs x)

section
variable {α : Type} {K : Lay α} {t : TypeId} {w w' : World} {S S' T : Nat → Prop} {v : Value} {n : Nat} {xs : List α}
theorem Own.nil : Own K t w S (.slice none 0 0) 0 [] := ⟨rfl, .inl ⟨rfl, rfl⟩⟩
theorem Own.turn (h : Own K t w S v n xs) (ht : Turn T w w') (hd : ∀ k, S k → k < w.heap.size → ¬ T k) : Own K t w' S v n xs := by
  refine ⟨h.1, ?_⟩
  rcases h.2 with h2 | ⟨g, cap, cur, F, hv, hg, hr, h1, h2, h3, hF, hD, hc⟩
  · exact .inl h2
  · refine .inr ⟨g, cap, cur, F, hv, hg, ht.row hr (hd g hg hr.lt), h1, h2, h3, hF, hD, fun j x hj => ?_⟩
    obtain ⟨cs, hl, hcs, ho⟩ := hc j x hj
    exact ⟨cs, hl, hcs, K.own_turn ho ht (fun k hk => hd k (hF j k hk).1)⟩
theorem Own.below (h : Own K t w S v n xs) (hb : Below w.heap.size w w') : Own K t w' S v n xs := h.turn (T := fun _ => False) (Turn.of_below hb) (fun _ _ _ h => h)
theorem Own.alloc (h : Own K t w S v n xs) (o : Obj) : Own K t (w.alloc o) S v n xs := h.below ((Below.refl _ _).alloc (Nat.le_refl _) o)
theorem Own.mono (h : Own K t w S v n xs) (hS : ∀ k, S k → k < w.heap.size → S' k) : Own K t w S' v n xs := by
  refine ⟨h.1, ?_⟩
  rcases h.2 with h2 | ⟨g, cap, cur, F, hv, hg, hr, h1, h2, h3, hF, hD, hc⟩
  · exact .inl h2
  · refine .inr ⟨g, cap, cur, fun j k => F j k ∧ k < w.heap.size, hv, hS g hg hr.lt, hr, h1, h2, h3, fun j k hk => ⟨hS k (hF j k hk.1).1 hk.2, (hF j k hk.1).2⟩, fun i j k hi hj => hD i j k hi.1 hj.1, fun j x hj => ?_⟩
    obtain ⟨cs, hl, hcs, ho⟩ := hc j x hj
    exact ⟨cs, hl, hcs, K.own_mono ho (fun k hk hlt => ⟨hk, hlt⟩)⟩
theorem Own.shape (h : Own K t w S v n xs) : ∃ ao cap, v = .slice ao n cap ∧ n ≤ cap ∧ cap ≤ maxLen ∧ Lst K w S ao n xs := by
  rcases h.2 with ⟨rfl, rfl⟩ | ⟨g, cap, cur, F, hv, hg, hr, h1, h2, h3, hF, hD, hc⟩
  · exact ⟨none, 0, rfl, Nat.le_refl _, Nat.zero_le _, h.1, fun h => absurd h (by omega)⟩
  · refine ⟨_, cap, hv, h1, h2, h.1, fun _ => ⟨g, 0, rfl, hr.lt, hg, fun j x hj => ?_⟩⟩
    obtain ⟨cs, hl, hcs, ho⟩ := hc j x hj
    exact ⟨cs, hl, fun i hi => by rw [Nat.zero_add, hr.cell]; exact hcs i hi, K.rd_mono (K.own_rd ho) (fun k hk _ => (hF j k hk).1)⟩
theorem Own.lst {ao : Option Addr} {m cap : Nat} (h : Own K t w S (.slice ao m cap) n xs) : n = m ∧ n ≤ cap ∧ cap ≤ maxLen ∧ Lst K w S ao n xs := by
  obtain ⟨ao', cap', he, h1, h2, h3⟩ := h.shape
  injection he with e1 e2 e3
  subst e1 e2 e3
  exact ⟨rfl, h1, h2, h3⟩
/-- It owns none but blocks that are there. -/
theorem Own.here (h : Own K t w S v n xs) : Own K t w (fun k => S k ∧ k < w.heap.size) v n xs := h.mono (fun _ h hl => ⟨h, hl⟩)
theorem Own.fresh {B : Nat} (h : Own K t w (fun k => B ≤ k) v n xs) {B' : Nat} (hB : B' ≤ B) : Own K t w (fun k => B' ≤ k) v n xs := h.mono (fun _ h _ => Nat.le_trans hB h)
end

/-- Of block g just the cells from off on have turned: they are cs now. -/
def Upd (w w' : World) (t : TypeId) (g off : Nat) (cs : List Value) : Prop :=
  ∃ cur cur', Row w g t cur ∧ Row w' g t cur' ∧ cur'.size = cur.size ∧ (∀ i, (i < off ∨ off + cs.length ≤ i) → cur'[i]? = cur[i]?) ∧ ∀ i, i < cs.length → cur'[off + i]? = cs[i]?
theorem Upd.refl {w : World} {t : TypeId} {g off : Nat} {cur : Array Value} {cs : List Value} (hr : Row w g t cur) (hc : ∀ i, i < cs.length → cur[off + i]? = cs[i]?) : Upd w w t g off cs :=
  ⟨cur, cur, hr, hr, rfl, fun _ _ => rfl, hc⟩
theorem Upd.turn {w w1 w2 : World} {t : TypeId} {g off : Nat} {cs : List Value} {T : Nat → Prop} (h : Upd w w1 t g off cs) (ht : Turn T w1 w2) (hg : ¬ T g) : Upd w w2 t g off cs := by
  obtain ⟨cur, cur', h1, h2, h3, h4, h5⟩ := h
  exact ⟨cur, cur', h1, ht.row h2 hg, h3, h4, h5⟩
theorem Upd.set {w w1 : World} {t : TypeId} {g off i : Nat} {cs : List Value} {u : Value} (h : Upd w w1 t g off cs) (hi : i < cs.length) : Upd w (w1.setCell ⟨g, off + i, none⟩ u) t g off (cs.set i u) := by
  obtain ⟨cur, cur', h1, h2, h3, h4, h5⟩ := h
  refine ⟨cur, cur'.setIfInBounds (off + i) u, h1, heap_setCell_same _ g (off + i) _ _ u h2, by simpa using h3, fun q hq => ?_, fun q hq => ?_⟩
  · rw [List.length_set] at hq
    rw [Array.getElem?_setIfInBounds_ne (by omega)]; exact h4 q hq
  · rw [List.length_set] at hq
    have hlt : off + i < cur'.size := by
      have := h5 i hi
      rw [List.getElem?_eq_getElem hi] at this
      exact (Array.getElem?_eq_some_iff.1 this).1
    by_cases e : q = i
    · subst e
      rw [Array.getElem?_setIfInBounds_self_of_lt hlt, List.getElem?_set_self hi]
    · rw [Array.getElem?_setIfInBounds_ne (by omega), List.getElem?_set_ne (by omega)]; exact h5 q hq
theorem Upd.cell {w w1 : World} {t : TypeId} {g off : Nat} {cs : List Value} (h : Upd w w1 t g off cs) : g < w1.heap.size ∧ (∀ i, i < cs.length → w1.cell? ⟨g, off + i, none⟩ = cs[i]?) ∧ ∀ i, w1.frozen? ⟨g, i, none⟩ = false := by
  obtain ⟨cur, cur', h1, h2, h3, h4, h5⟩ := h
  exact ⟨h2.lt, fun i hi => by rw [h2.cell]; exact h5 i hi, fun i => frozen_of_row w1 g i _ _ h2⟩

section
variable {α : Type} {K : Lay α} {t : TypeId} {w : World} {S : Nat → Prop} {v : Value} {n : Nat} {xs : List α}
/-- One element of what is owned: its cells, what it owns; and what is owned when it alone has turned. -/
theorem Own.focus (h : Own K t w S v n xs) {j : Nat} (hj : j < n) :
    ∃ g cap cs F x, v = .slice (some ⟨g, 0, none⟩) n cap ∧ S g ∧ xs[j]? = some x ∧ cs.length = K.sz ∧ Upd w w t g (j * K.sz) cs ∧ K.own w F cs x ∧ (∀ k, F k → S k ∧ k ≠ g ∧ k < w.heap.size) ∧
      ∀ (w' : World) (F' : Nat → Prop) (cs' : List Value) (x' : α), cs'.length = K.sz → Turn (fun k => F k ∨ k = g) w w' → Upd w w' t g (j * K.sz) cs' → K.own w' F' cs' x' → (∀ k, F' k → F k ∨ ¬ (S k ∧ k < w.heap.size)) →
        Own K t w' (fun k => S k ∨ F' k) v n (xs.set j x') := by
  have hl := h.1
  rcases h.here.2 with ⟨_, h2⟩ | ⟨g, cap, cur, F, rfl, hg, hr, h1, h2, h3, hF, hD, hc⟩
  · omega
  · have hx : xs[j]? = some (xs[j]'(by omega)) := List.getElem?_eq_getElem _
    obtain ⟨cs, hcl, hcs, ho⟩ := hc j _ hx
    refine ⟨g, cap, cs, F j, _, rfl, hg.1, hx, hcl, Upd.refl hr (by rw [hcl]; exact hcs), ho, fun k hk => ⟨(hF j k hk).1.1, (hF j k hk).2, (hF j k hk).1.2⟩, ?_⟩
    intro w' F' cs' x' hcl' ht hu ho' hF'
    obtain ⟨cur0, cur', hr0, hr', hs', hout, hin⟩ := hu
    have e := hr0.symm.trans hr
    injection e with e; injection e with e
    subst e
    refine ⟨by simpa using hl, .inr ⟨g, cap, cur', fun i k => (i = j ∧ F' k) ∨ (i ≠ j ∧ F i k), rfl, .inl hg.1, hr', h1, h2, hs'.trans h3, ?_, ?_, ?_⟩⟩
    · rintro i k (⟨rfl, hk⟩ | ⟨_, hk⟩)
      · rcases hF' k hk with h4 | h4
        · exact ⟨.inl (hF _ k h4).1.1, (hF _ k h4).2⟩
        · exact ⟨.inr hk, fun e => h4 (e ▸ hg)⟩
      · exact ⟨.inl (hF _ k hk).1.1, (hF _ k hk).2⟩
    · rintro i i' k (⟨rfl, hk⟩ | ⟨hi, hk⟩) (⟨rfl, hk'⟩ | ⟨hi', hk'⟩)
      · rfl
      · rcases hF' k hk with h4 | h4
        · exact hD _ _ k h4 hk'
        · exact absurd (hF _ k hk').1 h4
      · rcases hF' k hk' with h4 | h4
        · exact hD _ _ k hk h4
        · exact absurd (hF _ k hk).1 h4
      · exact hD _ _ k hk hk'
    · intro i x hi
      by_cases e : i = j
      · subst e
        rw [List.getElem?_set_self (by omega)] at hi
        injection hi with hi; subst hi
        exact ⟨cs', hcl', fun q hq => hin q (by omega), K.own_mono ho' (fun k hk _ => .inl ⟨rfl, hk⟩)⟩
      · rw [List.getElem?_set_ne (by omega)] at hi
        obtain ⟨ci, hcl2, hci, hoi⟩ := hc i x hi
        refine ⟨ci, hcl2, fun q hq => ?_, K.own_mono (K.own_turn hoi ht ?_) (fun k hk _ => .inr ⟨e, hk⟩)⟩
        · rw [hout _ ?_]
          · exact hci q hq
          · rw [hcl']
            rcases Nat.lt_or_gt_of_ne e with h5 | h5
            · left
              have := Nat.mul_le_mul_right K.sz (show i + 1 ≤ j by omega)
              rw [Nat.add_mul] at this; omega
            · right
              have := Nat.mul_le_mul_right K.sz (show j + 1 ≤ i by omega)
              rw [Nat.add_mul] at this; omega
        · rintro k hk hlt (h5 | h5)
          · exact e (hD _ _ k hk h5)
          · exact (hF _ k hk).2 h5
/-- A new slice of n elements, each one of cells that lead to nothing. -/
theorem Own.made {zs : List Value} {g : Nat} {cur : Array Value} {x : α} (hr : Row w g t cur) (hg : S g) (hn : n ≤ maxLen) (hs : cur.size = n * K.sz) (hz : zs.length = K.sz) (hc : ∀ j i, j < n → i < K.sz → cur[j * K.sz + i]? = zs[i]?)
    (ho : K.own w (fun _ => False) zs x) : Own K t w S (.slice (some ⟨g, 0, none⟩) n n) n (List.replicate n x) := by
  refine ⟨by simp, .inr ⟨g, n, cur, fun _ _ => False, rfl, hg, hr, Nat.le_refl _, hn, hs, fun _ _ h => h.elim, fun _ _ _ h => h.elim, fun j y hj => ?_⟩⟩
  rw [List.getElem?_replicate] at hj
  split at hj
  · injection hj with hj; subst hj
    exact ⟨zs, hz, fun i hi => hc j i (by assumption) hi, ho⟩
  · cases hj
/-- What an append of one element leaves. -/
theorem Own.row (h : Own K t w S v n xs) : ∃ cells, w.ownsRow 0 t K.sz v n cells ∧ (∀ g, v.ownBlock = some g → S g) ∧ ∃ F : Nat → Nat → Prop, (∀ j k, F j k → S k ∧ v.ownBlock ≠ some k) ∧ (∀ i j k, F i k → F j k → i = j) ∧
    ∀ j x, xs[j]? = some x → ∃ cs, cs.length = K.sz ∧ (∀ i, i < K.sz → cells[j * K.sz + i]? = cs[i]?) ∧ K.own w (F j) cs x := by
  have hl := h.1
  rcases h.2 with ⟨rfl, rfl⟩ | ⟨g, cap, cur, F, rfl, hg, hr, h1, h2, h3, hF, hD, hc⟩
  · refine ⟨[], World.ownsRow_nil _ _ _ _, fun g hg => by simp [Value.ownBlock] at hg, fun _ _ => False, fun _ _ h => h.elim, fun _ _ _ h => h.elim, fun j x hj => ?_⟩
    have := (List.getElem?_eq_some_iff.1 hj).1
    omega
  · refine ⟨cur.toList.take (n * K.sz), ⟨?_, .inr ⟨g, cap, cur, rfl, Nat.zero_le _, hr, h1, h2, h3, rfl⟩⟩, fun g' hg' => ?_, F, fun j k hk => ⟨(hF j k hk).1, fun e => ?_⟩, hD, fun j x hj => ?_⟩
    · rw [List.length_take, Array.length_toList, h3, Nat.min_eq_left (Nat.mul_le_mul_right _ h1)]
    · simp [Value.ownBlock] at hg'; exact hg' ▸ hg
    · simp [Value.ownBlock] at e; exact (hF j k hk).2 e.symm
    · obtain ⟨cs, hcl, hcs, ho⟩ := hc j x hj
      refine ⟨cs, hcl, fun i hi => ?_, ho⟩
      have hj' := (List.getElem?_eq_some_iff.1 hj).1
      have := Nat.mul_le_mul_right K.sz (show j + 1 ≤ n by omega)
      rw [Nat.add_mul] at this
      rw [List.getElem?_take, if_pos (by omega), ← hcs i hi]; simp
theorem Own.of_row {cells : List Value} {F : Nat → Nat → Prop} (hr : w.ownsRow 0 t K.sz v n cells) (hl : xs.length = n) (hS : ∀ g, v.ownBlock = some g → S g) (hF : ∀ j k, F j k → S k ∧ v.ownBlock ≠ some k) (hD : ∀ i j k, F i k → F j k → i = j)
    (hc : ∀ j x, xs[j]? = some x → ∃ cs, cs.length = K.sz ∧ (∀ i, i < K.sz → cells[j * K.sz + i]? = cs[i]?) ∧ K.own w (F j) cs x) : Own K t w S v n xs := by
  refine ⟨hl, ?_⟩
  rcases hr.2 with h2 | ⟨g, cap, cur, rfl, _, hh, h1, h2, h3, ht⟩
  · exact .inl h2
  · refine .inr ⟨g, cap, cur, F, rfl, hS g rfl, hh, h1, h2, h3, fun j k hk => ⟨(hF j k hk).1, fun e => (hF j k hk).2 (by rw [e]; rfl)⟩, hD, fun j x hj => ?_⟩
    obtain ⟨cs, hcl, hcs, ho⟩ := hc j x hj
    refine ⟨cs, hcl, fun i hi => ?_, ho⟩
    have hj' := (List.getElem?_eq_some_iff.1 hj).1
    have := Nat.mul_le_mul_right K.sz (show j + 1 ≤ n by omega)
    rw [Nat.add_mul] at this
    rw [← hcs i hi, ← ht, List.getElem?_take, if_pos (by omega)]; simp
theorem Own.snoc {w' : World} {v' : Value} {cells : List Value} {F : Nat → Nat → Prop} {G : Nat → Prop} {cs : List Value} {x : α} (hl : xs.length = n)
    (hS : ∀ g, v.ownBlock = some g → S g) (hF : ∀ j k, F j k → S k ∧ v.ownBlock ≠ some k) (hD : ∀ i j k, F i k → F j k → i = j) (hc : ∀ j x, xs[j]? = some x → ∃ cs, cs.length = K.sz ∧ (∀ i, i < K.sz → cells[j * K.sz + i]? = cs[i]?) ∧ K.own w (F j) cs x)
    (hcn : cells.length = n * K.sz) (hcs : cs.length = K.sz) (hx : K.own w G cs x) (hG : ∀ k, G k → k < w.heap.size → ¬ S k)
    (hr : w'.ownsRow 0 t K.sz v' (n + 1) (cells ++ cs)) (hg : w.grownBy w' v.ownBlock) (hv' : ∀ g, v'.ownBlock = some g → v.ownBlock = some g ∨ w.heap.size ≤ g) :
    Own K t w' (fun k => S k ∨ G k ∨ w.heap.size ≤ k) v' (n + 1) (xs ++ [x]) := by
  have ht := Turn.of_grown hg
  refine Own.of_row (F := fun j k => k < w.heap.size ∧ ((j < n ∧ F j k) ∨ (j = n ∧ G k))) hr (by simp [hl]) (fun g h => ?_) ?_ ?_ ?_
  · rcases hv' g h with h1 | h1
    · exact .inl (hS g h1)
    · exact .inr (.inr h1)
  · rintro j k ⟨hk, ⟨_, h1⟩ | ⟨_, h1⟩⟩
    · refine ⟨.inl (hF j k h1).1, fun e => ?_⟩
      rcases hv' k e with h2 | h2
      · exact (hF j k h1).2 h2
      · omega
    · refine ⟨.inr (.inl h1), fun e => ?_⟩
      rcases hv' k e with h2 | h2
      · exact hG k h1 hk (hS k h2)
      · omega
  · rintro i j k ⟨hk, ⟨hi, h1⟩ | ⟨hi, h1⟩⟩ ⟨_, ⟨hj, h2⟩ | ⟨hj, h2⟩⟩
    · exact hD _ _ k h1 h2
    · exact absurd (hF i k h1).1 (hG k h2 hk)
    · exact absurd (hF j k h2).1 (hG k h1 hk)
    · omega
  · intro j y hj
    by_cases e : j < n
    · rw [List.getElem?_append_left (by omega)] at hj
      obtain ⟨ci, hcl, hci, hoi⟩ := hc j y hj
      have := Nat.mul_le_mul_right K.sz (show j + 1 ≤ n by omega)
      rw [Nat.add_mul] at this
      refine ⟨ci, hcl, fun i hi => by rw [List.getElem?_append_left (by omega)]; exact hci i hi, ?_⟩
      have h1 := K.own_turn hoi ht (fun k hk _ e => (hF j k hk).2 e)
      exact K.own_mono (K.own_turn (K.own_mono hoi (S' := fun k => F j k ∧ k < w.heap.size) (fun k hk hlt => ⟨hk, hlt⟩)) ht (fun k hk _ e => (hF j k hk.1).2 e)) (fun k hk _ => ⟨hk.2, .inl ⟨e, hk.1⟩⟩)
    · have he : j = n := by
        have := (List.getElem?_eq_some_iff.1 hj).1
        simp at this; omega
      subst he
      rw [List.getElem?_append_right (by omega), hl, Nat.sub_self] at hj
      simp at hj; subst hj
      refine ⟨cs, hcs, fun i hi => by rw [List.getElem?_append_right (by omega), hcn, Nat.add_sub_cancel_left], ?_⟩
      have hx2 := K.own_mono hx (S' := fun k => G k ∧ k < w.heap.size) (fun k hk hlt => ⟨hk, hlt⟩)
      exact K.own_mono (K.own_turn hx2 ht (fun k hk hlt e => hG k hk.1 hlt (hS k e))) (fun k hk _ => ⟨hk.2, .inr ⟨rfl, hk.1⟩⟩)
end

/-- Whole numbers, truth values. -/
def KInt : Lay Int where
  sz := 1
  rd _ _ cs x := cs = [.int .i64 x]
  own _ _ cs x := cs = [.int .i64 x]
  rd_len h := by subst h; rfl
  rd_turn h _ _ := h
  rd_mono h _ := h
  own_turn h _ _ := h
  own_mono h _ := h
  own_rd h := h
def KBool : Lay Bool where
  sz := 1
  rd _ _ cs x := cs = [.bool x]
  own _ _ cs x := cs = [.bool x]
  rd_len h := by subst h; rfl
  rd_turn h _ _ := h
  rd_mono h _ := h
  own_turn h _ _ := h
  own_mono h _ := h
  own_rd h := h
/-- A slice is a datum of one cell. -/
def KSlice {α : Type} (K : Lay α) (t : TypeId) : Lay (List α) where
  sz := 1
  rd w S cs xs := ∃ ao n c, cs = [.slice ao n c] ∧ n ≤ c ∧ c ≤ maxLen ∧ Lst K w S ao n xs
  own w S cs xs := ∃ v n, cs = [v] ∧ Own K t w S v n xs
  rd_len := by rintro w S cs x ⟨_, _, _, rfl, _⟩; rfl
  rd_turn := by rintro w w' S T cs x ⟨a, n, c, rfl, h1, h2, h⟩ ht hd; exact ⟨a, n, c, rfl, h1, h2, h.turn ht hd⟩
  rd_mono := by rintro w S S' cs x ⟨a, n, c, rfl, h1, h2, h⟩ hd; exact ⟨a, n, c, rfl, h1, h2, h.mono hd⟩
  own_turn := by rintro w w' S T cs x ⟨v, n, rfl, h⟩ ht hd; exact ⟨v, n, rfl, h.turn ht hd⟩
  own_mono := by rintro w S S' cs x ⟨v, n, rfl, h⟩ hd; exact ⟨v, n, rfl, h.mono hd⟩
  own_rd := by
    rintro w S cs x ⟨v, n, rfl, h⟩
    obtain ⟨ao, c, rfl, h1, h2, h3⟩ := h.shape
    exact ⟨ao, n, c, rfl, h1, h2, h3⟩
/-- Two data, one behind the other. -/
def KPair {α β : Type} (A : Lay α) (B : Lay β) : Lay (α × β) where
  sz := A.sz + B.sz
  rd w S cs x := ∃ c1 c2, cs = c1 ++ c2 ∧ A.rd w S c1 x.1 ∧ B.rd w S c2 x.2
  own w S cs x := ∃ c1 c2 S1 S2, cs = c1 ++ c2 ∧ A.own w S1 c1 x.1 ∧ B.own w S2 c2 x.2 ∧ (∀ k, S1 k → S k) ∧ (∀ k, S2 k → S k) ∧ ∀ k, S1 k → ¬ S2 k
  rd_len := by rintro w S cs x ⟨c1, c2, rfl, h1, h2⟩; rw [List.length_append, A.rd_len h1, B.rd_len h2]
  rd_turn := by rintro w w' S T cs x ⟨c1, c2, rfl, h1, h2⟩ ht hd; exact ⟨c1, c2, rfl, A.rd_turn h1 ht hd, B.rd_turn h2 ht hd⟩
  rd_mono := by rintro w S S' cs x ⟨c1, c2, rfl, h1, h2⟩ hd; exact ⟨c1, c2, rfl, A.rd_mono h1 hd, B.rd_mono h2 hd⟩
  own_turn := by
    rintro w w' S T cs x ⟨c1, c2, S1, S2, rfl, h1, h2, h3, h4, h5⟩ ht hd
    exact ⟨c1, c2, S1, S2, rfl, A.own_turn h1 ht (fun k hk => hd k (h3 k hk)), B.own_turn h2 ht (fun k hk => hd k (h4 k hk)), h3, h4, h5⟩
  own_mono := by
    rintro w S S' cs x ⟨c1, c2, S1, S2, rfl, h1, h2, h3, h4, h5⟩ hd
    exact ⟨c1, c2, fun k => S1 k ∧ k < w.heap.size, fun k => S2 k ∧ k < w.heap.size, rfl, A.own_mono h1 (fun k hk hl => ⟨hk, hl⟩), B.own_mono h2 (fun k hk hl => ⟨hk, hl⟩), fun k hk => hd k (h3 k hk.1) hk.2, fun k hk => hd k (h4 k hk.1) hk.2, fun k hk hk2 => h5 k hk.1 hk2.1⟩
  own_rd := by
    rintro w S cs x ⟨c1, c2, S1, S2, rfl, h1, h2, h3, h4, h5⟩
    exact ⟨c1, c2, rfl, A.rd_mono (A.own_rd h1) (fun k hk _ => h3 k hk), B.rd_mono (B.own_rd h2) (fun k hk _ => h4 k hk)⟩
/-- The same datum under other names. -/
def KMap {α β : Type} (A : Lay α) (f : β → α) : Lay β where
  sz := A.sz
  rd w S cs x := A.rd w S cs (f x)
  own w S cs x := A.own w S cs (f x)
  rd_len h := A.rd_len h
  rd_turn h := A.rd_turn h
  rd_mono h := A.rd_mono h
  own_turn h := A.own_turn h
  own_mono h := A.own_mono h
  own_rd h := A.own_rd h
/-- Cells of which nothing is said but what they are. -/
def KCells (n : Nat) : Lay (List Value) where
  sz := n
  rd _ _ cs x := cs = x ∧ cs.length = n
  own _ _ cs x := cs = x ∧ cs.length = n
  rd_len h := h.2
  rd_turn h _ _ := h
  rd_mono h _ := h
  own_turn h _ _ := h
  own_mono h _ := h
  own_rd h := h
/-- One of two kinds of data in the same number of cells. -/
def KEither {α β : Type} (A : Lay α) (B : Lay β) (h : B.sz = A.sz) : Lay (α ⊕ β) where
  sz := A.sz
  rd w S cs x := match x with | .inl a => A.rd w S cs a | .inr b => B.rd w S cs b
  own w S cs x := match x with | .inl a => A.own w S cs a | .inr b => B.own w S cs b
  rd_len := by
    rintro w S cs (a | b) h1
    · exact A.rd_len h1
    · exact (B.rd_len h1).trans h
  rd_turn := by
    rintro w w' S T cs (a | b) h1
    · exact A.rd_turn h1
    · exact B.rd_turn h1
  rd_mono := by
    rintro w S S' cs (a | b) h1
    · exact A.rd_mono h1
    · exact B.rd_mono h1
  own_turn := by
    rintro w w' S T cs (a | b) h1
    · exact A.own_turn h1
    · exact B.own_turn h1
  own_mono := by
    rintro w S S' cs (a | b) h1
    · exact A.own_mono h1
    · exact B.own_mono h1
  own_rd := by
    rintro w S cs (a | b) h1
    · exact A.own_rd h1
    · exact B.own_rd h1

/-- Slices of numbers, as the elder texts have them. -/
theorem Lst.ints {w : World} {S : Nat → Prop} {ao : Option Addr} {n : Nat} {xs : List Int} (h : Lst KInt w S ao n xs) : Ints w ao n xs := by
  refine ⟨h.1, fun h0 => ?_⟩
  obtain ⟨b, off, rfl, hb, hs, hc⟩ := h.2 h0
  refine ⟨b, off, rfl, hb, fun j hj => ?_⟩
  have hjl : j < xs.length := by have := h.1; omega
  have hx : xs[j]? = some xs[j] := List.getElem?_eq_getElem _
  obtain ⟨cs, hl, hcs, hr⟩ := hc j _ hx
  have h1 := hcs 0 (show 0 < 1 by omega)
  rw [show cs = [.int .i64 xs[j]] from hr] at h1
  have h2 : w.cell? ⟨b, off + j, none⟩ = some (.int .i64 xs[j]) := by simpa [KInt] using h1
  rw [h2, List.getD_eq_getElem?_getD, hx]; rfl
theorem Ints.lst {w : World} {ao : Option Addr} {n : Nat} {xs : List Int} (h : Ints w ao n xs) : Lst KInt w (fun _ => True) ao n xs := by
  refine ⟨h.1, fun h0 => ?_⟩
  obtain ⟨b, off, rfl, hb, hc⟩ := h.2 h0
  refine ⟨b, off, rfl, hb, trivial, fun j x hj => ⟨[.int .i64 x], rfl, fun i hi => ?_, rfl⟩⟩
  obtain rfl : i = 0 := by have : i < 1 := hi; omega
  have hj' := (List.getElem?_eq_some_iff.1 hj).1
  have h1 := hc j (by have := h.1; omega)
  rw [List.getD_eq_getElem?_getD, hj] at h1
  simpa [KInt] using h1
/-- A slice of truth values: its cells. -/
theorem Lst.bool_at {w : World} {S : Nat → Prop} {ao : Option Addr} {n : Nat} {xs : List Bool} (h : Lst KBool w S ao n xs) {j : Nat} (hj : j < n) : ∃ b off, ao = some ⟨b, off, none⟩ ∧ b < w.heap.size ∧ w.cell? ⟨b, off + j, none⟩ = some (.bool (xs.getD j false)) := by
  obtain ⟨b, off, cs, x, rfl, hb, hs, hx, hl, hcs, hr⟩ := h.at_ hj
  refine ⟨b, off, rfl, hb, ?_⟩
  have h1 := hcs 0 (show 0 < 1 by omega)
  rw [show cs = [.bool x] from hr] at h1
  rw [List.getD_eq_getElem?_getD, hx]
  simpa [KBool] using h1
end Go.Proofs.Ytoaeglhjaandmaa

/- Slices of whole numbers and of truth values that are owned; their copies, marks; what a new slice holds. -/
namespace Go.Proofs.Ytoaeglhjaandmaa
open Go.RowKit

theorem made_at {z : Array Value} {m j i : Nat} (hi : i < z.size) (hj : j * z.size + i < m) : (madeCells z m).toList[j * z.size + i]? = z.toList[i]? := by
  have h1 : (j * z.size + i) % z.size = i := by rw [Nat.mul_comm, Nat.mul_add_mod, Nat.mod_eq_of_lt hi]
  simp [madeCells, hj, h1, hi]

/-- A new slice: what 'make' leaves. -/
theorem Own.of_made {α : Type} {K : Lay α} {t : TypeId} {w : World} {S : Nat → Prop} {g n B : Nat} {z : Value} {x : α} (hr : w.ownsRow B t K.sz (.slice (some ⟨g, 0, none⟩) n n) n (madeCells z.cells (n * K.sz)).toList) (hg : S g) (hz : z.cells.size = K.sz)
    (ho : K.own w (fun _ => False) z.cells.toList x) : Own K t w S (.slice (some ⟨g, 0, none⟩) n n) n (List.replicate n x) := by
  refine Own.of_row (F := fun _ _ => False) (cells := (madeCells z.cells (n * K.sz)).toList) ?_ (by simp) (fun g' h => ?_) (fun _ _ h => h.elim) (fun _ _ _ h => h.elim) (fun j y hj => ?_)
  · obtain ⟨h1, h2⟩ := hr
    refine ⟨h1, ?_⟩
    rcases h2 with h2 | ⟨g', cap, cur, hv, _, r⟩
    · exact .inl h2
    · exact .inr ⟨g', cap, cur, hv, Nat.zero_le _, r⟩
  · simp [Value.ownBlock] at h; exact h ▸ hg
  · rw [List.getElem?_replicate] at hj
    split at hj
    · injection hj with hj; subst hj
      refine ⟨z.cells.toList, by simpa using hz, fun i hi => ?_, ho⟩
      rw [← hz]
      have h1 := Nat.mul_le_mul_right K.sz (show j + 1 ≤ n by omega)
      rw [Nat.add_mul] at h1
      exact made_at (by omega) (by rw [hz]; omega)
    · cases hj

theorem Own.bool_at {t : TypeId} {w : World} {S : Nat → Prop} {v : Value} {n : Nat} {xs : List Bool} (h : Own KBool t w S v n xs) {j : Nat} (hj : j < n) :
    ∃ g cap, v = .slice (some ⟨g, 0, none⟩) n cap ∧ S g ∧ g < w.heap.size ∧ w.cell? ⟨g, j, none⟩ = some (.bool (xs.getD j false)) ∧ w.frozen? ⟨g, j, none⟩ = false ∧
      ∀ u, Own KBool t (w.setCell ⟨g, j, none⟩ (.bool u)) S v n (xs.set j u) ∧ Turn S w (w.setCell ⟨g, j, none⟩ (.bool u)) := by
  obtain ⟨g, cap, cs, F, x, rfl, hg, hx, hcl, hu, ho, hF, hst⟩ := h.focus hj
  obtain rfl : cs = [.bool x] := ho
  obtain ⟨h1, h2, h3⟩ := hu.cell
  have h4 := h2 0 (by simp)
  rw [show KBool.sz = 1 from rfl, Nat.mul_one] at h4 hu hst
  simp only [Nat.add_zero, List.getElem?_cons_zero] at h4
  refine ⟨g, cap, rfl, hg, h1, ?_, h3 _, fun u => ⟨?_, (Turn.set w ⟨g, j, none⟩ (.bool u)).mono (fun k hk _ => by rw [show k = g from hk]; exact hg)⟩⟩
  · rw [h4, List.getD_eq_getElem?_getD, hx]; rfl
  · have h5 := hst (w.setCell ⟨g, j, none⟩ (.bool u)) (fun _ => False) [.bool u] u rfl ((Turn.set w ⟨g, j, none⟩ (.bool u)).mono (fun k hk _ => .inr hk)) (by have := hu.set (i := 0) (u := .bool u) (by simp); simpa using this) rfl (fun _ h => h.elim)
    exact h5.mono (fun k hk _ => hk.elim id False.elim)
theorem Own.int_at {t : TypeId} {w : World} {S : Nat → Prop} {v : Value} {n : Nat} {xs : List Int} (h : Own KInt t w S v n xs) {j : Nat} (hj : j < n) :
    ∃ g cap, v = .slice (some ⟨g, 0, none⟩) n cap ∧ S g ∧ g < w.heap.size ∧ w.cell? ⟨g, j, none⟩ = some (.int .i64 (xs.getD j 0)) ∧ w.frozen? ⟨g, j, none⟩ = false ∧
      ∀ u, Own KInt t (w.setCell ⟨g, j, none⟩ (.int .i64 u)) S v n (xs.set j u) ∧ Turn S w (w.setCell ⟨g, j, none⟩ (.int .i64 u)) := by
  obtain ⟨g, cap, cs, F, x, rfl, hg, hx, hcl, hu, ho, hF, hst⟩ := h.focus hj
  obtain rfl : cs = [.int .i64 x] := ho
  obtain ⟨h1, h2, h3⟩ := hu.cell
  have h4 := h2 0 (by simp)
  rw [show KInt.sz = 1 from rfl, Nat.mul_one] at h4 hu hst
  simp only [Nat.add_zero, List.getElem?_cons_zero] at h4
  refine ⟨g, cap, rfl, hg, h1, ?_, h3 _, fun u => ⟨?_, (Turn.set w ⟨g, j, none⟩ (.int .i64 u)).mono (fun k hk _ => by rw [show k = g from hk]; exact hg)⟩⟩
  · rw [h4, List.getD_eq_getElem?_getD, hx]; rfl
  · have h5 := hst (w.setCell ⟨g, j, none⟩ (.int .i64 u)) (fun _ => False) [.int .i64 u] u rfl ((Turn.set w ⟨g, j, none⟩ (.int .i64 u)).mono (fun k hk _ => .inr hk)) (by have := hu.set (i := 0) (u := .int .i64 u) (by simp); simpa using this) rfl (fun _ h => h.elim)
    exact h5.mono (fun k hk _ => hk.elim id False.elim)

theorem infoBool : (Try.prog.info? 4).map (fun i => (i.zero, i.size, i.bytes)) = some (some (.bool false), 1, 1) := by kernel_rfl

/-- Of xs the first k, then d: what a copy looks like behind k rounds. -/
def fillD {α : Type} (d : α) (xs : List α) (k : Nat) : List α := xs.take k ++ List.replicate (xs.length - k) d
theorem fillD_zero {α : Type} (d : α) (xs : List α) : fillD d xs 0 = List.replicate xs.length d := by simp [fillD]
theorem fillD_full {α : Type} (d : α) (xs : List α) : fillD d xs xs.length = xs := by simp [fillD]
theorem fillD_step {α : Type} {d : α} {xs : List α} {k : Nat} {x : α} (h : xs[k]? = some x) : (fillD d xs k).set k x = fillD d xs (k + 1) := by
  obtain ⟨hk, rfl⟩ := List.getElem?_eq_some_iff.1 h
  unfold fillD
  have hl : (xs.take k).length = k := by simp; omega
  obtain ⟨m, hm⟩ : ∃ m, xs.length - k = m + 1 := ⟨xs.length - k - 1, by omega⟩
  rw [List.set_append_right _ _ (by omega), hl, Nat.sub_self, hm, List.replicate_succ, List.set_cons_zero, show xs.length - (k + 1) = m by omega, List.take_succ_eq_append_getElem hk, List.append_assoc]
  rfl

/-- Truth values that tell which of n numbers from K on are multiples of three. -/
def marksB (K : Int) (n : Nat) : List Bool := (List.range n).map fun i : Nat => ((K + (i : Int)) % 3 == 0)
theorem length_marksB (K : Int) (n : Nat) : (marksB K n).length = n := by simp [marksB]
theorem marksB_at (K : Int) {n k : Nat} (h : k < n) : (marksB K n).getD k false = ((K + (k : Int)) % 3 == 0) := by simp [marksB, List.getD, h]
def markedB (xs : List Bool) (K : Int) (k : Nat) : List Bool := marksB K k ++ xs.drop k
theorem markedB_zero (xs : List Bool) (K : Int) : markedB xs K 0 = xs := by simp [markedB, marksB]
theorem markedB_full (xs : List Bool) (K : Int) : markedB xs K xs.length = marksB K xs.length := by simp [markedB]
theorem markedB_step (xs : List Bool) (K : Int) {k : Nat} (h : k < xs.length) : (markedB xs K k).set k (((K + (k : Int)) % 3 == 0)) = markedB xs K (k + 1) := by
  unfold markedB
  rw [List.set_append_right _ _ (by rw [length_marksB]; omega), length_marksB, Nat.sub_self, List.drop_eq_getElem_cons h, List.set_cons_zero]
  simp [marksB, List.range_succ]

end Go.Proofs.Ytoaeglhjaandmaa

/- Pages in memory. -/
namespace Go.Proofs.Ytoaeglhjaandmaa
open Go.RowKit

/-- A page, in plain words. -/
structure Pg where
  kind : Int
  cls : Int
  used : List Bool
  run : Int
theorem Pg.ext_ {p q : Pg} (h1 : p.kind = q.kind) (h2 : p.cls = q.cls) (h3 : p.used = q.used) (h4 : p.run = q.run) : p = q := by
  cases p; cases q; simp_all
instance : DecidableEq Pg := fun p q => decidable_of_iff (p.kind = q.kind ∧ p.cls = q.cls ∧ p.used = q.used ∧ p.run = q.run) ⟨fun ⟨h1, h2, h3, h4⟩ => Pg.ext_ h1 h2 h3 h4, fun h => by subst h; exact ⟨rfl, rfl, rfl, rfl⟩⟩
def Pg.free : Pg := ⟨0, 0, [], 0⟩

def KPage : Lay Pg := KMap (KPair KInt (KPair KInt (KPair (KSlice KBool 4) KInt))) fun p => (p.kind, p.cls, p.used, p.run)
theorem KPage_sz : KPage.sz = 4 := rfl
/-- The cells of a page. -/
def pgCells (p : Pg) (v : Value) : List Value := [.int .i64 p.kind, .int .i64 p.cls, v, .int .i64 p.run]

theorem KPage_rd {w : World} {S : Nat → Prop} {cs : List Value} {p : Pg} (h : KPage.rd w S cs p) : ∃ a n c, cs = [.int .i64 p.kind, .int .i64 p.cls, .slice a n c, .int .i64 p.run] ∧ n ≤ c ∧ c ≤ maxLen ∧ Lst KBool w S a n p.used := by
  obtain ⟨c1, c2, rfl, h1, c3, c4, rfl, h2, c5, c6, rfl, ⟨a, n, c, h3, hn, hc, hl⟩, h4⟩ := h
  refine ⟨a, n, c, ?_, hn, hc, hl⟩
  rw [show c1 = [.int .i64 p.kind] from h1, show c3 = [.int .i64 p.cls] from h2, h3, show c6 = [.int .i64 p.run] from h4]; rfl
theorem KPage_rd_mk {w : World} {S : Nat → Prop} {p : Pg} {a : Option Addr} {n c : Nat} (hn : n ≤ c) (hc : c ≤ maxLen) (hl : Lst KBool w S a n p.used) : KPage.rd w S [.int .i64 p.kind, .int .i64 p.cls, .slice a n c, .int .i64 p.run] p :=
  ⟨[.int .i64 p.kind], _, rfl, rfl, [.int .i64 p.cls], _, rfl, rfl, [.slice a n c], [.int .i64 p.run], rfl, ⟨a, n, c, rfl, hn, hc, hl⟩, rfl⟩
theorem KPage_own {w : World} {S : Nat → Prop} {cs : List Value} {p : Pg} (h : KPage.own w S cs p) : ∃ v n, cs = [.int .i64 p.kind, .int .i64 p.cls, v, .int .i64 p.run] ∧ Own KBool 4 w S v n p.used := by
  obtain ⟨c1, c2, _, _, rfl, h1, ⟨c3, c4, _, _, rfl, h2, ⟨c5, c6, _, _, rfl, ⟨v, n, h3, hl⟩, h4, k1, k2, _⟩, m1, m2, _⟩, n1, n2, _⟩ := h
  refine ⟨v, n, ?_, hl.mono (fun k hk _ => n2 _ (m2 _ (k1 _ hk)))⟩
  rw [show c1 = [.int .i64 p.kind] from h1, show c3 = [.int .i64 p.cls] from h2, h3, show c6 = [.int .i64 p.run] from h4]; rfl
theorem KPage_own_mk {w : World} {S : Nat → Prop} {p : Pg} {v : Value} {n : Nat} (hl : Own KBool 4 w S v n p.used) : KPage.own w S [.int .i64 p.kind, .int .i64 p.cls, v, .int .i64 p.run] p :=
  ⟨[.int .i64 p.kind], _, fun _ => False, S, rfl, rfl, ⟨[.int .i64 p.cls], _, fun _ => False, S, rfl, rfl, ⟨[v], [.int .i64 p.run], S, fun _ => False, rfl, ⟨v, n, rfl, hl⟩, rfl, fun _ h => h, fun _ h => h.elim, fun _ _ h => h.elim⟩, fun _ h => h.elim, fun _ h => h, fun _ h => h.elim⟩, fun _ h => h.elim, fun _ h => h, fun _ h => h.elim⟩

/-- A page of a list, in its cells. -/
theorem Lst.pg_at {w : World} {S : Nat → Prop} {ao : Option Addr} {n : Nat} {ps : List Pg} (h : Lst KPage w S ao n ps) {j : Nat} (hj : j < n) :
    ∃ b off p a l c, ao = some ⟨b, off, none⟩ ∧ b < w.heap.size ∧ ps[j]? = some p ∧ w.cell? ⟨b, off + j * 4, none⟩ = some (.int .i64 p.kind) ∧ w.cell? ⟨b, off + j * 4 + 1, none⟩ = some (.int .i64 p.cls) ∧ w.cell? ⟨b, off + j * 4 + 2, none⟩ = some (.slice a l c) ∧ w.cell? ⟨b, off + j * 4 + 3, none⟩ = some (.int .i64 p.run) ∧ l ≤ c ∧ c ≤ maxLen ∧ Lst KBool w S a l p.used := by
  obtain ⟨b, off, cs, p, rfl, hb, hs, hx, hl, hcs, hr⟩ := h.at_ hj
  obtain ⟨a, l, c, rfl, hlc, hcm, hu⟩ := KPage_rd hr
  have h0 := hcs 0 (by rw [KPage_sz]; omega)
  have h1 := hcs 1 (by rw [KPage_sz]; omega)
  have h2 := hcs 2 (by rw [KPage_sz]; omega)
  have h3 := hcs 3 (by rw [KPage_sz]; omega)
  rw [KPage_sz] at h0 h1 h2 h3
  exact ⟨b, off, p, a, l, c, rfl, hb, hx, h0, h1, h2, h3, hlc, hcm, hu⟩

theorem Upd.set4 {w w1 : World} {t : TypeId} {g off : Nat} {cs : List Value} {a b c d : Value} (h : Upd w w1 t g off cs) (hl : cs.length = 4) :
    Upd w ((((w1.setCell ⟨g, off, none⟩ a).setCell ⟨g, off + 1, none⟩ b).setCell ⟨g, off + 2, none⟩ c).setCell ⟨g, off + 3, none⟩ d) t g off [a, b, c, d] := by
  match cs, hl with
  | [x0, x1, x2, x3], _ => exact (((h.set (i := 0) (u := a) (by simp)).set (i := 1) (u := b) (by simp)).set (i := 2) (u := c) (by simp)).set (i := 3) (u := d) (by simp)
/-- The cells of one page of those that are owned. -/
theorem Upd.cells4 {w w1 : World} {t : TypeId} {g off : Nat} {cs : List Value} (h : Upd w w1 t g off cs) (hl : cs.length = 4) : ∃ c0 c1 c2 c3, cs = [c0, c1, c2, c3] ∧ g < w1.heap.size ∧
    w1.cell? ⟨g, off, none⟩ = some c0 ∧ w1.cell? ⟨g, off + 1, none⟩ = some c1 ∧ w1.cell? ⟨g, off + 2, none⟩ = some c2 ∧ w1.cell? ⟨g, off + 3, none⟩ = some c3 ∧
    w1.frozen? ⟨g, off, none⟩ = false ∧ w1.frozen? ⟨g, off + 1, none⟩ = false ∧ w1.frozen? ⟨g, off + 2, none⟩ = false ∧ w1.frozen? ⟨g, off + 3, none⟩ = false := by
  obtain ⟨h1, h2, h3⟩ := h.cell
  match cs, hl with
  | [x0, x1, x2, x3], _ => exact ⟨x0, x1, x2, x3, rfl, h1, h2 0 (by simp), h2 1 (by simp), h2 2 (by simp), h2 3 (by simp), h3 _, h3 _, h3 _, h3 _⟩
theorem Turn.set4 {w1 : World} {g o0 o1 o2 o3 : Nat} {a b c d : Value} : Turn (fun k => k = g) w1 ((((w1.setCell ⟨g, o0, none⟩ a).setCell ⟨g, o1, none⟩ b).setCell ⟨g, o2, none⟩ c).setCell ⟨g, o3, none⟩ d) :=
  (((Turn.set w1 ⟨g, o0, none⟩ a).trans (Turn.set _ ⟨g, o1, none⟩ b) (fun _ h _ => h)).trans (Turn.set _ ⟨g, o2, none⟩ c) (fun _ h _ => h)).trans (Turn.set _ ⟨g, o3, none⟩ d) (fun _ h _ => h)

/-- No list of slots is longer than this. -/
def ShortP (N : Nat) (ps : List Pg) : Prop := ∀ p ∈ ps, p.used.length ≤ N
theorem ShortP.at_ {N : Nat} {ps : List Pg} (h : ShortP N ps) {k : Nat} {p : Pg} (hk : ps[k]? = some p) : p.used.length ≤ N := h p (List.mem_of_getElem? hk)

/-- What a list has from one place on. -/
theorem drop_at {α : Type} {xs : List α} {k : Nat} {x : α} (h : xs[k]? = some x) : xs.drop k = x :: xs.drop (k + 1) := by
  obtain ⟨hk, rfl⟩ := List.getElem?_eq_some_iff.1 h
  exact List.drop_eq_getElem_cons hk
theorem drop_end {α : Type} {xs : List α} {k : Nat} (h : xs.length ≤ k) : xs.drop k = [] := List.drop_eq_nil_of_le h
end Go.Proofs.Ytoaeglhjaandmaa

/- Chapter 3: what its functions answer, in plain words. -/
namespace Go.Proofs.Ytoaeglhjaandmaa
open Go.RowKit

/-- How many words a block of the class has. -/
def sizeW (c : Int) : Int := if c = 0 then 1 else if c = 1 then 2 else if c = 2 then 4 else 8
/-- The lowest class whose blocks have so many words. -/
def classW (s : Int) : Int := if s ≤ 1 then 0 else if s ≤ 2 then 1 else if s ≤ 4 then 2 else 3
/-- How many steps a kind takes. -/
def stepsW (k : Int) : Int := if k = 1 then 3 else if k = 2 then 4 else if k = 3 then 2 else if k = 4 then 5 else if k = 5 then 2 else if k = 6 then 2 else 1

def classOf (s : Int) : Int × Int := if within 1 8 [s] = true then (0, classW s) else (3, 0)
def sizeOf3 (c : Int) : Int × Int := if within 0 3 [c] = true then (0, sizeW c) else (3, 0)
def slotsOf (c : Int) : Int × Int := if within 0 3 [c] = true then (0, 16 / sizeW c) else (3, 0)
def pagesOf (s : Int) : Int × Int := if within 9 64 [s] = true then (0, (s + 15) / 16) else (3, 0)
def stepsOf (k : Int) : Int × Int := if within 1 8 [k] = true then (0, stepsW k) else (3, 0)

theorem within_yes1 {lo hi v : Int} (h1 : lo ≤ v) (h2 : v ≤ hi) : within lo hi [v] = true := by rw [within_one]; simp; omega
theorem within_no1 {lo hi v : Int} (h : v < lo ∨ hi < v) : within lo hi [v] = false := by rw [within_one]; simp; omega
theorem within_range {lo hi v : Int} (h : within lo hi [v] = true) : lo ≤ v ∧ v ≤ hi := by rw [within_one] at h; simpa using h

theorem classOf_yes {s : Int} (h1 : 1 ≤ s) (h2 : s ≤ 8) : classOf s = (0, classW s) := by unfold classOf; rw [if_pos (within_yes1 h1 h2)]
theorem classOf_no {s : Int} (h : within 1 8 [s] = false) : classOf s = (3, 0) := by unfold classOf; rw [h]; rfl
theorem sizeOf3_yes {c : Int} (h1 : 0 ≤ c) (h2 : c ≤ 3) : sizeOf3 c = (0, sizeW c) := by unfold sizeOf3; rw [if_pos (within_yes1 h1 h2)]
theorem sizeOf3_no {c : Int} (h : within 0 3 [c] = false) : sizeOf3 c = (3, 0) := by unfold sizeOf3; rw [h]; rfl
theorem slotsOf_yes {c : Int} (h1 : 0 ≤ c) (h2 : c ≤ 3) : slotsOf c = (0, 16 / sizeW c) := by unfold slotsOf; rw [if_pos (within_yes1 h1 h2)]
theorem slotsOf_no {c : Int} (h : within 0 3 [c] = false) : slotsOf c = (3, 0) := by unfold slotsOf; rw [h]; rfl
theorem pagesOf_yes {s : Int} (h1 : 9 ≤ s) (h2 : s ≤ 64) : pagesOf s = (0, (s + 15) / 16) := by unfold pagesOf; rw [if_pos (within_yes1 h1 h2)]
theorem pagesOf_no {s : Int} (h : within 9 64 [s] = false) : pagesOf s = (3, 0) := by unfold pagesOf; rw [h]; rfl
theorem stepsOf_yes {k : Int} (h1 : 1 ≤ k) (h2 : k ≤ 8) : stepsOf k = (0, stepsW k) := by unfold stepsOf; rw [if_pos (within_yes1 h1 h2)]
theorem stepsOf_no {k : Int} (h : within 1 8 [k] = false) : stepsOf k = (3, 0) := by unfold stepsOf; rw [h]; rfl

theorem sizeW_small (c : Int) : 1 ≤ sizeW c ∧ sizeW c ≤ 8 := by unfold sizeW; split <;> (try split) <;> (try split) <;> omega
theorem classW_small (s : Int) : 0 ≤ classW s ∧ classW s ≤ 3 := by unfold classW; split <;> (try split) <;> (try split) <;> omega
theorem stepsW_small (k : Int) : 1 ≤ stepsW k ∧ stepsW k ≤ 5 := by unfold stepsW; repeat' split; all_goals omega
theorem classW_holds {s : Int} (h2 : s ≤ 8) : s ≤ sizeW (classW s) := by
  unfold classW sizeW; repeat' split
  all_goals omega
theorem classW_lowest {s : Int} (h : classW s ≠ 0) : sizeW (classW s - 1) < s := by
  unfold classW sizeW at *; repeat' split
  all_goals (repeat' split at h); all_goals omega
theorem sizeW_slots {c : Int} (h1 : 0 ≤ c) (h2 : c ≤ 3) : sizeW c * (16 / sizeW c) = 16 := by
  rcases (show c = 0 ∨ c = 1 ∨ c = 2 ∨ c = 3 by omega) with rfl | rfl | rfl | rfl <;> decide
end Go.Proofs.Ytoaeglhjaandmaa

/- Chapter 4: what its functions answer, in plain words. -/
namespace Go.Proofs.Ytoaeglhjaandmaa
open Go.RowKit

/-- One of these is used; the first place of a truth value, or -1. -/
def anyB : List Bool → Bool
  | [] => false
  | b :: r => b || anyB r
def idxB (v : Bool) : List Bool → Nat → Int
  | [], _ => -1
  | x :: r, k => if x = v then k else idxB v r (k + 1)
theorem idxB_some {v : Bool} : ∀ {us : List Bool} {k : Nat}, 0 ≤ idxB v us k → ∃ s : Nat, idxB v us k = ((k + s : Nat) : Int) ∧ us[s]? = some v ∧ ∀ j, j < s → us[j]? ≠ some v
  | [], k, h => by simp [idxB] at h
  | x :: r, k, h => by
    unfold idxB at h ⊢
    split
    · rename_i e; exact ⟨0, by simp, by simp [e], fun j hj => by omega⟩
    · rename_i e
      rw [if_neg e] at h
      obtain ⟨s, h1, h2, h3⟩ := idxB_some h
      refine ⟨s + 1, by rw [h1]; congr 1; omega, by simpa using h2, fun j hj => ?_⟩
      cases j with
      | zero => simpa using e
      | succ j => simpa using h3 j (by omega)
theorem idxB_none {v : Bool} : ∀ {us : List Bool} {k : Nat}, idxB v us k < 0 → ∀ j : Nat, us[j]? ≠ some v
  | [], k, _, j => by simp
  | x :: r, k, h, j => by
    unfold idxB at h
    split at h
    · omega
    · rename_i e
      cases j with
      | zero => simpa using e
      | succ j => simpa using idxB_none h j
theorem anyB_idx : ∀ (us : List Bool) (k : Nat), anyB us = decide (0 ≤ idxB true us k)
  | [], k => by simp [anyB, idxB]
  | x :: r, k => by
    unfold anyB idxB
    cases x with
    | true => simp
    | false => simpa using anyB_idx r (k + 1)
theorem anyB_iff {us : List Bool} : anyB us = true ↔ ∃ s : Nat, us[s]? = some true := by
  rw [anyB_idx us 0, decide_eq_true_iff]
  constructor
  · intro h
    obtain ⟨s, _, h2, _⟩ := idxB_some h
    exact ⟨s, h2⟩
  · rintro ⟨s, hs⟩
    rcases Int.lt_or_le (idxB true us 0) 0 with h | h
    · exact absurd hs (idxB_none h s)
    · exact h

/-- Why a page is none, or 0. -/
def pageFault (p : Pg) : Int :=
  if p.kind = 1 then (if within 0 3 [p.cls] = true then (if p.run = 0 then (if (p.used.length : Int) = 16 / sizeW p.cls then (if anyB p.used = true then 0 else 4) else 2) else 1) else 3)
  else if p.kind = 2 then (if within 1 4 [p.run] = true then (if p.cls = 0 ∧ p.used = [] then 0 else 1) else 3)
  else if p.kind = 0 ∨ p.kind = 3 then (if p.cls = 0 ∧ p.used = [] ∧ p.run = 0 then 0 else 1) else 3
/-- What is known of a right page. -/
theorem pageFault_ok {p : Pg} (h : pageFault p = 0) : (p.kind = 1 ∧ 0 ≤ p.cls ∧ p.cls ≤ 3 ∧ p.run = 0 ∧ (p.used.length : Int) = 16 / sizeW p.cls ∧ anyB p.used = true) ∨
    (p.kind = 2 ∧ 1 ≤ p.run ∧ p.run ≤ 4 ∧ p.cls = 0 ∧ p.used = []) ∨ ((p.kind = 0 ∨ p.kind = 3) ∧ p.cls = 0 ∧ p.used = [] ∧ p.run = 0) := by
  unfold pageFault at h
  split at h
  · left
    split at h
    · rename_i h1 h2
      have := within_range h2
      split at h
      · split at h
        · split at h
          · exact ⟨h1, this.1, this.2, by assumption, by assumption, by assumption⟩
          · omega
        · omega
      · omega
    · omega
  · right
    split at h
    · left
      split at h
      · rename_i h1 h2
        have := within_range h2
        split at h
        · rename_i h3; exact ⟨h1, this.1, this.2, h3.1, h3.2⟩
        · omega
      · omega
    · right
      split at h
      · split at h
        · rename_i h1 h3; exact ⟨h1, h3.1, h3.2.1, h3.2.2⟩
        · omega
      · omega
theorem pageFault_kind {p : Pg} (h : pageFault p = 0) : p.kind = 0 ∨ p.kind = 1 ∨ p.kind = 2 ∨ p.kind = 3 := by
  rcases pageFault_ok h with h | h | h <;> omega
theorem pageFault_slots {p : Pg} (h : pageFault p = 0) : p.used.length ≤ 16 := by
  rcases pageFault_ok h with ⟨_, h1, h2, _, h3, _⟩ | ⟨_, _, _, _, h1⟩ | ⟨_, _, h1, _⟩
  · rcases (show p.cls = 0 ∨ p.cls = 1 ∨ p.cls = 2 ∨ p.cls = 3 by omega) with e | e | e | e <;> rw [e] at h3 <;> simp [sizeW] at h3 <;> omega
  · rw [h1]; simp
  · rw [h1]; simp

/-- The first fault of the pages, one by one. -/
def firstPF : List Pg → Int
  | [] => 0
  | p :: r => if pageFault p = 0 then firstPF r else pageFault p
theorem firstPF_all : ∀ {ps : List Pg}, firstPF ps = 0 → ∀ p ∈ ps, pageFault p = 0
  | [], _, p, hp => by simp at hp
  | q :: r, h, p, hp => by
    unfold firstPF at h
    split at h
    · rcases List.mem_cons.1 hp with rfl | hp
      · assumption
      · exact firstPF_all h p hp
    · rename_i h1; exact absurd h h1
theorem firstPF_of : ∀ {ps : List Pg}, (∀ p ∈ ps, pageFault p = 0) → firstPF ps = 0
  | [], _ => rfl
  | q :: r, h => by
    unfold firstPF
    rw [if_pos (h q (by simp))]; exact firstPF_of fun p hp => h p (by simp [hp])
/-- How many pages a run lacks behind this one; where it lacks some just there a page goes on with it. -/
def nextLeft (l : Int) (p : Pg) : Int := if p.kind = 2 then p.run - 1 else if p.kind = 3 then l - 1 else l
def whole : Int → List Pg → Bool
  | l, [] => decide (l = 0)
  | l, p :: r => if decide (p.kind = 3) = decide (0 < l) then whole (nextLeft l p) r else false
def pagesFault (ps : List Pg) : Int := if 40 < ps.length then 2 else if firstPF ps = 0 then (if whole 0 ps = true then 0 else 8) else firstPF ps
theorem pagesFault_ok {ps : List Pg} (h : pagesFault ps = 0) : ps.length ≤ 40 ∧ (∀ p ∈ ps, pageFault p = 0) ∧ whole 0 ps = true := by
  unfold pagesFault at h
  split at h
  · omega
  · split at h
    · split at h
      · exact ⟨by omega, firstPF_all (by assumption), by assumption⟩
      · omega
    · rename_i h1; exact absurd h h1
theorem pagesFault_of {ps : List Pg} (h1 : ps.length ≤ 40) (h2 : ∀ p ∈ ps, pageFault p = 0) (h3 : whole 0 ps = true) : pagesFault ps = 0 := by
  unfold pagesFault
  rw [if_neg (by omega), if_pos (firstPF_of h2), if_pos h3]
theorem pagesFault_short {ps : List Pg} (h : pagesFault ps = 0) : ShortP 16 ps := fun p hp => pageFault_slots ((pagesFault_ok h).2.1 p hp)

/-- The first slot of this class that is not used; the first free page. -/
def gapIn (c : Int) : Nat → List Pg → Option (Nat × Nat)
  | _, [] => none
  | k, p :: r => if p.kind = 1 ∧ p.cls = c ∧ 0 ≤ idxB false p.used 0 then some (k, (idxB false p.used 0).toNat) else gapIn c (k + 1) r
def freeIn : Nat → List Pg → Option Nat
  | _, [] => none
  | k, p :: r => if p.kind = 0 then some k else freeIn (k + 1) r
def slotFor (ps : List Pg) (c : Int) : Option (Nat × Nat) := match gapIn c 0 ps with
  | some x => some x
  | none => (freeIn 0 ps).map fun i => (i, 0)
/-- The same in one walk. -/
def scan (c : Int) : Nat → Option (Nat × Nat) → List Pg → Option (Nat × Nat)
  | _, f, [] => f
  | k, f, p :: r => if p.kind = 1 ∧ p.cls = c ∧ 0 ≤ idxB false p.used 0 then some (k, (idxB false p.used 0).toNat) else scan c (k + 1) (if p.kind = 0 ∧ f = none then some (k, 0) else f) r
theorem scan_eq (c : Int) : ∀ (ps : List Pg) (k : Nat) (f : Option (Nat × Nat)), scan c k f ps = match gapIn c k ps with
    | some x => some x
    | none => match f with
      | some x => some x
      | none => (freeIn k ps).map fun i => (i, 0)
  | [], k, f => by cases f <;> simp [scan, gapIn, freeIn]
  | p :: r, k, f => by
    unfold scan gapIn
    split
    · rfl
    · rw [scan_eq c r]
      cases hg : gapIn c (k + 1) r with
      | some x => rfl
      | none =>
        simp only
        cases f with
        | some x => simp
        | none =>
          by_cases h0 : p.kind = 0
          · simp [h0, freeIn]
          · simp [h0, freeIn]
theorem scan_slotFor (ps : List Pg) (c : Int) : scan c 0 none ps = slotFor ps c := by rw [scan_eq]; rfl
theorem gapIn_some {c : Int} : ∀ {ps : List Pg} {k i s : Nat}, gapIn c k ps = some (i, s) → ∃ p, k ≤ i ∧ ps[i - k]? = some p ∧ p.kind = 1 ∧ p.cls = c ∧ idxB false p.used 0 = (s : Int)
  | [], k, i, s, h => by simp [gapIn] at h
  | p :: r, k, i, s, h => by
    unfold gapIn at h
    split at h
    · rename_i h1
      simp at h
      obtain ⟨rfl, rfl⟩ := h
      exact ⟨p, Nat.le_refl _, by simp, h1.1, h1.2.1, by omega⟩
    · obtain ⟨q, h1, h2, h3⟩ := gapIn_some h
      refine ⟨q, by omega, ?_, h3⟩
      rw [show i - k = (i - (k + 1)) + 1 by omega, List.getElem?_cons_succ]; exact h2
theorem freeIn_some : ∀ {ps : List Pg} {k i : Nat}, freeIn k ps = some i → ∃ p, k ≤ i ∧ ps[i - k]? = some p ∧ p.kind = 0
  | [], k, i, h => by simp [freeIn] at h
  | p :: r, k, i, h => by
    unfold freeIn at h
    split at h
    · simp at h; subst h; exact ⟨p, Nat.le_refl _, by simp, by assumption⟩
    · obtain ⟨q, h1, h2, h3⟩ := freeIn_some h
      refine ⟨q, by omega, ?_, h3⟩
      rw [show i - k = (i - (k + 1)) + 1 by omega, List.getElem?_cons_succ]; exact h2
/-- Where a slot is taken: in a page of the class that has one left, or in a free one. -/
theorem slotFor_some {ps : List Pg} {c : Int} {i s : Nat} (h : slotFor ps c = some (i, s)) : ∃ p, ps[i]? = some p ∧ ((p.kind = 1 ∧ p.cls = c ∧ p.used[s]? = some false) ∨ (p.kind = 0 ∧ s = 0)) := by
  unfold slotFor at h
  cases hg : gapIn c 0 ps with
  | some x =>
    rw [hg] at h
    simp at h; subst h
    obtain ⟨p, _, h1, h2, h3, h4⟩ := gapIn_some hg
    obtain ⟨s', h5, h6, _⟩ := idxB_some (v := false) (us := p.used) (k := 0) (by omega)
    obtain rfl : s = s' := by omega
    exact ⟨p, by simpa using h1, .inl ⟨h2, h3, h6⟩⟩
  | none =>
    rw [hg] at h
    simp at h
    obtain ⟨i', h1, rfl, rfl⟩ := h
    obtain ⟨p, _, h2, h3⟩ := freeIn_some h1
    exact ⟨p, by simpa using h2, .inr ⟨h3, rfl⟩⟩
/-- Page i with slot s used. -/
def slabOf (c : Int) : Pg := ⟨1, c, List.replicate (16 / sizeW c).toNat false, 0⟩
def useSlot (p : Pg) (c : Int) (s : Nat) : Pg := if p.kind = 0 then ⟨1, c, (List.replicate (16 / sizeW c).toNat false).set s true, 0⟩ else ⟨p.kind, p.cls, p.used.set s true, p.run⟩
def putSlot (ps : List Pg) (c : Int) (i s : Nat) : List Pg := match ps[i]? with
  | some p => ps.set i (useSlot p c s)
  | none => ps
def findSlot (ps : List Pg) (c : Int) : Int × List Pg × Int :=
  if pagesFault ps = 0 then (if within 0 3 [c] = true then (match slotFor ps c with | some (i, s) => (0, putSlot ps c i s, (i : Int) * 16 + s * sizeW c) | none => (7, [], 0)) else (3, [], 0)) else (pagesFault ps, [], 0)

/-- The first n of these are there and free. -/
def freeN : Nat → List Pg → Bool
  | 0, _ => true
  | _ + 1, [] => false
  | n + 1, p :: r => decide (p.kind = 0) && freeN n r
/-- The first place from which on n are free. -/
def runFrom (n : Nat) : Nat → List Pg → Option Nat
  | _, [] => none
  | k, p :: r => if freeN n (p :: r) = true then some k else runFrom n (k + 1) r
def findRun (ps : List Pg) (n : Int) : Int × Int :=
  if pagesFault ps = 0 then (if within 1 4 [n] = true then (match runFrom n.toNat 0 ps with | some i => (0, (i : Int)) | none => (7, 0)) else (3, 0)) else (pagesFault ps, 0)

/-- k pages from one on are this one. -/
def setMany (ps : List Pg) (i : Nat) (x : Pg) : Nat → List Pg
  | 0 => ps
  | k + 1 => (setMany ps i x k).set (i + k) x
theorem length_setMany (ps : List Pg) (i : Nat) (x : Pg) : ∀ k, (setMany ps i x k).length = ps.length
  | 0 => rfl
  | k + 1 => by simp [setMany, length_setMany ps i x k]
theorem setMany_at (ps : List Pg) (i : Nat) (x : Pg) : ∀ (k j : Nat), j < ps.length → (setMany ps i x k)[j]? = if i ≤ j ∧ j < i + k then some x else ps[j]?
  | 0, j, hj => by rw [if_neg (by omega)]; rfl
  | k + 1, j, hj => by
    unfold setMany
    by_cases e : j = i + k
    · subst e
      rw [List.getElem?_set_self (by rw [length_setMany]; exact hj), if_pos (by omega)]
    · rw [List.getElem?_set_ne (by omega), setMany_at ps i x k j hj]
      by_cases h : i ≤ j ∧ j < i + k
      · rw [if_pos h, if_pos (by omega)]
      · rw [if_neg h, if_neg (by omega)]
def restPg : Pg := ⟨3, 0, [], 0⟩
def runPg (n : Int) : Pg := ⟨2, 0, [], n⟩
def putRun (ps : List Pg) (i n : Nat) : List Pg := (setMany ps i restPg n).set i (runPg n)
def takeRun (ps : List Pg) (at_ n : Int) : Int × List Pg × Int :=
  if pagesFault ps = 0 then (if within 1 4 [n] = true ∧ within 0 ((ps.length : Int) - n) [at_] = true then (if freeN n.toNat (ps.drop at_.toNat) = true then (0, putRun ps at_.toNat n.toNat, at_ * 16) else (8, [], 0)) else (3, [], 0)) else (pagesFault ps, [], 0)

/-- The page that begins what page k is part of. -/
def headOf (ps : List Pg) : Nat → Nat
  | 0 => 0
  | k + 1 => if (ps[k + 1]?.map Pg.kind) = some 3 then headOf ps k else k + 1
theorem headOf_le (ps : List Pg) : ∀ k, headOf ps k ≤ k
  | 0 => Nat.le_refl _
  | k + 1 => by unfold headOf; split <;> (try have := headOf_le ps k) <;> omega
/-- What is held at a place: where it begins, how many words it has. -/
inductive Blk where
  | slot (i : Nat) (c : Int) (s : Nat)
  | run (i : Nat) (n : Int)
def Blk.start : Blk → Int
  | .slot i c s => (i : Int) * 16 + s * sizeW c
  | .run i _ => (i : Int) * 16
def Blk.size : Blk → Int
  | .slot _ c _ => sizeW c
  | .run _ n => n * 16
def blockAt (ps : List Pg) (at_ : Nat) : Option Blk := match ps[headOf ps (at_ / 16)]? with
  | none => none
  | some p => if p.kind = 2 then some (.run (headOf ps (at_ / 16)) p.run)
    else if p.kind = 1 then (if p.used[at_ % 16 / (sizeW p.cls).toNat]? = some true then some (.slot (headOf ps (at_ / 16)) p.cls (at_ % 16 / (sizeW p.cls).toNat)) else none) else none
/-- The code of what is asked of a place, and what is held there. -/
def heldAt (ps : List Pg) (at_ : Int) : Int × Option Blk :=
  if pagesFault ps = 0 then (if within 0 ((ps.length : Int) * 16 - 1) [at_] = true then (match blockAt ps at_.toNat with | some b => (0, some b) | none => (4, none)) else (3, none)) else (pagesFault ps, none)
def blockStart (ps : List Pg) (at_ : Int) : Int × Int := match heldAt ps at_ with
  | (_, some b) => (0, b.start)
  | (c, none) => (c, 0)
def blockSize (ps : List Pg) (at_ : Int) : Int × Int := match heldAt ps at_ with
  | (_, some b) => (0, b.size)
  | (c, none) => (c, 0)
def freeSlot (p : Pg) (s : Nat) : Pg := if anyB (p.used.set s false) = true then ⟨p.kind, p.cls, p.used.set s false, p.run⟩ else Pg.free
def dropBlk (ps : List Pg) : Blk → List Pg
  | .slot i _ s => match ps[i]? with
    | some p => ps.set i (freeSlot p s)
    | none => ps
  | .run i n => setMany ps i Pg.free n.toNat
def dropBlock (ps : List Pg) (at_ : Int) : Int × List Pg × Int := match heldAt ps at_ with
  | (_, some b) => if b.start = at_ then (0, dropBlk ps b, at_) else (1, [], 0)
  | (c, none) => (c, [], 0)
def usedIn : List Pg → Nat
  | [] => 0
  | p :: r => (if p.kind = 0 then 0 else 1) + usedIn r
def usedInR (ps : List Pg) : Int × Int := if pagesFault ps = 0 then (0, (usedIn ps : Int)) else (pagesFault ps, 0)

end Go.Proofs.Ytoaeglhjaandmaa

/- Chapter 3 of the program: sizes, slots, pages, steps. -/
namespace Go.Proofs.Ytoaeglhjaandmaa
open Go.RowKit

end Go.Proofs.Ytoaeglhjaandmaa

/- The laws' helpers over pages: how great they are, their copy, whether two are the same. -/
namespace Go.Proofs.Ytoaeglhjaandmaa
open Go.RowKit

/-- What the sizes tell: where they are not too great, no list is. -/
def SizedP (n : Nat) (ps : List Pg) (w : World) (e : Ending) (w' : World) : Prop :=
  (e = .returned (.int .i64 (-1)) ∨ ∃ r : Int, e = .returned (.int .i64 r) ∧ 0 ≤ r ∧ r ≤ 1048576 ∧ n ≤ 1048576 ∧ ShortP 1048576 ps) ∧ Below w.heap.size w w'

/-- A row of pages of which the first k are owned, the others not yet made. -/
def fillP (ps : List Pg) (k : Nat) : List Pg := fillD Pg.free ps k

end Go.Proofs.Ytoaeglhjaandmaa

/- The laws' helpers over pages: compared, marked, held. -/
namespace Go.Proofs.Ytoaeglhjaandmaa
open Go.RowKit

/-- Eight cells, and all that was there, are kept. -/
theorem keep8 {W a b : World} {p1 p2 p3 p4 p5 p6 p7 p8 : Addr} {x1 x2 x3 x4 x5 x6 x7 x8 : Value} (h : a.cell? p1 = some x1 ∧ a.cell? p2 = some x2 ∧ a.cell? p3 = some x3 ∧ a.cell? p4 = some x4 ∧ a.cell? p5 = some x5 ∧ a.cell? p6 = some x6 ∧ a.cell? p7 = some x7 ∧ a.cell? p8 = some x8 ∧ Below W.heap.size W a) (hb : Below a.heap.size a b) :
    b.cell? p1 = some x1 ∧ b.cell? p2 = some x2 ∧ b.cell? p3 = some x3 ∧ b.cell? p4 = some x4 ∧ b.cell? p5 = some x5 ∧ b.cell? p6 = some x6 ∧ b.cell? p7 = some x7 ∧ b.cell? p8 = some x8 ∧ Below W.heap.size W b := by
  obtain ⟨h1, h2, h3, h4, h5, h6, h7, h8, h⟩ := h
  have k := fun (p : Addr) (x : Value) (e : a.cell? p = some x) => (hb.cell (World.block_lt_of_cell? _ _ e)).trans e
  exact ⟨k _ _ h1, k _ _ h2, k _ _ h3, k _ _ h4, k _ _ h5, k _ _ h6, k _ _ h7, k _ _ h8, h.trans (hb.mono h.size)⟩

/-- A page that is marked from K on; how many marks pages take. -/
def markPg (p : Pg) (K : Int) : Pg := ⟨K, K + 1, marksB (K + 2) p.used.length, K + 2 + p.used.length⟩
def cntP : List Pg → Nat
  | [] => 0
  | p :: r => 3 + p.used.length + cntP r
def marksP : List Pg → Int → List Pg
  | [], _ => []
  | p :: r, K => markPg p K :: marksP r (K + (3 + p.used.length : Nat))
theorem length_marksP : ∀ (ps : List Pg) (K : Int), (marksP ps K).length = ps.length
  | [], _ => rfl
  | p :: r, K => by simp [marksP, length_marksP r]
theorem cntP_take : ∀ {ps : List Pg} {k : Nat} {p : Pg}, ps[k]? = some p → cntP (ps.take (k + 1)) = cntP (ps.take k) + (3 + p.used.length)
  | [], k, p, h => by simp at h
  | q :: r, 0, p, h => by simp at h; subst h; simp [cntP]
  | q :: r, k + 1, p, h => by
    have := cntP_take (ps := r) (k := k) (p := p) (by simpa using h)
    simp only [List.take_succ_cons, cntP] at this ⊢; omega
theorem marksP_at : ∀ {ps : List Pg} {k : Nat} {p : Pg} {K : Int}, ps[k]? = some p → (marksP ps K)[k]? = some (markPg p (K + cntP (ps.take k)))
  | [], k, p, K, h => by simp at h
  | q :: r, 0, p, K, h => by simp at h; subst h; simp [marksP, cntP]
  | q :: r, k + 1, p, K, h => by
    have := marksP_at (ps := r) (k := k) (p := p) (K := K + (3 + q.used.length : Nat)) (by simpa using h)
    simp only [marksP, List.getElem?_cons_succ, List.take_succ_cons, cntP, this]
    congr 2; omega
def markedP (ps : List Pg) (K : Int) (k : Nat) : List Pg := (marksP ps K).take k ++ ps.drop k
theorem markedP_zero (ps : List Pg) (K : Int) : markedP ps K 0 = ps := by simp [markedP]
theorem markedP_full (ps : List Pg) (K : Int) : markedP ps K ps.length = marksP ps K := by simp [markedP, ← length_marksP ps K]
theorem markedP_at {ps : List Pg} {K : Int} {k : Nat} {p : Pg} (h : ps[k]? = some p) : (markedP ps K k)[k]? = some p := by
  have hk := (List.getElem?_eq_some_iff.1 h).1
  unfold markedP
  rw [List.getElem?_append_right (by simp; omega), List.length_take, length_marksP, Nat.min_eq_left (by omega), Nat.sub_self, List.getElem?_drop, Nat.add_zero, h]
theorem markedP_step {ps : List Pg} {K : Int} {k : Nat} {p : Pg} (h : ps[k]? = some p) : (markedP ps K k).set k (markPg p (K + cntP (ps.take k))) = markedP ps K (k + 1) := by
  have hk := (List.getElem?_eq_some_iff.1 h).1
  have hl : ((marksP ps K).take k).length = k := by rw [List.length_take, length_marksP]; omega
  unfold markedP
  rw [List.set_append_right _ _ (by omega), hl, Nat.sub_self, drop_at h, List.set_cons_zero, List.take_add_one, marksP_at h, List.append_assoc]
  rfl
theorem cntP_le {N : Nat} : ∀ {ps : List Pg}, ShortP N ps → cntP ps ≤ ps.length * (N + 3)
  | [], _ => by simp [cntP]
  | p :: r, h => by
    have h1 := h p (by simp)
    have h2 := cntP_le (N := N) (ps := r) (fun q hq => h q (by simp [hq]))
    simp only [cntP, List.length_cons, Nat.add_mul]; omega
theorem cntP_bound {ps : List Pg} (h : ShortP 1048576 ps) (hn : ps.length ≤ 1048576) (k : Nat) : cntP (ps.take k) ≤ 1099514773504 := by
  have h1 := cntP_le (N := 1048576) (ps := ps.take k) (fun q hq => h q (List.mem_of_mem_take hq))
  have h2 : (ps.take k).length ≤ 1048576 := by rw [List.length_take]; omega
  have := Nat.mul_le_mul_right (1048576 + 3) h2
  omega
theorem ShortP_marks {N : Nat} {ps : List Pg} {K : Int} (h : ShortP N ps) : ShortP N (marksP ps K) := by
  intro q hq
  obtain ⟨j, hj, rfl⟩ := List.getElem_of_mem hq
  have hjl : j < ps.length := by rwa [length_marksP] at hj
  have h1 := marksP_at (K := K) (List.getElem?_eq_getElem hjl)
  rw [List.getElem?_eq_getElem hj] at h1
  injection h1 with h1
  rw [h1]
  simp only [markPg, length_marksB]
  exact h _ (List.getElem_mem hjl)

end Go.Proofs.Ytoaeglhjaandmaa

/- Chapter 4 of the program: truth values that are looked for and compared; what a page needs. -/
namespace Go.Proofs.Ytoaeglhjaandmaa
open Go.RowKit

/-- Two lists are the same as far as this. -/
def SameUpto {α : Type} (xs ys : List α) (k : Nat) : Prop := ∀ j, j < k → xs[j]? = ys[j]?
theorem SameUpto.succ {α : Type} {xs ys : List α} {k : Nat} (h : SameUpto xs ys k) (hk : xs[k]? = ys[k]?) : SameUpto xs ys (k + 1) := fun j hj => by
  by_cases e : j = k
  · rw [e]; exact hk
  · exact h j (by omega)
theorem SameUpto.all {α : Type} {xs ys : List α} {k : Nat} (h : SameUpto xs ys k) (h1 : xs.length ≤ k) (h2 : ys.length ≤ k) : xs = ys := by
  apply List.ext_getElem?
  intro j
  rcases Nat.lt_or_ge j k with hj | hj
  · exact h j hj
  · rw [List.getElem?_eq_none (by omega), List.getElem?_eq_none (by omega)]
theorem differ_at {α : Type} {xs ys : List α} {k : Nat} {x y : α} (hx : xs[k]? = some x) (hy : ys[k]? = some y) (h : x ≠ y) : xs ≠ ys := by
  rintro rfl; rw [hx] at hy; injection hy with hy; exact h hy

/-- The range of a page's numbers. -/
def rangeOk (p : Pg) : Bool := if p.kind = 1 then within 0 3 [p.cls] else if p.kind = 2 then within 1 4 [p.run] else decide (p.kind = 0 ∨ p.kind = 3)
/-- What of a page its kind needs. -/
def needed (p : Pg) : Pg := if p.kind = 1 then ⟨1, p.cls, p.used, 0⟩ else if p.kind = 2 then ⟨2, 0, [], p.run⟩ else ⟨p.kind, 0, [], 0⟩
def usedF (p : Pg) : Int := if (p.used.length : Int) = 16 / sizeW p.cls then (if anyB p.used = true then 0 else 4) else 2
theorem pageFault_by (p : Pg) : pageFault p = if rangeOk p = true then (if decide (p = needed p) = true then (if p.kind = 1 then usedF p else 0) else 1) else 3 := by
  obtain ⟨k, c, us, r⟩ := p
  unfold pageFault rangeOk needed usedF
  by_cases h1 : k = 1
  · subst h1
    simp only [if_true]
    by_cases hw : within 0 3 [c] = true
    · rw [if_pos hw, if_pos hw]
      by_cases hr : r = 0
      · subst hr; simp
      · rw [if_neg hr, if_neg (by simp [hr])]
    · rw [if_neg hw, if_neg hw]
  · by_cases h2 : k = 2
    · subst h2
      simp only [show ¬ ((2 : Int) = 1) by omega, if_false, if_true]
      by_cases hw : within 1 4 [r] = true
      · rw [if_pos hw, if_pos hw]
        by_cases hc : c = 0 ∧ us = []
        · rw [if_pos hc, if_pos (by simp [hc])]
        · rw [if_neg hc, if_neg (by simpa using hc)]
      · rw [if_neg hw, if_neg hw]
    · simp only [h1, h2, if_false]
      by_cases h03 : k = 0 ∨ k = 3
      · by_cases hc : c = 0 ∧ us = [] ∧ r = 0
        · obtain ⟨rfl, rfl, rfl⟩ := hc; simp [h03]
        · simp [h03, hc]
      · simp [h03]

end Go.Proofs.Ytoaeglhjaandmaa

/- Chapter 3 of the model: sizes, slots, pages, steps. -/
namespace Go.Proofs.Ytoaeglhjaandmaa
open Go.RowKit

/-- Two to the power of k. -/
def pw : Nat → Int
  | 0 => 1
  | k + 1 => pw k * 2
theorem pw_small {k : Nat} (h : k ≤ 3) : 1 ≤ pw k ∧ pw k ≤ 8 := by
  rcases (show k = 0 ∨ k = 1 ∨ k = 2 ∨ k = 3 by omega) with rfl | rfl | rfl | rfl <;> decide
theorem pw_size {c : Int} (h0 : 0 ≤ c) (h3 : c ≤ 3) : pw c.toNat = sizeW c := by
  rcases (show c = 0 ∨ c = 1 ∨ c = 2 ∨ c = 3 by omega) with rfl | rfl | rfl | rfl <;> decide

theorem class_step {s : Int} {k : Nat} (hk : k ≤ 3) (h8 : s ≤ 8) (h : (k : Int) ≤ classW s) : (sizeW k < s → k < 3 ∧ ((k + 1 : Nat) : Int) ≤ classW s) ∧ (¬ sizeW k < s → (k : Int) = classW s) := by
  rcases (show k = 0 ∨ k = 1 ∨ k = 2 ∨ k = 3 by omega) with rfl | rfl | rfl | rfl <;> unfold sizeW classW at * <;> simp at * <;> (try split) <;> (try split) <;> (try split) <;> omega
end Go.Proofs.Ytoaeglhjaandmaa

/- Chapter 4 of the model: why pages are none. -/
namespace Go.Proofs.Ytoaeglhjaandmaa
open Go.RowKit

/-- What a page's fault is, case by case. -/
theorem pf_x {k c r : Int} {us : List Bool} (h : within 0 3 [k] = false) : pageFault ⟨k, c, us, r⟩ = 3 := by
  rw [within_one] at h
  simp only [decide_eq_false_iff_not] at h
  unfold pageFault
  dsimp only
  rw [if_neg (by omega), if_neg (by omega), if_neg (by omega)]
theorem pf_1a {c r : Int} {us : List Bool} (h : within 0 3 [c] = false) : pageFault ⟨1, c, us, r⟩ = 3 := by simp [pageFault, h]
theorem pf_1b {c r : Int} {us : List Bool} (h : within 0 3 [c] = true) (hr : r ≠ 0) : pageFault ⟨1, c, us, r⟩ = 1 := by simp [pageFault, h, hr]
theorem pf_1c {c r : Int} {us : List Bool} (h : within 0 3 [c] = true) (hr : r = 0) (hs : (us.length : Int) ≠ 16 / sizeW c) : pageFault ⟨1, c, us, r⟩ = 2 := by simp [pageFault, h, hr, hs]
theorem pf_1d {c r : Int} {us : List Bool} (h : within 0 3 [c] = true) (hr : r = 0) (hs : (us.length : Int) = 16 / sizeW c) (ha : anyB us = false) : pageFault ⟨1, c, us, r⟩ = 4 := by simp [pageFault, h, hr, hs, ha]
theorem pf_1e {c r : Int} {us : List Bool} (h : within 0 3 [c] = true) (hr : r = 0) (hs : (us.length : Int) = 16 / sizeW c) (ha : anyB us = true) : pageFault ⟨1, c, us, r⟩ = 0 := by simp [pageFault, h, hr, hs, ha]
theorem pf_2a {c r : Int} {us : List Bool} (h : within 1 4 [r] = false) : pageFault ⟨2, c, us, r⟩ = 3 := by simp [pageFault, h]
theorem pf_2b {c r : Int} {us : List Bool} (h : within 1 4 [r] = true) (hc : c ≠ 0) : pageFault ⟨2, c, us, r⟩ = 1 := by simp [pageFault, h, hc]
theorem pf_2c {c r : Int} {us : List Bool} (h : within 1 4 [r] = true) (hu : us ≠ []) : pageFault ⟨2, c, us, r⟩ = 1 := by simp [pageFault, h, hu]
theorem pf_2d {c r : Int} {us : List Bool} (h : within 1 4 [r] = true) (hc : c = 0) (hu : us = []) : pageFault ⟨2, c, us, r⟩ = 0 := by simp [pageFault, h, hc, hu]
theorem pf_03a {k c r : Int} {us : List Bool} (hk : k = 0 ∨ k = 3) (hc : c ≠ 0) : pageFault ⟨k, c, us, r⟩ = 1 := by rcases hk with rfl | rfl <;> simp [pageFault, hc]
theorem pf_03b {k c r : Int} {us : List Bool} (hk : k = 0 ∨ k = 3) (hu : us ≠ []) : pageFault ⟨k, c, us, r⟩ = 1 := by rcases hk with rfl | rfl <;> simp [pageFault, hu]
theorem pf_03c {k c r : Int} {us : List Bool} (hk : k = 0 ∨ k = 3) (hr : r ≠ 0) : pageFault ⟨k, c, us, r⟩ = 1 := by rcases hk with rfl | rfl <;> simp [pageFault, hr]
theorem pf_03d {k c r : Int} {us : List Bool} (hk : k = 0 ∨ k = 3) (hc : c = 0) (hu : us = []) (hr : r = 0) : pageFault ⟨k, c, us, r⟩ = 0 := by rcases hk with rfl | rfl <;> simp [pageFault, hr, hc, hu]

end Go.Proofs.Ytoaeglhjaandmaa

/- Chapter 4 of the model: why pages are none (all of them); copies. -/
namespace Go.Proofs.Ytoaeglhjaandmaa
open Go.RowKit

theorem nextLeft_range {l : Int} {p : Pg} (h0 : 0 ≤ l) (h3 : l ≤ 3) (hp : pageFault p = 0) (hd : decide (p.kind = 3) = decide (0 < l)) : 0 ≤ nextLeft l p ∧ nextLeft l p ≤ 3 := by
  unfold nextLeft
  rcases pageFault_ok hp with h | h | ⟨h, _⟩
  · rw [if_neg (by omega), if_neg (by omega)]; omega
  · rw [if_pos h.1]; omega
  · rw [if_neg (by omega)]
    split
    · rename_i h1; simp [h1] at hd; omega
    · omega

end Go.Proofs.Ytoaeglhjaandmaa
