/- Joined texts (One5c, Spec4d, Spec4e, Whole4, App3, Plain5, Help5): steps of the proofs of chapter 5's laws. -/
import Derived.Sort.OwnSortedInts
import Derived.Deep.RegionHeld3
import Derived.Laws.CopyRow
import Derived.Test.YthpamclljdcjpaaGreatDoorM2
import Derived.Test.YthpamclljdcjpaaGreatDoorM3
import Derived.Test.YthpamclljdcjpaaGreatDoorM4
set_option linter.unusedVariables false
set_option linter.unusedSimpArgs false
/- Slices of whole numbers joined; two that are alike, as the program looks for them: it sorts. -/
namespace Go.Proofs.YthpamclljdcjpaaGreatDoor
open Go.RowKit Go.Sort

/-- A slice of numbers that is owned, as a row of cells. -/
theorem Own.rowI {t : TypeId} {w : World} {S : Nat → Prop} {g n cap : Nat} {xs : List Int} (h : Own KInt t w S (.slice (some ⟨g, 0, none⟩) n cap) n xs) :
    S g ∧ ∃ cur, Row w g t cur ∧ n ≤ cap ∧ cap ≤ maxLen ∧ cur.size = cap * 1 ∧ cur.toList.take n = xs.map (Value.int .i64) := by
  have hl := h.1
  rcases h.2 with ⟨h2, _⟩ | ⟨g', cap', cur, F, hv, hg, hr, h1, h2, h3, hF, hD, hc⟩
  · cases h2
  · cases hv
    refine ⟨hg, cur, hr, h1, h2, h3, ?_⟩
    apply List.ext_getElem?
    intro j
    by_cases hj : j < n
    · rw [List.getElem?_take_of_lt hj]
      obtain ⟨x, hx⟩ : ∃ x, xs[j]? = some x := ⟨_, List.getElem?_eq_getElem (by omega)⟩
      obtain ⟨cs, hcl, hcs, ho⟩ := hc j x hx
      obtain rfl : cs = [.int .i64 x] := ho
      have := hcs 0 (show 0 < 1 by omega)
      rw [show KInt.sz = 1 from rfl, Nat.mul_one, Nat.add_zero] at this
      rw [Array.getElem?_toList, this, List.getElem?_map, hx]; rfl
    · rw [List.getElem?_take_eq_none (by omega), List.getElem?_eq_none (by simp; omega)]
theorem Own.of_rowI {t : TypeId} {w : World} {S : Nat → Prop} {g n cap B : Nat} {xs : List Int} (h : w.ownsRow B t 1 (.slice (some ⟨g, 0, none⟩) n cap) n (xs.map (Value.int .i64))) (hg : S g) : Own KInt t w S (.slice (some ⟨g, 0, none⟩) n cap) n xs := by
  obtain ⟨h1, h2⟩ := h
  refine Own.of_row (cells := xs.map (Value.int .i64)) (F := fun _ _ => False) (K := KInt) ⟨h1, ?_⟩ (by simpa using h1) (fun g' h => by simp [Value.ownBlock] at h; exact h ▸ hg) (fun _ _ h => h.elim) (fun _ _ _ h => h.elim) (fun j x hj => ⟨[.int .i64 x], rfl, fun i hi => ?_, rfl⟩)
  · rcases h2 with h2 | ⟨g', cap', cur, hv, _, r⟩
    · exact .inl h2
    · exact .inr ⟨g', cap', cur, hv, Nat.zero_le _, r⟩
  · obtain rfl : i = 0 := by have : i < 1 := hi; omega
    rw [show KInt.sz = 1 from rfl, Nat.mul_one, Nat.add_zero, List.getElem?_map, hj]; rfl

theorem sortOwn_calls {v : Value} {n : Nat} {xs : List Int} {S : Nat → Prop} {w : World} (ho : Own KInt 2 w S v n xs) (hn : n ≤ 17592186044416) :
    Calls Tryz.prog 147 #[v] w fun e w' => e = .returned (.tuple #[]) ∧ Own KInt 2 w' S v n (xs.mergeSort fun x y => decide (x ≤ y)) ∧ Turn S w w' := by
  obtain ⟨ao, cap, rfl, hnc, hcm, hL⟩ := ho.shape
  have hl := ho.1
  rcases Nat.eq_zero_or_pos n with h0 | h0
  · subst h0
    refine sortNone_calls.mono ?_
    rintro e w1 ⟨rfl, rfl⟩
    obtain rfl := List.eq_nil_of_length_eq_zero hl
    exact ⟨rfl, by simpa using ho, Turn.refl _ _⟩
  · rcases ho.2 with ⟨_, h2⟩ | ⟨g, cap', cur0, F, hv, _⟩
    · omega
    · cases hv
      obtain ⟨hg, cur, hr, h1, h2, h3, h4⟩ := ho.rowI
      refine (sortInts_calls (holds_of_blockI hr (by rw [hl]; exact h4)) hr.lt hl hn).mono ?_
      rintro e w1 ⟨rfl, m, os, rfl⟩
      refine ⟨rfl, ?_, ?_⟩
      · have := ownsRow_sortedI (n := m) (os := os) (base := 0) (ss := xs) (ts := xs.mergeSort fun x y => decide (x ≤ y)) (by simp) (Nat.zero_le _) hr (by rw [hl]; exact h1) h2 h3
        rw [hl] at this
        exact Own.of_rowI this hg
      · exact (Turn.of_grown (v := .slice (some ⟨g, 0, none⟩) n cap) (grownBy_sortedI _)).mono (fun k hk _ => by simp [Value.ownBlock] at hk; exact hk ▸ hg)

theorem hasTwoAlike_calls {v : Value} {n : Nat} {xs : List Int} {S : Nat → Prop} {w : World} (ho : Own KInt 2 w S v n xs) (hn : n ≤ 17592186044416) :
    Calls Tryz.prog 80 #[v] w fun e w' => e = .returned (.bool (alike xs)) ∧ Turn S w w' := by
  obtain ⟨ao, cap, rfl, hnc, hcm, hL⟩ := ho.shape
  go_enter Tryz.func80, Tryz.ntmps80
  go_wp2_with fail
  refine (sortOwn_calls ho hn).mono ?_
  rintro e w1 ⟨rfl, ho1, ht1⟩
  have hi := ho1.ints
  have HT := Lib.hid ht1
  clear ho1 ht1
  go_wp2_with fail
  refine (isRising_calls hi hn).mono ?_
  rw [rising_sorted]
  rintro e w2 ⟨rfl, hb2⟩
  have HB := Lib.hid hb2
  clear hb2
  go_wp2_with fail
  go_ret
  exact ⟨ret_bool (by simp [alike]), HT.out.trans (Turn.of_below (T := fun _ => False) HB.out) (fun _ h _ => h.elim)⟩
end Go.Proofs.YthpamclljdcjpaaGreatDoor

namespace Go.Proofs.YthpamclljdcjpaaGreatDoor
open Go.RowKit
section
variable {P : Program} {α : Type} {K : Lay α} {w : World} {ops : Array Oper} {rest : List Oper} {o : Oper} {a : Act} {Q : Exit → Act → World → Prop}
/-- append(nil, make([]E, k)...): a new slice of k zeros. -/
theorem wpList_append_zeros_nil (hgd : o.guard = none) (s x : Operand) (t tn : TypeId) (ho : o.op = .call { callee := .builtin .append, args := #[s, x], argTypes := #[t, tn] })
    (e : TypeId) (i : TypeInfo) (z : Value) (bytes : Nat) (kn kq : IntKind) (ht : P.underlying t = some (.slice e)) (htn : P.underlying tn = some (.int kn)) (hi : P.info? e = some i) (hz : i.zero = some z)
    (hsize : i.size = K.sz) (hby : i.bytes = bytes) (hzs : z.cells.size = K.sz) (hsz : 0 < K.sz)
    {k : Nat} {y : α} (hs : a.eval s = .slice none 0 0) (hx : a.eval x = .int kq k) (hy : ∀ w, K.own w (fun _ => False) z.cells.toList y)
    (h0 : 0 < k) (h63 : k ≤ maxLen) (hbytes : k * bytes ≤ 140737488355328)
    (h : ∀ v' w', Own K e w' (fun j => w.heap.size ≤ j) v' k (List.replicate k y) → Below w.heap.size w w' → wpList P ops Q rest (a.put o.dst v') w') : wpList P ops Q (o :: rest) a w := by
  subst hby
  have hsmall : k ≤ 9223372036854775807 := by simp only [maxLen] at h63; omega
  have hrun := Lib.run_append_grow_zeros w t tn o.type e i z kq kn ht htn hi hz none 0 0 []
    (by simpa using Go.run_firstCells_none (P := P) (w := w.drew) i.size 0 0 0) k h0 (by omega) (by omega) (by omega) (by omega) (growslice_fits (by omega) (by rw [Nat.zero_add]; exact hbytes))
  refine wpList_plain hgd fun K' hK' => ?_
  unfold Oper.wp execOp
  simp only [ho, resolve, invoke, builtin, Sem.run_bind, Sem.run_pure, Result.andThen_ok, List.map_toArray, List.map_cons, List.map_nil, hs, hx, hrun]
  have hge := grownCap_ge w (0 + k) 0 e
  have hle := grownCap_le_maxLen w (0 + k) 0 e (by omega)
  have hb : Below w.heap.size w (w.drew.alloc (.cells (([] : List Value).toArray ++ Builtin.zeroCells z.cells k ++ Builtin.zeroCells z.cells (grownCap w (0 + k) 0 e - (0 + k))) e)) := Turn.none_ ((Turn.drew_ _ w).trans (Turn.alloc _ w.drew _) (fun _ h _ => h))
  refine hK' _ _ (h _ _ ?_ hb)
  have hzl : (Builtin.zeroCells z.cells k).size = k * K.sz := by rw [size_zeroCells, hzs]
  have hzt : (Builtin.zeroCells z.cells k).toList.length = k * K.sz := hzl
  rw [Nat.zero_add] at hge hle ⊢
  refine Own.of_row (F := fun _ _ => False) (cells := (Builtin.zeroCells z.cells k).toList) ⟨by rw [hzt], .inr ⟨w.heap.size, _, _, rfl, Nat.zero_le _, heap_alloc_new w.drew _, hge, hle, ?_, ?_⟩⟩ (by simp) (fun g' hg' => ?_) (fun j q hq => hq.elim) (fun i j q hi hj => hi.elim) (fun j y' hj => ?_)
  · simp only [Array.size_append, List.size_toArray, List.length_nil, size_zeroCells, hzs, Nat.zero_add, ← Nat.add_mul]; congr 1; omega
  · have e1 : k * K.sz = (Builtin.zeroCells z.cells k).toList.length := hzt.symm
    simp only [Array.toList_append, List.nil_append]
    rw [e1]; exact List.take_left
  · simp [Value.ownBlock] at hg'; omega
  · rw [List.getElem?_replicate] at hj
    split at hj
    · rename_i hjk
      injection hj with hj; subst hj
      refine ⟨z.cells.toList, by simpa using hzs, fun i hi => ?_, K.own_mono (hy _) (fun _ h _ => h.elim)⟩
      have h2 := Nat.mul_le_mul_right K.sz (show j + 1 ≤ k by omega)
      rw [Nat.add_mul] at h2
      have h3 : (j * K.sz + i) % z.cells.size = i := by rw [hzs, Nat.mul_comm, Nat.mul_add_mod, Nat.mod_eq_of_lt hi]
      have h4 : j * K.sz + i < k * z.cells.size := by rw [hzs]; omega
      simp only [hzs] at h3 h4
      simp [Builtin.zeroCells, hzs, hi, h3, h4]
    · cases hj
end
/-- The first elements of what is owned. -/
theorem Own.first {α : Type} {K : Lay α} {t : TypeId} {w : World} {S : Nat → Prop} {g n cap m : Nat} {xs : List α} (h : Own K t w S (.slice (some ⟨g, 0, none⟩) n cap) n xs) (hm : m ≤ n) : Own K t w S (.slice (some ⟨g, 0, none⟩) m cap) m (xs.take m) := by
  have hl := h.1
  rcases h.2 with ⟨h2, _⟩ | ⟨g', cap', cur, F, hv, hg, hr, h1, h2, h3, hF, hD, hc⟩
  · cases h2
  · cases hv
    refine ⟨by simp; omega, .inr ⟨g, cap, cur, F, rfl, hg, hr, by omega, h2, h3, hF, hD, fun j x hj => hc j x ?_⟩⟩
    rw [List.getElem?_take] at hj
    split at hj
    · exact hj
    · cases hj

set_option maxRecDepth 100000 in
theorem growNil_calls {n : Nat} {w : World} (hn : n ≤ 17592186044416) :
    Calls Tryz.prog 149 #[.slice none 0 0, .int .i64 n] w fun e w' => ∃ v, e = .returned v ∧ Own KInt 2 w' (fun k => w.heap.size ≤ k) v 0 [] ∧ Below w.heap.size w w' := by
  obtain ⟨ib, hib, hb0, hb1, hb2⟩ := info_parts info64
  have h1 : ¬ ((n : Int) < 0) := by omega
  by_cases h0 : 0 < n
  · have h2 : ((n : Int) > 0) := by omega
    go_enter Tryz.func149, Tryz.ntmps149
    go_wp2_with (
      at_builtin
      go_must (refine wpList_append_zeros_nil (K := KInt) rfl (.tmp 20) (.tmp 21) 25 3 rfl 2 ib (.int .i64 0) 8 .i64 .i64 Tryz.underlying25 Tryz.underlying3 hib hb0 hb1 hb2 rfl (by decide) (k := n) (y := (0 : Int)) rfl rfl (fun _ => rfl) h0 (by unfold maxLen; omega) (by omega) ?_)
      intro v1 w1 ho1 hb1
      obtain ⟨ao, cap, rfl, hnc, hcm, _⟩ := ho1.shape
      obtain ⟨g, rfl⟩ : ∃ g, ao = some ⟨g, 0, none⟩ := by
        rcases ho1.2 with ⟨_, h2⟩ | ⟨g, _, _, _, hv, _⟩
        · omega
        · cases hv; exact ⟨g, rfl⟩
      have H1 := Lib.hid (And.intro (ho1.first (Nat.zero_le n)) hb1)
      clear ho1 hb1)
    go_ret
    exact ⟨_, rfl, by simpa using H1.out.1, H1.out.2⟩
  · obtain rfl : n = 0 := by omega
    go_enter Tryz.func149, Tryz.ntmps149
    go_wp2_with fail
    go_ret
    exact ⟨_, rfl, Own.nil, Below.refl _ _⟩
end Go.Proofs.YthpamclljdcjpaaGreatDoor

namespace Go.Proofs.YthpamclljdcjpaaGreatDoor
open Go.RowKit
theorem flatten_snoc {α : Type} {ms : List (List α)} {k : Nat} {m : List α} (h : ms[k]? = some m) : (ms.take (k + 1)).flatten = (ms.take k).flatten ++ m := by
  obtain ⟨hk, rfl⟩ := List.getElem?_eq_some_iff.1 h
  rw [List.take_succ_eq_append_getElem hk, List.flatten_append]; simp [List.flatten]
theorem flatten_take_le {α : Type} (ms : List (List α)) (k : Nat) : (ms.take k).flatten.length ≤ ms.flatten.length := by
  have h : ms.flatten = (ms.take k).flatten ++ (ms.drop k).flatten := by rw [← List.flatten_append, List.take_append_drop]
  rw [h, List.length_append]; omega

set_option maxRecDepth 100000 in
set_option maxHeartbeats 1000000 in
theorem concat_calls {a : Option Addr} {n c : Nat} {ms : List (List Int)} {S : Nat → Prop} {w : World} (hT : Lst KMag w S a n ms) (hn : n ≤ 17592186044416) (hF : ms.flatten.length ≤ 1048576) :
    Calls Tryz.prog 81 #[.slice a n c] w fun e w' => ∃ v t, e = .returned v ∧ Own KInt 2 w' (fun k => w.heap.size ≤ k) v t ms.flatten ∧ Below w.heap.size w w' := by
  obtain ⟨ib, hib, hb0, hb1, hb2⟩ := info_parts info64
  have HL := Lib.hid hT.1
  have HF := Lib.hid hF
  clear hF
  go_enter Tryz.func81, Tryz.ntmps81
  go_wp2_with fail
  go_loopw [3, 5, 11] (fun z _ i wr => ∃ k s : Nat, k ≤ n ∧ i = .int .i64 k ∧ z = .int .i64 s ∧ Hid (s = (ms.take k).flatten.length) ∧ Below w.heap.size w wr) (fun _ _ i _ => n - (intOf i).toNat)
  case atStart => exact ⟨0, 0, Nat.zero_le _, rfl, rfl, by simp [Hid], Below.refl _ _⟩
  case round =>
    obtain ⟨k, s, hk, rfl, rfl, HS, hbw⟩ := hrel
    have hs : s ≤ 1048576 := by have := flatten_take_le ms k; have := HS.out; have := HF.out; omega
    by_cases hlt : k < n
    · obtain ⟨b0, o0, m, a0, l0, c0, rfl, d0, hp, e0, hlc0, hcm0, hu0⟩ := (hT.below hbw).mag_at hlt
      have HN : Hid (s + l0 = (ms.take (k + 1)).flatten.length) := by
        show _ = _; rw [flatten_snoc hp, List.length_append, ← HS.out, hu0.1]
      have hs2 : s + l0 ≤ 1048576 := by have := flatten_take_le ms (k + 1); have := HN.out; have := HF.out; omega
      have hneg : ¬ ((s : Int) + (l0 : Int) < 0) := by omega
      clear hp hu0 hcm0
      go_wp2_with fail
      go_roundw
      case rel => exact ⟨k + 1, s + l0, by omega, by go_num, by go_num, HN, hbw⟩
      case measure => simp [intOf]; omega
    · have HE : Hid (s = ms.flatten.length) := by
        have := HS.out; rwa [List.take_of_length_le (by have := HL.out; omega)] at this
      go_wp2_with fail
      refine (growNil_calls (by omega)).mono ?_
      rintro e w1 ⟨v, rfl, ho1, hb1⟩
      have hB1 := hbw.trans (hb1.mono hbw.size)
      have hO1 := ho1.fresh hbw.size
      clear ho1 hb1 hbw
      go_wp2_with fail
      go_loopw [6, 8, 27] (fun v _ i wr => ∃ k s : Nat, k ≤ n ∧ i = .int .i64 k ∧ Hid (s = (ms.take k).flatten.length) ∧ Own KInt 2 wr (fun k => w.heap.size ≤ k) v s (ms.take k).flatten ∧ Below w.heap.size w wr) (fun _ _ i _ => n - (intOf i).toNat)
      case atStart => exact ⟨0, 0, Nat.zero_le _, rfl, by simp [Hid], by simpa using hO1, hB1⟩
      case round =>
        clear hO1 hB1
        obtain ⟨k, s, hk, rfl, HS, hO, hbw⟩ := hrel
        obtain ⟨vo, vc, rfl, _, _, _⟩ := hO.shape
        have hs : s ≤ 1048576 := by have := flatten_take_le ms k; have := HS.out; have := HF.out; omega
        by_cases hlt : k < n
        · obtain ⟨b0, o0, m, a0, l0, c0, rfl, d0, hp, e0, hlc0, hcm0, hu0⟩ := (hT.below hbw).mag_at hlt
          have HN : Hid (s + l0 = (ms.take (k + 1)).flatten.length) := by
            show _ = _; rw [flatten_snoc hp, List.length_append, ← HS.out, hu0.1]
          have hs2 : s + l0 ≤ 1048576 := by have := flatten_take_le ms (k + 1); have := HN.out; have := HF.out; omega
          have HP := Lib.hid hp
          clear hp hcm0
          have HO := Lib.hid hO
          have HB := Lib.hid hbw
          clear hO hbw
          go_wp2_with (
            at_builtin
            go_must (refine wpList_append_flat (K := KInt) rfl (.tmp 31) (.tmp 32) 25 rfl 2 ib (.int .i64 0) 8 Tryz.underlying25 hib hb0 hb1 hb2 rfl (by decide) flat_int one_int (n := s) (m := l0) (c := c0) rfl HO.out rfl hu0 (by unfold maxLen; omega) (by omega) ?_)
            intro v1 w1 ho1 ht1
            have H1 : Hid (Own KInt 2 w1 (fun k => w.heap.size ≤ k) v1 (s + l0) (ms.take (k + 1)).flatten ∧ Below w.heap.size w w1) := by
              refine ⟨?_, ht1.below HB.out HB.out.size (fun k h => h)⟩
              rw [flatten_snoc HP.out]
              exact ho1.mono (fun q hq _ => hq.elim id (fun h => Nat.le_trans HB.out.size h))
            clear ho1 ht1)
          go_roundw
          case rel => exact ⟨k + 1, s + l0, by omega, by go_num, HN, H1.out.1, H1.out.2⟩
          case measure => simp [intOf]; omega
        · have HE2 : Hid (Own KInt 2 wr (fun k => w.heap.size ≤ k) (.slice vo s vc) s ms.flatten ∧ Below w.heap.size w wr) := by
            rw [List.take_of_length_le (by have := HL.out; omega)] at hO
            exact ⟨hO, hbw⟩
          clear hO hbw
          go_wp2_with fail
          go_ret
          exact ⟨_, _, rfl, HE2.out.1, HE2.out.2⟩
end Go.Proofs.YthpamclljdcjpaaGreatDoor

/- Chapter 4 of the model: runs that are found and taken; pages that are counted; how great a block is. -/
namespace Go.Proofs.YthpamclljdcjpaaGreatDoor
open Go.RowKit

set_option maxRecDepth 100000 in
set_option maxHeartbeats 1000000 in
theorem l4Take_calls {v : Value} {n at_ m : Nat} {ps : List Pg} {S : Nat → Prop} {w : World} (hT : Own KPage 137 w S v n ps) (hn : n ≤ 17592186044416) (hm0 : 0 < m) (hm : at_ + m ≤ n) :
    Calls Tryz.prog 209 #[v, .int .i64 at_, .int .i64 m] w fun e w' => e = .returned (.tuple #[]) ∧ Own KPage 137 w' S v n (putRun ps at_ m) ∧ Turn S w w' := by
  have HL := Lib.hid hT.1
  obtain ⟨ao, c, rfl, _, _, _⟩ := hT.shape
  go_enter Tryz.func209, Tryz.ntmps209
  go_wp2_with fail
  go_loopw [6] (fun i wr => ∃ k : Nat, k ≤ m ∧ i = .int .i64 k ∧ Own KPage 137 wr S (.slice ao n c) n (setMany ps at_ restPg k) ∧ Turn S w wr) (fun i _ => m - (intOf i).toNat)
  case atStart => exact ⟨0, Nat.zero_le _, rfl, hT, Turn.refl _ _⟩
  case round =>
    obtain ⟨k, hk, rfl, hO, ht⟩ := hrel
    by_cases hlt : k < m
    · obtain ⟨g, cap, p, a, l, c', F, he, g0, hgS, hp, ⟨q0, q1, q2, q3⟩, ⟨f0, f1, f2, f3⟩, _, hset, _⟩ := hO.pg_at (j := at_ + k) (by omega)
      cases he
      have hN : ((at_ : Int) + (k : Int)).toNat = at_ + k := by omega
      have hst := hset wr restPg (.slice none 0 0) 0 (fun _ => False) (Turn.refl _ _) Own.nil (fun _ h => h.elim)
      have H2 := Lib.hid (And.intro (hst.1.mono (S' := S) (fun q hq _ => hq.elim id False.elim)) (ht.trans hst.2.1 (fun _ h _ => h)))
      clear hset hst hO ht hp
      go_wp2_with fail
      go_roundw
      case rel => exact ⟨k + 1, by omega, by go_num, H2.out.1, H2.out.2⟩
      case measure => simp [intOf]; omega
    · obtain rfl : k = m := by omega
      obtain ⟨g, cap, p, a, l, c', F, he, g0, hgS, hp, ⟨q0, q1, q2, q3⟩, ⟨f0, f1, f2, f3⟩, _, hset, _⟩ := hO.pg_at (j := at_) (by omega)
      cases he
      have hst := hset wr (runPg k) (.slice none 0 0) 0 (fun _ => False) (Turn.refl _ _) Own.nil (fun _ h => h.elim)
      have H2 := Lib.hid (And.intro (hst.1.mono (S' := S) (fun q hq _ => hq.elim id False.elim)) (ht.trans hst.2.1 (fun _ h _ => h)))
      clear hset hst hO ht hp
      go_wp2_with fail
      go_end0
      exact ⟨rfl, H2.out.1, H2.out.2⟩

/-- The first run of n free pages, or -1. -/
def runAt (n : Nat) (ps : List Pg) : Int := match runFrom n 0 ps with
  | some i => (i : Int)
  | none => -1
theorem freeN_snoc : ∀ {f : Nat} {ps : List Pg} {p : Pg}, freeN f ps = true → ps[f]? = some p → p.kind = 0 → freeN (f + 1) ps = true
  | 0, [], p, _, h, _ => by simp at h
  | 0, q :: r, p, _, h, h0 => by simp at h; subst h; simp [freeN, h0]
  | f + 1, [], p, _, h, _ => by simp at h
  | f + 1, q :: r, p, h1, h, h0 => by
    rw [freeN] at h1 ⊢
    simp only [Bool.and_eq_true] at h1 ⊢
    exact ⟨h1.1, freeN_snoc h1.2 (by simpa using h) h0⟩
theorem freeN_no : ∀ {n f : Nat} {ps : List Pg} {p : Pg}, f < n → ps[f]? = some p → p.kind ≠ 0 → freeN n ps = false
  | 0, f, ps, p, h, _, _ => by omega
  | n + 1, f, [], p, _, h, _ => by simp at h
  | n + 1, 0, q :: r, p, _, h, h0 => by simp at h; subst h; simp [freeN, h0]
  | n + 1, f + 1, q :: r, p, hf, h, h0 => by
    rw [freeN, freeN_no (n := n) (f := f) (by omega) (by simpa using h) h0]; simp
theorem freeN_short : ∀ {n : Nat} {ps : List Pg}, ps.length < n → freeN n ps = false
  | 0, ps, h => by omega
  | n + 1, [], _ => rfl
  | n + 1, q :: r, h => by rw [freeN, freeN_short (n := n) (by simpa using h)]; simp
theorem runFrom_skip {n : Nat} : ∀ {f k : Nat} {ps : List Pg} {p : Pg}, f < n → ps[f]? = some p → p.kind ≠ 0 → runFrom n k ps = runFrom n (k + f + 1) (ps.drop (f + 1))
  | f, k, [], p, _, h, _ => by simp at h
  | 0, k, q :: r, p, hf, h, h0 => by
    rw [runFrom, freeN_no hf h h0]; simp
  | f + 1, k, q :: r, p, hf, h, h0 => by
    rw [runFrom, freeN_no hf h h0]
    simp only [Bool.false_eq_true, if_false, List.drop_succ_cons]
    rw [runFrom_skip (f := f) (by omega) (by simpa using h) h0]
    congr 1; omega
theorem runFrom_short {n : Nat} : ∀ {k : Nat} {ps : List Pg}, ps.length < n → runFrom n k ps = none
  | k, [], _ => rfl
  | k, q :: r, h => by
    rw [runFrom, freeN_short h]
    simp only [Bool.false_eq_true, if_false]
    exact runFrom_short (by simp at h; omega)

set_option maxRecDepth 100000 in
set_option maxHeartbeats 1000000 in
theorem l4Run_calls {ao : Option Addr} {n cc m : Nat} {ps : List Pg} {S : Nat → Prop} {w : World} (hT : Lst KPage w S ao n ps) (hn : n ≤ 17592186044416) (hm0 : 0 < m) (hm : m ≤ 17592186044416) :
    Calls Tryz.prog 99 #[.slice ao n cc, .int .i64 m] w fun e w' => e = .returned (.int .i64 (runAt m ps)) ∧ w = w' := by
  have HL := Lib.hid hT.1
  go_enter Tryz.func99, Tryz.ntmps99
  go_wp2_with fail
  go_loop [5, 6] (fun q i => ∃ k f : Nat, k ≤ n ∧ i = .int .i64 k ∧ q = .int .i64 f ∧ f ≤ k ∧ f < m ∧ Hid (runFrom m 0 ps = runFrom m (k - f) (ps.drop (k - f))) ∧ Hid (freeN f (ps.drop (k - f)) = true)) (fun _ i => n - (intOf i).toNat)
  case atStart => exact ⟨0, 0, Nat.zero_le _, rfl, rfl, Nat.le_refl _, hm0, rfl, rfl⟩
  case round =>
    obtain ⟨k, f, hk, rfl, rfl, hfk, hfm, HW, HF⟩ := hrel
    by_cases hlt : k < n
    · obtain ⟨b, off, p, a, l, c, rfl, d0, hp, e0, e1, e2, e3, hlc, hcm, hu⟩ := hT.pg_at hlt
      have HP := Lib.hid hp
      have HPf : Hid ((ps.drop (k - f))[f]? = some p) := by rw [List.getElem?_drop, Nat.sub_add_cancel hfk]; exact hp
      clear hp hu e1 e2 e3
      by_cases h0 : p.kind = 0
      · rw [h0] at e0
        by_cases hfin : f + 1 = m
        · have HR : Hid (runAt m ps = (k : Int) + 1 - m) := by
            show runAt m ps = _
            have h1 : freeN m (ps.drop (k - f)) = true := by rw [← hfin]; exact freeN_snoc HF.out HPf.out h0
            have h2 : runFrom m (k - f) (ps.drop (k - f)) = some (k - f) := by
              rcases hd : ps.drop (k - f) with _ | ⟨q, r⟩
              · rw [hd] at h1; have := freeN_short (n := m) (ps := []) (by simpa using hm0); rw [this] at h1; cases h1
              · rw [runFrom, ← hd, if_pos h1]
            unfold runAt; rw [HW.out, h2]; simp only; omega
          have hq : ((f : Int) + 1 == (m : Int)) = true := by simp; omega
          clear h0 hfin
          go_wp2_with fail
          go_ret
          exact ⟨ret_int HR.out.symm, rfl⟩
        · have hq : ((f : Int) + 1 == (m : Int)) = false := by simp; omega
          have H1 : Hid (runFrom m 0 ps = runFrom m (k + 1 - (f + 1)) (ps.drop (k + 1 - (f + 1)))) := by rw [Nat.add_sub_add_right]; exact HW.out
          have H2 : Hid (freeN (f + 1) (ps.drop (k + 1 - (f + 1))) = true) := by rw [Nat.add_sub_add_right]; exact freeN_snoc HF.out HPf.out h0
          have hfm2 : f + 1 < m := by omega
          clear h0 hfin
          go_wp2_with fail
          go_round
          case rel => exact ⟨k + 1, f + 1, by omega, by go_num, by go_num, by omega, hfm2, H1, H2⟩
          case measure => simp [intOf]; omega
      · have hq : (p.kind != 0) = true := by simpa using h0
        have hq2 : ((0 : Int) == (m : Int)) = false := by simp; omega
        have H1 : Hid (runFrom m 0 ps = runFrom m (k + 1 - 0) (ps.drop (k + 1 - 0))) := by
          have := HW.out
          rw [runFrom_skip hfm HPf.out h0, List.drop_drop, show k - f + f + 1 = k + 1 by omega, show k - f + (f + 1) = k + 1 by omega] at this
          exact this
        clear h0
        go_wp2_with fail
        go_round
        case rel => exact ⟨k + 1, 0, by omega, by go_num, rfl, by omega, hm0, H1, rfl⟩
        case measure => simp [intOf]; omega
    · have HR : Hid (runAt m ps = -1) := by
        show runAt m ps = -1
        unfold runAt; rw [HW.out, runFrom_short (by rw [List.length_drop, HL.out]; omega)]
      go_wp2_with fail
      go_ret
      exact ⟨ret_int HR.out.symm, rfl⟩

set_option maxHeartbeats 400000 in
theorem l4Used_calls {ao : Option Addr} {n cc : Nat} {ps : List Pg} {S : Nat → Prop} {w : World} (hT : Lst KPage w S ao n ps) (hn : n ≤ 17592186044416) :
    Calls Tryz.prog 189 #[.slice ao n cc] w fun e w' => e = .returned (.int .i64 (usedIn ps)) ∧ w = w' := by
  have HL := Lib.hid hT.1
  go_enter Tryz.func189, Tryz.ntmps189
  go_wp2_with fail
  go_loop [3, 4] (fun q i => ∃ k f : Nat, k ≤ n ∧ i = .int .i64 k ∧ q = .int .i64 f ∧ f ≤ k ∧ Hid (usedIn ps = f + usedIn (ps.drop k))) (fun _ i => n - (intOf i).toNat)
  case atStart => exact ⟨0, 0, Nat.zero_le _, rfl, rfl, Nat.le_refl _, by show _ = _; simp⟩
  case round =>
    obtain ⟨k, f, hk, rfl, rfl, hfk, HW⟩ := hrel
    by_cases hlt : k < n
    · obtain ⟨b, off, p, a, l, c, rfl, d0, hp, e0, e1, e2, e3, hlc, hcm, hu⟩ := hT.pg_at hlt
      have HD : Hid (usedIn ps = f + ((if p.kind = 0 then 0 else 1) + usedIn (ps.drop (k + 1)))) := by have := HW.out; rw [drop_at hp, usedIn] at this; exact this
      clear hp hu e1 e2 e3
      by_cases h0 : p.kind = 0
      · have H1 : Hid (usedIn ps = f + usedIn (ps.drop (k + 1))) := by have := HD.out; rw [if_pos h0] at this; show _ = _; omega
        rw [h0] at e0
        clear h0
        go_wp2_with fail
        go_round
        case rel => exact ⟨k + 1, f, by omega, by go_num, rfl, by omega, H1⟩
        case measure => simp [intOf]; omega
      · have H1 : Hid (usedIn ps = (f + 1) + usedIn (ps.drop (k + 1))) := by have := HD.out; rw [if_neg h0] at this; show _ = _; omega
        have hq : (p.kind != 0) = true := by simpa using h0
        clear h0
        go_wp2_with fail
        go_round
        case rel => exact ⟨k + 1, f + 1, by omega, by go_num, by go_num, by omega, H1⟩
        case measure => simp [intOf]; omega
    · have HR : Hid (usedIn ps = f) := by have := HW.out; rw [drop_end (by rw [HL.out]; omega), usedIn] at this; exact this
      go_wp2_with fail
      go_ret
      exact ⟨ret_int (by rw [HR.out]), rfl⟩
end Go.Proofs.YthpamclljdcjpaaGreatDoor

/- Chapter 4 of the model: blocks that are dropped. -/
namespace Go.Proofs.YthpamclljdcjpaaGreatDoor
open Go.RowKit

/-- What is dropped at a place: the slot, or the run of the page. -/
def dropAt (ps : List Pg) (st : Nat) : List Pg := match ps[st / 16]? with
  | none => ps
  | some p => if p.kind = 1 then ps.set (st / 16) (freeSlot p (st % 16 / (sizeW p.cls).toNat)) else setMany ps (st / 16) Pg.free p.run.toNat

set_option maxRecDepth 100000 in
set_option maxHeartbeats 1000000 in
theorem l4Drop_slab {v : Value} {n st : Nat} {ps : List Pg} {p : Pg} {S : Nat → Prop} {w : World} (hT : Own KPage 137 w S v n ps) (hn : n ≤ 17592186044416) (hst : st < 16 * n) (hp : ps[st / 16]? = some p) (hk : p.kind = 1) (h0 : 0 ≤ p.cls) (h3 : p.cls ≤ 3) (hl : (p.used.length : Int) = 16 / sizeW p.cls) :
    Calls Tryz.prog 163 #[v, .int .i64 st] w fun e w' => e = .returned (.tuple #[]) ∧ Own KPage 137 w' S v n (dropAt ps st) ∧ Turn S w w' := by
  have HL := Lib.hid hT.1
  obtain ⟨i, hi⟩ : ∃ i, i = st / 16 := ⟨_, rfl⟩
  have hin : i < n := by omega
  obtain ⟨g, cap, p', a, l, c, F, rfl, g0, hgS, hp', ⟨q0, q1, q2, q3⟩, ⟨f0, f1, f2, f3⟩, ⟨hU, hF, hlc, hcm⟩, hset, hus⟩ := hT.pg_at (j := i) hin
  obtain rfl : p = p' := by rw [← hi, hp'] at hp; injection hp with hp; exact hp.symm
  have hsz := sizeW_small p.cls
  have hll : l = p.used.length := by have := hU.1; omega
  obtain ⟨s, hs⟩ : ∃ s, s = st % 16 / (sizeW p.cls).toNat := ⟨_, rfl⟩
  have hsl : s < l := by
    rw [hs, hll]
    rcases (show p.cls = 0 ∨ p.cls = 1 ∨ p.cls = 2 ∨ p.cls = 3 by omega) with e | e | e | e <;> rw [e] at hl ⊢ <;> simp [sizeW] at hl ⊢ <;> omega
  have hl16 : l ≤ 16 := by
    rw [hll]
    rcases (show p.cls = 0 ∨ p.cls = 1 ∨ p.cls = 2 ∨ p.cls = 3 by omega) with e | e | e | e <;> rw [e] at hl <;> simp [sizeW] at hl <;> omega
  have hx1 : ((st : Int) / 16).toNat = i := by omega
  have hx2 : ((st : Int) % 16 / sizeW p.cls).toNat = s := by
    obtain ⟨z, hz⟩ : ∃ z : Nat, sizeW p.cls = z := ⟨(sizeW p.cls).toNat, by omega⟩
    have h1 : ((st : Int) % 16 / (z : Int)) = ((st % 16 / z : Nat) : Int) := by push_cast; rfl
    rw [hs, hz, h1, Int.toNat_natCast, Int.toNat_natCast]
  have hx3 : 0 ≤ (st : Int) % 16 / sizeW p.cls := Int.ediv_nonneg (by omega) (by omega)
  obtain ⟨g2, cap2, hv2, hg2S, hg2, hcl, hfr, hbst⟩ := hU.bool_at hsl
  cases hv2
  obtain ⟨hO1, hT1⟩ := hbst false
  have HUS := Lib.hid (hus _ _ hT1 hO1)
  have HF := Lib.hid hF
  have hg2g : g2 ≠ g := (hF g2 hg2S).2.1
  rw [← hi] at hp
  have HD : Hid (dropAt ps st = ps.set i (freeSlot p s)) := by
    show dropAt ps st = _
    unfold dropAt; rw [← hi, hp']; simp only [hk, if_true]; rw [← hs]
  have HK := Lib.hid hk
  have HI := Lib.hid hi
  have HSS := Lib.hid hs
  have HLL := Lib.hid hll
  have HQ := Lib.hid (And.intro hO1 hT1)
  rw [hk] at q0
  clear hset hus hbst hT hU hF hp hp' hk hi hs hll hl hO1 hT1
  generalize p.used.getD s false = u0 at hcl
  go_enter Tryz.func163, Tryz.ntmps163
  go_wp2_with fail
  have hm : (st : Int).tmod 16 = (st : Int) % 16 := by rw [Int.tmod_eq_emod_of_nonneg (by omega)]
  have hm2 : ((st : Int) % 16).tdiv (sizeW p.cls) = (st : Int) % 16 / sizeW p.cls := Int.tdiv_eq_ediv_of_nonneg (by omega)
  have hm3 : IntKind.i64.wrap ((st : Int) % 16 / sizeW p.cls) = (st : Int) % 16 / sizeW p.cls := by
    rw [IntKind.wrap_i64]
    have : (st : Int) % 16 / sizeW p.cls ≤ (st : Int) % 16 := Int.ediv_le_self _ (by omega)
    omega
  have hm4 : IntKind.i64.wrap ((st : Int) % 16) = (st : Int) % 16 := by rw [IntKind.wrap_i64]; omega
  have hne : (sizeW p.cls == 0) = false := by simp; omega
  have hx4 : (st : Int) % 16 / sizeW p.cls < (l : Int) := by omega
  have hne2 : ¬ (sizeW p.cls = 0) := by omega
  have hne3 : decide (sizeW p.cls = 0) = false := by simp; omega
  have y0 : (w.setCell ⟨g2, s, none⟩ (.bool false)).cell? ⟨g, i * 4, none⟩ = some (.int .i64 1) := (World.cell?_setCell_other _ _ _ _ (fun e => hg2g (by injection e))).trans q0
  have y1 : (w.setCell ⟨g2, s, none⟩ (.bool false)).cell? ⟨g, i * 4 + 1, none⟩ = some (.int .i64 p.cls) := (World.cell?_setCell_other _ _ _ _ (fun e => hg2g (by injection e))).trans q1
  have y2 : (w.setCell ⟨g2, s, none⟩ (.bool false)).cell? ⟨g, i * 4 + 2, none⟩ = some (.slice (some ⟨g2, 0, none⟩) l c) := (World.cell?_setCell_other _ _ _ _ (fun e => hg2g (by injection e))).trans q2
  go_region_held3 (fun w' => w'.cell? ⟨g, i * 4, none⟩ = some (.int .i64 1) ∧ w'.cell? ⟨g, i * 4 + 1, none⟩ = some (.int .i64 p.cls) ∧ w'.cell? ⟨g, i * 4 + 2, none⟩ = some (.slice (some ⟨g2, 0, none⟩) l c)) (first | assumption | exact ⟨q0, q1, q2⟩ | exact ⟨y0, y1, y2⟩)
    ((go_at_call 162; refine (l3Size_calls h0 h3).mono ?_; rintro e w' ⟨rfl, rfl⟩))
  clear hm hm2 hm3 hm4 hne hne2 hne3 hx2 hx3 hx4
  rcases ha : anyB (p.used.set s false) with _ | _
  · obtain ⟨g', cap', p2, a2, l2, c2, F2, he2, g02, hgS2, hp2, ⟨z0, z1, z2, z3⟩, ⟨w0, w1, w2, w3⟩, _, hset2, _⟩ := HUS.out.1.pg_at (j := i) hin
    cases he2
    have HS2 := Lib.hid hset2
    clear hset2 hp2
    go_wp2_with fail
    refine (l4Any_calls (HQ.out.1.lst.2.2.2.below (below_drewN (Below.refl _ _) _)) (by omega)).mono ?_
    rintro e w' ⟨rfl, rfl⟩
    go_wp2_with fail
    have HR : Hid (dropAt ps st = (ps.set i ⟨p.kind, p.cls, p.used.set s false, p.run⟩).set i Pg.free) := by
      show dropAt ps st = _
      rw [HD.out, freeSlot, if_neg (by rw [ha]; simp), List.set_set]
    refine bodyPost_ret (results_none rfl _ _ _) rfl ?_
    have hst2 := fun m => HS2.out ((w.setCell ⟨g2, s, none⟩ (.bool false)).drewN m) Pg.free (.slice none 0 0) 0 (fun _ => False) ((Turn.refl _ _).drewN m) Own.nil (fun _ h => h.elim)
    exact ⟨rfl, by rw [HR.out]; exact (hst2 _).1.mono (S' := S) (fun q hq _ => hq.elim id False.elim), HUS.out.2.trans (hst2 _).2.1 (fun _ h _ => h)⟩
  · go_wp2_with fail
    refine (l4Any_calls (HQ.out.1.lst.2.2.2.below (below_drewN (Below.refl _ _) _)) (by omega)).mono ?_
    rintro e w' ⟨rfl, rfl⟩
    have F : Hid (Own KPage 137 (w.setCell ⟨g2, s, none⟩ (.bool false)) S (.slice (some ⟨g, 0, none⟩) n cap) n (dropAt ps st) ∧ Turn S w (w.setCell ⟨g2, s, none⟩ (.bool false))) := by
      rw [HD.out, freeSlot, if_pos ha]; exact HUS.out
    go_wp2_with fail
    refine bodyPost_ret (results_none rfl _ _ _) rfl ?_
    exact ⟨rfl, F.out.1, F.out.2.drewN _⟩

set_option maxRecDepth 100000 in
set_option maxHeartbeats 1000000 in
theorem l4Drop_run {v : Value} {n st m : Nat} {ps : List Pg} {p : Pg} {S : Nat → Prop} {w : World} (hT : Own KPage 137 w S v n ps) (hn : n ≤ 17592186044416) (hst : st < 16 * n) (hp : ps[st / 16]? = some p) (hk : (p.kind == 1) = false) (hr : p.run = m) (hm : st / 16 + m ≤ n) :
    Calls Tryz.prog 163 #[v, .int .i64 st] w fun e w' => e = .returned (.tuple #[]) ∧ Own KPage 137 w' S v n (dropAt ps st) ∧ Turn S w w' := by
  obtain ⟨i, hi⟩ : ∃ i, i = st / 16 := ⟨_, rfl⟩
  have hin : i < n := by omega
  have HD : Hid (dropAt ps st = setMany ps i Pg.free m) := by
    show dropAt ps st = _
    unfold dropAt; rw [hp]; simp only
    rw [if_neg (by simpa using hk), ← hi, hr, Int.toNat_natCast]
  obtain ⟨g, cap, p', a, l, c, F, rfl, g0, hgS, hp', ⟨q0, q1, q2, q3⟩, ⟨f0, f1, f2, f3⟩, _, hset, hus⟩ := hT.pg_at (j := i) hin
  obtain rfl : p = p' := by rw [← hi, hp'] at hp; injection hp with hp; exact hp.symm
  rw [hr] at q3
  have hx1 : ((st : Int) / 16).toNat = i := by omega
  have hx2 : (st : Int) / 16 = (i : Int) := by omega
  have hmi : i + m ≤ n := by omega
  have HI := Lib.hid hi
  clear hset hus hp hp' hi hr
  go_enter Tryz.func163, Tryz.ntmps163
  go_wp2_with fail
  go_loopw [7] (fun q wr => ∃ k : Nat, k ≤ m ∧ q = .int .i64 k ∧ Own KPage 137 wr S (.slice (some ⟨g, 0, none⟩) n cap) n (setMany ps i Pg.free k) ∧ Turn S w wr) (fun q _ => m - (intOf q).toNat)
  case atStart => exact ⟨0, Nat.zero_le _, rfl, hT, Turn.refl _ _⟩
  case round =>
    clear hT q0 q1 q2 q3 f0 f1 f2 f3 g0
    obtain ⟨k, hk', rfl, hO, ht⟩ := hrel
    by_cases hlt : k < m
    · obtain ⟨g', cap', p2, a, l, c', F, he, g0, hgS, hp, ⟨q0, q1, q2, q3⟩, ⟨f0, f1, f2, f3⟩, _, hset, _⟩ := hO.pg_at (j := i + k) (by omega)
      cases he
      have hN : ((i : Int) + (k : Int)).toNat = i + k := by omega
      have hst := hset wr Pg.free (.slice none 0 0) 0 (fun _ => False) (Turn.refl _ _) Own.nil (fun _ h => h.elim)
      have H2 := Lib.hid (And.intro (hst.1.mono (S' := S) (fun q hq _ => hq.elim id False.elim)) (ht.trans hst.2.1 (fun _ h _ => h)))
      clear hset hst hO ht hp
      go_wp2_with fail
      go_roundw
      case rel => exact ⟨k + 1, by omega, by go_num, H2.out.1, H2.out.2⟩
      case measure => simp [intOf]; omega
    · obtain rfl : k = m := by omega
      have F : Hid (Own KPage 137 wr S (.slice (some ⟨g, 0, none⟩) n cap) n (dropAt ps st) ∧ Turn S w wr) := by rw [HD.out]; exact ⟨hO, ht⟩
      clear hO ht
      go_wp2_with fail
      go_end0
      exact ⟨rfl, F.out.1, F.out.2⟩
end Go.Proofs.YthpamclljdcjpaaGreatDoor

/- Chapter 4: runs of pages are whole; what is held at a place. -/
namespace Go.Proofs.YthpamclljdcjpaaGreatDoor
open Go.RowKit

/-- How many pages a run lacks behind the first k. -/
def leftFrom (l : Int) : List Pg → Nat → Int
  | _, 0 => l
  | [], _ + 1 => l
  | p :: r, k + 1 => leftFrom (nextLeft l p) r k
theorem leftFrom_zero (l : Int) (ps : List Pg) : leftFrom l ps 0 = l := by cases ps <;> rfl
theorem leftFrom_succ : ∀ {ps : List Pg} {l : Int} {k : Nat} {p : Pg}, ps[k]? = some p → leftFrom l ps (k + 1) = nextLeft (leftFrom l ps k) p
  | [], l, k, p, h => by simp at h
  | q :: r, l, 0, p, h => by simp at h; subst h; simp [leftFrom, leftFrom_zero]
  | q :: r, l, k + 1, p, h => by
    have := leftFrom_succ (ps := r) (l := nextLeft l q) (k := k) (p := p) (by simpa using h)
    simpa [leftFrom] using this
theorem whole_iff : ∀ (ps : List Pg) (l : Int), whole l ps = true ↔ (∀ k p, ps[k]? = some p → decide (p.kind = 3) = decide (0 < leftFrom l ps k)) ∧ leftFrom l ps ps.length = 0
  | [], l => by simp [whole, leftFrom]
  | q :: r, l => by
    unfold whole
    constructor
    · intro h
      split at h
      · rename_i h1
        obtain ⟨h2, h3⟩ := (whole_iff r _).1 h
        refine ⟨fun k p hk => ?_, by simpa [leftFrom] using h3⟩
        cases k with
        | zero => simp at hk; subst hk; exact h1
        | succ k => exact h2 k p (by simpa using hk)
      · cases h
    · rintro ⟨h1, h2⟩
      have h3 := h1 0 q (by simp)
      rw [leftFrom_zero] at h3
      rw [if_pos h3]
      exact (whole_iff r _).2 ⟨fun k p hk => h1 (k + 1) p (by simpa using hk), by simpa [leftFrom] using h2⟩
def leftN (ps : List Pg) (k : Nat) : Int := leftFrom 0 ps k
theorem leftN_succ {ps : List Pg} {k : Nat} {p : Pg} (h : ps[k]? = some p) : leftN ps (k + 1) = nextLeft (leftN ps k) p := leftFrom_succ h
theorem leftN_zero (ps : List Pg) : leftN ps 0 = 0 := leftFrom_zero 0 ps
/-- It is the one function that goes so. -/
theorem leftN_of {ps : List Pg} {L : Nat → Int} (h0 : L 0 = 0) (h : ∀ k p, ps[k]? = some p → L (k + 1) = nextLeft (L k) p) : ∀ k, k ≤ ps.length → leftN ps k = L k
  | 0, _ => by rw [leftN_zero, h0]
  | k + 1, hk => by
    have hx := List.getElem?_eq_getElem (l := ps) (i := k) (by omega)
    rw [leftN_succ hx, leftN_of h0 h k (by omega), ← h k _ hx]

section
variable {ps : List Pg} (hv : pagesFault ps = 0)
include hv
theorem ok_page {k : Nat} {p : Pg} (h : ps[k]? = some p) : pageFault p = 0 := (pagesFault_ok hv).2.1 p (List.mem_of_getElem? h)
theorem ok_rest {k : Nat} {p : Pg} (h : ps[k]? = some p) : p.kind = 3 ↔ 0 < leftN ps k := by
  have := ((whole_iff ps 0).1 (pagesFault_ok hv).2.2).1 k p h
  simpa [leftN] using this
theorem ok_end : leftN ps ps.length = 0 := ((whole_iff ps 0).1 (pagesFault_ok hv).2.2).2
theorem ok_run {k : Nat} {p : Pg} (h : ps[k]? = some p) (h2 : p.kind = 2) : 1 ≤ p.run ∧ p.run ≤ 4 := by
  rcases pageFault_ok (ok_page hv h) with h | h | h <;> omega
/-- Where a run lacks pages, one begins it. -/
theorem run_head : ∀ k, k ≤ ps.length → 0 < leftN ps k → ∃ h q, h < k ∧ ps[h]? = some q ∧ q.kind = 2 ∧ leftN ps k = q.run - ((k : Int) - h) ∧ ∀ j p, h < j → j < k → ps[j]? = some p → p.kind = 3
  | 0, _, h => by rw [leftN_zero] at h; omega
  | k + 1, hk, h => by
    have hx := List.getElem?_eq_getElem (l := ps) (i := k) (by omega)
    have hs := leftN_succ hx
    have hr := ok_rest hv hx
    by_cases h2 : (ps[k]).kind = 2
    · refine ⟨k, _, by omega, hx, h2, ?_, fun j p h1 h2 => by omega⟩
      rw [hs, nextLeft, if_pos h2]; omega
    · by_cases h3 : (ps[k]).kind = 3
      · have hl := hr.1 h3
        obtain ⟨g, q, h4, h5, h6, h7, h8⟩ := run_head k (by omega) hl
        refine ⟨g, q, by omega, h5, h6, ?_, fun j p h9 h10 hj => ?_⟩
        · rw [hs, nextLeft, if_neg h2, if_pos h3, h7]; omega
        · by_cases e : j = k
          · subst e; rw [hx] at hj; injection hj with hj; rw [← hj]; exact h3
          · exact h8 j p h9 (by omega) hj
      · rw [hs, nextLeft, if_neg h2, if_neg h3] at h
        exact absurd (hr.2 h) h3
theorem head_of_rest {k : Nat} {p : Pg} (h : ps[k]? = some p) (h3 : p.kind = 3) : ∃ g q, g < k ∧ ps[g]? = some q ∧ q.kind = 2 ∧ (k : Int) - g < q.run ∧ headOf ps k = g := by
  have hk := (List.getElem?_eq_some_iff.1 h).1
  have hl := (ok_rest hv h).1 h3
  obtain ⟨g, q, h4, h5, h6, h7, h8⟩ := run_head hv k (by omega) hl
  refine ⟨g, q, h4, h5, h6, by omega, ?_⟩
  have : ∀ j, g ≤ j → j ≤ k → headOf ps j = g := by
    intro j
    induction j with
    | zero => intro h1 _; have : g = 0 := by omega
              subst this; rfl
    | succ j ih =>
      intro h1 h2
      unfold headOf
      by_cases e : g = j + 1
      · subst e; rw [h5]; simp [h6]
      · have hx := List.getElem?_eq_getElem (l := ps) (i := j + 1) (by omega)
        have hk3 : (ps[j + 1]).kind = 3 := by
          by_cases e2 : j + 1 = k
          · subst e2; rw [hx] at h; injection h with h; rw [h]; exact h3
          · exact h8 _ _ (by omega) (by omega) hx
        rw [hx]; simp only [Option.map_some, hk3, if_true]
        exact ih (by omega) (by omega)
  exact this k (by omega) (Nat.le_refl _)
/-- A run has all its pages. -/
theorem run_whole {g : Nat} {q : Pg} (h : ps[g]? = some q) (h2 : q.kind = 2) : ∀ j : Nat, (j : Int) ≤ q.run - 1 → g + 1 + j ≤ ps.length ∧ leftN ps (g + 1 + j) = q.run - 1 - j ∧ ∀ i p, g < i → i < g + 1 + j → ps[i]? = some p → p.kind = 3
  | 0, _ => by
    have hk := (List.getElem?_eq_some_iff.1 h).1
    refine ⟨by omega, ?_, fun i p h1 h2 => by omega⟩
    rw [Nat.add_zero, leftN_succ h, nextLeft, if_pos h2]; simp
  | j + 1, hj => by
    obtain ⟨h3, h4, h5⟩ := run_whole h h2 j (by omega)
    have hlt : g + 1 + j < ps.length := by
      rcases Nat.lt_or_ge (g + 1 + j) ps.length with h6 | h6
      · exact h6
      · have e : g + 1 + j = ps.length := by omega
        rw [e, ok_end hv] at h4; omega
    have hx := List.getElem?_eq_getElem (l := ps) (i := g + 1 + j) hlt
    have hk3 := (ok_rest hv hx).2 (by omega)
    refine ⟨by omega, ?_, fun i p h6 h7 hi => ?_⟩
    · rw [show g + 1 + (j + 1) = g + 1 + j + 1 by omega, leftN_succ hx, nextLeft, if_neg (by omega), if_pos hk3, h4]; omega
    · by_cases e : i = g + 1 + j
      · subst e; rw [hx] at hi; injection hi with hi; rw [← hi]; exact hk3
      · exact h5 i p h6 (by omega) hi
theorem run_fits {g : Nat} {q : Pg} (h : ps[g]? = some q) (h2 : q.kind = 2) : (g : Int) + q.run ≤ ps.length := by
  have hr := ok_run hv h h2
  obtain ⟨h1, _, _⟩ := run_whole hv h h2 (q.run - 1).toNat (by omega)
  omega

/-- What is held at a place, by the kind of its page. -/
theorem held_no {a : Int} (h : within 0 ((ps.length : Int) * 16 - 1) [a] = false) : heldAt ps a = (3, none) := by unfold heldAt; rw [if_pos hv, h]; rfl
theorem held_free {a : Nat} {p : Pg} (ha : a < ps.length * 16) (h : ps[a / 16]? = some p) (h0 : p.kind = 0) : heldAt ps a = (4, none) := by
  have hh : headOf ps (a / 16) = a / 16 := by
    cases hk : a / 16 with
    | zero => rfl
    | succ k => unfold headOf; rw [← hk, h]; simp [h0]
  unfold heldAt
  rw [if_pos hv, if_pos (within_yes1 (by omega) (by omega)), Int.toNat_natCast]
  unfold blockAt
  rw [hh, h]; simp [h0]
theorem held_slot {a : Nat} {p : Pg} (ha : a < ps.length * 16) (h : ps[a / 16]? = some p) (h1 : p.kind = 1) :
    heldAt ps a = if p.used[a % 16 / (sizeW p.cls).toNat]? = some true then (0, some (.slot (a / 16) p.cls (a % 16 / (sizeW p.cls).toNat))) else (4, none) := by
  have hh : headOf ps (a / 16) = a / 16 := by
    cases hk : a / 16 with
    | zero => rfl
    | succ k => unfold headOf; rw [← hk, h]; simp [h1]
  unfold heldAt
  rw [if_pos hv, if_pos (within_yes1 (by omega) (by omega)), Int.toNat_natCast]
  unfold blockAt
  rw [hh, h]
  simp only [h1]
  by_cases hu : p.used[a % 16 / (sizeW p.cls).toNat]? = some true
  · rw [if_pos hu]; simp [hu]
  · rw [if_neg hu]; simp [hu]
theorem held_run {a : Nat} {p : Pg} (ha : a < ps.length * 16) (h : ps[a / 16]? = some p) (h2 : p.kind = 2 ∨ p.kind = 3) :
    ∃ q, ps[headOf ps (a / 16)]? = some q ∧ q.kind = 2 ∧ heldAt ps a = (0, some (.run (headOf ps (a / 16)) q.run)) := by
  have key : ∃ q, ps[headOf ps (a / 16)]? = some q ∧ q.kind = 2 := by
    rcases h2 with h2 | h3
    · have hh : headOf ps (a / 16) = a / 16 := by
        cases hk : a / 16 with
        | zero => rfl
        | succ k => unfold headOf; rw [← hk, h]; simp [h2]
      exact ⟨p, by rw [hh]; exact h, h2⟩
    · obtain ⟨g, q, _, h5, h6, _, h7⟩ := head_of_rest hv h h3
      exact ⟨q, by rw [h7]; exact h5, h6⟩
  obtain ⟨q, h5, h6⟩ := key
  refine ⟨q, h5, h6, ?_⟩
  unfold heldAt
  rw [if_pos hv, if_pos (within_yes1 (by omega) (by omega)), Int.toNat_natCast]
  unfold blockAt
  rw [h5]; simp [h6]
/-- What is known of what is held. -/
theorem held_info {a : Int} {c : Int} {b : Blk} (h : heldAt ps a = (c, some b)) : c = 0 ∧ 0 ≤ a ∧ a < ps.length * 16 ∧ ((∃ i k s p, b = .slot i k s ∧ ps[i]? = some p ∧ p.kind = 1 ∧ p.cls = k ∧ 0 ≤ k ∧ k ≤ 3 ∧ p.used[s]? = some true ∧ (p.used.length : Int) = 16 / sizeW k ∧ p.run = 0 ∧ i = a.toNat / 16 ∧ s = a.toNat % 16 / (sizeW k).toNat) ∨
    ∃ i p, b = .run i p.run ∧ ps[i]? = some p ∧ p.kind = 2 ∧ i = headOf ps (a.toNat / 16)) := by
  unfold heldAt at h
  rw [if_pos hv] at h
  split at h
  · rename_i hw
    have hw := within_range hw
    cases hb : blockAt ps a.toNat with
    | none => rw [hb] at h; simp at h
    | some b' =>
      rw [hb] at h
      simp at h
      obtain ⟨rfl, rfl⟩ := h
      refine ⟨rfl, hw.1, by omega, ?_⟩
      unfold blockAt at hb
      cases hp : ps[headOf ps (a.toNat / 16)]? with
      | none => rw [hp] at hb; simp at hb
      | some p =>
        rw [hp] at hb
        simp only at hb
        split at hb
        · rename_i h2
          simp at hb
          exact .inr ⟨_, p, hb.symm, hp, h2, rfl⟩
        · split at hb
          · rename_i h1
            split at hb
            · rename_i hu
              simp at hb
              have hf := ok_page hv hp
              rcases pageFault_ok hf with h | h | h
              · have he : headOf ps (a.toNat / 16) = a.toNat / 16 := by
                  have hx := List.getElem?_eq_getElem (l := ps) (i := a.toNat / 16) (by omega)
                  by_cases h3 : (ps[a.toNat / 16]).kind = 3
                  · obtain ⟨g, q, _, hg, hg2, _, hg3⟩ := head_of_rest hv hx h3
                    rw [hg3, hg] at hp; injection hp with hp; rw [hp] at hg2; omega
                  · cases hk : a.toNat / 16 with
                    | zero => rfl
                    | succ k => unfold headOf; rw [← hk, hx]; simp [h3]
                exact .inl ⟨_, _, _, p, hb.symm, hp, h1, rfl, h.2.1, h.2.2.1, hu, h.2.2.2.2.1, h.2.2.2.1, he, rfl⟩
              · omega
              · omega
            · simp at hb
          · simp at hb
  · simp at h
theorem held_code {a : Int} {c : Int} (h : heldAt ps a = (c, none)) : c = 3 ∨ c = 4 := by
  unfold heldAt at h
  rw [if_pos hv] at h
  split at h
  · split at h
    · simp at h
    · simp at h; omega
  · simp at h; omega
end
end Go.Proofs.YthpamclljdcjpaaGreatDoor

/- copy(new, old), the elements of any number of cells: what the old ones own goes over to the new slice. A make as an equation. -/
namespace Go.Proofs.YthpamclljdcjpaaGreatDoor
open Go.RowKit

/-- Of a list the first n; where it has not so many, others behind it. -/
def fitTo {α : Type} (d : α) (xs : List α) (n : Nat) : List α := xs.take n ++ List.replicate (n - xs.length) d
theorem length_fitTo {α : Type} (d : α) (xs : List α) (n : Nat) : (fitTo d xs n).length = n := by simp [fitTo]; omega
theorem fitTo_at {α : Type} {d : α} {xs : List α} {n j : Nat} (hj : j < n) : (fitTo d xs n)[j]? = if j < xs.length then xs[j]? else some d := by
  unfold fitTo
  by_cases h : j < xs.length
  · rw [if_pos h, List.getElem?_append_left (by simp; omega), List.getElem?_take, if_pos hj]
  · rw [if_neg h, List.getElem?_append_right (by simp; omega), List.getElem?_replicate, if_pos (by simp; omega)]

/-- Cells of a row that was made: n times the same. -/
def ZeroRow (zs : List Value) (m : Nat) (cur : Array Value) : Prop := cur.size = m * zs.length ∧ ∀ j i, j < m → i < zs.length → cur[j * zs.length + i]? = zs[i]?
theorem zero_made (z : Array Value) (m : Nat) : ZeroRow z.toList m (madeCells z (m * z.size)) := by
  refine ⟨by simp [size_madeCells], fun j i hj hi => ?_⟩
  have hi' : i < z.size := by simpa using hi
  have h1 := Nat.mul_le_mul_right z.size (show j + 1 ≤ m by omega)
  rw [Nat.add_mul] at h1
  have h2 : (j * z.size + i) % z.size = i := by rw [Nat.mul_comm, Nat.mul_add_mod, Nat.mod_eq_of_lt hi']
  simp only [Array.length_toList]
  simp [madeCells, h2, show j * z.size + i < m * z.size by omega, hi']

section
variable {P : Program} {α : Type} {K : Lay α} {w : World} {S : Nat → Prop} {ops : Array Oper} {rest : List Oper} {o : Oper} {a : Act} {Q : Exit → Act → World → Prop}
theorem wpList_copy_fit (hgd : o.guard = none) (s x : Operand) (t : TypeId) (ho : o.op = .call { callee := .builtin .copy, args := #[s, x], argTypes := #[t, t] })
    (e : TypeId) (ht : P.underlying t = some (.slice e)) (hi : (P.info? e).map (·.size) = some K.sz) (hone : OneC K)
    {n c m g : Nat} {xs : List α} {ao : Option Addr} {cur : Array Value} {zs : List Value} {d : α} (hs : a.eval s = .slice (some ⟨g, 0, none⟩) m m) (hx : a.eval x = .slice ao n c) (hown : Own K e w S (.slice ao n c) n xs)
    (hr : Row w g e cur) (hz : ZeroRow zs m cur) (hzl : zs.length = K.sz) (hd : ∀ w, K.own w (fun _ => False) zs d) (hg : ¬ S g) (hm : m ≤ maxLen)
    (h : ∀ w', Own K e w' (fun k => S k ∨ k = g) (.slice (some ⟨g, 0, none⟩) m m) m (fitTo d xs m) → Turn (fun k => k = g) w w' → wpList P ops Q rest (a.put o.dst (goInt (Nat.min n m))) w') : wpList P ops Q (o :: rest) a w := by
  have hxl := hown.1
  obtain ⟨_, _, _, hlst⟩ := hown.lst
  obtain ⟨news, hnl, hnc, hne⟩ := hlst.news
  have hone' : ∀ u ∈ news, u.oneCell' = true := by
    intro u hu
    obtain ⟨q, hq, rfl⟩ := List.getElem_of_mem hu
    have hsz : 0 < K.sz := Nat.pos_of_ne_zero (fun e => by rw [e] at hnl; omega)
    have hqm : q / K.sz < n := Nat.div_lt_of_lt_mul (by rw [Nat.mul_comm]; omega)
    obtain ⟨cs, hcl, hcs, hrd⟩ := hne (q / K.sz) (xs[q / K.sz]'(by omega)) (List.getElem?_eq_getElem _)
    have h1 := hcs (q % K.sz) (Nat.mod_lt _ hsz)
    rw [Nat.mul_comm, Nat.div_add_mod, List.getElem?_eq_getElem hq] at h1
    exact hone _ _ _ _ hrd _ (List.mem_of_getElem? h1.symm)
  obtain ⟨hzs, hzc⟩ := hz
  rw [hzl] at hzs hzc
  obtain ⟨cs, hcs⟩ : ∃ cs, cs = news.take (Nat.min n m * K.sz) := ⟨_, rfl⟩
  have hle : Nat.min n m * K.sz ≤ n * K.sz := Nat.mul_le_mul_right _ (Nat.min_le_left _ _)
  have hle2 : Nat.min n m * K.sz ≤ m * K.sz := Nat.mul_le_mul_right _ (Nat.min_le_right _ _)
  have hcl : cs.length = Nat.min n m * K.sz := by rw [hcs, List.length_take, hnl, Nat.min_eq_left hle]
  have hfirst : (Builtin.firstCells K.sz (Nat.min n m) (.slice ao n c)).run P w = .ok cs.toArray w := by
    cases ao with
    | none =>
      have hn : n = 0 := by
        rcases Nat.eq_zero_or_pos n with h0 | h0
        · exact h0
        · obtain ⟨_, _, h, _⟩ := hnc h0; cases h
      have : cs = [] := List.eq_nil_of_length_eq_zero (by rw [hcl, hn]; simp)
      rw [this]; exact Go.run_firstCells_none (P := P) (w := w) _ _ _ _
    | some ad =>
      refine Go.run_firstCells_some (P := P) (w := w) K.sz (Nat.min n m) ad n c cs hcl (fun j u hu => ?_)
      have hjl : j < cs.length := (List.getElem?_eq_some_iff.1 hu).1
      rcases Nat.eq_zero_or_pos n with h0 | h0
      · exfalso; rw [hcl, h0] at hjl; simp at hjl
      · obtain ⟨b, off, he, hc'⟩ := hnc h0
        injection he with he; subst he
        rw [add_plain']
        refine hc' j u ?_
        rw [hcs, List.getElem?_take, if_pos (by omega)] at hu
        exact hu
  have hstore := run_storeCells_at (P := P) g 0 e cs 0 cur w hr (by omega) (fun u hu => hone' u (by rw [hcs] at hu; exact List.mem_of_mem_take hu))
  simp only [Nat.add_zero, Nat.zero_add, List.take_zero, List.nil_append] at hstore
  obtain ⟨i, hi1, hi2⟩ := Option.map_eq_some_iff.1 hi
  have hsz : (Go.sizeOf e).run P w = .ok K.sz w := by simp [Go.sizeOf, typeInfo, hi1, hi2]
  have hrun : (Builtin.copy_ #[t, t] o.type #[.slice (some ⟨g, 0, none⟩) m m, .slice ao n c]).run P w = .ok (goInt (Nat.min n m)) (w.setRow g (cs ++ cur.toList.drop cs.length).toArray) := by
    simp only [Builtin.copy_, run_underlying ht, Sem.run_bind, Sem.run_pure, Result.andThen_ok, List.getElem?_toArray, List.getElem?_cons_zero, List.getElem?_cons_succ, hsz, Builtin.lenOf, hfirst, hstore]
  refine wpList_plain hgd fun K' hK' => ?_
  unfold Oper.wp execOp
  simp only [ho, resolve, invoke, builtin, Sem.run_bind, Sem.run_pure, Result.andThen_ok, List.map_toArray, List.map_cons, List.map_nil, hs, hx, hrun]
  refine hK' _ _ (h _ ?_ (Turn.setRow w g _))
  have hcur : (cs ++ cur.toList.drop cs.length).length = m * K.sz := by
    have h1 : cur.toList.length = m * K.sz := by rw [Array.length_toList, hzs]
    rw [List.length_append, List.length_drop, h1, hcl]; omega
  have hdrop : ∀ q, cs.length ≤ q → (cs ++ cur.toList.drop cs.length)[q]? = cur[q]? := fun q hq => by
    rw [List.getElem?_append_right hq, List.getElem?_drop, Array.getElem?_toList]; congr 1; omega
  have hrow' : Row (w.setRow g (cs ++ cur.toList.drop cs.length).toArray) g e (cs ++ cur.toList.drop cs.length).toArray := setRow_heap w g cur _ e _ hr
  have key : ∃ F : Nat → Nat → Prop, (∀ j k, F j k → S k) ∧ (∀ i j k, F i k → F j k → i = j) ∧ ∀ j x, xs[j]? = some x → ∃ c1, c1.length = K.sz ∧ (∀ i, i < K.sz → news[j * K.sz + i]? = c1[i]?) ∧ K.own w (F j) c1 x := by
    rcases hown.2 with ⟨h1, h2⟩ | ⟨g', cap, cu, F, hv, hgS, hr', h1, h2, h3, hF, hD, hc⟩
    · refine ⟨fun _ _ => False, fun _ _ h => h.elim, fun _ _ _ h => h.elim, fun j x hj => ?_⟩
      have := (List.getElem?_eq_some_iff.1 hj).1; omega
    · refine ⟨F, fun j k hk => (hF j k hk).1, hD, fun j x hj => ?_⟩
      obtain ⟨c1, hc1, hc2, hc3⟩ := hc j x hj
      refine ⟨c1, hc1, fun i hi => ?_, hc3⟩
      have hjl := (List.getElem?_eq_some_iff.1 hj).1
      obtain ⟨b, off, he, hc'⟩ := hnc (by omega)
      injection hv with hv1 hv2 hv3
      rw [he] at hv1; injection hv1 with hv1; injection hv1 with e1 e2; subst e1 e2
      have hmul := Nat.mul_le_mul_right K.sz (show j + 1 ≤ n by omega)
      rw [Nat.add_mul] at hmul
      obtain ⟨u, hu⟩ : ∃ u, news[j * K.sz + i]? = some u := ⟨_, List.getElem?_eq_getElem (by omega)⟩
      have h5 := hc' _ u hu
      rw [Nat.zero_add, hr'.cell] at h5
      rw [hu, ← h5]; exact hc2 i hi
  obtain ⟨F, hF, hD, hFc⟩ := key
  refine ⟨length_fitTo _ _ _, .inr ⟨g, m, _, fun j k => j < n ∧ F j k, rfl, .inr rfl, hrow', Nat.le_refl _, hm, by simpa using hcur, fun j k hk => ⟨.inl (hF j k hk.2), fun e => hg (e ▸ hF j k hk.2)⟩, fun i j k hi hj => hD i j k hi.2 hj.2, fun j y hj => ?_⟩⟩
  have hjm : j < m := by have := (List.getElem?_eq_some_iff.1 hj).1; rwa [length_fitTo] at this
  rw [fitTo_at hjm] at hj
  have hmulm := Nat.mul_le_mul_right K.sz (show j + 1 ≤ m by omega)
  rw [Nat.add_mul] at hmulm
  by_cases hjn : j < xs.length
  · rw [if_pos hjn] at hj
    obtain ⟨c1, hc1, hc2, hc3⟩ := hFc j y hj
    have hmul := Nat.mul_le_mul_right K.sz (show j + 1 ≤ Nat.min n m from Nat.le_min.2 ⟨by omega, by omega⟩)
    rw [Nat.add_mul] at hmul
    refine ⟨c1, hc1, fun i hi => ?_, K.own_turn (K.own_mono hc3 (S' := fun k => j < n ∧ F j k) (fun k hk _ => ⟨by omega, hk⟩)) (Turn.setRow w g _) (fun k hk _ e => hg (e ▸ hF j k hk.2))⟩
    rw [List.getElem?_toArray, List.getElem?_append_left (by omega), hcs, List.getElem?_take, if_pos (by omega)]
    exact hc2 i hi
  · rw [if_neg hjn] at hj
    injection hj with hj; subst hj
    have hmin : Nat.min n m = n := Nat.min_eq_left (by omega)
    have hmul := Nat.mul_le_mul_right K.sz (show n ≤ j by omega)
    refine ⟨zs, hzl, fun i hi => ?_, K.own_mono (hd _) (fun _ h _ => h.elim)⟩
    rw [List.getElem?_toArray, hdrop _ (by rw [hcl, hmin]; omega)]
    exact hzc j i hjm hi
end

/-- make([]E, n), as an equation: the walk and a region that draws take it. -/
theorem make_eq {P : Program} {t e : TypeId} {i : TypeInfo} {z : Value} {k : Nat} (ht : P.underlying t = some (.slice e)) (hi : P.info? e = some i) (hz : i.zero = some z) (hsize : i.size = k) (hk : z.cells.size = k) (n : Nat) (hb : i.bytes * n ≤ 281474976710656) (h63 : n ≤ 9223372036854775807) :
    ∃ cur, ZeroRow z.cells.toList n cur ∧ ∀ w : World, (Instr.makeSlice t (.int .i64 (n : Int)) (.int .i64 (n : Int))).run P w = .ok (.slice (some ⟨w.heap.size, 0, none⟩) n n) (w.alloc (.cells cur e)) := by
  refine ⟨madeCells z.cells (n * i.size), by rw [hsize, ← hk]; exact zero_made _ _, fun w => ?_⟩
  have := run_make (P := P) (w := w) t e i z ht hi hz .i64 .i64 n n (by omega) (Int.le_refl _) (by rw [← Int.natCast_mul]; omega) (by omega)
  simpa using this
end Go.Proofs.YthpamclljdcjpaaGreatDoor

/- Chapter 5: what its functions answer, in plain words. -/
namespace Go.Proofs.YthpamclljdcjpaaGreatDoor
open Go.RowKit

/-- A heap, in plain words. -/
structure Hp where
  pages : List Pg
  words : List Int
  mags : List (List Int)
theorem Hp.ext_ {p q : Hp} (h1 : p.pages = q.pages) (h2 : p.words = q.words) (h3 : p.mags = q.mags) : p = q := by
  cases p; cases q; simp_all
instance : DecidableEq Hp := fun p q => decidable_of_iff (p.pages = q.pages ∧ p.words = q.words ∧ p.mags = q.mags) ⟨fun ⟨h1, h2, h3⟩ => Hp.ext_ h1 h2 h3, fun h => by subst h; exact ⟨rfl, rfl, rfl⟩⟩
def Hp.zero : Hp := ⟨[], [], []⟩
def Hp.kept (h : Hp) : List Int := h.mags.flatten

/-- A slot of this class begins at a place. -/
def isSlotAt (ps : List Pg) (c a : Int) : Bool := match heldAt ps a with
  | (_, some (.slot i k s)) => decide (k = c) && decide ((Blk.slot i k s).start = a)
  | _ => false
def magFault (ps : List Pg) (c : Int) (m : List Int) : Int := if 2 < m.length then 2 else if m.all (isSlotAt ps c) = true then 0 else 1
def magsFault (ps : List Pg) : Nat → List (List Int) → Int
  | _, [] => 0
  | k, m :: r => if magFault ps ((k % 4 : Nat) : Int) m = 0 then magsFault ps (k + 1) r else magFault ps ((k % 4 : Nat) : Int) m
def freeZero (ws : List Int) : Nat → List Pg → Bool
  | _, [] => true
  | k, p :: r => (decide (p.kind ≠ 0) || decide (frameOf ws k = List.replicate 16 0)) && freeZero ws (k + 1) r
def magCount (n : Nat) : Bool := decide (n % 4 = 0 ∧ 4 ≤ n ∧ n ≤ 8)
def heapFault (h : Hp) : Int :=
  if pagesFault h.pages = 0 then
    (if h.words.length = h.pages.length * 16 ∧ magCount h.mags.length = true then
      (if within (-1000000000) 1000000000 h.words = true then
        (if magsFault h.pages 0 h.mags = 0 then (if alike h.kept = false then (if freeZero h.words 0 h.pages = true then 0 else 8) else 6) else magsFault h.pages 0 h.mags)
      else 3)
    else 2)
  else pagesFault h.pages
theorem heapFault_ok {h : Hp} (hf : heapFault h = 0) : pagesFault h.pages = 0 ∧ h.words.length = h.pages.length * 16 ∧ magCount h.mags.length = true ∧ within (-1000000000) 1000000000 h.words = true ∧ magsFault h.pages 0 h.mags = 0 ∧ alike h.kept = false ∧ freeZero h.words 0 h.pages = true := by
  unfold heapFault at hf
  by_cases h1 : pagesFault h.pages = 0
  · rw [if_pos h1] at hf
    by_cases h2 : h.words.length = h.pages.length * 16 ∧ magCount h.mags.length = true
    · rw [if_pos h2] at hf
      by_cases h3 : within (-1000000000) 1000000000 h.words = true
      · rw [if_pos h3] at hf
        by_cases h4 : magsFault h.pages 0 h.mags = 0
        · rw [if_pos h4] at hf
          by_cases h5 : alike h.kept = false
          · rw [if_pos h5] at hf
            by_cases h6 : freeZero h.words 0 h.pages = true
            · exact ⟨h1, h2.1, h2.2, h3, h4, h5, h6⟩
            · rw [if_neg h6] at hf; omega
          · rw [if_neg h5] at hf; omega
        · rw [if_neg h4] at hf; exact absurd hf h4
      · rw [if_neg h3] at hf; omega
    · rw [if_neg h2] at hf; omega
  · rw [if_neg h1] at hf; exact absurd hf h1
theorem heapFault_of {h : Hp} (h1 : pagesFault h.pages = 0) (h2 : h.words.length = h.pages.length * 16) (h3 : magCount h.mags.length = true) (h4 : within (-1000000000) 1000000000 h.words = true) (h5 : magsFault h.pages 0 h.mags = 0) (h6 : alike h.kept = false) (h7 : freeZero h.words 0 h.pages = true) : heapFault h = 0 := by
  unfold heapFault
  rw [if_pos h1, if_pos ⟨h2, h3⟩, if_pos h4, if_pos h5, if_pos h6, if_pos h7]

def newHp (p c : Nat) : Hp := ⟨List.replicate p Pg.free, List.replicate (p * 16) 0, List.replicate (4 * c) []⟩
def newHeap (p c : Int) : Int × Hp := if within 0 40 [p] = true ∧ within 1 2 [c] = true then (0, newHp p.toNat c.toNat) else (3, Hp.zero)
/-- Where the block that lives at a place begins. -/
def liveIn (h : Hp) (a : Int) : Int × Int := match blockStart h.pages a with
  | (c, s) => if c = 0 then (if hasIn h.kept s = true then (4, 0) else (0, s)) else (c, 0)
def liveAt (h : Hp) (a : Int) : Int × Int := if heapFault h = 0 then liveIn h a else (heapFault h, 0)
/-- The places below this one at which blocks begin that live. -/
def blocksTo (h : Hp) : Nat → List Int
  | 0 => []
  | k + 1 => blocksTo h k ++ (if liveIn h (k : Int) = (0, (k : Int)) then [(k : Int)] else [])
def blocksIn (h : Hp) : List Int := blocksTo h h.words.length
def liveBlocks (h : Hp) : Int × List Int := if heapFault h = 0 then (0, blocksIn h) else (heapFault h, [])
def heldIn (h : Hp) : Int × Int := if heapFault h = 0 then (0, (h.kept.length : Int)) else (heapFault h, 0)
/-- The pages when these places are dropped, one behind the other. -/
def dropAll (ps : List Pg) : List Int → List Pg
  | [] => ps
  | a :: r => dropAll (dropAt ps a.toNat) r
/-- Words with zeros in all free pages. -/
def sweepW : List Int → Nat → List Pg → List Int
  | ws, _, [] => ws
  | ws, k, p :: r => sweepW (if p.kind = 0 then putFrame ws k (List.replicate 16 0) else ws) (k + 1) r
def drainHp (h : Hp) : Hp := ⟨dropAll h.pages h.kept, sweepW h.words 0 (dropAll h.pages h.kept), List.replicate h.mags.length []⟩
def drainHeap (h : Hp) : Int × Hp := if heapFault h = 0 then (0, drainHp h) else (heapFault h, Hp.zero)
def fitHp (h : Hp) (p : Nat) : Hp := ⟨fitTo Pg.free h.pages p, fitTo 0 h.words (p * 16), h.mags⟩
def anyUsed (ps : List Pg) : Bool := ps.any fun p => decide (p.kind ≠ 0)
def resizeHeap (h : Hp) (p : Int) : Int × Hp :=
  if heapFault h = 0 then (if within 0 40 [p] = true then (if anyUsed ((drainHp h).pages.drop p.toNat) = true then (8, Hp.zero) else (0, fitHp (drainHp h) p.toNat)) else (3, Hp.zero)) else (heapFault h, Hp.zero)

theorem length_dropAll : ∀ (xs : List Int) (ps : List Pg), (dropAll ps xs).length = ps.length
  | [], _ => rfl
  | a :: r, ps => by
    rw [dropAll, length_dropAll r]
    unfold dropAt
    split
    · rfl
    · split
      · rw [List.length_set]
      · rw [length_setMany]
theorem dropAll_snoc : ∀ (xs : List Int) (ps : List Pg) (a : Int), dropAll ps (xs ++ [a]) = dropAt (dropAll ps xs) a.toNat
  | [], _, _ => rfl
  | x :: r, ps, a => by rw [List.cons_append, dropAll, dropAll, dropAll_snoc r]
theorem dropAll_append : ∀ (xs ys : List Int) (ps : List Pg), dropAll ps (xs ++ ys) = dropAll (dropAll ps xs) ys
  | [], _, _ => rfl
  | x :: r, ys, ps => by rw [List.cons_append, dropAll, dropAll, dropAll_append r]
theorem length_sweepW : ∀ (ps : List Pg) (ws : List Int) (k : Nat), ws.length = (k + ps.length) * 16 → (sweepW ws k ps).length = ws.length
  | [], _, _, _ => rfl
  | p :: r, ws, k, h => by
    simp only [List.length_cons] at h
    have hp : (if p.kind = 0 then putFrame ws k (List.replicate 16 0) else ws).length = ws.length := by
      split
      · exact length_putFrame (by rw [List.length_replicate]; omega)
      · rfl
    rw [sweepW, length_sweepW r _ _ (by rw [hp]; omega), hp]
theorem sweepW_take {ws : List Int} {ps : List Pg} {k : Nat} {p : Pg} (h : ps[k]? = some p) : sweepW ws 0 (ps.take (k + 1)) = if p.kind = 0 then putFrame (sweepW ws 0 (ps.take k)) k (List.replicate 16 0) else sweepW ws 0 (ps.take k) := by
  have key : ∀ (qs : List Pg) (ws : List Int) (j : Nat), sweepW ws j (qs ++ [p]) = if p.kind = 0 then putFrame (sweepW ws j qs) (j + qs.length) (List.replicate 16 0) else sweepW ws j qs := by
    intro qs
    induction qs with
    | nil => intro ws j; simp [sweepW]
    | cons q r ih => intro ws j; rw [List.cons_append, sweepW, ih, sweepW, List.length_cons, show j + 1 + r.length = j + (r.length + 1) by omega]
  have hk := (List.getElem?_eq_some_iff.1 h).1
  have e : ps.take (k + 1) = ps.take k ++ [p] := by rw [List.take_add_one, h]; rfl
  rw [e, key, Nat.zero_add, List.length_take, Nat.min_eq_left (by omega)]

/-- A heap in three cells. -/
def KHeap : Lay Hp := KMap (KPair (KSlice KPage 137) (KPair (KSlice KInt 2) (KSlice KMag 25))) fun h => (h.pages, h.words, h.mags)
theorem KHeap_sz : KHeap.sz = 3 := rfl
/-- The three slices of a heap read so. -/
structure HpR (w : World) (S : Nat → Prop) (pa : Option Addr) (pn pc : Nat) (wa : Option Addr) (wn wc : Nat) (ma : Option Addr) (mn mc : Nat) (h : Hp) : Prop where
  pg : Lst KPage w S pa pn h.pages
  wd : Lst KInt w S wa wn h.words
  mg : Lst KMag w S ma mn h.mags
  p1 : pn ≤ pc
  p2 : pc ≤ maxLen
  w1 : wn ≤ wc
  w2 : wc ≤ maxLen
  m1 : mn ≤ mc
  m2 : mc ≤ maxLen
theorem HpR.turn {w w' : World} {S T : Nat → Prop} {pa wa ma : Option Addr} {pn pc wn wc mn mc : Nat} {h : Hp} (hr : HpR w S pa pn pc wa wn wc ma mn mc h) (ht : Turn T w w') (hd : ∀ k, S k → k < w.heap.size → ¬ T k) : HpR w' S pa pn pc wa wn wc ma mn mc h :=
  ⟨hr.pg.turn ht hd, hr.wd.turn ht hd, hr.mg.turn ht hd, hr.p1, hr.p2, hr.w1, hr.w2, hr.m1, hr.m2⟩
theorem HpR.below {w w' : World} {S : Nat → Prop} {pa wa ma : Option Addr} {pn pc wn wc mn mc : Nat} {h : Hp} (hr : HpR w S pa pn pc wa wn wc ma mn mc h) (hb : Below w.heap.size w w') : HpR w' S pa pn pc wa wn wc ma mn mc h :=
  hr.turn (T := fun _ => False) (Turn.of_below hb) (fun _ _ _ h => h)
theorem HpR.alloc {w : World} {S : Nat → Prop} {pa wa ma : Option Addr} {pn pc wn wc mn mc : Nat} {h : Hp} (hr : HpR w S pa pn pc wa wn wc ma mn mc h) (o : Obj) : HpR (w.alloc o) S pa pn pc wa wn wc ma mn mc h := hr.below ((Below.refl _ _).alloc (Nat.le_refl _) o)
theorem HpR.mono {w : World} {S S' : Nat → Prop} {pa wa ma : Option Addr} {pn pc wn wc mn mc : Nat} {h : Hp} (hr : HpR w S pa pn pc wa wn wc ma mn mc h) (hS : ∀ k, S k → k < w.heap.size → S' k) : HpR w S' pa pn pc wa wn wc ma mn mc h :=
  ⟨hr.pg.mono hS, hr.wd.mono hS, hr.mg.mono hS, hr.p1, hr.p2, hr.w1, hr.w2, hr.m1, hr.m2⟩
theorem KHeap_rd {w : World} {S : Nat → Prop} {cs : List Value} {h : Hp} (hr : KHeap.rd w S cs h) : ∃ pa pn pc wa wn wc ma mn mc, cs = [.slice pa pn pc, .slice wa wn wc, .slice ma mn mc] ∧ HpR w S pa pn pc wa wn wc ma mn mc h := by
  obtain ⟨c1, c2, rfl, ⟨pa, pn, pc, rfl, p1, p2, hp⟩, c3, c4, rfl, ⟨wa, wn, wc, rfl, w1, w2, hw⟩, ma, mn, mc, rfl, m1, m2, hm⟩ := hr
  exact ⟨pa, pn, pc, wa, wn, wc, ma, mn, mc, rfl, hp, hw, hm, p1, p2, w1, w2, m1, m2⟩
/-- The three slices of a heap are owned so, in blocks apart. -/
structure HpO (w : World) (S : Nat → Prop) (vp : Value) (np : Nat) (vw : Value) (nw : Nat) (vm : Value) (nm : Nat) (h : Hp) : Prop where
  ex : ∃ S1 S2 S3 : Nat → Prop, Own KPage 137 w S1 vp np h.pages ∧ Own KInt 2 w S2 vw nw h.words ∧ Own KMag 25 w S3 vm nm h.mags ∧
    (∀ k, S1 k → S k) ∧ (∀ k, S2 k → S k) ∧ (∀ k, S3 k → S k) ∧ (∀ k, S1 k → ¬ S2 k) ∧ (∀ k, S1 k → ¬ S3 k) ∧ ∀ k, S2 k → ¬ S3 k
theorem HpO.turn {w w' : World} {S T : Nat → Prop} {vp vw vm : Value} {np nw nm : Nat} {h : Hp} (ho : HpO w S vp np vw nw vm nm h) (ht : Turn T w w') (hd : ∀ k, S k → k < w.heap.size → ¬ T k) : HpO w' S vp np vw nw vm nm h := by
  obtain ⟨S1, S2, S3, h1, h2, h3, d1, d2, d3, e1, e2, e3⟩ := ho.ex
  exact ⟨S1, S2, S3, h1.turn ht (fun k hk => hd k (d1 k hk)), h2.turn ht (fun k hk => hd k (d2 k hk)), h3.turn ht (fun k hk => hd k (d3 k hk)), d1, d2, d3, e1, e2, e3⟩
theorem HpO.below {w w' : World} {S : Nat → Prop} {vp vw vm : Value} {np nw nm : Nat} {h : Hp} (ho : HpO w S vp np vw nw vm nm h) (hb : Below w.heap.size w w') : HpO w' S vp np vw nw vm nm h := ho.turn (T := fun _ => False) (Turn.of_below hb) (fun _ _ _ h => h)
theorem HpO.mono {w : World} {S S' : Nat → Prop} {vp vw vm : Value} {np nw nm : Nat} {h : Hp} (ho : HpO w S vp np vw nw vm nm h) (hS : ∀ k, S k → k < w.heap.size → S' k) : HpO w S' vp np vw nw vm nm h := by
  obtain ⟨S1, S2, S3, h1, h2, h3, d1, d2, d3, e1, e2, e3⟩ := ho.ex
  exact ⟨fun k => S1 k ∧ k < w.heap.size, fun k => S2 k ∧ k < w.heap.size, fun k => S3 k ∧ k < w.heap.size, h1.here, h2.here, h3.here, fun k hk => hS k (d1 k hk.1) hk.2, fun k hk => hS k (d2 k hk.1) hk.2, fun k hk => hS k (d3 k hk.1) hk.2, fun k hk hq => e1 k hk.1 hq.1, fun k hk hq => e2 k hk.1 hq.1, fun k hk hq => e3 k hk.1 hq.1⟩
theorem HpO.fresh {w : World} {B B' : Nat} {vp vw vm : Value} {np nw nm : Nat} {h : Hp} (ho : HpO w (fun k => B ≤ k) vp np vw nw vm nm h) (hB : B' ≤ B) : HpO w (fun k => B' ≤ k) vp np vw nw vm nm h := ho.mono (fun _ hk _ => Nat.le_trans hB hk)
theorem HpO.shape {w : World} {S : Nat → Prop} {vp vw vm : Value} {np nw nm : Nat} {h : Hp} (ho : HpO w S vp np vw nw vm nm h) : ∃ pa pc wa wc ma mc, vp = .slice pa np pc ∧ vw = .slice wa nw wc ∧ vm = .slice ma nm mc ∧ HpR w S pa np pc wa nw wc ma nm mc h := by
  obtain ⟨S1, S2, S3, h1, h2, h3, d1, d2, d3, e1, e2, e3⟩ := ho.ex
  obtain ⟨pa, pc, rfl, p1, p2, hp⟩ := h1.shape
  obtain ⟨wa, wc, rfl, w1, w2, hw⟩ := h2.shape
  obtain ⟨ma, mc, rfl, m1, m2, hm⟩ := h3.shape
  exact ⟨pa, pc, wa, wc, ma, mc, rfl, rfl, rfl, hp.mono (fun k hk _ => d1 k hk), hw.mono (fun k hk _ => d2 k hk), hm.mono (fun k hk _ => d3 k hk), p1, p2, w1, w2, m1, m2⟩
theorem HpO.rd {w : World} {S : Nat → Prop} {pa wa ma : Option Addr} {pc wc mc pn wn mn np nw nm : Nat} {h : Hp} (ho : HpO w S (.slice pa pn pc) np (.slice wa wn wc) nw (.slice ma mn mc) nm h) : HpR w S pa pn pc wa wn wc ma mn mc h := by
  obtain ⟨pa', pc', wa', wc', ma', mc', e1, e2, e3, hr⟩ := ho.shape
  cases e1; cases e2; cases e3
  exact hr
/-- Of three kinds of blocks apart, each owns its own. -/
theorem HpO.mk3 {w : World} {S : Nat → Prop} {A B C : Nat → Prop} {vp vw vm : Value} {np nw nm : Nat} {h : Hp} (h1 : Own KPage 137 w A vp np h.pages) (h2 : Own KInt 2 w B vw nw h.words) (h3 : Own KMag 25 w C vm nm h.mags)
    (a : ∀ k, A k → S k) (b : ∀ k, B k → S k) (c : ∀ k, C k → S k) (ab : ∀ k, A k → ¬ B k) (ac : ∀ k, A k → ¬ C k) (bc : ∀ k, B k → ¬ C k) : HpO w S vp np vw nw vm nm h := ⟨A, B, C, h1, h2, h3, a, b, c, ab, ac, bc⟩

/-- No list in a heap is longer than is good for any walk. -/
structure HpS (N : Nat) (h : Hp) : Prop where
  p : h.pages.length ≤ N
  u : ShortP N h.pages
  w : h.words.length ≤ N
  m : h.mags.length ≤ N
  k : ShortM N h.mags
theorem HpS.more {N M : Nat} {h : Hp} (hs : HpS N h) (hM : N ≤ M) : HpS M h := ⟨Nat.le_trans hs.p hM, fun p hp => Nat.le_trans (hs.u p hp) hM, Nat.le_trans hs.w hM, Nat.le_trans hs.m hM, hs.k.more hM⟩

/-- A result of a code and a heap, in new memory; the reply is zero. -/
def RetsHeap (w : World) (r : Int × Hp) (e : Ending) (w' : World) : Prop :=
  ∃ vp np vw nw vm nm, e = .returned (.agg #[.int .i64 r.1, vp, vw, vm, .int .i64 0, .int .i64 0]) ∧ HpO w' (fun k => w.heap.size ≤ k) vp np vw nw vm nm r.2 ∧ Below w.heap.size w w'
theorem HpO.zero {w : World} {S : Nat → Prop} : HpO w S (.slice none 0 0) 0 (.slice none 0 0) 0 (.slice none 0 0) 0 Hp.zero := ⟨fun _ => False, fun _ => False, fun _ => False, Own.nil, Own.nil, Own.nil, fun _ h => h.elim, fun _ h => h.elim, fun _ h => h.elim, fun _ h => h.elim, fun _ h => h.elim, fun _ h => h.elim⟩
theorem heap_done {w w1 : World} {r : Int × Hp} {x : Int} {h : Hp} {g np nw nm : Nat} {vp vw vm : Value} (hb : Below w.heap.size w w1) (hg : w.heap.size ≤ g) (ho : HpO w1 (fun k => g < k) vp np vw nw vm nm h) (cs : Array Value) (hr : r = (x, h)) :
    RetsHeap w r (.returned (.agg #[.int .i64 x, vp, vw, vm, .int .i64 0, .int .i64 0])) (w1.setRow g cs) := by
  subst hr
  exact ⟨vp, np, vw, nw, vm, nm, rfl, (ho.turn (Turn.setRow w1 g cs) (fun k hk _ e => by have : k = g := e; omega)).mono (fun k hk _ => by omega), below_setRow hb hg cs⟩
theorem Own.of_zero {α : Type} {K : Lay α} {t : TypeId} {w : World} {g n : Nat} {cur : Array Value} {zs : List Value} {d : α} (hr : Row w g t cur) (hz : ZeroRow zs n cur) (hzl : zs.length = K.sz) (ho : K.own w (fun _ => False) zs d) (hn : n ≤ maxLen) : Own K t w (fun k => k = g) (.slice (some ⟨g, 0, none⟩) n n) n (List.replicate n d) := by
  obtain ⟨h1, h2⟩ := hz
  rw [hzl] at h1 h2
  exact Own.made hr rfl hn h1 hzl h2 ho
/-- A heap in new memory. -/
def MakesHeap (w : World) (h : Hp) (e : Ending) (w' : World) : Prop :=
  ∃ vp np vw nw vm nm, e = .returned (.agg #[vp, vw, vm]) ∧ HpO w' (fun k => w.heap.size ≤ k) vp np vw nw vm nm h ∧ Below w.heap.size w w'
end Go.Proofs.YthpamclljdcjpaaGreatDoor

/- The laws' helpers over heaps: how great they are, their copy, whether two are the same. -/
namespace Go.Proofs.YthpamclljdcjpaaGreatDoor
open Go.RowKit

theorem szW_calls {a : Option Addr} {n c : Nat} {r : Int} {w : World} (hn : n ≤ 9223372036854775807) (h0 : 0 ≤ r) (h1 : r ≤ 1048576) :
    Calls Tryz.prog 109 #[.slice a n c, .int .i64 r] w fun e w' => e = .returned (.int .i64 (if r - n < 0 then -1 else r - n)) ∧ w = w' := by
  by_cases h : r - (n : Int) < 0
  · rw [if_pos h]
    go_enter Tryz.func109, Tryz.ntmps109
    go_wp2
    go_ret
    exact ⟨rfl, rfl⟩
  · rw [if_neg h]
    go_enter Tryz.func109, Tryz.ntmps109
    go_wp2
    go_ret
    exact ⟨rfl, rfl⟩

set_option maxHeartbeats 400000 in
theorem toW_calls {a : Option Addr} {n c : Nat} {xs : List Int} {S : Nat → Prop} {w : World} (ha : Lst KInt w S a n xs) (hx : n ≤ 17592186044416) :
    Calls Tryz.prog 112 #[.slice a n c] w fun e w' => ∃ v, e = .returned v ∧ Own KInt 2 w' (fun k => w.heap.size ≤ k) v n xs ∧ Below w.heap.size w w' := by
  obtain ⟨i0, hi, hz0, hz1, hz2⟩ := info_parts info64
  have HL := Lib.hid ha.1
  go_enter Tryz.func112, Tryz.ntmps112
  go_wp2_with (at_make; go_must (refine wpList_make_full _ rfl _ _ 25 rfl w.heap.size 2 i0 (.int .i64 0) 1 Tryz.underlying25 hi hz0 hz1 _ _ _ _ n rfl rfl rfl rfl (by rw [hz2]; omega) (by unfold maxLen; omega) (Nat.le_refl _) ?_); intro w1 hown hg)
  have hb1 : Below w.heap.size w w1 := (Below.refl _ _).grown hg (Nat.le_refl _) (by simp)
  have hown1 : Own KInt 2 w1 (fun k => w.heap.size ≤ k) (.slice (some ⟨w.heap.size, 0, none⟩) n n) n (fillD (0 : Int) xs 0) := by
    rw [fillD_zero, HL.out]
    exact Own.of_made (z := .int .i64 0) (by simpa [KInt] using hown) (Nat.le_refl _) rfl rfl
  clear hown hg
  go_loopw [4] (fun i wr => ∃ k : Nat, k ≤ n ∧ i = .int .i64 k ∧ Below w.heap.size w wr ∧ Own KInt 2 wr (fun k => w.heap.size ≤ k) (.slice (some ⟨w.heap.size, 0, none⟩) n n) n (fillD (0 : Int) xs k)) (fun i _ => n - (intOf i).toNat)
  case atStart => exact ⟨0, Nat.zero_le _, rfl, hb1, hown1⟩
  case round =>
    obtain ⟨k, hk, rfl, hbw, HO⟩ := hrel
    by_cases hlt : k < n
    · obtain ⟨ba, oa, rfl, hba, hca⟩ := (ha.below hbw).ints.at_ hlt
      have hkx : k < xs.length := by rw [HL.out]; exact hlt
      obtain ⟨g, cap, he, -, -, hcl, hfr, hst⟩ := HO.int_at hlt
      obtain rfl : w.heap.size = g := by simpa [Value.ownBlock] using congrArg Value.ownBlock he
      clear he
      have H2 := Lib.hid (hst xs[k])
      rw [fillD_step (List.getElem?_eq_getElem hkx)] at H2
      generalize (fillD (0 : Int) xs k).getD k 0 = u0 at hcl
      clear hst HO
      go_wp2
      go_roundw
      case rel => exact ⟨k + 1, by omega, by go_num, hbw.setCell (Nat.le_refl _) _, H2.out.1⟩
      case measure => simp [intOf]; omega
    · obtain rfl : k = n := by omega
      have H : Hid (Own KInt 2 wr (fun k => w.heap.size ≤ k) (.slice (some ⟨w.heap.size, 0, none⟩) k k) k xs) := by
        have := HO; rw [← HL.out, fillD_full, HL.out] at this; exact this
      clear HO
      go_wp2
      go_ret
      exact ⟨_, rfl, H.out, hbw⟩

set_option maxHeartbeats 400000 in
theorem markW_calls {v : Value} {n : Nat} {xs : List Int} {K : Int} {S : Nat → Prop} {w : World} (ho : Own KInt 2 w S v n xs) (hx : n ≤ 17592186044416) (h0 : 0 ≤ K) (hK : K ≤ 1125899906842624) :
    Calls Tryz.prog 119 #[v, .int .i64 K] w fun e w' => e = .returned (.int .i64 (K + n)) ∧ Own KInt 2 w' S v n (marks K n) ∧ Turn S w w' := by
  have HL := Lib.hid ho.1
  obtain ⟨ao, c, rfl, hnc, hcm, _⟩ := ho.shape
  go_enter Tryz.func119, Tryz.ntmps119
  go_wp2
  go_loopw [1, 5] (fun q i wr => ∃ k : Nat, k ≤ n ∧ i = .int .i64 k ∧ q = .int .i64 (K + k) ∧ Own KInt 2 wr S (.slice ao n c) n (markedTo xs K k) ∧ Turn S w wr) (fun _ i _ => n - (intOf i).toNat)
  case atStart => exact ⟨0, Nat.zero_le _, rfl, by simp, by rw [markedTo_zero]; exact ho, Turn.refl _ _⟩
  case round =>
    obtain ⟨k, hk, rfl, rfl, HO, HT⟩ := hrel
    by_cases hlt : k < n
    · obtain ⟨g, cap, he, hg, hlo, hcl, hfr, hst⟩ := HO.int_at hlt
      injection he with he _ hcap
      subst he
      have HS := Lib.hid (And.intro (hst (K + k)) HT)
      rw [markedTo_step xs K (by rw [HL.out]; exact hlt)] at HS
      clear hst HO HT
      go_wp2
      go_roundw
      case rel => exact ⟨k + 1, by omega, by go_num, by go_num, HS.out.1.1, HS.out.2.trans HS.out.1.2 (fun _ h _ => h)⟩
      case measure => simp [intOf]; omega
    · obtain rfl : k = n := by omega
      have HF : Hid (Own KInt 2 wr S (.slice ao k c) k (marks K k) ∧ Turn S w wr) := by
        have := markedTo_full xs K
        rw [HL.out] at this
        rw [this] at HO
        exact ⟨HO, HT⟩
      clear HO HT
      go_wp2
      go_ret
      exact ⟨rfl, HF.out.1, HF.out.2⟩

/-- What the sizes tell of lists of lists. -/
def SizedM (n : Nat) (ms : List (List Int)) (w : World) (e : Ending) (w' : World) : Prop :=
  (e = .returned (.int .i64 (-1)) ∨ ∃ r : Int, e = .returned (.int .i64 r) ∧ 0 ≤ r ∧ r ≤ 1048576 ∧ n ≤ 1048576 ∧ ShortM 1048576 ms) ∧ w = w'
set_option maxHeartbeats 400000 in
theorem szMags_calls {ao : Option Addr} {n cc : Nat} {ms : List (List Int)} {S : Nat → Prop} {q : Int} {w : World} (hT : Lst KMag w S ao n ms) (hn : n ≤ 9223372036854775807) (h0 : 0 ≤ q) (hq : q ≤ 1048576) :
    Calls Tryz.prog 110 #[.slice ao n cc, .int .i64 q] w (SizedM n ms w) := by
  have HL := Lib.hid hT.1
  by_cases h : q - (n : Int) < 0
  · go_enter Tryz.func110, Tryz.ntmps110
    go_wp2_with fail
    go_ret
    exact ⟨.inl rfl, rfl⟩
  have hbig : n ≤ 1048576 := by omega
  go_enter Tryz.func110, Tryz.ntmps110
  go_wp2_with fail
  go_loop [1, 5] (fun q i => ∃ k r : Nat, k ≤ n ∧ i = .int .i64 k ∧ r ≤ 1048576 ∧ q = .int .i64 r ∧ Hid (∀ j m, j < k → ms[j]? = some m → m.length ≤ 1048576)) (fun _ i => n - (intOf i).toNat)
  case atStart => exact ⟨0, (q - n).toNat, Nat.zero_le _, rfl, by omega, by rw [Int.toNat_of_nonneg (by omega)], fun j p hj => by omega⟩
  case round =>
    obtain ⟨k, r, hk, rfl, hr, rfl, HW⟩ := hrel
    by_cases hlt : k < n
    · obtain ⟨b0, o0, m, a, l, c, rfl, d0, hp, e0, hlc, hcm, hu⟩ := hT.mag_at hlt
      have HU := Lib.hid hu.1
      have HP := Lib.hid hp
      have hl : l ≤ 9223372036854775807 := by unfold maxLen at hcm; omega
      clear hu hp hcm
      by_cases hneg : (r : Int) - (l : Int) < 0
      · have HE := Lib.hid (show (if (r : Int) - (l : Int) < 0 then (-1 : Int) else r - l) = -1 from if_pos hneg)
        go_wp2_with fail
        refine (szW_calls hl (by omega) (by omega)).mono ?_
        rintro e w1 ⟨rfl, rfl⟩
        rw [HE.out]
        go_wp2_with fail
        go_ret
        exact ⟨.inl rfl, rfl⟩
      · have HE := Lib.hid (show (if (r : Int) - (l : Int) < 0 then (-1 : Int) else r - l) = ((r - l : Nat) : Int) by rw [if_neg hneg]; omega)
        have HH : Hid (∀ j m, j < k + 1 → ms[j]? = some m → m.length ≤ 1048576) := fun j p' hj hp' => by
          by_cases e : j = k
          · subst e
            have := HP.out.symm.trans hp'
            injection this with this; subst this
            rw [HU.out]; omega
          · exact HW.out j p' (by omega) hp'
        have hge : ¬ (((r - l : Nat) : Int) < 0) := by omega
        go_wp2_with fail
        refine (szW_calls hl (by omega) (by omega)).mono ?_
        rintro e w1 ⟨rfl, rfl⟩
        rw [HE.out]
        go_wp2_with fail
        go_round
        case rel => exact ⟨k + 1, r - l, by omega, by go_num, by omega, rfl, HH⟩
        case measure => simp [intOf]; omega
    · have HF : Hid (ShortM 1048576 ms) := by
        intro p hp
        obtain ⟨j, hj, rfl⟩ := List.getElem_of_mem hp
        exact HW.out j _ (by have := HL.out; omega) (List.getElem?_eq_getElem hj)
      go_wp2_with fail
      go_ret
      exact ⟨.inr ⟨_, rfl, by omega, by omega, hbig, HF.out⟩, rfl⟩

/-- What the sizes tell of a heap. -/
def SizedH (h : Hp) (w : World) (e : Ending) (w' : World) : Prop :=
  (e = .returned (.int .i64 (-1)) ∨ ∃ r : Int, e = .returned (.int .i64 r) ∧ 0 ≤ r ∧ r ≤ 1048576 ∧ HpS 1048576 h) ∧ Below w.heap.size w w'
set_option maxHeartbeats 400000 in
theorem szHeap_calls {pa wa ma : Option Addr} {pn pc wn wk mn mc : Nat} {h : Hp} {S : Nat → Prop} {q : Int} {w : World} (hr : HpR w S pa pn pc wa wn wk ma mn mc h) (h0 : 0 ≤ q) (hq : q ≤ 1048576) :
    Calls Tryz.prog 39 #[.agg #[.slice pa pn pc, .slice wa wn wk, .slice ma mn mc], .int .i64 q] w (SizedH h w) := by
  have HR := Lib.hid hr
  have HL := Lib.hid (And.intro hr.pg.1 (And.intro hr.wd.1 hr.mg.1))
  have hM : maxLen ≤ 9223372036854775807 := by decide
  have n1 : pn ≤ 9223372036854775807 := Nat.le_trans hr.p1 (Nat.le_trans hr.p2 hM)
  have n2 : wn ≤ 9223372036854775807 := Nat.le_trans hr.w1 (Nat.le_trans hr.w2 hM)
  have n3 : mn ≤ 9223372036854775807 := Nat.le_trans hr.m1 (Nat.le_trans hr.m2 hM)
  clear hr hM
  go_enter Tryz.func39, Tryz.ntmps39
  go_wp2_with fail
  refine (szPgs_calls (HR.out.pg.alloc _) n1 h0 hq).mono ?_
  rintro e w1 ⟨hc, hb1⟩
  have R1 := Row.new hb1
  have B1 := Lib.hid (below_past hb1)
  have q1 := R1.cell 1
  have q2 := R1.cell 2
  have ql := R1.lt
  simp at q1 q2
  clear hb1 R1
  rcases hc with rfl | ⟨r, rfl, r0, r1, s1, s2⟩
  · go_wp2_with fail
    go_ret
    exact ⟨.inl rfl, B1.out⟩
  have HP := Lib.hid (And.intro s1 s2)
  have hge : ¬ (r < 0) := by omega
  clear s1 s2
  by_cases hw : r - (wn : Int) < 0
  · have HE := Lib.hid (show (if r - (wn : Int) < 0 then (-1 : Int) else r - wn) = -1 from if_pos hw)
    go_wp2_with fail
    refine (szW_calls n2 r0 r1).mono ?_
    rintro e w2 ⟨rfl, rfl⟩
    rw [HE.out]
    go_wp2_with fail
    go_ret
    exact ⟨.inl rfl, B1.out⟩
  have HE := Lib.hid (show (if r - (wn : Int) < 0 then (-1 : Int) else r - wn) = ((r - wn).toNat : Int) by rw [if_neg hw]; omega)
  have hwn : wn ≤ 1048576 := by omega
  obtain ⟨u, hu⟩ : ∃ u, u = (r - wn).toNat := ⟨_, rfl⟩
  rw [← hu] at HE
  have hu2 : u ≤ 1048576 := by omega
  have hge2 : ¬ ((u : Int) < 0) := by omega
  clear hu
  go_wp2_with fail
  refine (szW_calls n2 r0 r1).mono ?_
  rintro e w2 ⟨rfl, rfl⟩
  rw [HE.out]
  clear hw hge
  go_wp2_with fail
  refine (szMags_calls (HR.out.below B1.out).mg n3 (by omega) (by omega)).mono ?_
  rintro e w3 ⟨hc, rfl⟩
  rcases hc with rfl | ⟨r', rfl, r0', r1', s1, s2⟩
  · go_wp2_with fail
    go_ret
    exact ⟨.inl rfl, B1.out⟩
  have HM := Lib.hid (And.intro s1 s2)
  have hge3 : ¬ (r' < 0) := by omega
  clear s1 s2
  go_wp2_with fail
  go_ret
  exact ⟨.inr ⟨_, rfl, r0', r1', by rw [HL.out.1]; exact HP.out.1, HP.out.2, by rw [HL.out.2.1]; exact hwn, by rw [HL.out.2.2]; exact HM.out.1, HM.out.2⟩, B1.out⟩

/-- One of several lists in focus, to be replaced. -/
theorem Own.mag_put {w : World} {S : Nat → Prop} {v : Value} {n : Nat} {ms : List (List Int)} (h : Own KMag 25 w S v n ms) {j : Nat} (hj : j < n) :
    ∃ g cap m, v = .slice (some ⟨g, 0, none⟩) n cap ∧ S g ∧ g < w.heap.size ∧ ms[j]? = some m ∧ (∃ a l c, w.cell? ⟨g, j, none⟩ = some (.slice a l c)) ∧ w.frozen? ⟨g, j, none⟩ = false ∧
      ∀ (x : List Int) (y : Value) (l : Nat) (T : Nat → Prop), Own KInt 2 w T y l x → (∀ k, T k → k < w.heap.size → ¬ S k) → Own KMag 25 (w.setCell ⟨g, j, none⟩ y) (fun k => S k ∨ T k) v n (ms.set j x) := by
  obtain ⟨g, cap, cs, F, m, rfl, hg, hm, hcl, hu, ho, hF, hst⟩ := h.here.focus hj
  obtain ⟨y0, l0, rfl, hy0⟩ := ho
  obtain ⟨h1, h2, h3⟩ := hu.cell
  have h4 := h2 0 (by simp)
  rw [show KMag.sz = 1 from rfl, Nat.mul_one] at h4 hu hst
  simp only [Nat.add_zero, List.getElem?_cons_zero] at h4
  obtain ⟨a0, c0, rfl, _, _, _⟩ := hy0.shape
  refine ⟨g, cap, m, rfl, hg.1, h1, hm, ⟨a0, l0, c0, h4⟩, h3 _, fun x y l T hy hT => ?_⟩
  have hnT : ¬ T g := fun ht => hT g ht hg.2 hg.1
  have hy2 : Own KInt 2 (w.setCell ⟨g, j, none⟩ y) (fun k => T k ∧ k < w.heap.size) y l x := hy.here.turn (Turn.set w ⟨g, j, none⟩ y) (fun k hk _ e => hnT (by rw [← show k = g from e]; exact hk.1))
  have h5 := hst (w.setCell ⟨g, j, none⟩ y) (fun k => T k ∧ k < w.heap.size) [y] x rfl ((Turn.set w ⟨g, j, none⟩ y).mono (fun k hk _ => .inr hk)) (by have := hu.set (i := 0) (u := y) (by simp); simpa using this) (KMag_own_mk hy2) (fun k hk => .inr (fun hs => hT k hk.1 hk.2 hs.1.1))
  exact h5.mono (fun k hk _ => hk.elim (fun h => .inl h.1) (fun h => .inr h.1))

set_option maxHeartbeats 1000000 in
theorem toMags_calls {ao : Option Addr} {n cc : Nat} {ms : List (List Int)} {S : Nat → Prop} {w : World} (hT : Lst KMag w S ao n ms) (hS : ShortM 17592186044416 ms) (hn : n ≤ 1048576) :
    Calls Tryz.prog 113 #[.slice ao n cc] w fun e w' => ∃ a, e = .returned (.slice a n n) ∧ Own KMag 25 w' (fun k => w.heap.size ≤ k) (.slice a n n) n ms ∧ Below w.heap.size w w' := by
  have hinfo : (Tryz.prog.info? 25).map (fun i => (i.zero, i.size, i.bytes)) = some (some (.slice none 0 0), 1, 24) := by kernel_rfl
  obtain ⟨i0, hi, hz0, hz1, hz2⟩ := info_parts hinfo
  have HL := Lib.hid hT.1
  have HS := Lib.hid hS
  go_enter Tryz.func113, Tryz.ntmps113
  go_wp2_with (at_make; go_must (refine wpList_make_full _ rfl _ _ 26 rfl w.heap.size 25 i0 (.slice none 0 0) 1 Tryz.underlying26 hi hz0 hz1 _ _ _ _ n rfl rfl rfl rfl (by rw [hz2]; omega) (by unfold maxLen; omega) (Nat.le_refl _) ?_); intro w1 hown hg)
  have hb1 : Below w.heap.size w w1 := (Below.refl _ _).grown hg (Nat.le_refl _) (by simp)
  have hO : Own KMag 25 w1 (fun k => w.heap.size ≤ k) (.slice (some ⟨w.heap.size, 0, none⟩) n n) n (fillD [] ms 0) := by
    rw [fillD_zero, HL.out]
    exact Own.of_made (K := KMag) (z := .slice none 0 0) (by simpa [show KMag.sz = 1 from rfl] using hown) (Nat.le_refl _) rfl (KMag_own_mk Own.nil)
  clear hown hg
  go_loopw [4] (fun i wr => ∃ k : Nat, k ≤ n ∧ i = .int .i64 k ∧ Own KMag 25 wr (fun k => w.heap.size ≤ k) (.slice (some ⟨w.heap.size, 0, none⟩) n n) n (fillD [] ms k) ∧ Below w.heap.size w wr) (fun i _ => n - (intOf i).toNat)
  case atStart => exact ⟨0, Nat.zero_le _, rfl, hO, hb1⟩
  case round =>
    obtain ⟨k, hk, rfl, hO, hbw⟩ := hrel
    by_cases hlt : k < n
    · obtain ⟨b, off, m, a, l, c, rfl, d0, hp, e0, hlc, hcm, hu⟩ := (hT.below hbw).mag_at hlt
      have HP := Lib.hid hp
      have hl : l ≤ 17592186044416 := by have := HS.out.at_ hp; have := hu.1; omega
      clear hp hcm
      go_wp2_with fail
      refine (toW_calls hu hl).mono ?_
      rintro e w2 ⟨v, rfl, hown, hb2⟩
      have HV := Lib.hid hown
      obtain ⟨vo, vc, rfl, _, _, _⟩ := HV.out.shape
      obtain ⟨g, cap, m0, he, hgS, hgl, hm0, ⟨xa, xl, xc, hcell⟩, hfr, hst⟩ := (hO.here.below hb2).mag_put hlt
      obtain rfl : w.heap.size = g := by simpa [Value.ownBlock] using congrArg Value.ownBlock he
      clear he hm0
      have hO2 := hst m (.slice vo l vc) l (fun k => wr.heap.size ≤ k) HV.out (fun k hk _ h => by have := h.2; omega)
      rw [fillD_step HP.out] at hO2
      have H2 := Lib.hid (And.intro (hO2.mono (S' := fun k => w.heap.size ≤ k) (fun k hk _ => hk.elim (fun h => h.1) (fun h => Nat.le_trans hbw.size h))) (show Below w.heap.size w (w2.setCell ⟨w.heap.size, k, none⟩ (.slice vo l vc)) from (hbw.trans (hb2.mono hbw.size)).setCell (Nat.le_refl _) _))
      clear hO2 hst hO hown hgS hgl
      go_wp2_with fail
      go_roundw
      case rel => exact ⟨k + 1, by omega, by go_num, H2.out.1, H2.out.2⟩
      case measure => simp [intOf]; omega
    · obtain rfl : k = n := by omega
      have F : Hid (Own KMag 25 wr (fun k => w.heap.size ≤ k) (.slice (some ⟨w.heap.size, 0, none⟩) k k) k ms ∧ Below w.heap.size w wr) := by
        have := hO; rw [← HL.out, fillD_full, HL.out] at this; exact ⟨this, hbw⟩
      clear hO hbw
      go_wp2_with fail
      go_ret
      exact ⟨_, rfl, F.out.1, F.out.2⟩
end Go.Proofs.YthpamclljdcjpaaGreatDoor
