/- Chapter 4 of the model: its exported functions that answer pages; pages compared. -/
import Derived.Test.YtkikjoalhohlgaaSpec4h
namespace Go.Proofs.Ytkikjoalhohlgaa
open Go.RowKit

theorem pages_done {w w1 : World} {r : Int × List Pg × Int} {x z : Int} {ps : List Pg} {g n : Nat} {v : Value} (hb : Below w.heap.size w w1) (hg : w.heap.size ≤ g) (hv : Own KPage 45 w1 (fun k => g < k) v n ps) (cs : Array Value) (h : r = (x, ps, z)) :
    RetsPages w r (.returned (.agg #[.int .i64 x, v, .int .i64 z])) (w1.setRow g cs) := by
  subst h
  exact ⟨v, n, rfl, (hv.turn (Turn.setRow w1 g cs) (fun k hk _ e => by have : k = g := e; omega)).mono (fun k hk _ => by omega), below_setRow hb hg cs⟩

theorem findSlot_eq {ps : List Pg} {c : Int} (hv : pagesFault ps = 0) (h : within 0 3 [c] = true) : findSlot ps c = if slotAt ps c < 0 then (7, [], 0) else (0, slotPut ps c, slotAt ps c) := by
  unfold findSlot slotAt slotPut
  rw [if_pos hv, if_pos h]
  have hs := sizeW_small c
  cases hr : slotFor ps c with
  | none => simp
  | some x =>
    have : 0 ≤ (x.2 : Int) * sizeW c := Int.mul_nonneg (by omega) (by omega)
    simp only; rw [if_neg (by omega)]
set_option maxHeartbeats 1000000 in
theorem sFindSlot_calls {ao : Option Addr} {n cc : Nat} {c : Int} {ps : List Pg} {S : Nat → Prop} {w : World} (hT : Lst KPage w S ao n ps) (hS : ShortP 17592186044416 ps) (hn : n ≤ 17592186044416) :
    Calls Try.prog 23 #[.slice ao n cc, .int .i64 c] w (RetsPages w (findSlot ps c)) := by
  by_cases hv : pagesFault ps = 0
  rotate_left
  · have HR := Lib.hid (show findSlot ps c = (pagesFault ps, [], 0) by unfold findSlot; rw [if_neg hv])
    have hq : (pagesFault ps != 0) = true := by simpa using hv
    clear hv
    go_enter Try.func23, Try.ntmps23
    go_wp2_with fail
    refine (sPagesFault_calls (hT.alloc _) hS hn).mono ?_
    rintro e w1 ⟨rfl, hb1⟩
    have hres := Row.new hb1
    have hb := below_past hb1
    go_wp2_with (refine wpList_store_row rfl 28 _ _ rfl (w.heap.size) _ rfl rfl _ _ hres (by kernel_rfl) (by rfl) (by simp [Value.oneCell']) ?_)
    refine bodyPost_ret (results_cell_row rfl _ _ (w.heap.size) _ _ _ _ rfl (setRow_heap _ _ _ _ _ _ hres) Try.underlying28 rfl (by kernel_rfl)) rfl ?_
    exact pages_done hb (Nat.le_refl _) Own.nil _ HR.out
  have HV := Lib.hid hv
  have hn40 : n ≤ 40 := by have := (pagesFault_ok hv).1; have := hT.1; omega
  rcases hw : within 0 3 [c] with _ | _
  · have HR := Lib.hid (show findSlot ps c = (3, [], 0) by unfold findSlot; rw [if_pos hv, hw]; rfl)
    have HW := Lib.hid hw
    clear hv hw
    go_enter Try.func23, Try.ntmps23
    go_wp2_with fail
    refine (sPagesFault_calls (hT.alloc _) hS hn).mono ?_
    rintro e w1 ⟨rfl, hb1⟩
    rw [HV.out]
    have hres := Row.new hb1
    have hb := below_past hb1
    go_wp2_with fail
    refine l3IsClass_calls.mono ?_
    rw [HW.out]
    rintro e w2 ⟨rfl, rfl⟩
    go_wp2_with (refine wpList_store_row rfl 28 _ _ rfl (w.heap.size) _ rfl rfl _ _ hres (by kernel_rfl) (by rfl) (by simp [Value.oneCell']) ?_)
    refine bodyPost_ret (results_cell_row rfl _ _ (w.heap.size) _ _ _ _ rfl (setRow_heap _ _ _ _ _ _ hres) Try.underlying28 rfl (by kernel_rfl)) rfl ?_
    exact pages_done hb (Nat.le_refl _) Own.nil _ HR.out
  have HR := Lib.hid (findSlot_eq hv hw)
  have HW := Lib.hid hw
  have hc := within_range hw
  obtain ⟨hc0, hc3⟩ := hc
  clear hv hw
  by_cases hneg : slotAt ps c < 0
  · have HR2 : Hid (findSlot ps c = (7, [], 0)) := by show _ = _; rw [HR.out, if_pos hneg]
    go_enter Try.func23, Try.ntmps23
    go_wp2_with fail
    refine (sPagesFault_calls (hT.alloc _) hS hn).mono ?_
    rintro e w1 ⟨rfl, hb1⟩
    rw [HV.out]
    have hres := Row.new hb1
    have hb := below_past hb1
    go_wp2_with fail
    refine l3IsClass_calls.mono ?_
    rw [HW.out]
    rintro e w2 ⟨rfl, rfl⟩
    go_wp2_with fail
    refine (l4Copy_calls ((hT.alloc _).below hb1) hS (by omega)).mono ?_
    rintro e w2 ⟨v, rfl, hown, hb2⟩
    have hlt := hres.lt
    have hs2 := hb2.size
    have hres2 := hres.below hb2
    have hbb := hb.trans (hb2.mono hb.size)
    obtain ⟨vo, vc, rfl, _, _, _⟩ := hown.shape
    have HO := Lib.hid hown
    clear hown hb2 hb1
    go_wp2_with fail
    refine (l4Slot_calls HO.out hS (by omega) hc0 hc3).mono ?_
    rintro e w3 ⟨rfl, hown3, ht3⟩
    have hres3 : Row w3 w.heap.size 28 _ := ht3.row hres2 (fun h => by omega)
    have HO3 : Hid (Own KPage 45 w3 (fun k => w.heap.size < k) (.slice vo n vc) n (slotPut ps c) ∧ Below w.heap.size w w3) := ⟨hown3.mono (fun k hk _ => by omega), ht3.below hbb (by omega) (fun k hk => by omega)⟩
    clear hown3 ht3
    go_wp2_with (refine wpList_store_row rfl 28 _ _ rfl (w.heap.size) _ rfl rfl _ _ hres3 (by kernel_rfl) (by rfl) (by simp [Value.oneCell']) ?_)
    refine bodyPost_ret (results_cell_row rfl _ _ (w.heap.size) _ _ _ _ rfl (setRow_heap _ _ _ _ _ _ hres3) Try.underlying28 rfl (by kernel_rfl)) rfl ?_
    exact pages_done HO3.out.2 (Nat.le_refl _) Own.nil _ HR2.out
  · have HR2 : Hid (findSlot ps c = (0, slotPut ps c, slotAt ps c)) := by show _ = _; rw [HR.out, if_neg hneg]
    go_enter Try.func23, Try.ntmps23
    go_wp2_with fail
    refine (sPagesFault_calls (hT.alloc _) hS hn).mono ?_
    rintro e w1 ⟨rfl, hb1⟩
    rw [HV.out]
    have hres := Row.new hb1
    have hb := below_past hb1
    go_wp2_with fail
    refine l3IsClass_calls.mono ?_
    rw [HW.out]
    rintro e w2 ⟨rfl, rfl⟩
    go_wp2_with fail
    refine (l4Copy_calls ((hT.alloc _).below hb1) hS (by omega)).mono ?_
    rintro e w2 ⟨v, rfl, hown, hb2⟩
    have hlt := hres.lt
    have hs2 := hb2.size
    have hres2 := hres.below hb2
    have hbb := hb.trans (hb2.mono hb.size)
    obtain ⟨vo, vc, rfl, _, _, _⟩ := hown.shape
    have HO := Lib.hid hown
    clear hown hb2 hb1
    go_wp2_with fail
    refine (l4Slot_calls HO.out hS (by omega) hc0 hc3).mono ?_
    rintro e w3 ⟨rfl, hown3, ht3⟩
    have hres3 : Row w3 w.heap.size 28 _ := ht3.row hres2 (fun h => by omega)
    have HO3 : Hid (Own KPage 45 w3 (fun k => w.heap.size < k) (.slice vo n vc) n (slotPut ps c) ∧ Below w.heap.size w w3) := ⟨hown3.mono (fun k hk _ => by omega), ht3.below hbb (by omega) (fun k hk => by omega)⟩
    clear hown3 ht3
    go_wp2_with (refine wpList_store_row rfl 28 _ _ rfl (w.heap.size) _ rfl rfl _ _ hres3 (by kernel_rfl) (by rfl) (by simp [Value.oneCell']) ?_)
    refine bodyPost_ret (results_cell_row rfl _ _ (w.heap.size) _ _ _ _ rfl (setRow_heap _ _ _ _ _ _ hres3) Try.underlying28 rfl (by kernel_rfl)) rfl ?_
    exact pages_done HO3.out.2 (Nat.le_refl _) HO3.out.1 _ HR2.out

theorem freeN_drop : ∀ {m j : Nat} {ps : List Pg}, j ≤ m → (∀ i p, i < j → ps[i]? = some p → p.kind = 0) → j ≤ ps.length → freeN m ps = freeN (m - j) (ps.drop j)
  | m, 0, ps, _, _, _ => by simp
  | 0, j + 1, ps, h, _, _ => by omega
  | m + 1, j + 1, [], _, _, h => by simp at h
  | m + 1, j + 1, q :: r, h1, h2, h3 => by
    have h0 := h2 0 q (by omega) (by simp)
    rw [freeN, h0, List.drop_succ_cons, Nat.add_sub_add_right, ← freeN_drop (m := m) (j := j) (ps := r) (by omega) (fun i p hi hp => h2 (i + 1) p (by omega) (by simpa using hp)) (by simpa using h3)]
    simp
set_option maxHeartbeats 2000000 in
theorem sTakeRun_calls {ao : Option Addr} {n cc : Nat} {a m : Int} {ps : List Pg} {S : Nat → Prop} {w : World} (hT : Lst KPage w S ao n ps) (hS : ShortP 17592186044416 ps) (hn : n ≤ 17592186044416) :
    Calls Try.prog 25 #[.slice ao n cc, .int .i64 a, .int .i64 m] w (RetsPages w (takeRun ps a m)) := by
  have HL := Lib.hid hT.1
  by_cases hv : pagesFault ps = 0
  rotate_left
  · have HR := Lib.hid (show takeRun ps a m = (pagesFault ps, [], 0) by unfold takeRun; rw [if_neg hv])
    have hq : (pagesFault ps != 0) = true := by simpa using hv
    clear hv
    go_enter Try.func25, Try.ntmps25
    go_wp2_with fail
    refine (sPagesFault_calls (hT.alloc _) hS hn).mono ?_
    rintro e w1 ⟨rfl, hb1⟩
    have hres := Row.new hb1
    have hb := below_past hb1
    go_wp2_with (refine wpList_store_row rfl 28 _ _ rfl (w.heap.size) _ rfl rfl _ _ hres (by kernel_rfl) (by rfl) (by simp [Value.oneCell']) ?_)
    refine bodyPost_ret (results_cell_row rfl _ _ (w.heap.size) _ _ _ _ rfl (setRow_heap _ _ _ _ _ _ hres) Try.underlying28 rfl (by kernel_rfl)) rfl ?_
    exact pages_done hb (Nat.le_refl _) Own.nil _ HR.out
  have HV := Lib.hid hv
  have hn40 : n ≤ 40 := by have := (pagesFault_ok hv).1; have := hT.1; omega
  rcases hw : within 1 4 [m] with _ | _
  · have HR := Lib.hid (show takeRun ps a m = (3, [], 0) by unfold takeRun; rw [if_pos hv, if_neg (by rw [hw]; simp)])
    have HW := Lib.hid hw
    clear hv hw
    go_enter Try.func25, Try.ntmps25
    go_wp2_with fail
    refine (sPagesFault_calls (hT.alloc _) hS hn).mono ?_
    rintro e w1 ⟨rfl, hb1⟩
    rw [HV.out]
    have hres := Row.new hb1
    have hb := below_past hb1
    go_wp2_with fail
    refine l1In_calls.mono ?_
    rw [HW.out]
    rintro e w2 ⟨rfl, rfl⟩
    go_wp2_with (refine wpList_store_row rfl 28 _ _ rfl (w.heap.size) _ rfl rfl _ _ hres (by kernel_rfl) (by rfl) (by simp [Value.oneCell']) ?_)
    refine bodyPost_ret (results_cell_row rfl _ _ (w.heap.size) _ _ _ _ rfl (setRow_heap _ _ _ _ _ _ hres) Try.underlying28 rfl (by kernel_rfl)) rfl ?_
    exact pages_done hb (Nat.le_refl _) Own.nil _ HR.out
  have HW := Lib.hid hw
  have hm := within_range hw
  obtain ⟨hm1, hm4⟩ := hm
  rcases hw2 : within 0 ((n : Int) - m) [a] with _ | _
  · have HR := Lib.hid (show takeRun ps a m = (3, [], 0) by unfold takeRun; rw [if_pos hv, if_neg (by rw [HL.out, hw2]; simp)])
    have HW2 := Lib.hid hw2
    clear hv hw hw2
    go_enter Try.func25, Try.ntmps25
    go_wp2_with fail
    refine (sPagesFault_calls (hT.alloc _) hS hn).mono ?_
    rintro e w1 ⟨rfl, hb1⟩
    rw [HV.out]
    have hres := Row.new hb1
    have hb := below_past hb1
    go_wp2_with fail
    refine l1In_calls.mono ?_
    rw [HW.out]
    rintro e w2 ⟨rfl, rfl⟩
    go_wp2_with fail
    refine l1In_calls.mono ?_
    rw [HW2.out]
    rintro e w2 ⟨rfl, rfl⟩
    go_wp2_with (refine wpList_store_row rfl 28 _ _ rfl (w.heap.size) _ rfl rfl _ _ hres (by kernel_rfl) (by rfl) (by simp [Value.oneCell']) ?_)
    refine bodyPost_ret (results_cell_row rfl _ _ (w.heap.size) _ _ _ _ rfl (setRow_heap _ _ _ _ _ _ hres) Try.underlying28 rfl (by kernel_rfl)) rfl ?_
    exact pages_done hb (Nat.le_refl _) Own.nil _ HR.out
  have HW2 := Lib.hid hw2
  have ha := within_range hw2
  obtain ⟨ha0, ham⟩ := ha
  have HR := Lib.hid (show takeRun ps a m = if freeN m.toNat (ps.drop a.toNat) = true then (0, putRun ps a.toNat m.toNat, a * 16) else (8, [], 0) by unfold takeRun; rw [if_pos hv, if_pos ⟨hw, by rw [HL.out]; exact hw2⟩])
  clear hv hw hw2
  obtain ⟨x, hx⟩ : ∃ x : Nat, a = x := ⟨a.toNat, by omega⟩
  subst hx
  obtain ⟨y, hy⟩ : ∃ y : Nat, m = y := ⟨m.toNat, by omega⟩
  subst hy
  simp only [Int.toNat_natCast] at HR
  have hxy : x + y ≤ n := by omega
  go_enter Try.func25, Try.ntmps25
  go_wp2_with fail
  refine (sPagesFault_calls (hT.alloc _) hS hn).mono ?_
  rintro e w1 ⟨rfl, hb1⟩
  rw [HV.out]
  have hres := Row.new hb1
  have hb := below_past hb1
  go_wp2_with fail
  refine l1In_calls.mono ?_
  rw [HW.out]
  rintro e w2 ⟨rfl, rfl⟩
  go_wp2_with fail
  refine l1In_calls.mono ?_
  rw [HW2.out]
  rintro e w2 ⟨rfl, rfl⟩
  go_wp2_with fail
  have hT1 := (hT.alloc (.cells #[.int .i64 0, .slice none 0 0, .int .i64 0] 28)).below hb1
  clear hb1
  go_loop [8] (fun i => ∃ j : Nat, j ≤ y ∧ i = .int .i64 ((x : Int) + j) ∧ Hid (∀ i p, i < j → (ps.drop x)[i]? = some p → p.kind = 0)) (fun i => ((x : Int) + y - intOf i).toNat)
  case atStart => exact ⟨0, Nat.zero_le _, by simp, fun i p hi => by omega⟩
  case round =>
    obtain ⟨j, hj, rfl, HJ⟩ := hrel
    by_cases hlt : j < y
    · obtain ⟨b, off, p, ad, l, c, rfl, d0, hp, e0, e1, e2, e3, hlc, hcm, hu⟩ := hT1.pg_at (j := x + j) (by omega)
      have hN : ((x : Int) + (j : Int)).toNat = x + j := by omega
      have hPx : (ps.drop x)[j]? = some p := by rw [List.getElem?_drop]; exact hp
      have HP := Lib.hid hPx
      clear hp hPx hu e1 e2 e3
      by_cases k0 : p.kind = 0
      · have HN : Hid (∀ i p, i < j + 1 → (ps.drop x)[i]? = some p → p.kind = 0) := fun i q hi hq => by
          by_cases e : i = j
          · subst e; have := HP.out.symm.trans hq; injection this with this; rw [← this]; exact k0
          · exact HJ.out i q (by omega) hq
        rw [k0] at e0
        clear k0
        go_wp2_with fail
        go_round
        case rel => exact ⟨j + 1, by omega, by go_num, HN⟩
        case measure => simp [intOf]; omega
      · have hq : (p.kind != 0) = true := by simpa using k0
        have HR2 : Hid (takeRun ps x y = (8, [], 0)) := by
          show _ = _
          rw [HR.out, if_neg (by rw [freeN_no hlt HP.out k0]; simp)]
        clear k0
        go_wp2_with (refine wpList_store_row rfl 28 _ _ rfl (w.heap.size) _ rfl rfl _ _ hres (by kernel_rfl) (by rfl) (by simp [Value.oneCell']) ?_)
        refine bodyPost_ret (results_cell_row rfl _ _ (w.heap.size) _ _ _ _ rfl (setRow_heap _ _ _ _ _ _ hres) Try.underlying28 rfl (by kernel_rfl)) rfl ?_
        exact pages_done hb (Nat.le_refl _) Own.nil _ HR2.out
    · have HF : Hid (freeN y (ps.drop x) = true) := by
        show _ = _
        rw [freeN_drop (j := y) (Nat.le_refl _) (fun i p hi hp => HJ.out i p (by omega) hp) (by rw [List.length_drop, HL.out]; omega)]; simp [freeN]
      have HR2 : Hid (takeRun ps x y = (0, putRun ps x y, (x : Int) * 16)) := by show _ = _; rw [HR.out, if_pos HF.out]
      clear HJ
      go_wp2_with fail
      refine (l4Copy_calls hT1 hS (by omega)).mono ?_
      rintro e w2 ⟨v, rfl, hown, hb2⟩
      have hlt3 := hres.lt
      have hs2 := hb2.size
      have hres2 := hres.below hb2
      have hbb := hb.trans (hb2.mono hb.size)
      obtain ⟨vo, vc, rfl, _, _, _⟩ := hown.shape
      have HO := Lib.hid hown
      clear hown hb2 hT1
      go_wp2_with fail
      refine (l4Take_calls HO.out (by omega) (by omega) hxy).mono ?_
      rintro e w3 ⟨rfl, hown3, ht3⟩
      have hres3 : Row w3 w.heap.size 28 _ := ht3.row hres2 (fun h => by omega)
      have HO3 : Hid (Own KPage 45 w3 (fun k => w.heap.size < k) (.slice vo n vc) n (putRun ps x y) ∧ Below w.heap.size w w3) := ⟨hown3.mono (fun k hk _ => by omega), ht3.below hbb (by omega) (fun k hk => by omega)⟩
      clear hown3 ht3
      go_wp2_with (refine wpList_store_row rfl 28 _ _ rfl (w.heap.size) _ rfl rfl _ _ hres3 (by kernel_rfl) (by rfl) (by simp [Value.oneCell']) ?_)
      refine bodyPost_ret (results_cell_row rfl _ _ (w.heap.size) _ _ _ _ rfl (setRow_heap _ _ _ _ _ _ hres3) Try.underlying28 rfl (by kernel_rfl)) rfl ?_
      exact pages_done HO3.out.2 (Nat.le_refl _) HO3.out.1 _ HR2.out

theorem dropBlock_fault {ps : List Pg} {a : Int} (h : (blockStart ps a).1 ≠ 0) : dropBlock ps a = ((blockStart ps a).1, [], 0) := by
  unfold dropBlock blockStart at *
  split <;> simp_all
/-- What is dropped where a block begins. -/
theorem dropAt_blk {ps : List Pg} {a : Nat} {c : Int} {b : Blk} (hv : pagesFault ps = 0) (h : heldAt ps a = (c, some b)) (hs : b.start = a) : dropAt ps a = dropBlk ps b ∧ ∃ p, ps[a / 16]? = some p ∧
    ((p.kind = 1 ∧ 0 ≤ p.cls ∧ p.cls ≤ 3 ∧ (p.used.length : Int) = 16 / sizeW p.cls) ∨ ((p.kind == 1) = false ∧ ∃ m : Nat, p.run = m ∧ a / 16 + m ≤ ps.length)) := by
  obtain ⟨_, _, _, hi⟩ := held_info hv h
  rw [Int.toNat_natCast] at hi
  rcases hi with ⟨i, k, s, p, rfl, hp, h1, h2, h0, h3, hu, hl, _, rfl, rfl⟩ | ⟨i, p, rfl, hp, h2, _⟩
  · subst h2
    refine ⟨?_, p, hp, .inl ⟨h1, h0, h3, hl⟩⟩
    unfold dropAt dropBlk
    simp only [hp, h1, if_true]
  · have hi : a / 16 = i := by simp only [Blk.start] at hs; omega
    have hr := ok_run hv hp h2
    have hf := run_fits hv hp h2
    refine ⟨?_, p, by rw [hi]; exact hp, .inr ⟨by simp [h2], p.run.toNat, by omega, by omega⟩⟩
    unfold dropAt dropBlk
    rw [hi, hp]; simp only; rw [if_neg (by omega)]

set_option maxHeartbeats 1000000 in
theorem sDropBlock_calls {ao : Option Addr} {n cc : Nat} {at_ : Int} {ps : List Pg} {S : Nat → Prop} {w : World} (hT : Lst KPage w S ao n ps) (hS : ShortP 17592186044416 ps) (hn : n ≤ 17592186044416) :
    Calls Try.prog 26 #[.slice ao n cc, .int .i64 at_] w (RetsPages w (dropBlock ps at_)) := by
  have HL := Lib.hid hT.1
  by_cases hv : (blockStart ps at_).1 = 0
  rotate_left
  · have HR := Lib.hid (dropBlock_fault hv)
    have hq : ((blockStart ps at_).1 != 0) = true := by simpa using hv
    clear hv
    go_enter Try.func26, Try.ntmps26
    go_wp2_with fail
    refine (sBlockStart_calls (hT.alloc _) hS hn).mono ?_
    rintro e w1 ⟨rfl, hb1⟩
    have hres := Row.new hb1
    have hb := below_past hb1
    have hlt := hres.lt
    have hres2 := (heap_alloc_old w1 (.cells #[.int .i64 (blockStart ps at_).1, .int .i64 (blockStart ps at_).2] 38) hlt).trans hres
    go_wp2_with (refine wpList_store_row rfl 28 _ _ rfl (w.heap.size) _ rfl rfl _ _ hres2 (by kernel_rfl) (by rfl) (by simp [Value.oneCell']) ?_)
    refine bodyPost_ret (results_cell_row rfl _ _ (w.heap.size) _ _ _ _ rfl (setRow_heap _ _ _ _ _ _ hres2) Try.underlying28 rfl (by kernel_rfl)) rfl ?_
    exact pages_done (hb.alloc hb.size _) (Nat.le_refl _) Own.nil _ HR.out
  obtain ⟨b, hh, hpf, hbs⟩ := blockStart_held hv
  have hlp := (pagesFault_ok hpf).1
  have hn40 : n ≤ 40 := by have := hT.1; omega
  have HE := Lib.hid hbs
  have HV := Lib.hid hv
  by_cases hst : b.start = at_
  rotate_left
  · have HR : Hid (dropBlock ps at_ = (1, [], 0)) := by show _ = _; unfold dropBlock; rw [hh]; simp only; rw [if_neg hst]
    have hq : (b.start != at_) = true := by simpa using hst
    clear hv hh hpf hbs hlp hst
    go_enter Try.func26, Try.ntmps26
    go_wp2_with fail
    refine (sBlockStart_calls (hT.alloc _) hS hn).mono ?_
    rintro e w1 ⟨rfl, hb1⟩
    rw [HV.out, HE.out]
    have hres := Row.new hb1
    have hb := below_past hb1
    have hlt := hres.lt
    have hres2 := (heap_alloc_old w1 (.cells #[.int .i64 0, .int .i64 b.start] 38) hlt).trans hres
    go_wp2_with (refine wpList_store_row rfl 28 _ _ rfl (w.heap.size) _ rfl rfl _ _ hres2 (by kernel_rfl) (by rfl) (by simp [Value.oneCell']) ?_)
    refine bodyPost_ret (results_cell_row rfl _ _ (w.heap.size) _ _ _ _ rfl (setRow_heap _ _ _ _ _ _ hres2) Try.underlying28 rfl (by kernel_rfl)) rfl ?_
    exact pages_done (hb.alloc hb.size _) (Nat.le_refl _) Own.nil _ HR.out
  obtain ⟨_, ha0, hal, _⟩ := held_info hpf hh
  obtain ⟨a, ha⟩ : ∃ a : Nat, at_ = a := ⟨at_.toNat, by omega⟩
  subst ha
  obtain ⟨hd, p, hp, hcase⟩ := dropAt_blk hpf hh hst
  have HR : Hid (dropBlock ps a = (0, dropAt ps a, (a : Int))) := by show _ = _; unfold dropBlock; rw [hh]; simp only; rw [if_pos hst, hd]
  have hq : ((a : Int) != (a : Int)) = false := by simp
  have HP := Lib.hid hp
  have HC := Lib.hid hcase
  have hal2 : a < 16 * n := by have := HL.out; omega
  rw [hst] at HE
  clear hv hh hpf hbs hlp hst hd hp hcase ha0 hal
  go_enter Try.func26, Try.ntmps26
  go_wp2_with fail
  refine (sBlockStart_calls (hT.alloc _) hS hn).mono ?_
  rintro e w1 ⟨rfl, hb1⟩
  rw [HV.out, HE.out]
  have hres := Row.new hb1
  have hb := below_past hb1
  have hlt := hres.lt
  have hres2 := (heap_alloc_old w1 (.cells #[.int .i64 0, .int .i64 a] 38) hlt).trans hres
  go_wp2_with fail
  refine (l4Copy_calls (((hT.alloc _).below hb1).alloc _) hS (by omega)).mono ?_
  rintro e w2 ⟨v, rfl, hown, hb2⟩
  have hs2 := hb2.size
  simp at hs2
  have hres3 : Row w2 w.heap.size 28 _ := Row.below (w := w1.alloc _) hres2 hb2
  have hbb := (hb.alloc hb.size (.cells #[.int .i64 0, .int .i64 a] 38)).trans (hb2.mono (by simp; omega))
  obtain ⟨vo, vc, rfl, _, _, _⟩ := hown.shape
  have hown2 := hown.mono (S' := fun k => w.heap.size < k) (fun k hk _ => by simp at hk; omega)
  have HO := Lib.hid (And.intro hown2 hbb)
  clear hown hown2 hb2 hbb hb1 hres hres2
  go_wp2_with fail
  have hdrop : Calls Try.prog 78 #[.slice vo n vc, .int .i64 a] w2 fun e w' => e = .returned (.tuple #[]) ∧ Own KPage 45 w' (fun k => w.heap.size < k) (.slice vo n vc) n (dropAt ps a) ∧ Turn (fun k => w.heap.size < k) w2 w' := by
    rcases HC.out with ⟨h1, h2, h3, h4⟩ | ⟨h1, m, h2, h3⟩
    · exact l4Drop_slab HO.out.1 (by omega) hal2 HP.out h1 h2 h3 h4
    · exact l4Drop_run HO.out.1 (by omega) hal2 HP.out h1 h2 (by rw [← HL.out]; exact h3)
  refine hdrop.mono ?_
  rintro e w3 ⟨rfl, hown3, ht3⟩
  have hres4 : Row w3 w.heap.size 28 _ := ht3.row hres3 (fun h => by omega)
  have HO3 := Lib.hid (And.intro hown3 (ht3.below HO.out.2 (by omega) (fun k hk => by omega)))
  clear hown3 ht3 hdrop
  go_wp2_with (refine wpList_store_row rfl 28 _ _ rfl (w.heap.size) _ rfl rfl _ _ hres4 (by kernel_rfl) (by rfl) (by simp [Value.oneCell']) ?_)
  refine bodyPost_ret (results_cell_row rfl _ _ (w.heap.size) _ _ _ _ rfl (setRow_heap _ _ _ _ _ _ hres4) Try.underlying28 rfl (by kernel_rfl)) rfl ?_
  exact pages_done HO3.out.2 (Nat.le_refl _) HO3.out.1 _ HR.out
end Go.Proofs.Ytkikjoalhohlgaa
