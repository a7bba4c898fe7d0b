/- Chapter 4 of the program: its exported functions that answer pages. -/
import Derived.Test.YtkikjoalhohlgaaWithout4
import Derived.Test.YtkikjoalhohlgaaImpl4f
namespace Go.Proofs.Ytkikjoalhohlgaa
open Go.RowKit

/-- What a call that answers pages has made, laid in the caller's result. -/
theorem pages_into {w w1 w2 : World} {r : Int × List Pg × Int} {v : Value} {n : Nat} (hb : Below w.heap.size w w1) (hs : w.heap.size < w1.heap.size) (hv : Own KPage 45 w2 (fun k => w1.heap.size ≤ k) v n r.2.1) (hb2 : Below w1.heap.size w1 w2) (cs : Array Value) :
    RetsPages w r (.returned (.agg #[.int .i64 r.1, v, .int .i64 r.2.2])) (w2.setRow w.heap.size cs) :=
  pages_done (hb.trans (hb2.mono hb.size)) (Nat.le_refl _) (hv.mono (fun k hk _ => by omega)) cs rfl

theorem withFound_calls {a : Option Addr} {n cc i s : Nat} {c : Int} {ps : List Pg} {S : Nat → Prop} {w : World} (hT : Lst KPage w S a n ps) (hv : pagesFault ps = 0) (hc0 : 0 ≤ c) (hc3 : c ≤ 3) (hf : slotFor ps c = some (i, s)) :
    Calls Try.prog 62 #[.slice a n cc, .iface 107 (.agg #[.int .i64 i, .int .i64 c, .int .i64 s])] w (RetsPages w (0, putSlot ps c i s, (i : Int) * 16 + s * sizeW c)) := by
  have hn : n ≤ 40 := by have := (pagesFault_ok hv).1; have := hT.1; omega
  obtain ⟨p, hp, ⟨h1, h2, h3⟩ | ⟨h1, rfl⟩⟩ := slotFor_some hf
  · exact withSlot_calls hT (pagesFault_short hv) hn hp h1 hc0 hc3 (List.getElem?_eq_some_iff.1 h3).1
  · have := withFree_calls (cc := cc) hT (pagesFault_short hv) hn hp h1 hc0 hc3
    simpa using this

set_option maxHeartbeats 1000000 in
theorem findSlot_calls {ao : Option Addr} {n cc : Nat} {c : Int} {ps : List Pg} {S : Nat → Prop} {w : World} (hT : Lst KPage w S ao n ps) (hS : ShortP 17592186044416 ps) (hn : n ≤ cc) (hc : cc ≤ 9223372036854775807) (hn4 : n ≤ 17592186044416) :
    Calls Try.prog 17 #[.slice ao n cc, .int .i64 c] w (RetsPages w (findSlot ps c)) := by
  by_cases hv : pagesFault ps = 0
  rotate_left
  · have HR := Lib.hid (show findSlot ps c = (pagesFault ps, [], 0) by unfold findSlot; rw [if_neg hv])
    have hq : (pagesFault ps != 0) = true := by simpa using hv
    clear hv
    go_enter Try.func17, Try.ntmps17
    go_wp2_with fail
    refine (pagesFault_calls (hT.alloc _) hS (by omega)).mono ?_
    rintro e w1 ⟨rfl, hb1⟩
    have hres := Row.new hb1
    have hb := below_past hb1
    go_wp2_with (refine wpList_store_row rfl 28 _ _ rfl (w.heap.size) _ rfl rfl _ _ hres (by kernel_rfl) (by rfl) (by simp [Value.oneCell']) ?_)
    refine bodyPost_ret (results_cell_row rfl _ _ (w.heap.size) _ _ _ _ rfl (setRow_heap _ _ _ _ _ _ hres) Try.underlying28 rfl (by kernel_rfl)) rfl ?_
    exact pages_done hb (Nat.le_refl _) Own.nil _ HR.out
  have HV := Lib.hid hv
  rcases hw : within 0 3 [c] with _ | _
  · have HR := Lib.hid (show findSlot ps c = (3, [], 0) by unfold findSlot; rw [if_pos hv, hw]; rfl)
    have HW := Lib.hid hw
    clear hv hw
    go_enter Try.func17, Try.ntmps17
    go_wp2_with fail
    refine (pagesFault_calls (hT.alloc _) hS (by omega)).mono ?_
    rintro e w1 ⟨rfl, hb1⟩
    rw [HV.out]
    have hres := Row.new hb1
    have hb := below_past hb1
    have hlt := hres.lt
    have hres2 := (heap_alloc_old w1 (.cells #[.int .i64 c] 2) hlt).trans hres
    have hb2 := hb.alloc hb.size (.cells #[.int .i64 c] 2)
    have hT1 := ((hT.alloc (.cells #[.int .i64 0, .slice none 0 0, .int .i64 0] 28)).below hb1).alloc (.cells #[.int .i64 c] 2)
    clear hb1 hres hb
    go_wp2_with fail
    refine (allWithin_calls (Ints.one (by simp)) (by omega)).mono ?_
    rw [HW.out]
    rintro e w2 ⟨rfl, rfl⟩
    go_wp2_with (refine wpList_store_row rfl 28 _ _ rfl (w.heap.size) _ rfl rfl _ _ hres2 (by kernel_rfl) (by rfl) (by simp [Value.oneCell']) ?_)
    refine bodyPost_ret (results_cell_row rfl _ _ (w.heap.size) _ _ _ _ rfl (setRow_heap _ _ _ _ _ _ hres2) Try.underlying28 rfl (by kernel_rfl)) rfl ?_
    exact pages_done hb2 (Nat.le_refl _) Own.nil _ HR.out
  have HW := Lib.hid hw
  obtain ⟨hc0, hc3⟩ := within_range hw
  rcases hf : slotFor ps c with _ | ⟨i, s⟩
  · have HR := Lib.hid (show findSlot ps c = (7, [], 0) by unfold findSlot; rw [if_pos hv, if_pos hw, hf])
    clear hv hw
    go_enter Try.func17, Try.ntmps17
    go_wp2_with fail
    refine (pagesFault_calls (hT.alloc _) hS (by omega)).mono ?_
    rintro e w1 ⟨rfl, hb1⟩
    rw [HV.out]
    have hres := Row.new hb1
    have hb := below_past hb1
    have hlt := hres.lt
    have hres2 := (heap_alloc_old w1 (.cells #[.int .i64 c] 2) hlt).trans hres
    have hb2 := hb.alloc hb.size (.cells #[.int .i64 c] 2)
    have hT1 := ((hT.alloc (.cells #[.int .i64 0, .slice none 0 0, .int .i64 0] 28)).below hb1).alloc (.cells #[.int .i64 c] 2)
    clear hb1 hres hb
    go_wp2_with fail
    refine (allWithin_calls (Ints.one (by simp)) (by omega)).mono ?_
    rw [HW.out]
    rintro e w2 ⟨rfl, rfl⟩
    go_wp2_with fail
    refine (slotFor_calls hT1 hS (by omega)).mono ?_
    rw [hf]
    rintro e w3 ⟨rfl, hb3⟩
    have hres3 := Row.below (w := w1.alloc _) hres2 hb3
    have hb4 := hb2.trans (hb3.mono hb2.size)
    have hT3 := hT1.below hb3
    clear hb3
    simp only [fv, Option.map_none, blkO]
    go_wp2_with (refine wpList_store_row rfl 28 _ _ rfl (w.heap.size) _ rfl rfl _ _ hres3 (by kernel_rfl) (by rfl) (by simp [Value.oneCell']) ?_)
    refine bodyPost_ret (results_cell_row rfl _ _ (w.heap.size) _ _ _ _ rfl (setRow_heap _ _ _ _ _ _ hres3) Try.underlying28 rfl (by kernel_rfl)) rfl ?_
    exact pages_done hb4 (Nat.le_refl _) Own.nil _ HR.out
  · have HR := Lib.hid (show findSlot ps c = (0, putSlot ps c i s, (i : Int) * 16 + s * sizeW c) by unfold findSlot; rw [if_pos hv, if_pos hw, hf])
    clear hv hw
    go_enter Try.func17, Try.ntmps17
    go_wp2_with fail
    refine (pagesFault_calls (hT.alloc _) hS (by omega)).mono ?_
    rintro e w1 ⟨rfl, hb1⟩
    rw [HV.out]
    have hres := Row.new hb1
    have hb := below_past hb1
    have hlt := hres.lt
    have hres2 := (heap_alloc_old w1 (.cells #[.int .i64 c] 2) hlt).trans hres
    have hb2 := hb.alloc hb.size (.cells #[.int .i64 c] 2)
    have hT1 := ((hT.alloc (.cells #[.int .i64 0, .slice none 0 0, .int .i64 0] 28)).below hb1).alloc (.cells #[.int .i64 c] 2)
    clear hb1 hres hb
    go_wp2_with fail
    refine (allWithin_calls (Ints.one (by simp)) (by omega)).mono ?_
    rw [HW.out]
    rintro e w2 ⟨rfl, rfl⟩
    go_wp2_with fail
    refine (slotFor_calls hT1 hS (by omega)).mono ?_
    rw [hf]
    rintro e w3 ⟨rfl, hb3⟩
    have hres3 := Row.below (w := w1.alloc _) hres2 hb3
    have hb4 := hb2.trans (hb3.mono hb2.size)
    have hT3 := hT1.below hb3
    clear hb3
    simp only [fv, Option.map_some, blkO, blkV]
    have hlt3 := hres3.lt
    go_wp2_with fail
    refine (withFound_calls hT3 HV.out hc0 hc3 hf).mono ?_
    rintro e w5 ⟨v, m, rfl, hown, hb5⟩
    obtain ⟨vo, vc, rfl, _, _, _⟩ := hown.shape
    have hres5 := Row.below hres3 hb5
    have HM := Lib.hid (pages_into (r := (0, putSlot ps c i s, (i : Int) * 16 + s * sizeW c)) hb4 hlt3 hown hb5)
    clear hown hb5
    go_wp2_with (refine wpList_store_row rfl 28 _ _ rfl w.heap.size _ rfl rfl _ _ hres5 (by kernel_rfl) (by rfl) (by simp [Value.oneCell']) ?_)
    refine bodyPost_ret (results_cell_row rfl _ _ w.heap.size _ _ _ _ rfl (setRow_heap _ _ _ _ _ _ hres5) Try.underlying28 rfl (by kernel_rfl)) rfl ?_
    rw [HR.out]
    exact HM.out _

set_option maxHeartbeats 2000000 in
theorem takeRun_calls {ao : Option Addr} {n cc : Nat} {a m : Int} {ps : List Pg} {S : Nat → Prop} {w : World} (hT : Lst KPage w S ao n ps) (hS : ShortP 17592186044416 ps) (hn : n ≤ cc) (hc : cc ≤ 9223372036854775807) (hn4 : n ≤ 17592186044416) :
    Calls Try.prog 19 #[.slice ao n cc, .int .i64 a, .int .i64 m] w (RetsPages w (takeRun ps a m)) := by
  have HL := Lib.hid hT.1
  by_cases hv : pagesFault ps = 0
  rotate_left
  · have HR := Lib.hid (show takeRun ps a m = (pagesFault ps, [], 0) by unfold takeRun; rw [if_neg hv])
    have hq : (pagesFault ps != 0) = true := by simpa using hv
    clear hv
    go_enter Try.func19, Try.ntmps19
    go_wp2_with fail
    refine (pagesFault_calls (hT.alloc _) hS (by omega)).mono ?_
    rintro e w1 ⟨rfl, hb1⟩
    have hres := Row.new hb1
    have hb := below_past hb1
    go_wp2_with (refine wpList_store_row rfl 28 _ _ rfl (w.heap.size) _ rfl rfl _ _ hres (by kernel_rfl) (by rfl) (by simp [Value.oneCell']) ?_)
    refine bodyPost_ret (results_cell_row rfl _ _ (w.heap.size) _ _ _ _ rfl (setRow_heap _ _ _ _ _ _ hres) Try.underlying28 rfl (by kernel_rfl)) rfl ?_
    exact pages_done hb (Nat.le_refl _) Own.nil _ HR.out
  have HV := Lib.hid hv
  have hn40 : n ≤ 40 := by have := (pagesFault_ok hv).1; have := hT.1; omega
  rcases hw : within 1 4 [m] with _ | _
  · have HR := Lib.hid (show takeRun ps a m = (3, [], 0) by unfold takeRun; rw [if_pos hv, if_neg (by rw [hw]; simp)])
    have HW := Lib.hid hw
    clear hv hw
    go_enter Try.func19, Try.ntmps19
    go_wp2_with fail
    refine (pagesFault_calls (hT.alloc _) hS (by omega)).mono ?_
    rintro e w1 ⟨rfl, hb1⟩
    rw [HV.out]
    have hres := Row.new hb1
    have hb := below_past hb1
    have hlt := hres.lt
    have hres2 := (heap_alloc_old w1 (.cells #[.int .i64 m] 2) hlt).trans hres
    have hb2 := hb.alloc hb.size (.cells #[.int .i64 m] 2)
    have hT1 := ((hT.alloc (.cells #[.int .i64 0, .slice none 0 0, .int .i64 0] 28)).below hb1).alloc (.cells #[.int .i64 m] 2)
    clear hb1 hres hb
    go_wp2_with fail
    refine (allWithin_calls (Ints.one (by simp)) (by omega)).mono ?_
    rw [HW.out]
    rintro e w2 ⟨rfl, rfl⟩
    go_wp2_with (refine wpList_store_row rfl 28 _ _ rfl (w.heap.size) _ rfl rfl _ _ hres2 (by kernel_rfl) (by rfl) (by simp [Value.oneCell']) ?_)
    refine bodyPost_ret (results_cell_row rfl _ _ (w.heap.size) _ _ _ _ rfl (setRow_heap _ _ _ _ _ _ hres2) Try.underlying28 rfl (by kernel_rfl)) rfl ?_
    exact pages_done hb2 (Nat.le_refl _) Own.nil _ HR.out
  have HW := Lib.hid hw
  obtain ⟨hm1, hm4⟩ := within_range hw
  rcases hw2 : within 0 ((n : Int) - m) [a] with _ | _
  · have HR := Lib.hid (show takeRun ps a m = (3, [], 0) by unfold takeRun; rw [if_pos hv, if_neg (by rw [HL.out, hw2]; simp)])
    have HW2 := Lib.hid hw2
    clear hv hw hw2
    go_enter Try.func19, Try.ntmps19
    go_wp2_with fail
    refine (pagesFault_calls (hT.alloc _) hS (by omega)).mono ?_
    rintro e w1 ⟨rfl, hb1⟩
    rw [HV.out]
    have hres := Row.new hb1
    have hb := below_past hb1
    have hlt := hres.lt
    have hres2 := (heap_alloc_old w1 (.cells #[.int .i64 m] 2) hlt).trans hres
    have hb2 := hb.alloc hb.size (.cells #[.int .i64 m] 2)
    have hT1 := ((hT.alloc (.cells #[.int .i64 0, .slice none 0 0, .int .i64 0] 28)).below hb1).alloc (.cells #[.int .i64 m] 2)
    clear hb1 hres hb
    go_wp2_with fail
    refine (allWithin_calls (Ints.one (by simp)) (by omega)).mono ?_
    rw [HW.out]
    rintro e w2 ⟨rfl, rfl⟩
    have hlt2 : w.heap.size < (w1.alloc (.cells #[.int .i64 m] 2)).heap.size := (Array.getElem?_eq_some_iff.1 hres2).1
    have hres3 := (heap_alloc_old _ (.cells #[.int .i64 a] 2) hlt2).trans hres2
    have hb3 := hb2.alloc hb2.size (.cells #[.int .i64 a] 2)
    have hT2 := hT1.alloc (.cells #[.int .i64 a] 2)
    clear hres2 hb2 hT1
    go_wp2_with fail
    refine (allWithin_calls (Ints.one (by simp)) (by omega)).mono ?_
    rw [HW2.out]
    rintro e w2 ⟨rfl, rfl⟩
    go_wp2_with (refine wpList_store_row rfl 28 _ _ rfl (w.heap.size) _ rfl rfl _ _ hres3 (by kernel_rfl) (by rfl) (by simp [Value.oneCell']) ?_)
    refine bodyPost_ret (results_cell_row rfl _ _ (w.heap.size) _ _ _ _ rfl (setRow_heap _ _ _ _ _ _ hres3) Try.underlying28 rfl (by kernel_rfl)) rfl ?_
    exact pages_done hb3 (Nat.le_refl _) Own.nil _ HR.out
  have HW2 := Lib.hid hw2
  obtain ⟨ha0, ham⟩ := within_range hw2
  have HR := Lib.hid (show takeRun ps a m = if freeN m.toNat (ps.drop a.toNat) = true then (0, putRun ps a.toNat m.toNat, a * 16) else (8, [], 0) by unfold takeRun; rw [if_pos hv, if_pos ⟨hw, by rw [HL.out]; exact hw2⟩])
  clear hv hw hw2
  obtain ⟨x, hx⟩ : ∃ x : Nat, a = x := ⟨a.toNat, by omega⟩
  subst hx
  obtain ⟨y, hy⟩ : ∃ y : Nat, m = y := ⟨m.toNat, by omega⟩
  subst hy
  simp only [Int.toNat_natCast] at HR
  have hxy : x + y ≤ n := by omega
  have hy0 : 0 < y := by omega
  have hy4 : y ≤ 4 := by omega
  obtain ⟨bb, off, hao, _, _⟩ := hT.lt (by omega)
  subst hao
  have hN : ((x : Int) + (y : Int)).toNat = x + y := by omega
  have hbx1 : (x : Int) ≤ (x : Int) + (y : Int) := by omega
  have hbx2 : (x : Int) + (y : Int) ≤ (cc : Int) := by omega
  have hkc : ¬ (cc = x) := by omega
  have hkc2 : ¬ (cc - x = 0) := by omega
  have hfr : freeN y ((ps.drop x).take y) = freeN y (ps.drop x) := freeN_take
  have hrf : runFrom y 0 ((ps.drop x).take y) = if freeN y (ps.drop x) = true then some 0 else none := by
    have hl : ((ps.drop x).take y).length = y := by rw [List.length_take, List.length_drop, HL.out]; omega
    by_cases h : freeN y (ps.drop x) = true
    · rw [if_pos h]
      have := runFrom_hit (m := y) (k := 0) (ps := (ps.drop x).take y) (by rw [List.drop_zero, hfr]; exact h) (by omega)
      rwa [List.drop_zero] at this
    · rw [if_neg h]
      have h' : freeN y (ps.drop x) = false := by simpa using h
      have := runFrom_skip1 (m := y) (k := 0) (ps := (ps.drop x).take y) (by rw [List.drop_zero, hfr]; exact h') (by omega)
      rw [List.drop_zero] at this
      rw [this]
      exact runFrom_short (by rw [List.length_drop]; omega)
  have HRF := Lib.hid hrf
  clear hfr hrf
  rcases hfx : freeN y (ps.drop x) with _ | _
  · have HR2 : Hid (takeRun ps x y = (8, [], 0)) := by show _ = _; rw [HR.out, hfx]; rfl
    go_enter Try.func19, Try.ntmps19
    go_wp2_with fail
    refine (pagesFault_calls (hT.alloc _) hS (by omega)).mono ?_
    rintro e w1 ⟨rfl, hb1⟩
    rw [HV.out]
    have hres := Row.new hb1
    have hb := below_past hb1
    have hlt := hres.lt
    have hres2 := (heap_alloc_old w1 (.cells #[.int .i64 y] 2) hlt).trans hres
    have hb2 := hb.alloc hb.size (.cells #[.int .i64 y] 2)
    have hT1 := ((hT.alloc (.cells #[.int .i64 0, .slice none 0 0, .int .i64 0] 28)).below hb1).alloc (.cells #[.int .i64 y] 2)
    clear hb1 hres hb
    go_wp2_with fail
    refine (allWithin_calls (Ints.one (by simp)) (by omega)).mono ?_
    rw [HW.out]
    rintro e w2 ⟨rfl, rfl⟩
    have hlt2 : w.heap.size < (w1.alloc (.cells #[.int .i64 y] 2)).heap.size := (Array.getElem?_eq_some_iff.1 hres2).1
    have hres3 := (heap_alloc_old _ (.cells #[.int .i64 x] 2) hlt2).trans hres2
    have hb3 := hb2.alloc hb2.size (.cells #[.int .i64 x] 2)
    have hT2 := hT1.alloc (.cells #[.int .i64 x] 2)
    clear hres2 hb2 hT1
    go_wp2_with fail
    refine (allWithin_calls (Ints.one (by simp)) (by omega)).mono ?_
    rw [HW2.out]
    rintro e w2 ⟨rfl, rfl⟩
    have hP := hT2.part (i := x) (m := y) (by omega)
    rw [KPage_sz] at hP
    go_wp2_with fail
    refine (freeRun_calls hP (by omega) (by unfold maxLen; omega) hy0 hy4).mono ?_
    rw [HRF.out, hfx]
    rintro e w5 ⟨rfl, hb5⟩
    have hres5 := Row.below hres3 hb5
    have hb6 := hb3.trans (hb5.mono hb3.size)
    have hT5 := hT2.below hb5
    clear hb5
    simp only [Bool.false_eq_true, if_false, runV]
    go_wp2_with (refine wpList_store_row rfl 28 _ _ rfl (w.heap.size) _ rfl rfl _ _ hres5 (by kernel_rfl) (by rfl) (by simp [Value.oneCell']) ?_)
    refine bodyPost_ret (results_cell_row rfl _ _ (w.heap.size) _ _ _ _ rfl (setRow_heap _ _ _ _ _ _ hres5) Try.underlying28 rfl (by kernel_rfl)) rfl ?_
    exact pages_done hb6 (Nat.le_refl _) Own.nil _ HR2.out
  · have HR2 : Hid (takeRun ps x y = (0, putRun ps x y, (x : Int) * 16)) := by show _ = _; rw [HR.out, hfx]; rfl
    go_enter Try.func19, Try.ntmps19
    go_wp2_with fail
    refine (pagesFault_calls (hT.alloc _) hS (by omega)).mono ?_
    rintro e w1 ⟨rfl, hb1⟩
    rw [HV.out]
    have hres := Row.new hb1
    have hb := below_past hb1
    have hlt := hres.lt
    have hres2 := (heap_alloc_old w1 (.cells #[.int .i64 y] 2) hlt).trans hres
    have hb2 := hb.alloc hb.size (.cells #[.int .i64 y] 2)
    have hT1 := ((hT.alloc (.cells #[.int .i64 0, .slice none 0 0, .int .i64 0] 28)).below hb1).alloc (.cells #[.int .i64 y] 2)
    clear hb1 hres hb
    go_wp2_with fail
    refine (allWithin_calls (Ints.one (by simp)) (by omega)).mono ?_
    rw [HW.out]
    rintro e w2 ⟨rfl, rfl⟩
    have hlt2 : w.heap.size < (w1.alloc (.cells #[.int .i64 y] 2)).heap.size := (Array.getElem?_eq_some_iff.1 hres2).1
    have hres3 := (heap_alloc_old _ (.cells #[.int .i64 x] 2) hlt2).trans hres2
    have hb3 := hb2.alloc hb2.size (.cells #[.int .i64 x] 2)
    have hT2 := hT1.alloc (.cells #[.int .i64 x] 2)
    clear hres2 hb2 hT1
    go_wp2_with fail
    refine (allWithin_calls (Ints.one (by simp)) (by omega)).mono ?_
    rw [HW2.out]
    rintro e w2 ⟨rfl, rfl⟩
    have hP := hT2.part (i := x) (m := y) (by omega)
    rw [KPage_sz] at hP
    go_wp2_with fail
    refine (freeRun_calls hP (by omega) (by unfold maxLen; omega) hy0 hy4).mono ?_
    rw [HRF.out, hfx]
    rintro e w5 ⟨rfl, hb5⟩
    have hres5 := Row.below hres3 hb5
    have hb6 := hb3.trans (hb5.mono hb3.size)
    have hT5 := hT2.below hb5
    clear hb5
    simp only [if_true, runV]
    have hlt5 := hres5.lt
    go_wp2_with fail
    refine (withRun_calls hT5 (pagesFault_short HV.out) hn40 hy0 hxy).mono ?_
    rintro e w7 ⟨v, q, rfl, hown, hb7⟩
    obtain ⟨vo, vc, rfl, _, _, _⟩ := hown.shape
    have hres7 := Row.below hres5 hb7
    have HM := Lib.hid (pages_into (r := (0, putRun ps x y, (x : Int) * 16)) hb6 hlt5 hown hb7)
    clear hown hb7
    go_wp2_with (refine wpList_store_row rfl 28 _ _ rfl w.heap.size _ rfl rfl _ _ hres7 (by kernel_rfl) (by rfl) (by simp [Value.oneCell']) ?_)
    refine bodyPost_ret (results_cell_row rfl _ _ w.heap.size _ _ _ _ rfl (setRow_heap _ _ _ _ _ _ hres7) Try.underlying28 rfl (by kernel_rfl)) rfl ?_
    rw [HR2.out]
    exact HM.out _

set_option maxHeartbeats 2000000 in
theorem dropBlock_calls {ao : Option Addr} {n cc : Nat} {at_ : Int} {ps : List Pg} {S : Nat → Prop} {w : World} (hT : Lst KPage w S ao n ps) (hS : ShortP 17592186044416 ps) (hn : n ≤ cc) (hc : cc ≤ 9223372036854775807) (hn4 : n ≤ 17592186044416) :
    Calls Try.prog 21 #[.slice ao n cc, .int .i64 at_] w (RetsPages w (dropBlock ps at_)) := by
  have HL := Lib.hid hT.1
  rcases hh : heldAt ps at_ with ⟨c, b⟩
  rcases b with _ | b
  · have HR : Hid (dropBlock ps at_ = (c, [], 0)) := by show _ = _; unfold dropBlock; rw [hh]
    have hq : (c != 0) = true := by
      by_cases hv : pagesFault ps = 0
      · have := held_code hv hh; simp; omega
      · unfold heldAt at hh; rw [if_neg hv] at hh; injection hh with h1 _; simp; omega
    go_enter Try.func21, Try.ntmps21
    go_wp2_with fail
    refine (heldAt_calls (hT.alloc _) hS hn hc hn4).mono ?_
    rw [hh]
    rintro e w1 ⟨rfl, hb1⟩
    have hres := Row.new hb1
    have hb := below_past hb1
    have hT1 := (hT.alloc (.cells #[.int .i64 0, .slice none 0 0, .int .i64 0] 28)).below hb1
    clear hb1
    simp only [heldV, blkO, blkV]
    go_wp2_with (refine wpList_store_row rfl 28 _ _ rfl (w.heap.size) _ rfl rfl _ _ hres (by kernel_rfl) (by rfl) (by simp [Value.oneCell']) ?_)
    refine bodyPost_ret (results_cell_row rfl _ _ (w.heap.size) _ _ _ _ rfl (setRow_heap _ _ _ _ _ _ hres) Try.underlying28 rfl (by kernel_rfl)) rfl ?_
    exact pages_done hb (Nat.le_refl _) Own.nil _ HR.out
  · by_cases hv : pagesFault ps = 0
    rotate_left
    · unfold heldAt at hh; rw [if_neg hv] at hh; cases hh
    have hc0 := (held_info hv hh).1
    subst hc0
    have hn40 : n ≤ 40 := by have := (pagesFault_ok hv).1; have := hT.1; omega
    have HSH := Lib.hid (pagesFault_short hv)
    rcases b with ⟨i, k, s⟩ | ⟨i, m⟩
    · obtain ⟨h0, h3, hi, hs⟩ := held_slot_small hv hh
      obtain ⟨p, hp, hk1, hsl⟩ : ∃ p, ps[i]? = some p ∧ p.kind = 1 ∧ s < p.used.length := by
        obtain ⟨_, _, _, hi'⟩ := held_info hv hh
        rcases hi' with ⟨i', k', s', p, he, hp, h1, _, _, _, hu, _⟩ | ⟨i', p, he, _⟩
        · injection he with e1 e2 e3
          subst e1 e2 e3
          exact ⟨p, hp, h1, (List.getElem?_eq_some_iff.1 hu).1⟩
        · cases he
      have HP := Lib.hid hp
      have HK := Lib.hid hk1
      clear hp hk1
      by_cases hst : (i : Int) * 16 + s * sizeW k = at_
      rotate_left
      · have HR : Hid (dropBlock ps at_ = (1, [], 0)) := by show _ = _; unfold dropBlock; rw [hh]; exact if_neg hst
        have hq : ((i : Int) * 16 + s * sizeW k != at_) = true := by simpa using hst
        clear hv hst
        go_enter Try.func21, Try.ntmps21
        go_wp2_with fail
        refine (heldAt_calls (hT.alloc _) hS hn hc hn4).mono ?_
        rw [hh]
        rintro e w1 ⟨rfl, hb1⟩
        have hres := Row.new hb1
        have hb := below_past hb1
        have hT1 := (hT.alloc (.cells #[.int .i64 0, .slice none 0 0, .int .i64 0] 28)).below hb1
        clear hb1
        simp only [heldV, blkO, blkV]
        go_wp2_with fail
        refine (slotStart_calls h0 h3 (by omega) hi (by omega) hs).mono ?_
        rintro e w2 ⟨rfl, hb2⟩
        have hres2 := Row.below hres hb2
        have hb3 := hb.trans (hb2.mono hb.size)
        have hT2 := hT1.below hb2
        clear hb2
        go_wp2_with (refine wpList_store_row rfl 28 _ _ rfl (w.heap.size) _ rfl rfl _ _ hres2 (by kernel_rfl) (by rfl) (by simp [Value.oneCell']) ?_)
        refine bodyPost_ret (results_cell_row rfl _ _ (w.heap.size) _ _ _ _ rfl (setRow_heap _ _ _ _ _ _ hres2) Try.underlying28 rfl (by kernel_rfl)) rfl ?_
        exact pages_done hb3 (Nat.le_refl _) Own.nil _ HR.out
      have HR : Hid (dropBlock ps at_ = (0, dropBlk ps (.slot i k s), at_)) := by show _ = _; unfold dropBlock; rw [hh]; exact if_pos hst
      have hq : ((i : Int) * 16 + s * sizeW k != at_) = false := by simpa using hst
      clear hv hst
      go_enter Try.func21, Try.ntmps21
      go_wp2_with fail
      refine (heldAt_calls (hT.alloc _) hS hn hc hn4).mono ?_
      rw [hh]
      rintro e w1 ⟨rfl, hb1⟩
      have hres := Row.new hb1
      have hb := below_past hb1
      have hT1 := (hT.alloc (.cells #[.int .i64 0, .slice none 0 0, .int .i64 0] 28)).below hb1
      clear hb1
      simp only [heldV, blkO, blkV]
      go_wp2_with fail
      refine (slotStart_calls h0 h3 (by omega) hi (by omega) hs).mono ?_
      rintro e w2 ⟨rfl, hb2⟩
      have hres2 := Row.below hres hb2
      have hb3 := hb.trans (hb2.mono hb.size)
      have hT2 := hT1.below hb2
      clear hb2
      have hlt2 := hres2.lt
      go_wp2_with fail
      refine (withoutSlot_calls hT2 HSH.out hn40 HP.out HK.out h0 h3 hsl).mono ?_
      rintro e w4 ⟨v, rfl, hown, hb4⟩
      obtain ⟨vo, vc, rfl, _, _, _⟩ := hown.shape
      have hres4 := Row.below hres2 hb4
      have HM := Lib.hid (And.intro (hb3.trans (hb4.mono hb3.size)) (hown.mono (S' := fun k => w.heap.size < k) (fun k hk _ => by omega)))
      clear hown hb4
      go_wp2_with (refine wpList_store_row rfl 28 _ _ rfl (w.heap.size) _ rfl rfl _ _ hres4 (by kernel_rfl) (by rfl) (by simp [Value.oneCell']) ?_)
      refine bodyPost_ret (results_cell_row rfl _ _ (w.heap.size) _ _ _ _ rfl (setRow_heap _ _ _ _ _ _ hres4) Try.underlying28 rfl (by kernel_rfl)) rfl ?_
      exact pages_done HM.out.1 (Nat.le_refl _) HM.out.2 _ HR.out
    · obtain ⟨hm1, hm4, him, hl40, p, hp, _, hpm⟩ := held_run_small hv hh
      obtain ⟨y, hy⟩ : ∃ y : Nat, m = y := ⟨m.toNat, by omega⟩
      subst hy
      have hyn : i + y ≤ n := by have := HL.out; omega
      clear hp hpm
      by_cases hst : (i : Int) * 16 = at_
      rotate_left
      · have HR : Hid (dropBlock ps at_ = (1, [], 0)) := by show _ = _; unfold dropBlock; rw [hh]; exact if_neg hst
        have hq : ((i : Int) * 16 != at_) = true := by simpa using hst
        clear hv hst
        go_enter Try.func21, Try.ntmps21
        go_wp2_with fail
        refine (heldAt_calls (hT.alloc _) hS hn hc hn4).mono ?_
        rw [hh]
        rintro e w1 ⟨rfl, hb1⟩
        have hres := Row.new hb1
        have hb := below_past hb1
        have hT1 := (hT.alloc (.cells #[.int .i64 0, .slice none 0 0, .int .i64 0] 28)).below hb1
        clear hb1
        simp only [heldV, blkO, blkV]
        go_wp2_with fail
        refine (runStart_calls (by omega) (by omega)).mono ?_
        rintro e w2 ⟨rfl, hb2⟩
        have hres2 := Row.below hres hb2
        have hb3 := hb.trans (hb2.mono hb.size)
        have hT2 := hT1.below hb2
        clear hb2
        go_wp2_with (refine wpList_store_row rfl 28 _ _ rfl (w.heap.size) _ rfl rfl _ _ hres2 (by kernel_rfl) (by rfl) (by simp [Value.oneCell']) ?_)
        refine bodyPost_ret (results_cell_row rfl _ _ (w.heap.size) _ _ _ _ rfl (setRow_heap _ _ _ _ _ _ hres2) Try.underlying28 rfl (by kernel_rfl)) rfl ?_
        exact pages_done hb3 (Nat.le_refl _) Own.nil _ HR.out
      have HR : Hid (dropBlock ps at_ = (0, setMany ps i Pg.free y, at_)) := by show _ = _; unfold dropBlock; rw [hh]; exact if_pos hst
      have hq : ((i : Int) * 16 != at_) = false := by simpa using hst
      clear hv hst
      go_enter Try.func21, Try.ntmps21
      go_wp2_with fail
      refine (heldAt_calls (hT.alloc _) hS hn hc hn4).mono ?_
      rw [hh]
      rintro e w1 ⟨rfl, hb1⟩
      have hres := Row.new hb1
      have hb := below_past hb1
      have hT1 := (hT.alloc (.cells #[.int .i64 0, .slice none 0 0, .int .i64 0] 28)).below hb1
      clear hb1
      simp only [heldV, blkO, blkV]
      go_wp2_with fail
      refine (runStart_calls (by omega) (by omega)).mono ?_
      rintro e w2 ⟨rfl, hb2⟩
      have hres2 := Row.below hres hb2
      have hb3 := hb.trans (hb2.mono hb.size)
      have hT2 := hT1.below hb2
      clear hb2
      have hlt2 := hres2.lt
      go_wp2_with fail
      refine (withoutRun_calls hT2 HSH.out hn40 hyn).mono ?_
      rintro e w4 ⟨v, rfl, hown, hb4⟩
      obtain ⟨vo, vc, rfl, _, _, _⟩ := hown.shape
      have hres4 := Row.below hres2 hb4
      have HM := Lib.hid (And.intro (hb3.trans (hb4.mono hb3.size)) (hown.mono (S' := fun k => w.heap.size < k) (fun k hk _ => by omega)))
      clear hown hb4
      go_wp2_with (refine wpList_store_row rfl 28 _ _ rfl (w.heap.size) _ rfl rfl _ _ hres4 (by kernel_rfl) (by rfl) (by simp [Value.oneCell']) ?_)
      refine bodyPost_ret (results_cell_row rfl _ _ (w.heap.size) _ _ _ _ rfl (setRow_heap _ _ _ _ _ _ hres4) Try.underlying28 rfl (by kernel_rfl)) rfl ?_
      exact pages_done HM.out.1 (Nat.le_refl _) HM.out.2 _ HR.out
end Go.Proofs.Ytkikjoalhohlgaa
