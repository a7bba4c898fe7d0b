/- Joined texts (Impl4g, Spec4j, Law4, Law4b, Rough4, Facts4, Facts4b, Facts5, Impl5): steps of the proofs of chapter 5's laws. -/
import Derived.Test.YthpamclljdcjpaaGreatDoorM2
import Derived.Test.YthpamclljdcjpaaGreatDoorM3
import Derived.Test.YthpamclljdcjpaaGreatDoorM5
import Derived.Test.YthpamclljdcjpaaGreatDoorM6
import Derived.Test.YthpamclljdcjpaaGreatDoorM7
set_option linter.unusedVariables false
set_option linter.unusedSimpArgs false
/- Chapter 4 of the program: its exported functions that answer pages. -/
namespace Go.Proofs.YthpamclljdcjpaaGreatDoor
open Go.RowKit

/-- What a call that answers pages has made, laid in the caller's result. -/
theorem pages_into {w w1 w2 : World} {r : Int × List Pg × Int} {v : Value} {n : Nat} (hb : Below w.heap.size w w1) (hs : w.heap.size < w1.heap.size) (hv : Own KPage 137 w2 (fun k => w1.heap.size ≤ k) v n r.2.1) (hb2 : Below w1.heap.size w1 w2) (cs : Array Value) :
    RetsPages w r (.returned (.agg #[.int .i64 r.1, v, .int .i64 r.2.2])) (w2.setRow w.heap.size cs) :=
  pages_done (hb.trans (hb2.mono hb.size)) (Nat.le_refl _) (hv.mono (fun k hk _ => by omega)) cs rfl

theorem withFound_calls {a : Option Addr} {n cc i s : Nat} {c : Int} {ps : List Pg} {S : Nat → Prop} {w : World} (hT : Lst KPage w S a n ps) (hv : pagesFault ps = 0) (hc0 : 0 ≤ c) (hc3 : c ≤ 3) (hf : slotFor ps c = some (i, s)) :
    Calls Tryz.prog 251 #[.slice a n cc, .iface 206 (.agg #[.int .i64 i, .int .i64 c, .int .i64 s])] w (RetsPages w (0, putSlot ps c i s, (i : Int) * 16 + s * sizeW c)) := by
  have hn : n ≤ 40 := by have := (pagesFault_ok hv).1; have := hT.1; omega
  obtain ⟨p, hp, ⟨h1, h2, h3⟩ | ⟨h1, rfl⟩⟩ := slotFor_some hf
  · exact withSlot_calls hT (pagesFault_short hv) hn hp h1 hc0 hc3 (List.getElem?_eq_some_iff.1 h3).1
  · have := withFree_calls (cc := cc) hT (pagesFault_short hv) hn hp h1 hc0 hc3
    simpa using this

set_option maxHeartbeats 1000000 in
theorem findSlot_calls {ao : Option Addr} {n cc : Nat} {c : Int} {ps : List Pg} {S : Nat → Prop} {w : World} (hT : Lst KPage w S ao n ps) (hS : ShortP 17592186044416 ps) (hn : n ≤ cc) (hc : cc ≤ 9223372036854775807) (hn4 : n ≤ 17592186044416) :
    Calls Tryz.prog 236 #[.slice ao n cc, .int .i64 c] w (RetsPages w (findSlot ps c)) := by
  by_cases hv : pagesFault ps = 0
  rotate_left
  · have HR := Lib.hid (show findSlot ps c = (pagesFault ps, [], 0) by unfold findSlot; rw [if_neg hv])
    have hq : (pagesFault ps != 0) = true := by simpa using hv
    clear hv
    go_enter Tryz.func236, Tryz.ntmps236
    go_wp2_with fail
    refine (pagesFault_calls (hT.alloc _) hS (by omega)).mono ?_
    rintro e w1 ⟨rfl, hb1⟩
    have hres := Row.new hb1
    have hb := below_past hb1
    go_wp2_with (refine wpList_store_row rfl 55 _ _ rfl (w.heap.size) _ rfl rfl _ _ hres (by kernel_rfl) (by rfl) (by simp [Value.oneCell']) ?_)
    refine bodyPost_ret (results_cell_row rfl _ _ (w.heap.size) _ _ _ _ rfl (setRow_heap _ _ _ _ _ _ hres) Tryz.underlying55 rfl (by kernel_rfl)) rfl ?_
    exact pages_done hb (Nat.le_refl _) Own.nil _ HR.out
  have HV := Lib.hid hv
  rcases hw : within 0 3 [c] with _ | _
  · have HR := Lib.hid (show findSlot ps c = (3, [], 0) by unfold findSlot; rw [if_pos hv, hw]; rfl)
    have HW := Lib.hid hw
    clear hv hw
    go_enter Tryz.func236, Tryz.ntmps236
    go_wp2_with fail
    refine (pagesFault_calls (hT.alloc _) hS (by omega)).mono ?_
    rintro e w1 ⟨rfl, hb1⟩
    rw [HV.out]
    have hres := Row.new hb1
    have hb := below_past hb1
    have hlt := hres.lt
    have hres2 := (heap_alloc_old w1 (.cells #[.int .i64 c] 2) hlt).trans hres
    have hb2 := hb.alloc hb.size (.cells #[.int .i64 c] 2)
    have hT1 := ((hT.alloc (.cells #[.int .i64 0, .slice none 0 0, .int .i64 0] 55)).below hb1).alloc (.cells #[.int .i64 c] 2)
    clear hb1 hres hb
    go_wp2_with fail
    refine (allWithin_calls (Ints.one (by simp)) (by omega)).mono ?_
    rw [HW.out]
    rintro e w2 ⟨rfl, rfl⟩
    go_wp2_with (refine wpList_store_row rfl 55 _ _ rfl (w.heap.size) _ rfl rfl _ _ hres2 (by kernel_rfl) (by rfl) (by simp [Value.oneCell']) ?_)
    refine bodyPost_ret (results_cell_row rfl _ _ (w.heap.size) _ _ _ _ rfl (setRow_heap _ _ _ _ _ _ hres2) Tryz.underlying55 rfl (by kernel_rfl)) rfl ?_
    exact pages_done hb2 (Nat.le_refl _) Own.nil _ HR.out
  have HW := Lib.hid hw
  obtain ⟨hc0, hc3⟩ := within_range hw
  rcases hf : slotFor ps c with _ | ⟨i, s⟩
  · have HR := Lib.hid (show findSlot ps c = (7, [], 0) by unfold findSlot; rw [if_pos hv, if_pos hw, hf])
    clear hv hw
    go_enter Tryz.func236, Tryz.ntmps236
    go_wp2_with fail
    refine (pagesFault_calls (hT.alloc _) hS (by omega)).mono ?_
    rintro e w1 ⟨rfl, hb1⟩
    rw [HV.out]
    have hres := Row.new hb1
    have hb := below_past hb1
    have hlt := hres.lt
    have hres2 := (heap_alloc_old w1 (.cells #[.int .i64 c] 2) hlt).trans hres
    have hb2 := hb.alloc hb.size (.cells #[.int .i64 c] 2)
    have hT1 := ((hT.alloc (.cells #[.int .i64 0, .slice none 0 0, .int .i64 0] 55)).below hb1).alloc (.cells #[.int .i64 c] 2)
    clear hb1 hres hb
    go_wp2_with fail
    refine (allWithin_calls (Ints.one (by simp)) (by omega)).mono ?_
    rw [HW.out]
    rintro e w2 ⟨rfl, rfl⟩
    go_wp2_with fail
    refine (slotFor_calls hT1 hS (by omega)).mono ?_
    rw [hf]
    rintro e w3 ⟨rfl, hb3⟩
    have hres3 := Row.below (w := w1.alloc _) hres2 hb3
    have hb4 := hb2.trans (hb3.mono hb2.size)
    have hT3 := hT1.below hb3
    clear hb3
    simp only [fv, Option.map_none, blkO]
    go_wp2_with (refine wpList_store_row rfl 55 _ _ rfl (w.heap.size) _ rfl rfl _ _ hres3 (by kernel_rfl) (by rfl) (by simp [Value.oneCell']) ?_)
    refine bodyPost_ret (results_cell_row rfl _ _ (w.heap.size) _ _ _ _ rfl (setRow_heap _ _ _ _ _ _ hres3) Tryz.underlying55 rfl (by kernel_rfl)) rfl ?_
    exact pages_done hb4 (Nat.le_refl _) Own.nil _ HR.out
  · have HR := Lib.hid (show findSlot ps c = (0, putSlot ps c i s, (i : Int) * 16 + s * sizeW c) by unfold findSlot; rw [if_pos hv, if_pos hw, hf])
    clear hv hw
    go_enter Tryz.func236, Tryz.ntmps236
    go_wp2_with fail
    refine (pagesFault_calls (hT.alloc _) hS (by omega)).mono ?_
    rintro e w1 ⟨rfl, hb1⟩
    rw [HV.out]
    have hres := Row.new hb1
    have hb := below_past hb1
    have hlt := hres.lt
    have hres2 := (heap_alloc_old w1 (.cells #[.int .i64 c] 2) hlt).trans hres
    have hb2 := hb.alloc hb.size (.cells #[.int .i64 c] 2)
    have hT1 := ((hT.alloc (.cells #[.int .i64 0, .slice none 0 0, .int .i64 0] 55)).below hb1).alloc (.cells #[.int .i64 c] 2)
    clear hb1 hres hb
    go_wp2_with fail
    refine (allWithin_calls (Ints.one (by simp)) (by omega)).mono ?_
    rw [HW.out]
    rintro e w2 ⟨rfl, rfl⟩
    go_wp2_with fail
    refine (slotFor_calls hT1 hS (by omega)).mono ?_
    rw [hf]
    rintro e w3 ⟨rfl, hb3⟩
    have hres3 := Row.below (w := w1.alloc _) hres2 hb3
    have hb4 := hb2.trans (hb3.mono hb2.size)
    have hT3 := hT1.below hb3
    clear hb3
    simp only [fv, Option.map_some, blkO, blkV]
    have hlt3 := hres3.lt
    go_wp2_with fail
    refine (withFound_calls hT3 HV.out hc0 hc3 hf).mono ?_
    rintro e w5 ⟨v, m, rfl, hown, hb5⟩
    obtain ⟨vo, vc, rfl, _, _, _⟩ := hown.shape
    have hres5 := Row.below hres3 hb5
    have HM := Lib.hid (pages_into (r := (0, putSlot ps c i s, (i : Int) * 16 + s * sizeW c)) hb4 hlt3 hown hb5)
    clear hown hb5
    go_wp2_with (refine wpList_store_row rfl 55 _ _ rfl w.heap.size _ rfl rfl _ _ hres5 (by kernel_rfl) (by rfl) (by simp [Value.oneCell']) ?_)
    refine bodyPost_ret (results_cell_row rfl _ _ w.heap.size _ _ _ _ rfl (setRow_heap _ _ _ _ _ _ hres5) Tryz.underlying55 rfl (by kernel_rfl)) rfl ?_
    rw [HR.out]
    exact HM.out _

set_option maxHeartbeats 2000000 in
theorem takeRun_calls {ao : Option Addr} {n cc : Nat} {a m : Int} {ps : List Pg} {S : Nat → Prop} {w : World} (hT : Lst KPage w S ao n ps) (hS : ShortP 17592186044416 ps) (hn : n ≤ cc) (hc : cc ≤ 9223372036854775807) (hn4 : n ≤ 17592186044416) :
    Calls Tryz.prog 239 #[.slice ao n cc, .int .i64 a, .int .i64 m] w (RetsPages w (takeRun ps a m)) := by
  have HL := Lib.hid hT.1
  by_cases hv : pagesFault ps = 0
  rotate_left
  · have HR := Lib.hid (show takeRun ps a m = (pagesFault ps, [], 0) by unfold takeRun; rw [if_neg hv])
    have hq : (pagesFault ps != 0) = true := by simpa using hv
    clear hv
    go_enter Tryz.func239, Tryz.ntmps239
    go_wp2_with fail
    refine (pagesFault_calls (hT.alloc _) hS (by omega)).mono ?_
    rintro e w1 ⟨rfl, hb1⟩
    have hres := Row.new hb1
    have hb := below_past hb1
    go_wp2_with (refine wpList_store_row rfl 55 _ _ rfl (w.heap.size) _ rfl rfl _ _ hres (by kernel_rfl) (by rfl) (by simp [Value.oneCell']) ?_)
    refine bodyPost_ret (results_cell_row rfl _ _ (w.heap.size) _ _ _ _ rfl (setRow_heap _ _ _ _ _ _ hres) Tryz.underlying55 rfl (by kernel_rfl)) rfl ?_
    exact pages_done hb (Nat.le_refl _) Own.nil _ HR.out
  have HV := Lib.hid hv
  have hn40 : n ≤ 40 := by have := (pagesFault_ok hv).1; have := hT.1; omega
  rcases hw : within 1 4 [m] with _ | _
  · have HR := Lib.hid (show takeRun ps a m = (3, [], 0) by unfold takeRun; rw [if_pos hv, if_neg (by rw [hw]; simp)])
    have HW := Lib.hid hw
    clear hv hw
    go_enter Tryz.func239, Tryz.ntmps239
    go_wp2_with fail
    refine (pagesFault_calls (hT.alloc _) hS (by omega)).mono ?_
    rintro e w1 ⟨rfl, hb1⟩
    rw [HV.out]
    have hres := Row.new hb1
    have hb := below_past hb1
    have hlt := hres.lt
    have hres2 := (heap_alloc_old w1 (.cells #[.int .i64 m] 2) hlt).trans hres
    have hb2 := hb.alloc hb.size (.cells #[.int .i64 m] 2)
    have hT1 := ((hT.alloc (.cells #[.int .i64 0, .slice none 0 0, .int .i64 0] 55)).below hb1).alloc (.cells #[.int .i64 m] 2)
    clear hb1 hres hb
    go_wp2_with fail
    refine (allWithin_calls (Ints.one (by simp)) (by omega)).mono ?_
    rw [HW.out]
    rintro e w2 ⟨rfl, rfl⟩
    go_wp2_with (refine wpList_store_row rfl 55 _ _ rfl (w.heap.size) _ rfl rfl _ _ hres2 (by kernel_rfl) (by rfl) (by simp [Value.oneCell']) ?_)
    refine bodyPost_ret (results_cell_row rfl _ _ (w.heap.size) _ _ _ _ rfl (setRow_heap _ _ _ _ _ _ hres2) Tryz.underlying55 rfl (by kernel_rfl)) rfl ?_
    exact pages_done hb2 (Nat.le_refl _) Own.nil _ HR.out
  have HW := Lib.hid hw
  obtain ⟨hm1, hm4⟩ := within_range hw
  rcases hw2 : within 0 ((n : Int) - m) [a] with _ | _
  · have HR := Lib.hid (show takeRun ps a m = (3, [], 0) by unfold takeRun; rw [if_pos hv, if_neg (by rw [HL.out, hw2]; simp)])
    have HW2 := Lib.hid hw2
    clear hv hw hw2
    go_enter Tryz.func239, Tryz.ntmps239
    go_wp2_with fail
    refine (pagesFault_calls (hT.alloc _) hS (by omega)).mono ?_
    rintro e w1 ⟨rfl, hb1⟩
    rw [HV.out]
    have hres := Row.new hb1
    have hb := below_past hb1
    have hlt := hres.lt
    have hres2 := (heap_alloc_old w1 (.cells #[.int .i64 m] 2) hlt).trans hres
    have hb2 := hb.alloc hb.size (.cells #[.int .i64 m] 2)
    have hT1 := ((hT.alloc (.cells #[.int .i64 0, .slice none 0 0, .int .i64 0] 55)).below hb1).alloc (.cells #[.int .i64 m] 2)
    clear hb1 hres hb
    go_wp2_with fail
    refine (allWithin_calls (Ints.one (by simp)) (by omega)).mono ?_
    rw [HW.out]
    rintro e w2 ⟨rfl, rfl⟩
    have hlt2 : w.heap.size < (w1.alloc (.cells #[.int .i64 m] 2)).heap.size := (Array.getElem?_eq_some_iff.1 hres2).1
    have hres3 := (heap_alloc_old _ (.cells #[.int .i64 a] 2) hlt2).trans hres2
    have hb3 := hb2.alloc hb2.size (.cells #[.int .i64 a] 2)
    have hT2 := hT1.alloc (.cells #[.int .i64 a] 2)
    clear hres2 hb2 hT1
    go_wp2_with fail
    refine (allWithin_calls (Ints.one (by simp)) (by omega)).mono ?_
    rw [HW2.out]
    rintro e w2 ⟨rfl, rfl⟩
    go_wp2_with (refine wpList_store_row rfl 55 _ _ rfl (w.heap.size) _ rfl rfl _ _ hres3 (by kernel_rfl) (by rfl) (by simp [Value.oneCell']) ?_)
    refine bodyPost_ret (results_cell_row rfl _ _ (w.heap.size) _ _ _ _ rfl (setRow_heap _ _ _ _ _ _ hres3) Tryz.underlying55 rfl (by kernel_rfl)) rfl ?_
    exact pages_done hb3 (Nat.le_refl _) Own.nil _ HR.out
  have HW2 := Lib.hid hw2
  obtain ⟨ha0, ham⟩ := within_range hw2
  have HR := Lib.hid (show takeRun ps a m = if freeN m.toNat (ps.drop a.toNat) = true then (0, putRun ps a.toNat m.toNat, a * 16) else (8, [], 0) by unfold takeRun; rw [if_pos hv, if_pos ⟨hw, by rw [HL.out]; exact hw2⟩])
  clear hv hw hw2
  obtain ⟨x, hx⟩ : ∃ x : Nat, a = x := ⟨a.toNat, by omega⟩
  subst hx
  obtain ⟨y, hy⟩ : ∃ y : Nat, m = y := ⟨m.toNat, by omega⟩
  subst hy
  simp only [Int.toNat_natCast] at HR
  have hxy : x + y ≤ n := by omega
  have hy0 : 0 < y := by omega
  have hy4 : y ≤ 4 := by omega
  obtain ⟨bb, off, hao, _, _⟩ := hT.lt (by omega)
  subst hao
  have hN : ((x : Int) + (y : Int)).toNat = x + y := by omega
  have hbx1 : (x : Int) ≤ (x : Int) + (y : Int) := by omega
  have hbx2 : (x : Int) + (y : Int) ≤ (cc : Int) := by omega
  have hkc : ¬ (cc = x) := by omega
  have hkc2 : ¬ (cc - x = 0) := by omega
  have hfr : freeN y ((ps.drop x).take y) = freeN y (ps.drop x) := freeN_take
  have hrf : runFrom y 0 ((ps.drop x).take y) = if freeN y (ps.drop x) = true then some 0 else none := by
    have hl : ((ps.drop x).take y).length = y := by rw [List.length_take, List.length_drop, HL.out]; omega
    by_cases h : freeN y (ps.drop x) = true
    · rw [if_pos h]
      have := runFrom_hit (m := y) (k := 0) (ps := (ps.drop x).take y) (by rw [List.drop_zero, hfr]; exact h) (by omega)
      rwa [List.drop_zero] at this
    · rw [if_neg h]
      have h' : freeN y (ps.drop x) = false := by simpa using h
      have := runFrom_skip1 (m := y) (k := 0) (ps := (ps.drop x).take y) (by rw [List.drop_zero, hfr]; exact h') (by omega)
      rw [List.drop_zero] at this
      rw [this]
      exact runFrom_short (by rw [List.length_drop]; omega)
  have HRF := Lib.hid hrf
  clear hfr hrf
  rcases hfx : freeN y (ps.drop x) with _ | _
  · have HR2 : Hid (takeRun ps x y = (8, [], 0)) := by show _ = _; rw [HR.out, hfx]; rfl
    go_enter Tryz.func239, Tryz.ntmps239
    go_wp2_with fail
    refine (pagesFault_calls (hT.alloc _) hS (by omega)).mono ?_
    rintro e w1 ⟨rfl, hb1⟩
    rw [HV.out]
    have hres := Row.new hb1
    have hb := below_past hb1
    have hlt := hres.lt
    have hres2 := (heap_alloc_old w1 (.cells #[.int .i64 y] 2) hlt).trans hres
    have hb2 := hb.alloc hb.size (.cells #[.int .i64 y] 2)
    have hT1 := ((hT.alloc (.cells #[.int .i64 0, .slice none 0 0, .int .i64 0] 55)).below hb1).alloc (.cells #[.int .i64 y] 2)
    clear hb1 hres hb
    go_wp2_with fail
    refine (allWithin_calls (Ints.one (by simp)) (by omega)).mono ?_
    rw [HW.out]
    rintro e w2 ⟨rfl, rfl⟩
    have hlt2 : w.heap.size < (w1.alloc (.cells #[.int .i64 y] 2)).heap.size := (Array.getElem?_eq_some_iff.1 hres2).1
    have hres3 := (heap_alloc_old _ (.cells #[.int .i64 x] 2) hlt2).trans hres2
    have hb3 := hb2.alloc hb2.size (.cells #[.int .i64 x] 2)
    have hT2 := hT1.alloc (.cells #[.int .i64 x] 2)
    clear hres2 hb2 hT1
    go_wp2_with fail
    refine (allWithin_calls (Ints.one (by simp)) (by omega)).mono ?_
    rw [HW2.out]
    rintro e w2 ⟨rfl, rfl⟩
    have hP := hT2.part (i := x) (m := y) (by omega)
    rw [KPage_sz] at hP
    go_wp2_with fail
    refine (freeRun_calls hP (by omega) (by unfold maxLen; omega) hy0 hy4).mono ?_
    rw [HRF.out, hfx]
    rintro e w5 ⟨rfl, hb5⟩
    have hres5 := Row.below hres3 hb5
    have hb6 := hb3.trans (hb5.mono hb3.size)
    have hT5 := hT2.below hb5
    clear hb5
    simp only [Bool.false_eq_true, if_false, runV]
    go_wp2_with (refine wpList_store_row rfl 55 _ _ rfl (w.heap.size) _ rfl rfl _ _ hres5 (by kernel_rfl) (by rfl) (by simp [Value.oneCell']) ?_)
    refine bodyPost_ret (results_cell_row rfl _ _ (w.heap.size) _ _ _ _ rfl (setRow_heap _ _ _ _ _ _ hres5) Tryz.underlying55 rfl (by kernel_rfl)) rfl ?_
    exact pages_done hb6 (Nat.le_refl _) Own.nil _ HR2.out
  · have HR2 : Hid (takeRun ps x y = (0, putRun ps x y, (x : Int) * 16)) := by show _ = _; rw [HR.out, hfx]; rfl
    go_enter Tryz.func239, Tryz.ntmps239
    go_wp2_with fail
    refine (pagesFault_calls (hT.alloc _) hS (by omega)).mono ?_
    rintro e w1 ⟨rfl, hb1⟩
    rw [HV.out]
    have hres := Row.new hb1
    have hb := below_past hb1
    have hlt := hres.lt
    have hres2 := (heap_alloc_old w1 (.cells #[.int .i64 y] 2) hlt).trans hres
    have hb2 := hb.alloc hb.size (.cells #[.int .i64 y] 2)
    have hT1 := ((hT.alloc (.cells #[.int .i64 0, .slice none 0 0, .int .i64 0] 55)).below hb1).alloc (.cells #[.int .i64 y] 2)
    clear hb1 hres hb
    go_wp2_with fail
    refine (allWithin_calls (Ints.one (by simp)) (by omega)).mono ?_
    rw [HW.out]
    rintro e w2 ⟨rfl, rfl⟩
    have hlt2 : w.heap.size < (w1.alloc (.cells #[.int .i64 y] 2)).heap.size := (Array.getElem?_eq_some_iff.1 hres2).1
    have hres3 := (heap_alloc_old _ (.cells #[.int .i64 x] 2) hlt2).trans hres2
    have hb3 := hb2.alloc hb2.size (.cells #[.int .i64 x] 2)
    have hT2 := hT1.alloc (.cells #[.int .i64 x] 2)
    clear hres2 hb2 hT1
    go_wp2_with fail
    refine (allWithin_calls (Ints.one (by simp)) (by omega)).mono ?_
    rw [HW2.out]
    rintro e w2 ⟨rfl, rfl⟩
    have hP := hT2.part (i := x) (m := y) (by omega)
    rw [KPage_sz] at hP
    go_wp2_with fail
    refine (freeRun_calls hP (by omega) (by unfold maxLen; omega) hy0 hy4).mono ?_
    rw [HRF.out, hfx]
    rintro e w5 ⟨rfl, hb5⟩
    have hres5 := Row.below hres3 hb5
    have hb6 := hb3.trans (hb5.mono hb3.size)
    have hT5 := hT2.below hb5
    clear hb5
    simp only [if_true, runV]
    have hlt5 := hres5.lt
    go_wp2_with fail
    refine (withRun_calls hT5 (pagesFault_short HV.out) hn40 hy0 hxy).mono ?_
    rintro e w7 ⟨v, q, rfl, hown, hb7⟩
    obtain ⟨vo, vc, rfl, _, _, _⟩ := hown.shape
    have hres7 := Row.below hres5 hb7
    have HM := Lib.hid (pages_into (r := (0, putRun ps x y, (x : Int) * 16)) hb6 hlt5 hown hb7)
    clear hown hb7
    go_wp2_with (refine wpList_store_row rfl 55 _ _ rfl w.heap.size _ rfl rfl _ _ hres7 (by kernel_rfl) (by rfl) (by simp [Value.oneCell']) ?_)
    refine bodyPost_ret (results_cell_row rfl _ _ w.heap.size _ _ _ _ rfl (setRow_heap _ _ _ _ _ _ hres7) Tryz.underlying55 rfl (by kernel_rfl)) rfl ?_
    rw [HR2.out]
    exact HM.out _

set_option maxHeartbeats 2000000 in
theorem dropBlock_calls {ao : Option Addr} {n cc : Nat} {at_ : Int} {ps : List Pg} {S : Nat → Prop} {w : World} (hT : Lst KPage w S ao n ps) (hS : ShortP 17592186044416 ps) (hn : n ≤ cc) (hc : cc ≤ 9223372036854775807) (hn4 : n ≤ 17592186044416) :
    Calls Tryz.prog 207 #[.slice ao n cc, .int .i64 at_] w (RetsPages w (dropBlock ps at_)) := by
  have HL := Lib.hid hT.1
  rcases hh : heldAt ps at_ with ⟨c, b⟩
  rcases b with _ | b
  · have HR : Hid (dropBlock ps at_ = (c, [], 0)) := by show _ = _; unfold dropBlock; rw [hh]
    have hq : (c != 0) = true := by
      by_cases hv : pagesFault ps = 0
      · have := held_code hv hh; simp; omega
      · unfold heldAt at hh; rw [if_neg hv] at hh; injection hh with h1 _; simp; omega
    go_enter Tryz.func207, Tryz.ntmps207
    go_wp2_with fail
    refine (heldAt_calls (hT.alloc _) hS hn hc hn4).mono ?_
    rw [hh]
    rintro e w1 ⟨rfl, hb1⟩
    have hres := Row.new hb1
    have hb := below_past hb1
    have hT1 := (hT.alloc (.cells #[.int .i64 0, .slice none 0 0, .int .i64 0] 55)).below hb1
    clear hb1
    simp only [heldV, blkO, blkV]
    go_wp2_with (refine wpList_store_row rfl 55 _ _ rfl (w.heap.size) _ rfl rfl _ _ hres (by kernel_rfl) (by rfl) (by simp [Value.oneCell']) ?_)
    refine bodyPost_ret (results_cell_row rfl _ _ (w.heap.size) _ _ _ _ rfl (setRow_heap _ _ _ _ _ _ hres) Tryz.underlying55 rfl (by kernel_rfl)) rfl ?_
    exact pages_done hb (Nat.le_refl _) Own.nil _ HR.out
  · by_cases hv : pagesFault ps = 0
    rotate_left
    · unfold heldAt at hh; rw [if_neg hv] at hh; cases hh
    have hc0 := (held_info hv hh).1
    subst hc0
    have hn40 : n ≤ 40 := by have := (pagesFault_ok hv).1; have := hT.1; omega
    have HSH := Lib.hid (pagesFault_short hv)
    rcases b with ⟨i, k, s⟩ | ⟨i, m⟩
    · obtain ⟨h0, h3, hi, hs⟩ := held_slot_small hv hh
      obtain ⟨p, hp, hk1, hsl⟩ : ∃ p, ps[i]? = some p ∧ p.kind = 1 ∧ s < p.used.length := by
        obtain ⟨_, _, _, hi'⟩ := held_info hv hh
        rcases hi' with ⟨i', k', s', p, he, hp, h1, _, _, _, hu, _⟩ | ⟨i', p, he, _⟩
        · injection he with e1 e2 e3
          subst e1 e2 e3
          exact ⟨p, hp, h1, (List.getElem?_eq_some_iff.1 hu).1⟩
        · cases he
      have HP := Lib.hid hp
      have HK := Lib.hid hk1
      clear hp hk1
      by_cases hst : (i : Int) * 16 + s * sizeW k = at_
      rotate_left
      · have HR : Hid (dropBlock ps at_ = (1, [], 0)) := by show _ = _; unfold dropBlock; rw [hh]; exact if_neg hst
        have hq : ((i : Int) * 16 + s * sizeW k != at_) = true := by simpa using hst
        clear hv hst
        go_enter Tryz.func207, Tryz.ntmps207
        go_wp2_with fail
        refine (heldAt_calls (hT.alloc _) hS hn hc hn4).mono ?_
        rw [hh]
        rintro e w1 ⟨rfl, hb1⟩
        have hres := Row.new hb1
        have hb := below_past hb1
        have hT1 := (hT.alloc (.cells #[.int .i64 0, .slice none 0 0, .int .i64 0] 55)).below hb1
        clear hb1
        simp only [heldV, blkO, blkV]
        go_wp2_with fail
        refine (slotStart_calls h0 h3 (by omega) hi (by omega) hs).mono ?_
        rintro e w2 ⟨rfl, hb2⟩
        have hres2 := Row.below hres hb2
        have hb3 := hb.trans (hb2.mono hb.size)
        have hT2 := hT1.below hb2
        clear hb2
        go_wp2_with (refine wpList_store_row rfl 55 _ _ rfl (w.heap.size) _ rfl rfl _ _ hres2 (by kernel_rfl) (by rfl) (by simp [Value.oneCell']) ?_)
        refine bodyPost_ret (results_cell_row rfl _ _ (w.heap.size) _ _ _ _ rfl (setRow_heap _ _ _ _ _ _ hres2) Tryz.underlying55 rfl (by kernel_rfl)) rfl ?_
        exact pages_done hb3 (Nat.le_refl _) Own.nil _ HR.out
      have HR : Hid (dropBlock ps at_ = (0, dropBlk ps (.slot i k s), at_)) := by show _ = _; unfold dropBlock; rw [hh]; exact if_pos hst
      have hq : ((i : Int) * 16 + s * sizeW k != at_) = false := by simpa using hst
      clear hv hst
      go_enter Tryz.func207, Tryz.ntmps207
      go_wp2_with fail
      refine (heldAt_calls (hT.alloc _) hS hn hc hn4).mono ?_
      rw [hh]
      rintro e w1 ⟨rfl, hb1⟩
      have hres := Row.new hb1
      have hb := below_past hb1
      have hT1 := (hT.alloc (.cells #[.int .i64 0, .slice none 0 0, .int .i64 0] 55)).below hb1
      clear hb1
      simp only [heldV, blkO, blkV]
      go_wp2_with fail
      refine (slotStart_calls h0 h3 (by omega) hi (by omega) hs).mono ?_
      rintro e w2 ⟨rfl, hb2⟩
      have hres2 := Row.below hres hb2
      have hb3 := hb.trans (hb2.mono hb.size)
      have hT2 := hT1.below hb2
      clear hb2
      have hlt2 := hres2.lt
      go_wp2_with fail
      refine (withoutSlot_calls hT2 HSH.out hn40 HP.out HK.out h0 h3 hsl).mono ?_
      rintro e w4 ⟨v, rfl, hown, hb4⟩
      obtain ⟨vo, vc, rfl, _, _, _⟩ := hown.shape
      have hres4 := Row.below hres2 hb4
      have HM := Lib.hid (And.intro (hb3.trans (hb4.mono hb3.size)) (hown.mono (S' := fun k => w.heap.size < k) (fun k hk _ => by omega)))
      clear hown hb4
      go_wp2_with (refine wpList_store_row rfl 55 _ _ rfl (w.heap.size) _ rfl rfl _ _ hres4 (by kernel_rfl) (by rfl) (by simp [Value.oneCell']) ?_)
      refine bodyPost_ret (results_cell_row rfl _ _ (w.heap.size) _ _ _ _ rfl (setRow_heap _ _ _ _ _ _ hres4) Tryz.underlying55 rfl (by kernel_rfl)) rfl ?_
      exact pages_done HM.out.1 (Nat.le_refl _) HM.out.2 _ HR.out
    · obtain ⟨hm1, hm4, him, hl40, p, hp, _, hpm⟩ := held_run_small hv hh
      obtain ⟨y, hy⟩ : ∃ y : Nat, m = y := ⟨m.toNat, by omega⟩
      subst hy
      have hyn : i + y ≤ n := by have := HL.out; omega
      clear hp hpm
      by_cases hst : (i : Int) * 16 = at_
      rotate_left
      · have HR : Hid (dropBlock ps at_ = (1, [], 0)) := by show _ = _; unfold dropBlock; rw [hh]; exact if_neg hst
        have hq : ((i : Int) * 16 != at_) = true := by simpa using hst
        clear hv hst
        go_enter Tryz.func207, Tryz.ntmps207
        go_wp2_with fail
        refine (heldAt_calls (hT.alloc _) hS hn hc hn4).mono ?_
        rw [hh]
        rintro e w1 ⟨rfl, hb1⟩
        have hres := Row.new hb1
        have hb := below_past hb1
        have hT1 := (hT.alloc (.cells #[.int .i64 0, .slice none 0 0, .int .i64 0] 55)).below hb1
        clear hb1
        simp only [heldV, blkO, blkV]
        go_wp2_with fail
        refine (runStart_calls (by omega) (by omega)).mono ?_
        rintro e w2 ⟨rfl, hb2⟩
        have hres2 := Row.below hres hb2
        have hb3 := hb.trans (hb2.mono hb.size)
        have hT2 := hT1.below hb2
        clear hb2
        go_wp2_with (refine wpList_store_row rfl 55 _ _ rfl (w.heap.size) _ rfl rfl _ _ hres2 (by kernel_rfl) (by rfl) (by simp [Value.oneCell']) ?_)
        refine bodyPost_ret (results_cell_row rfl _ _ (w.heap.size) _ _ _ _ rfl (setRow_heap _ _ _ _ _ _ hres2) Tryz.underlying55 rfl (by kernel_rfl)) rfl ?_
        exact pages_done hb3 (Nat.le_refl _) Own.nil _ HR.out
      have HR : Hid (dropBlock ps at_ = (0, setMany ps i Pg.free y, at_)) := by show _ = _; unfold dropBlock; rw [hh]; exact if_pos hst
      have hq : ((i : Int) * 16 != at_) = false := by simpa using hst
      clear hv hst
      go_enter Tryz.func207, Tryz.ntmps207
      go_wp2_with fail
      refine (heldAt_calls (hT.alloc _) hS hn hc hn4).mono ?_
      rw [hh]
      rintro e w1 ⟨rfl, hb1⟩
      have hres := Row.new hb1
      have hb := below_past hb1
      have hT1 := (hT.alloc (.cells #[.int .i64 0, .slice none 0 0, .int .i64 0] 55)).below hb1
      clear hb1
      simp only [heldV, blkO, blkV]
      go_wp2_with fail
      refine (runStart_calls (by omega) (by omega)).mono ?_
      rintro e w2 ⟨rfl, hb2⟩
      have hres2 := Row.below hres hb2
      have hb3 := hb.trans (hb2.mono hb.size)
      have hT2 := hT1.below hb2
      clear hb2
      have hlt2 := hres2.lt
      go_wp2_with fail
      refine (withoutRun_calls hT2 HSH.out hn40 hyn).mono ?_
      rintro e w4 ⟨v, rfl, hown, hb4⟩
      obtain ⟨vo, vc, rfl, _, _, _⟩ := hown.shape
      have hres4 := Row.below hres2 hb4
      have HM := Lib.hid (And.intro (hb3.trans (hb4.mono hb3.size)) (hown.mono (S' := fun k => w.heap.size < k) (fun k hk _ => by omega)))
      clear hown hb4
      go_wp2_with (refine wpList_store_row rfl 55 _ _ rfl (w.heap.size) _ rfl rfl _ _ hres4 (by kernel_rfl) (by rfl) (by simp [Value.oneCell']) ?_)
      refine bodyPost_ret (results_cell_row rfl _ _ (w.heap.size) _ _ _ _ rfl (setRow_heap _ _ _ _ _ _ hres4) Tryz.underlying55 rfl (by kernel_rfl)) rfl ?_
      exact pages_done HM.out.1 (Nat.le_refl _) HM.out.2 _ HR.out
end Go.Proofs.YthpamclljdcjpaaGreatDoor

/- Chapter 4 of the model: pages compared. -/
namespace Go.Proofs.YthpamclljdcjpaaGreatDoor
open Go.RowKit

/-- Two lists are the same as far as this. -/
def SameTo {α : Type} (xs ys : List α) (k : Nat) : Prop := ∀ j, j < k → xs[j]? = ys[j]?
theorem SameTo.succ {α : Type} {xs ys : List α} {k : Nat} (h : SameTo xs ys k) (hk : xs[k]? = ys[k]?) : SameTo xs ys (k + 1) := fun j hj => by
  by_cases e : j = k
  · rw [e]; exact hk
  · exact h j (by omega)
theorem SameTo.all {α : Type} {xs ys : List α} {k : Nat} (h : SameTo xs ys k) (h1 : xs.length ≤ k) (h2 : ys.length ≤ k) : xs = ys := by
  apply List.ext_getElem?
  intro j
  rcases Nat.lt_or_ge j k with hj | hj
  · exact h j hj
  · rw [List.getElem?_eq_none (by omega), List.getElem?_eq_none (by omega)]
theorem ne_at {α : Type} {xs ys : List α} {k : Nat} {x y : α} (hx : xs[k]? = some x) (hy : ys[k]? = some y) (h : x ≠ y) : xs ≠ ys := by
  rintro rfl; rw [hx] at hy; injection hy with hy; exact h hy

end Go.Proofs.YthpamclljdcjpaaGreatDoor

/- The exact laws of chapter 4 answer true at every argument and write nothing that was there: answers that are numbers. -/
namespace Go.Proofs.YthpamclljdcjpaaGreatDoor
open Go.RowKit

theorem ShortP.more {N M : Nat} {ps : List Pg} (h : ShortP N ps) (hM : N ≤ M) : ShortP M ps := fun p hp => Nat.le_trans (h p hp) hM

end Go.Proofs.YthpamclljdcjpaaGreatDoor

/- The exact laws of chapter 4 answer true at every argument and write nothing that was there: answers that are pages. -/
namespace Go.Proofs.YthpamclljdcjpaaGreatDoor
open Go.RowKit

theorem putSlot_short {ps : List Pg} {c : Int} {i s : Nat} (h : ShortP 16 ps) (h0 : 0 ≤ c) (h3 : c ≤ 3) : ShortP 16 (putSlot ps c i s) := by
  unfold putSlot
  cases hp : ps[i]? with
  | none => exact h
  | some p =>
    intro q hq
    rcases List.mem_or_eq_of_mem_set hq with h1 | h1
    · exact h q h1
    · rw [h1]
      unfold useSlot
      split
      · simp only [List.length_set, List.length_replicate]
        rcases (show c = 0 ∨ c = 1 ∨ c = 2 ∨ c = 3 by omega) with e | e | e | e <;> rw [e] <;> simp [sizeW]
      · simpa using h.at_ hp
theorem setMany_short {ps : List Pg} {i : Nat} {x : Pg} (h : ShortP 16 ps) (hx : x.used.length ≤ 16) : ∀ k, ShortP 16 (setMany ps i x k)
  | 0 => h
  | k + 1 => fun q hq => by
    rcases List.mem_or_eq_of_mem_set hq with h1 | h1
    · exact setMany_short h hx k q h1
    · rw [h1]; exact hx
theorem putRun_short {ps : List Pg} {i n : Nat} (h : ShortP 16 ps) : ShortP 16 (putRun ps i n) := fun q hq => by
  rcases List.mem_or_eq_of_mem_set hq with h1 | h1
  · exact setMany_short h (by simp [restPg]) n q h1
  · rw [h1]; simp [runPg]
theorem dropBlk_short {ps : List Pg} {b : Blk} (h : ShortP 16 ps) : ShortP 16 (dropBlk ps b) := by
  cases b with
  | slot i c s =>
    simp only [dropBlk]
    cases hp : ps[i]? with
    | none => exact h
    | some p =>
      intro q hq
      rcases List.mem_or_eq_of_mem_set hq with h1 | h1
      · exact h q h1
      · rw [h1]
        unfold freeSlot
        split
        · simpa using h.at_ hp
        · simp [Pg.free]
  | run i n => exact setMany_short h (by simp [Pg.free]) _
theorem length_putSlot (ps : List Pg) (c : Int) (i s : Nat) : (putSlot ps c i s).length = ps.length := by unfold putSlot; split <;> simp
theorem length_dropBlk (ps : List Pg) (b : Blk) : (dropBlk ps b).length = ps.length := by
  cases b with
  | slot i c s => unfold dropBlk; simp only; split <;> simp
  | run i n => exact length_setMany _ _ _ _
theorem findSlot_small (ps : List Pg) (c : Int) : (findSlot ps c).2.1.length ≤ 40 ∧ ShortP 16 (findSlot ps c).2.1 := by
  unfold findSlot
  by_cases hv : pagesFault ps = 0
  · rw [if_pos hv]
    rcases hw : within 0 3 [c] with _ | _
    · exact ⟨by simp, fun p hp => by simp at hp⟩
    · have hc := within_range hw
      simp only [if_true]
      rcases slotFor ps c with _ | ⟨i, s⟩
      · exact ⟨by simp, fun p hp => by simp at hp⟩
      · exact ⟨by simp only [length_putSlot]; exact (pagesFault_ok hv).1, putSlot_short (pagesFault_short hv) hc.1 hc.2⟩
  · rw [if_neg hv]; exact ⟨by simp, fun p hp => by simp at hp⟩
theorem takeRun_small (ps : List Pg) (a m : Int) : (takeRun ps a m).2.1.length ≤ 40 ∧ ShortP 16 (takeRun ps a m).2.1 := by
  unfold takeRun
  by_cases hv : pagesFault ps = 0
  · rw [if_pos hv]
    split
    · split
      · exact ⟨by simp only [putRun, List.length_set, length_setMany]; exact (pagesFault_ok hv).1, putRun_short (pagesFault_short hv)⟩
      · exact ⟨by simp, fun p hp => by simp at hp⟩
    · exact ⟨by simp, fun p hp => by simp at hp⟩
  · rw [if_neg hv]; exact ⟨by simp, fun p hp => by simp at hp⟩
theorem dropBlock_small (ps : List Pg) (a : Int) : (dropBlock ps a).2.1.length ≤ 40 ∧ ShortP 16 (dropBlock ps a).2.1 := by
  unfold dropBlock
  rcases hh : heldAt ps a with ⟨c, b⟩
  cases b with
  | none => exact ⟨by simp, fun p hp => by simp at hp⟩
  | some b =>
    have hv : pagesFault ps = 0 := by
      rcases Int.lt_trichotomy (pagesFault ps) 0 with h1 | h1 | h1
      · unfold heldAt at hh; rw [if_neg (by omega)] at hh; cases hh
      · exact h1
      · unfold heldAt at hh; rw [if_neg (by omega)] at hh; cases hh
    simp only
    split
    · exact ⟨by simp only [length_dropBlk]; exact (pagesFault_ok hv).1, dropBlk_short (pagesFault_short hv)⟩
    · exact ⟨by simp, fun p hp => by simp at hp⟩

/-- What the law of a function that answers pages has in its hands: two results in boxes, its own copy of the list, the list that came in. -/
def Hold (w W : World) (bw bg : Nat) (q z : Int) (vw vg vx : Value) (nr nx : Nat) (ao : Option Addr) (n : Nat) (ps rs xs gs : List Pg) : Prop :=
  Below w.heap.size w W ∧ Lst KPage W (fun k => k < w.heap.size) ao n ps ∧ Row W bw 55 #[.int .i64 q, vw, .int .i64 z] ∧ Row W bg 55 #[.int .i64 q, vg, .int .i64 z] ∧
  ∃ Sw Sx Sg : Nat → Prop, Own KPage 137 W Sw vw nr rs ∧ Own KPage 137 W Sx vx nx xs ∧ Own KPage 137 W Sg vg nr gs ∧
    (∀ k, Sx k → w.heap.size ≤ k ∧ k ≠ bw ∧ k ≠ bg ∧ ¬ Sw k ∧ ¬ Sg k) ∧ (∀ k, Sg k → w.heap.size ≤ k ∧ k ≠ bw ∧ k ≠ bg ∧ ¬ Sw k ∧ ¬ Sx k)
section
variable {w W W' : World} {bw bg : Nat} {q z : Int} {vw vg vx : Value} {nr nx : Nat} {ao : Option Addr} {n : Nat} {ps rs xs gs : List Pg}
theorem Hold.below (h : Hold w W bw bg q z vw vg vx nr nx ao n ps rs xs gs) (hb : Below W.heap.size W W') : Hold w W' bw bg q z vw vg vx nr nx ao n ps rs xs gs := by
  obtain ⟨h1, h2, h3, h4, Sw, Sx, Sg, h5, h6, h7, h8, h9⟩ := h
  exact ⟨h1.trans (hb.mono h1.size), h2.below hb, h3.below hb, h4.below hb, Sw, Sx, Sg, h5.below hb, h6.below hb, h7.below hb, h8, h9⟩
theorem Hold.cells (h : Hold w W bw bg q z vw vg vx nr nx ao n ps rs xs gs) : bw < W.heap.size ∧ bg < W.heap.size ∧
    W.cell? ⟨bw, 0, none⟩ = some (.int .i64 q) ∧ W.cell? ⟨bw, 1, none⟩ = some vw ∧ W.cell? ⟨bw, 2, none⟩ = some (.int .i64 z) ∧
    W.cell? ⟨bg, 0, none⟩ = some (.int .i64 q) ∧ W.cell? ⟨bg, 1, none⟩ = some vg ∧ W.cell? ⟨bg, 2, none⟩ = some (.int .i64 z) := by
  obtain ⟨_, _, h3, h4, _⟩ := h
  exact ⟨h3.lt, h4.lt, by rw [h3.cell]; rfl, by rw [h3.cell]; rfl, by rw [h3.cell]; rfl, by rw [h4.cell]; rfl, by rw [h4.cell]; rfl, by rw [h4.cell]; rfl⟩
theorem Hold.ownX (h : Hold w W bw bg q z vw vg vx nr nx ao n ps rs xs gs) : ∃ Sx, Own KPage 137 W Sx vx nx xs ∧ ∀ W' xs', Own KPage 137 W' Sx vx nx xs' → Turn Sx W W' → Hold w W' bw bg q z vw vg vx nr nx ao n ps rs xs' gs := by
  obtain ⟨h1, h2, h3, h4, Sw, Sx, Sg, h5, h6, h7, h8, h9⟩ := h
  refine ⟨Sx, h6, fun W' xs' ho ht => ⟨ht.below h1 h1.size (fun k hk => (h8 k hk).1), h2.turn ht (fun k hk _ hx => by have := (h8 k hx).1; omega), ht.row h3 (fun hx => (h8 _ hx).2.1 rfl), ht.row h4 (fun hx => (h8 _ hx).2.2.1 rfl), Sw, Sx, Sg, h5.turn ht (fun k hk _ hx => (h8 k hx).2.2.2.1 hk), ho, h7.turn ht (fun k hk _ hx => (h8 k hx).2.2.2.2 hk), h8, h9⟩⟩
theorem Hold.ownG (h : Hold w W bw bg q z vw vg vx nr nx ao n ps rs xs gs) : ∃ Sg, Own KPage 137 W Sg vg nr gs ∧ ∀ W' gs', Own KPage 137 W' Sg vg nr gs' → Turn Sg W W' → Hold w W' bw bg q z vw vg vx nr nx ao n ps rs xs gs' := by
  obtain ⟨h1, h2, h3, h4, Sw, Sx, Sg, h5, h6, h7, h8, h9⟩ := h
  refine ⟨Sg, h7, fun W' gs' ho ht => ⟨ht.below h1 h1.size (fun k hk => (h9 k hk).1), h2.turn ht (fun k hk _ hx => by have := (h9 k hx).1; omega), ht.row h3 (fun hx => (h9 _ hx).2.1 rfl), ht.row h4 (fun hx => (h9 _ hx).2.2.1 rfl), Sw, Sx, Sg, h5.turn ht (fun k hk _ hx => (h9 k hx).2.2.2.1 hk), h6.turn ht (fun k hk _ hx => (h9 k hx).2.2.2.2 hk), ho, h8, h9⟩⟩
theorem Hold.lstW {a : Option Addr} {c : Nat} (h : Hold w W bw bg q z (.slice a nr c) vg vx nr nx ao n ps rs xs gs) : ∃ S, Lst KPage W S a nr rs := by
  obtain ⟨_, _, _, _, Sw, Sx, Sg, h5, _⟩ := h; exact ⟨Sw, h5.lst.2.2.2⟩
theorem Hold.lstG {a : Option Addr} {c : Nat} (h : Hold w W bw bg q z vw (.slice a nr c) vx nr nx ao n ps rs xs gs) : ∃ S, Lst KPage W S a nr gs := by
  obtain ⟨_, _, _, _, Sw, Sx, Sg, _, _, h7, _⟩ := h; exact ⟨Sg, h7.lst.2.2.2⟩
theorem Hold.lstX {a : Option Addr} {c : Nat} (h : Hold w W bw bg q z vw vg (.slice a nx c) nr nx ao n ps rs xs gs) : ∃ S, Lst KPage W S a nx xs := by
  obtain ⟨_, _, _, _, Sw, Sx, Sg, _, h6, _⟩ := h; exact ⟨Sx, h6.lst.2.2.2⟩
end

end Go.Proofs.YthpamclljdcjpaaGreatDoor

/- Pages while they are drawn: what is known of them, in plain words. -/
namespace Go.Proofs.YthpamclljdcjpaaGreatDoor
open Go.RowKit

/-- A page at place k of n, as a draw has it. -/
def RoughP (n k : Nat) (p : Pg) : Prop := p.used.length ≤ 16 ∧ (p.kind = 1 → 0 ≤ p.cls ∧ p.cls ≤ 3 ∧ (p.used.length : Int) = 16 / sizeW p.cls) ∧ (p.kind ≠ 1 → ∃ m : Nat, p.run = m ∧ k + m ≤ n)
def Rough (ps : List Pg) : Prop := ∀ k p, ps[k]? = some p → RoughP ps.length k p
theorem RoughP.free {n k : Nat} (h : k < n) : RoughP n k Pg.free := ⟨by simp [Pg.free], fun h => by simp [Pg.free] at h, fun _ => ⟨0, rfl, by omega⟩⟩
theorem Rough.short {ps : List Pg} (h : Rough ps) : ShortP 16 ps := fun p hp => by
  obtain ⟨k, hk, rfl⟩ := List.getElem_of_mem hp
  exact (h k _ (List.getElem?_eq_getElem hk)).1
theorem Rough.free (n : Nat) : Rough (List.replicate n Pg.free) := fun k p h => by
  rw [List.length_replicate]
  rw [List.getElem?_replicate] at h
  split at h
  · injection h with h; subst h; exact RoughP.free ‹_›
  · cases h
theorem Rough.set {ps : List Pg} (h : Rough ps) {i : Nat} {x : Pg} (hx : i < ps.length → RoughP ps.length i x) : Rough (ps.set i x) := fun k p hp => by
  rw [List.length_set]
  by_cases e : k = i
  · subst e
    by_cases hk : k < ps.length
    · rw [List.getElem?_set_self hk] at hp; injection hp with hp; subst hp; exact hx hk
    · rw [List.getElem?_eq_none (by simpa using hk)] at hp; cases hp
  · rw [List.getElem?_set_ne (by omega)] at hp; exact h k p hp
theorem Rough.many {ps : List Pg} (h : Rough ps) {i : Nat} {x : Pg} (hx : ∀ k, k < ps.length → RoughP ps.length k x) : ∀ m, Rough (setMany ps i x m)
  | 0 => h
  | m + 1 => by
    have ih := Rough.many h (i := i) hx m
    refine ih.set (i := i + m) fun hk => ?_
    rw [length_setMany] at hk ⊢
    exact hx _ hk
theorem Rough.run {ps : List Pg} (h : Rough ps) {i m : Nat} (hm : i + m ≤ ps.length) : Rough (putRun ps i m) := by
  refine (h.many (fun k hk => ⟨by simp [restPg], fun h => by simp [restPg] at h, fun _ => ⟨0, rfl, by omega⟩⟩) m).set fun hk => ?_
  rw [length_setMany]
  exact ⟨by simp [runPg], fun h => by simp [runPg] at h, fun _ => ⟨m, rfl, hm⟩⟩
theorem slots_sixteen {c : Int} (h0 : 0 ≤ c) (h3 : c ≤ 3) : (((16 / sizeW c).toNat : Nat) : Int) = 16 / sizeW c ∧ (16 / sizeW c).toNat ≤ 16 := by
  rcases (show c = 0 ∨ c = 1 ∨ c = 2 ∨ c = 3 by omega) with e | e | e | e <;> rw [e] <;> decide
theorem Rough.slot {ps : List Pg} (h : Rough ps) {c : Int} {i s : Nat} (h0 : 0 ≤ c) (h3 : c ≤ 3) : Rough (putSlot ps c i s) := by
  unfold putSlot
  cases hp : ps[i]? with
  | none => exact h
  | some p =>
    refine h.set fun hk => ?_
    have hr := h i p hp
    have hs := slots_sixteen h0 h3
    unfold useSlot
    split
    · exact ⟨by simpa using hs.2, fun _ => ⟨h0, h3, by simpa using hs.1⟩, fun hn => absurd rfl hn⟩
    · exact ⟨by simpa using hr.1, fun h1 => by simpa using hr.2.1 h1, hr.2.2⟩
theorem Rough.slotPut {ps : List Pg} (h : Rough ps) {c : Int} (h0 : 0 ≤ c) (h3 : c ≤ 3) : Rough (slotPut ps c) := by
  unfold Go.Proofs.YthpamclljdcjpaaGreatDoor.slotPut
  split
  · exact h.slot h0 h3
  · exact h
theorem length_slotPut (ps : List Pg) (c : Int) : (slotPut ps c).length = ps.length := by
  unfold slotPut
  split
  · exact length_putSlot _ _ _ _
  · rfl
theorem length_putRun (ps : List Pg) (i m : Nat) : (putRun ps i m).length = ps.length := by unfold putRun; rw [List.length_set, length_setMany]
theorem length_dropAt (ps : List Pg) (st : Nat) : (dropAt ps st).length = ps.length := by
  unfold dropAt
  split
  · rfl
  · split
    · exact List.length_set
    · exact length_setMany _ _ _ _
theorem Rough.drop {ps : List Pg} (h : Rough ps) (st : Nat) : Rough (dropAt ps st) := by
  unfold dropAt
  cases hp : ps[st / 16]? with
  | none => exact h
  | some p =>
    simp only
    have hr := h _ p hp
    split
    · refine h.set fun hk => ?_
      unfold freeSlot
      split
      · exact ⟨by simpa using hr.1, fun h1 => by simpa using hr.2.1 h1, hr.2.2⟩
      · exact RoughP.free hk
    · exact h.many (fun k hk => RoughP.free hk) _
/-- The place that is taken next is one of the pages'. -/
theorem slotAt_in {ps : List Pg} (h : Rough ps) {c : Int} (h0 : 0 ≤ c) (h3 : c ≤ 3) : slotAt ps c < 0 ∨ ∃ st : Nat, slotAt ps c = (st : Int) ∧ st < 16 * ps.length := by
  unfold slotAt
  cases hs : slotFor ps c with
  | none => exact .inl (by simp)
  | some x =>
    obtain ⟨i, s⟩ := x
    simp only
    right
    obtain ⟨p, hp, hx⟩ := slotFor_some hs
    have hi : i < ps.length := (List.getElem?_eq_some_iff.1 hp).1
    have hb := sizeW_small c
    have hs16 : (s : Int) * sizeW c < 16 ∧ 0 ≤ (s : Int) * sizeW c := by
      rcases hx with ⟨k1, kc, hu⟩ | ⟨_, rfl⟩
      · have hl := ((h i p hp).2.1 k1).2.2
        have hsl : s < p.used.length := (List.getElem?_eq_some_iff.1 hu).1
        rw [kc] at hl
        rcases (show c = 0 ∨ c = 1 ∨ c = 2 ∨ c = 3 by omega) with e | e | e | e <;> rw [e] at hl ⊢ <;> simp [sizeW] at hl ⊢ <;> omega
      · simp
    exact ⟨((i : Int) * 16 + s * sizeW c).toNat, by omega, by omega⟩
/-- A run that is found fits. -/
theorem freeN_len : ∀ {m : Nat} {ps : List Pg}, freeN m ps = true → m ≤ ps.length
  | 0, _, _ => Nat.zero_le _
  | m + 1, [], h => by simp [freeN] at h
  | m + 1, p :: r, h => by
    rw [freeN] at h
    simp only [Bool.and_eq_true] at h
    have := freeN_len h.2
    simp only [List.length_cons]; omega
theorem runFrom_in {m : Nat} : ∀ {ps : List Pg} {k i : Nat}, runFrom m k ps = some i → k ≤ i ∧ freeN m (ps.drop (i - k)) = true
  | [], k, i, h => by
    unfold runFrom at h
    first | (split at h <;> first | (injection h with h; subst h; simp_all) | cases h) | cases h
  | p :: r, k, i, h => by
    unfold runFrom at h
    split at h
    · injection h with h; subst h; simp_all
    · obtain ⟨h1, h2⟩ := runFrom_in h
      refine ⟨by omega, ?_⟩
      rw [show i - k = (i - (k + 1)) + 1 by omega, List.drop_succ_cons]; exact h2
theorem runAt_in {m : Nat} {ps : List Pg} (hm : 0 < m) : runAt m ps < 0 ∨ ∃ i : Nat, runAt m ps = (i : Int) ∧ i + m ≤ ps.length := by
  unfold runAt
  cases hr : runFrom m 0 ps with
  | none => exact .inl (by simp)
  | some i =>
    refine .inr ⟨i, rfl, ?_⟩
    have h2 := freeN_len (runFrom_in hr).2
    rw [List.length_drop] at h2
    omega
end Go.Proofs.YthpamclljdcjpaaGreatDoor

/- Chapter 4's law in plain words: what is taken and dropped. -/
namespace Go.Proofs.YthpamclljdcjpaaGreatDoor
open Go.RowKit

theorem free_of {p : Pg} (hp : pageFault p = 0) (h0 : p.kind = 0) : p = Pg.free := by
  rcases pageFault_ok hp with h | h | ⟨_, h1, h2, h3⟩
  · omega
  · omega
  · exact Pg.ext_ h0 h1 h2 h3
section
variable {ps : List Pg} (hv : pagesFault ps = 0)
include hv
theorem headOf_run {g : Nat} {q : Pg} (h : ps[g]? = some q) (h2 : q.kind = 2) : ∀ j : Nat, (j : Int) ≤ q.run - 1 → headOf ps (g + j) = g
  | 0, _ => headOf_self h (by omega)
  | j + 1, hj => by
    obtain ⟨h1, _, h3⟩ := run_whole hv h h2 (j + 1) hj
    have hx := List.getElem?_eq_getElem (l := ps) (i := g + j + 1) (by omega)
    rw [← Nat.add_assoc, headOf_back hx (h3 (g + j + 1) _ (by omega) (by omega) hx)]
    exact headOf_run h h2 j (by omega)
theorem held_in_run {g a : Nat} {q : Pg} (h : ps[g]? = some q) (h2 : q.kind = 2) (h0 : g * 16 ≤ a) (h1 : (a : Int) < (g + q.run) * 16) : heldAt ps a = (0, some (.run g q.run)) := by
  have hr := ok_run hv h h2
  have hf := run_fits hv h h2
  have hh : headOf ps (a / 16) = g := by
    have := headOf_run hv h h2 (a / 16 - g) (by omega)
    rwa [show g + (a / 16 - g) = a / 16 by omega] at this
  have hlt : a / 16 < ps.length := by omega
  have hx := List.getElem?_eq_getElem hlt
  have hk : (ps[a / 16]).kind = 2 ∨ (ps[a / 16]).kind = 3 := by
    by_cases e : a / 16 = g
    · left
      have : ps[a / 16]? = some q := by rw [e]; exact h
      rw [hx] at this; injection this with this; rw [this]; exact h2
    · right
      obtain ⟨_, _, h3⟩ := run_whole hv h h2 (a / 16 - g) (by omega)
      exact h3 _ _ (by omega) (by omega) hx
  obtain ⟨q', h5, h6, h7⟩ := held_run hv (a := a) (by omega) hx hk
  rw [hh] at h5 h7
  rw [h] at h5; injection h5 with h5; rw [h7, h5]
/-- Where a block lies that is held. -/
theorem block_range {a : Int} {b : Blk} (h : heldAt ps a = (0, some b)) : 0 ≤ b.start ∧ b.start ≤ a ∧ a < b.start + b.size ∧ b.start + b.size ≤ ps.length * 16 ∧ heldAt ps b.start = (0, some b) := by
  obtain ⟨_, h0, h1, _⟩ := held_info hv h
  obtain ⟨a, rfl⟩ := Int.eq_ofNat_of_zero_le h0
  have hlt : a / 16 < ps.length := by omega
  have hx := List.getElem?_eq_getElem hlt
  rcases pageFault_kind (ok_page hv hx) with k0 | k1 | k2
  · rw [held_free hv (by omega) hx k0] at h; simp at h
  · rw [held_slot hv (by omega) hx k1] at h
    split at h
    · rename_i hu
      simp at h
      subst h
      generalize ps[a / 16] = p at *
      have hok := pageFault_ok (ok_page hv hx)
      obtain ⟨_, c0, c3, _, hul, _⟩ : p.kind = 1 ∧ 0 ≤ p.cls ∧ p.cls ≤ 3 ∧ p.run = 0 ∧ (p.used.length : Int) = 16 / sizeW p.cls ∧ anyB p.used = true := by
        rcases hok with h | h | h
        · exact h
        · omega
        · omega
      have key : ∃ a2 : Nat, (Blk.slot (a / 16) p.cls (a % 16 / (sizeW p.cls).toNat)).start = (a2 : Int) ∧ a2 ≤ a ∧ (a : Int) < a2 + sizeW p.cls ∧ (a2 : Int) + sizeW p.cls ≤ ps.length * 16 ∧ a2 / 16 = a / 16 ∧ a2 % 16 / (sizeW p.cls).toNat = a % 16 / (sizeW p.cls).toNat := by
        refine ⟨a / 16 * 16 + a % 16 / (sizeW p.cls).toNat * (sizeW p.cls).toNat, ?_⟩
        unfold Blk.start
        rcases (show p.cls = 0 ∨ p.cls = 1 ∨ p.cls = 2 ∨ p.cls = 3 by omega) with e | e | e | e <;> rw [e] <;> simp [sizeW] <;> omega
      obtain ⟨a2, e0, e1, e2, e3, e4, e5⟩ := key
      rw [e0]
      refine ⟨by omega, by omega, e2, e3, ?_⟩
      rw [held_slot hv (a := a2) (p := p) (by omega) (by rw [e4]; exact hx) k1, e4, e5, if_pos hu]
    · simp at h
  · obtain ⟨q, h5, h6, h7⟩ := held_run hv (a := a) (by omega) hx k2
    rw [h7] at h
    simp at h
    subst h
    have hr := ok_run hv h5 h6
    have hf := run_fits hv h5 h6
    have hin : (a : Int) < ((headOf ps (a / 16) : Nat) + q.run) * 16 := by
      rcases k2 with k2 | k3
      · rw [headOf_self hx (by omega)] at *; omega
      · obtain ⟨g, q', _, h8, h9, h10, h11⟩ := head_of_rest hv hx k3
        rw [h11] at h5 ⊢
        rw [h8] at h5; injection h5 with h5; subst h5
        omega
    have hle := headOf_le ps (a / 16)
    refine ⟨?_, ?_, ?_, ?_, ?_⟩ <;> simp only [Blk.start, Blk.size]
    · omega
    · omega
    · omega
    · omega
    · have := held_in_run hv (a := headOf ps (a / 16) * 16) h5 h6 (Nat.le_refl _) (by omega)
      rw [Int.natCast_mul] at this; exact this
end

/-! How many pages a run lacks, in other lists. -/
theorem leftN_nonneg {ps : List Pg} (hv : pagesFault ps = 0) : ∀ k, k ≤ ps.length → 0 ≤ leftN ps k
  | 0, _ => by rw [leftN_zero]; omega
  | k + 1, hk => by
    have hx := List.getElem?_eq_getElem (l := ps) (i := k) (by omega)
    have ih := leftN_nonneg hv k (by omega)
    rw [leftN_succ hx]
    unfold nextLeft
    split
    · have := ok_run hv hx (by assumption); omega
    · split
      · have := (ok_rest hv hx).1 (by assumption); omega
      · exact ih
theorem leftN_none {ps : List Pg} (hv : pagesFault ps = 0) {k : Nat} {p : Pg} (h : ps[k]? = some p) (h3 : p.kind ≠ 3) : leftN ps k = 0 := by
  have hlt := (List.getElem?_eq_some_iff.1 h).1
  have h1 := leftN_nonneg hv k (by omega)
  have h2 := (ok_rest hv h).2
  rcases Int.lt_or_le 0 (leftN ps k) with h4 | h4
  · exact absurd (h2 h4) h3
  · omega
/-- A list is right if its pages are and each run lacks what L tells. -/
theorem pages_ok {qs : List Pg} (h40 : qs.length ≤ 40) (hp : ∀ (k : Nat) (p : Pg), qs[k]? = some p → pageFault p = 0) (L : Nat → Int) (h0 : L 0 = 0) (hn : ∀ (k : Nat) (p : Pg), qs[k]? = some p → L (k + 1) = nextLeft (L k) p)
    (h3 : ∀ (k : Nat) (p : Pg), qs[k]? = some p → (p.kind = 3 ↔ 0 < L k)) (he : L qs.length = 0) : pagesFault qs = 0 := by
  have hL := leftN_of (ps := qs) h0 hn
  refine pagesFault_of h40 (fun p hp' => ?_) ((whole_iff qs 0).2 ⟨fun k p h => ?_, ?_⟩)
  · obtain ⟨k, hk⟩ := List.getElem?_of_mem hp'; exact hp k p hk
  · have hlt := (List.getElem?_eq_some_iff.1 h).1
    have h5 : leftFrom 0 qs k = L k := hL k (by omega)
    rw [h5]
    have h6 := h3 k p h
    by_cases e : p.kind = 3
    · rw [decide_eq_true e, decide_eq_true (h6.1 e)]
    · rw [decide_eq_false e, decide_eq_false (fun h => e (h6.2 h))]
  · have h5 : leftFrom 0 qs qs.length = L qs.length := hL _ (Nat.le_refl _)
    rw [h5]; exact he
/-- One page that is no part of a run gives way to another such one. -/
theorem pages_ok_set {ps : List Pg} (hv : pagesFault ps = 0) {i : Nat} {p x : Pg} (h : ps[i]? = some p) (h01 : p.kind = 0 ∨ p.kind = 1) (hx : pageFault x = 0) (hx01 : x.kind = 0 ∨ x.kind = 1) : pagesFault (ps.set i x) = 0 := by
  have hlt := (List.getElem?_eq_some_iff.1 h).1
  have hat : ∀ k q, (ps.set i x)[k]? = some q → (k = i ∧ q = x) ∨ (k ≠ i ∧ ps[k]? = some q) := fun k q hq => by
    by_cases e : k = i
    · subst e; rw [List.getElem?_set_self hlt] at hq; injection hq with hq; exact .inl ⟨rfl, hq.symm⟩
    · rw [List.getElem?_set_ne (by omega)] at hq; exact .inr ⟨e, hq⟩
  refine pages_ok (by rw [List.length_set]; exact (pagesFault_ok hv).1) (fun k q hq => ?_) (leftN ps) (leftN_zero ps) (fun k q hq => ?_) (fun k q hq => ?_) (by rw [List.length_set]; exact ok_end hv)
  · rcases hat k q hq with ⟨_, rfl⟩ | ⟨_, h1⟩
    · exact hx
    · exact ok_page hv h1
  · rcases hat k q hq with ⟨rfl, rfl⟩ | ⟨_, h1⟩
    · rw [leftN_succ h]; unfold nextLeft; rw [if_neg (by omega), if_neg (by omega), if_neg (by omega), if_neg (by omega)]
    · exact leftN_succ h1
  · rcases hat k q hq with ⟨rfl, rfl⟩ | ⟨_, h1⟩
    · have h2 := ok_rest hv h
      constructor
      · intro h; omega
      · intro h; have := h2.2 h; omega
    · exact ok_rest hv h1
theorem usedIn_le : ∀ {ps qs : List Pg}, qs.length = ps.length → (∀ (k : Nat) (p q : Pg), ps[k]? = some p → qs[k]? = some q → q.kind ≠ 0 → p.kind ≠ 0) → usedIn qs ≤ usedIn ps
  | [], [], _, _ => Nat.le_refl _
  | p :: ps, q :: qs, hl, h => by
    have h1 := usedIn_le (ps := ps) (qs := qs) (by simpa using hl) (fun k p q hp hq => h (k + 1) p q (by simpa using hp) (by simpa using hq))
    have h2 := h 0 p q rfl rfl
    unfold usedIn
    split <;> split <;> first | omega | (exfalso; exact h2 (by assumption) (by assumption))
  | [], q :: qs, hl, _ => by simp at hl
  | p :: ps, [], hl, _ => by simp at hl
end Go.Proofs.YthpamclljdcjpaaGreatDoor

/- Chapter 4's law in plain words: slots and runs that are taken and dropped again. -/
namespace Go.Proofs.YthpamclljdcjpaaGreatDoor
open Go.RowKit

theorem set_same {α : Type} {xs : List α} {i : Nat} {x : α} (h : xs[i]? = some x) : xs.set i x = xs := by
  refine List.ext_getElem? fun k => ?_
  by_cases e : i = k
  · subst e; rw [List.getElem?_set_self (List.getElem?_eq_some_iff.1 h).1, h]
  · rw [List.getElem?_set_ne e]
theorem anyB_set {us : List Bool} {s : Nat} (h : s < us.length) : anyB (us.set s true) = true := anyB_iff.2 ⟨s, by rw [List.getElem?_set_self h]⟩
theorem anyB_rep (n : Nat) : anyB (List.replicate n false) = false := by
  cases h : anyB (List.replicate n false) with
  | false => rfl
  | true =>
    obtain ⟨s, hs⟩ := anyB_iff.1 h
    rw [List.getElem?_replicate] at hs
    split at hs <;> simp at hs
theorem fault_slab {c : Int} {us : List Bool} (h0 : 0 ≤ c) (h3 : c ≤ 3) (hl : (us.length : Int) = 16 / sizeW c) (ha : anyB us = true) : pageFault ⟨1, c, us, 0⟩ = 0 := by
  unfold pageFault
  simp only [if_true]
  rw [if_pos (within_yes1 h0 h3), if_pos hl, if_pos ha]
/-- A slot that was taken. -/
theorem slot_taken {ps : List Pg} (hv : pagesFault ps = 0) {c : Int} (h0 : 0 ≤ c) (h3 : c ≤ 3) {i s : Nat} (hf : slotFor ps c = some (i, s)) :
    ∃ a : Nat, (i : Int) * 16 + s * sizeW c = a ∧ (blockStart ps a).1 = 4 ∧ pagesFault (putSlot ps c i s) = 0 ∧ heldAt (putSlot ps c i s) a = (0, some (.slot i c s)) ∧ Blk.start (.slot i c s) = (a : Int) ∧ dropBlk (putSlot ps c i s) (.slot i c s) = ps := by
  obtain ⟨p, hp, hx⟩ := slotFor_some hf
  have hlt := (List.getElem?_eq_some_iff.1 hp).1
  have hok := ok_page hv hp
  have hsz := slots_sixteen h0 h3
  -- the slot, the page's place
  have hslot : (s : Int) < 16 / sizeW c := by
    rcases hx with ⟨k1, kc, hu⟩ | ⟨_, rfl⟩
    · have hul : s < p.used.length := (List.getElem?_eq_some_iff.1 hu).1
      rcases pageFault_ok hok with h | h | h
      · rw [← kc]; omega
      · omega
      · omega
    · rcases (show c = 0 ∨ c = 1 ∨ c = 2 ∨ c = 3 by omega) with e | e | e | e <;> rw [e] <;> decide
  have key : ∃ a : Nat, (i : Int) * 16 + s * sizeW c = a ∧ a / 16 = i ∧ a % 16 / (sizeW c).toNat = s := by
    refine ⟨i * 16 + s * (sizeW c).toNat, ?_⟩
    rcases (show c = 0 ∨ c = 1 ∨ c = 2 ∨ c = 3 by omega) with e | e | e | e <;> rw [e] at hslot ⊢ <;> simp [sizeW] at hslot ⊢ <;> omega
  obtain ⟨a, ha, hai, has⟩ := key
  have hput : putSlot ps c i s = ps.set i (useSlot p c s) := by unfold putSlot; rw [hp]
  have hstart : Blk.start (.slot i c s) = (a : Int) := by unfold Blk.start; omega
  have hus : useSlot p c s = ⟨1, c, (useSlot p c s).used, 0⟩ ∧ ((useSlot p c s).used.length : Int) = 16 / sizeW c ∧ (useSlot p c s).used[s]? = some true := by
    unfold useSlot
    rcases hx with ⟨k1, kc, hu⟩ | ⟨k0, rfl⟩
    · rcases pageFault_ok hok with h | h | h
      · rw [if_neg (by omega)]
        have hul : s < p.used.length := (List.getElem?_eq_some_iff.1 hu).1
        exact ⟨by rw [k1, kc, h.2.2.2.1], by simp [h.2.2.2.2.1, kc], by simp [hul]⟩
      · omega
      · omega
    · rw [if_pos k0]
      have : 0 < (16 / sizeW c).toNat := by omega
      exact ⟨rfl, by simpa using hsz.1, by simp [this]⟩
  obtain ⟨u1, u2, u3⟩ := hus
  have hul : s < (useSlot p c s).used.length := (List.getElem?_eq_some_iff.1 u3).1
  have hv' : pagesFault (putSlot ps c i s) = 0 := by
    rw [hput]
    refine pages_ok_set hv hp ?_ ?_ (by rw [u1]; exact .inr rfl)
    · rcases hx with ⟨k1, _⟩ | ⟨k0, _⟩
      · exact .inr k1
      · exact .inl k0
    · rw [u1]; exact fault_slab h0 h3 u2 (anyB_iff.2 ⟨s, u3⟩)
  refine ⟨a, ha, ?_, hv', ?_, hstart, ?_⟩
  · unfold blockStart
    rcases hx with ⟨k1, kc, hu⟩ | ⟨k0, _⟩
    · rw [held_slot hv (a := a) (by omega) (by rw [hai]; exact hp) k1, kc, has, if_neg (by rw [hu]; simp)]
    · rw [held_free hv (a := a) (by omega) (by rw [hai]; exact hp) k0]
  · have hp' : (putSlot ps c i s)[a / 16]? = some (useSlot p c s) := by rw [hput, hai, List.getElem?_set_self hlt]
    have hk1 : (useSlot p c s).kind = 1 := by rw [u1]
    have hc1 : (useSlot p c s).cls = c := by rw [u1]
    rw [held_slot hv' (a := a) (by rw [hput, List.length_set]; omega) hp' hk1, hc1, has, if_pos u3, hai]
  · have hp' : (putSlot ps c i s)[i]? = some (useSlot p c s) := by rw [hput, List.getElem?_set_self hlt]
    unfold dropBlk
    simp only [hp']
    rw [hput, List.set_set]
    have hfree : freeSlot (useSlot p c s) s = p := by
      unfold freeSlot
      rcases hx with ⟨k1, kc, hu⟩ | ⟨k0, rfl⟩
      · have e1 : (useSlot p c s).used.set s false = p.used := by
          unfold useSlot
          rw [if_neg (by omega)]
          simp only [List.set_set]
          exact set_same hu
        rw [e1]
        rcases pageFault_ok hok with h | h | h
        · rw [if_pos h.2.2.2.2.2]
          unfold useSlot
          rw [if_neg (by omega)]
        · omega
        · omega
      · have e1 : (useSlot p c 0).used.set 0 false = List.replicate (16 / sizeW c).toNat false := by
          unfold useSlot
          rw [if_pos k0]
          simp only [List.set_set]
          exact set_same (by rw [List.getElem?_replicate, if_pos (by omega)])
        rw [e1, if_neg (by rw [anyB_rep]; simp)]
        exact (free_of hok k0).symm
    rw [hfree]
    exact set_same hp

theorem putRun_at {ps : List Pg} {i n j : Nat} (h : i + n ≤ ps.length) (hj : j < ps.length) : (putRun ps i n)[j]? = if j = i then some (runPg n) else if i ≤ j ∧ j < i + n then some restPg else ps[j]? := by
  unfold putRun
  by_cases e : j = i
  · subst e
    rw [if_pos rfl, List.getElem?_set_self (by rw [length_setMany]; exact hj)]
  · rw [if_neg e, List.getElem?_set_ne (by omega), setMany_at _ _ _ _ _ hj]
theorem freeN_at : ∀ {n : Nat} {ps : List Pg}, freeN n ps = true → ∀ j p, j < n → ps[j]? = some p → p.kind = 0
  | 0, _, _, j, p, hj, _ => by omega
  | n + 1, [], h, _, _, _, _ => by simp [freeN] at h
  | n + 1, q :: r, h, j, p, hj, hp => by
    rw [freeN] at h
    simp only [Bool.and_eq_true, decide_eq_true_eq] at h
    cases j with
    | zero => simp at hp; subst hp; exact h.1
    | succ j => exact freeN_at h.2 j p (by omega) (by simpa using hp)
/-- A run that was taken. -/
theorem run_taken {ps : List Pg} (hv : pagesFault ps = 0) {i n : Nat} (h1 : 1 ≤ n) (h4 : n ≤ 4) (hf : freeN n (ps.drop i) = true) (hl : i + n ≤ ps.length) :
    pagesFault (putRun ps i n) = 0 ∧ (putRun ps i n)[i]? = some (runPg n) ∧ (∀ j : Nat, j < n * 16 → heldAt (putRun ps i n) ((i * 16 + j : Nat) : Int) = (0, some (.run i n))) ∧ dropBlk (putRun ps i n) (.run i n) = ps := by
  have hlen : (putRun ps i n).length = ps.length := length_putRun ps i n
  have hfree : ∀ j p, i ≤ j → j < i + n → ps[j]? = some p → p.kind = 0 := fun j p hj hj2 hp => by
    refine freeN_at hf (j - i) p (by omega) ?_
    rw [List.getElem?_drop, show i + (j - i) = j by omega]; exact hp
  have hleft : ∀ k, i ≤ k → k ≤ i + n → leftN ps k = 0 := fun k hk hk2 => by
    by_cases e : k = i + n
    · subst e
      have hx := List.getElem?_eq_getElem (l := ps) (i := i + n - 1) (by omega)
      have h0 := hfree _ _ (by omega) (by omega) hx
      have hs := leftN_succ hx
      rw [show i + n - 1 + 1 = i + n by omega] at hs
      rw [hs]; unfold nextLeft; rw [if_neg (by omega), if_neg (by omega)]
      exact leftN_none hv hx (by omega)
    · have hx := List.getElem?_eq_getElem (l := ps) (i := k) (by omega)
      exact leftN_none hv hx (by have := hfree _ _ hk (by omega) hx; omega)
  have hat := fun j hj => putRun_at (ps := ps) (i := i) (n := n) (j := j) hl hj
  have hv' : pagesFault (putRun ps i n) = 0 := by
    refine pages_ok (by rw [hlen]; exact (pagesFault_ok hv).1) (fun k q hq => ?_) (fun k => if i < k ∧ k ≤ i + n then (n : Int) - (k - i) else leftN ps k) ?_ (fun k q hq => ?_) (fun k q hq => ?_) ?_
    · have hk := (List.getElem?_eq_some_iff.1 hq).1
      rw [hat k (by omega)] at hq
      split at hq
      · injection hq with hq; subst hq
        unfold pageFault runPg
        simp only
        rw [if_neg (by omega), if_pos (by trivial), if_pos (within_yes1 (by omega) (by omega)), if_pos ⟨trivial, trivial⟩]
      · split at hq
        · injection hq with hq; subst hq; decide
        · exact ok_page hv hq
    · rw [if_neg (by omega), leftN_zero]
    · have hk := (List.getElem?_eq_some_iff.1 hq).1
      rw [hat k (by omega)] at hq
      split at hq
      · injection hq with hq; subst hq
        rename_i e
        subst e
        rw [if_pos (by omega)]
        unfold nextLeft runPg
        simp only
        rw [if_pos trivial]; omega
      · split at hq
        · injection hq with hq; subst hq
          rw [if_pos (by omega), if_pos (by omega)]
          unfold nextLeft restPg
          simp only
          rw [if_neg (by omega), if_pos trivial]; omega
        · by_cases e : k = i + n
          · subst e
            rw [if_neg (by omega), if_pos (by omega), leftN_succ hq, hleft _ (by omega) (Nat.le_refl _)]
            congr 1; omega
          · rw [if_neg (by omega), if_neg (by omega), leftN_succ hq]
    · have hk := (List.getElem?_eq_some_iff.1 hq).1
      rw [hat k (by omega)] at hq
      split at hq
      · injection hq with hq; subst hq
        rename_i e
        subst e
        rw [if_neg (by omega), hleft _ (by omega) (by omega)]
        unfold runPg; simp
      · split at hq
        · injection hq with hq; subst hq
          rw [if_pos (by omega)]
          exact ⟨fun _ => by omega, fun _ => rfl⟩
        · by_cases e : k = i + n
          · subst e
            rw [if_pos (by omega)]
            have h5 := ok_rest hv hq
            rw [hleft _ (by omega) (Nat.le_refl _)] at h5
            constructor
            · intro h; have := h5.1 h; omega
            · intro h; omega
          · rw [if_neg (by omega)]; exact ok_rest hv hq
    · rw [hlen]
      by_cases e : ps.length = i + n
      · rw [if_pos (by omega)]; omega
      · rw [if_neg (by omega)]; exact ok_end hv
  have hhead : (putRun ps i n)[i]? = some (runPg n) := by rw [hat i (by omega), if_pos rfl]
  refine ⟨hv', hhead, fun j hj => ?_, ?_⟩
  · exact held_in_run hv' hhead rfl (by omega) (by show (_ : Int) < (i + (n : Int)) * 16; omega)
  · unfold dropBlk
    simp only [Int.toNat_natCast]
    refine List.ext_getElem? fun k => ?_
    by_cases hk : k < ps.length
    · rw [setMany_at _ _ _ _ _ (by rw [hlen]; exact hk)]
      have hx := List.getElem?_eq_getElem (l := ps) (i := k) hk
      split
      · rw [hx, free_of (ok_page hv hx) (hfree k _ (by omega) (by omega) hx)]
      · rw [hat k hk, if_neg (by omega), if_neg (by assumption)]
    · rw [List.getElem?_eq_none (by rw [length_setMany, hlen]; omega), List.getElem?_eq_none (by omega)]
/-- What was dropped. -/
theorem dropped {ps : List Pg} (hv : pagesFault ps = 0) {a : Int} {b : Blk} (h : heldAt ps a = (0, some b)) (he : b.start = a) :
    pagesFault (dropBlk ps b) = 0 ∧ heldAt (dropBlk ps b) a = (4, none) ∧ usedIn (dropBlk ps b) ≤ usedIn ps ∧ (dropBlk ps b).length = ps.length := by
  obtain ⟨_, h0, h1, hb⟩ := held_info hv h
  obtain ⟨a, rfl⟩ := Int.eq_ofNat_of_zero_le h0
  rcases hb with ⟨i, k, s, p, rfl, hp, k1, kc, c0, c3, hu, hul, hr, hi, hs⟩ | ⟨i, p, rfl, hp, k2, hi⟩
  · have hlt := (List.getElem?_eq_some_iff.1 hp).1
    rw [Int.toNat_natCast] at hi hs
    have hd : dropBlk ps (.slot i k s) = ps.set i (freeSlot p s) := by unfold dropBlk; simp only [hp]
    rw [hd]
    have hfs : freeSlot p s = Pg.free ∨ (freeSlot p s = ⟨p.kind, p.cls, p.used.set s false, p.run⟩ ∧ anyB (p.used.set s false) = true) := by
      unfold freeSlot
      split
      · right; exact ⟨rfl, by assumption⟩
      · left; rfl
    have hok : pageFault (freeSlot p s) = 0 ∧ ((freeSlot p s).kind = 0 ∨ (freeSlot p s).kind = 1) := by
      rcases hfs with e | ⟨e, ha⟩
      · rw [e]; exact ⟨by decide, .inl rfl⟩
      · rw [e]
        refine ⟨?_, .inr k1⟩
        rw [k1, hr]
        exact fault_slab (by omega) (by omega) (by rw [List.length_set, kc]; exact hul) ha
    have hv' := pages_ok_set hv hp (.inr k1) hok.1 hok.2
    refine ⟨hv', ?_, usedIn_le (List.length_set) (fun j q q' hq hq' hne => ?_), List.length_set⟩
    · have hx : (ps.set i (freeSlot p s))[a / 16]? = some (freeSlot p s) := by rw [← hi, List.getElem?_set_self hlt]
      rcases hfs with e | ⟨e, ha⟩
      · exact held_free hv' (a := a) (by rw [List.length_set]; omega) hx (by rw [e]; rfl)
      · rw [held_slot hv' (a := a) (by rw [List.length_set]; omega) hx (by rw [e]; exact k1), if_neg]
        rw [e]
        simp only
        rw [kc, ← hs, List.getElem?_set_self (List.getElem?_eq_some_iff.1 hu).1]; simp
    · by_cases e : j = i
      · subst e; rw [hp] at hq; injection hq with hq; subst hq; omega
      · rw [List.getElem?_set_ne (by omega), hq] at hq'; injection hq' with hq'; subst hq'; exact hne
  · have hr := ok_run hv hp k2
    have hf := run_fits hv hp k2
    have hlt := (List.getElem?_eq_some_iff.1 hp).1
    obtain ⟨m, hm⟩ : ∃ m : Nat, p.run = m := ⟨p.run.toNat, by omega⟩
    have hd : dropBlk ps (.run i p.run) = setMany ps i Pg.free m := by unfold dropBlk; simp only [hm, Int.toNat_natCast]
    have he' : a = i * 16 := by have : (i : Int) * 16 = a := he; omega
    rw [hd]
    have hlen : (setMany ps i Pg.free m).length = ps.length := length_setMany _ _ _ _
    have hat := fun j hj => setMany_at ps i Pg.free m j hj
    have hleft : leftN ps (i + m) = 0 := by
      have := (run_whole hv hp k2 (m - 1) (by omega)).2.1
      rw [show i + 1 + (m - 1) = i + m by omega] at this
      rw [this]; omega
    have hl0 : leftN ps i = 0 := leftN_none hv hp (by omega)
    have hv' : pagesFault (setMany ps i Pg.free m) = 0 := by
      refine pages_ok (by rw [hlen]; exact (pagesFault_ok hv).1) (fun k q hq => ?_) (fun k => if i ≤ k ∧ k ≤ i + m then 0 else leftN ps k) ?_ (fun k q hq => ?_) (fun k q hq => ?_) ?_
      · have hk := (List.getElem?_eq_some_iff.1 hq).1
        rw [hat k (by omega)] at hq
        split at hq
        · injection hq with hq; subst hq; decide
        · exact ok_page hv hq
      · split
        · rfl
        · exact leftN_zero ps
      · have hk := (List.getElem?_eq_some_iff.1 hq).1
        rw [hat k (by omega)] at hq
        split at hq
        · injection hq with hq; subst hq
          rw [if_pos (by omega), if_pos (by omega)]; rfl
        · have hs := leftN_succ hq
          by_cases e : k = i + m
          · subst e
            rw [if_neg (by omega), if_pos (by omega), hs, hleft]
          · by_cases e2 : k + 1 = i
            · rw [if_pos (by omega), if_neg (by omega), ← hs, e2, hl0]
            · rw [if_neg (by omega), if_neg (by omega)]; exact hs
      · have hk := (List.getElem?_eq_some_iff.1 hq).1
        rw [hat k (by omega)] at hq
        split at hq
        · injection hq with hq; subst hq
          rw [if_pos (by omega)]; unfold Pg.free; simp
        · have h5 := ok_rest hv hq
          by_cases e : k = i + m
          · subst e
            rw [if_pos (by omega)]
            rw [hleft] at h5; exact h5
          · rw [if_neg (by omega)]; exact h5
      · rw [hlen]
        split
        · rfl
        · exact ok_end hv
    refine ⟨hv', ?_, usedIn_le hlen (fun j q q' hq hq' hne => ?_), hlen⟩
    · refine held_free hv' (a := a) (p := Pg.free) (by rw [hlen]; omega) ?_ rfl
      rw [hat (a / 16) (by omega), if_pos (by omega)]
    · have hj := (List.getElem?_eq_some_iff.1 hq).1
      rw [hat j hj] at hq'
      split at hq'
      · injection hq' with hq'; subst hq'; exact absurd rfl hne
      · rw [hq] at hq'; injection hq' with hq'; subst hq'; exact hne
end Go.Proofs.YthpamclljdcjpaaGreatDoor

/- Chapter 5, plain facts: what is held when a slot was dropped; what is kept at hand in a right heap. -/
namespace Go.Proofs.YthpamclljdcjpaaGreatDoor
open Go.RowKit

instance : DecidableEq Blk := fun a b => match a, b with
  | .slot i c s, .slot j d t => decidable_of_iff (i = j ∧ c = d ∧ s = t) (by simp)
  | .run i n, .run j m => decidable_of_iff (i = j ∧ n = m) (by simp)
  | .slot _ _ _, .run _ _ => isFalse (by simp)
  | .run _ _, .slot _ _ _ => isFalse (by simp)

theorem held_range {ps : List Pg} (hv : pagesFault ps = 0) {a : Int} : (0 ≤ a ∧ a < ps.length * 16) ∨ heldAt ps a = (3, none) := by
  by_cases h : within 0 ((ps.length : Int) * 16 - 1) [a] = true
  · have := within_range h; exact .inl (by omega)
  · exact .inr (held_no hv (by simpa using h))
theorem headOf_congr {ps qs : List Pg} (h : ∀ k : Nat, (ps[k]?.map Pg.kind = some 3) ↔ (qs[k]?.map Pg.kind = some 3)) : ∀ k, headOf ps k = headOf qs k
  | 0 => rfl
  | k + 1 => by
    unfold headOf
    by_cases h3 : ps[k + 1]?.map Pg.kind = some 3
    · rw [if_pos h3, if_pos ((h _).1 h3)]; exact headOf_congr h k
    · rw [if_neg h3, if_neg (fun e => h3 ((h _).2 e))]
/-- A place in a slot that is used begins that slot's page. -/
theorem held_slot_info {ps : List Pg} (hv : pagesFault ps = 0) {a c : Int} {i s : Nat} {k : Int} (h : heldAt ps a = (c, some (.slot i k s))) :
    c = 0 ∧ 0 ≤ a ∧ a < ps.length * 16 ∧ i = a.toNat / 16 ∧ s = a.toNat % 16 / (sizeW k).toNat ∧ 0 ≤ k ∧ k ≤ 3 ∧ ∃ p, ps[i]? = some p ∧ p.kind = 1 ∧ p.cls = k ∧ p.run = 0 ∧ p.used[s]? = some true ∧ (p.used.length : Int) = 16 / sizeW k := by
  obtain ⟨h1, h2, h3, h4⟩ := held_info hv h
  rcases h4 with ⟨i', k', s', p, hb, hp, p1, p2, c0, c3, hu, hl, hr, hi, hs⟩ | ⟨i', p, hb, _⟩
  · cases hb
    exact ⟨h1, h2, h3, hi, hs, c0, c3, p, hp, p1, p2, hr, hu, hl⟩
  · cases hb
theorem freeSlot_kind (p : Pg) (s : Nat) (h1 : p.kind = 1) : (freeSlot p s).kind ≠ 3 ∧ (freeSlot p s).kind ≠ 2 := by
  unfold freeSlot; split
  · simp [h1]
  · simp [Pg.free]
theorem held_dropped {ps : List Pg} (hv : pagesFault ps = 0) {a : Int} {i s : Nat} {k : Int} (h : heldAt ps a = (0, some (.slot i k s))) (hq : pagesFault (dropBlk ps (.slot i k s)) = 0) (x : Int) :
    heldAt (dropBlk ps (.slot i k s)) x = if heldAt ps x = (0, some (.slot i k s)) then (4, none) else heldAt ps x := by
  obtain ⟨_, _, ha, hi, hs, c0, c3, p, hp, p1, p2, pr, hu, hl⟩ := held_slot_info hv h
  have hil : i < ps.length := (List.getElem?_eq_some_iff.1 hp).1
  have hd : dropBlk ps (.slot i k s) = ps.set i (freeSlot p s) := by unfold dropBlk; simp only [hp]
  rw [hd] at hq ⊢
  have hlen : (ps.set i (freeSlot p s)).length = ps.length := List.length_set
  rcases held_range hv (a := x) with ⟨x0, x1⟩ | h3
  rotate_left
  · rw [h3, if_neg (by simp)]
    rcases held_range hq (a := x) with ⟨x0, x1⟩ | h3'
    · rw [hlen] at x1
      exfalso
      unfold heldAt at h3
      rw [if_pos hv, if_pos (within_yes1 x0 (by omega))] at h3
      split at h3 <;> simp at h3
    · exact h3'
  obtain ⟨x, rfl⟩ := Int.eq_ofNat_of_zero_le x0
  have hxl : x / 16 < ps.length := by omega
  have hx := List.getElem?_eq_getElem hxl
  generalize ps[x / 16] = q at hx
  by_cases e : x / 16 = i
  · obtain rfl : q = p := by rw [e, hp] at hx; injection hx with hx; exact hx.symm
    have hx2 : (ps.set i (freeSlot q s))[x / 16]? = some (freeSlot q s) := by rw [e, List.getElem?_set_self hil]
    rw [held_slot hv (a := x) (by omega) hx p1]
    subst p2
    by_cases hany : anyB (q.used.set s false) = true
    · have hf : freeSlot q s = ⟨q.kind, q.cls, q.used.set s false, q.run⟩ := by unfold freeSlot; rw [if_pos hany]
      rw [held_slot hq (a := x) (by omega) hx2 (by rw [hf]; exact p1), hf]
      simp only
      by_cases es : x % 16 / (sizeW q.cls).toNat = s
      · rw [es, e, if_pos hu, if_pos rfl, List.getElem?_set_self (by have := (List.getElem?_eq_some_iff.1 hu).1; exact this), if_neg (by simp)]
      · rw [List.getElem?_set_ne (fun h => es h.symm)]
        split
        · rw [if_neg (by simp [es])]
        · rw [if_neg (by simp)]
    · have hf : freeSlot q s = Pg.free := by unfold freeSlot; rw [if_neg hany]
      rw [held_free hq (a := x) (by omega) hx2 (by rw [hf]; rfl)]
      by_cases es : x % 16 / (sizeW q.cls).toNat = s
      · rw [es, e, if_pos hu, if_pos rfl]
      · have : q.used[x % 16 / (sizeW q.cls).toNat]? ≠ some true := by
          intro hh
          apply hany
          exact anyB_iff.2 ⟨_, by rw [List.getElem?_set_ne (fun h => es h.symm)]; exact hh⟩
        rw [if_neg this, if_neg (by simp)]
  · have hx2 : (ps.set i (freeSlot p s))[x / 16]? = some q := by rw [List.getElem?_set_ne (fun h => e h.symm)]; exact hx
    rcases pageFault_kind (ok_page hv hx) with k0 | k1 | k2
    · rw [held_free hv (by omega) hx k0, held_free hq (a := x) (by omega) hx2 k0, if_neg (by simp)]
    · rw [held_slot hv (by omega) hx k1, held_slot hq (a := x) (by omega) hx2 k1]
      split
      · rw [if_neg (by simp [e])]
      · rw [if_neg (by simp)]
    · have hhead : headOf (ps.set i (freeSlot p s)) (x / 16) = headOf ps (x / 16) := by
        symm
        refine headOf_congr (fun j => ?_) _
        by_cases ej : j = i
        · subst ej
          rw [hp, List.getElem?_set_self hil]
          simp only [Option.map_some, Option.some.injEq]
          have := freeSlot_kind p s p1
          constructor
          · intro hh; omega
          · intro hh; exact absurd hh this.1
        · rw [List.getElem?_set_ne (fun h => ej h.symm)]
      obtain ⟨r, h5, h6, h7⟩ := held_run hv (a := x) (by omega) hx k2
      obtain ⟨r', h5', h6', h7'⟩ := held_run hq (a := x) (by omega) hx2 k2
      rw [h7, h7', hhead]
      rw [hhead] at h5'
      have ne : headOf ps (x / 16) ≠ i := by intro hh; rw [hh, hp] at h5; injection h5 with h5; rw [← h5] at h6; omega
      rw [List.getElem?_set_ne (fun h => ne h.symm), h5] at h5'
      injection h5' with h5'; subst h5'
      rw [if_neg (by simp)]

/-- A slot begins at a place. -/
theorem isSlotAt_iff {ps : List Pg} (hv : pagesFault ps = 0) {c a : Int} : isSlotAt ps c a = true ↔ ∃ i s, heldAt ps a = (0, some (.slot i c s)) ∧ (Blk.slot i c s).start = a := by
  unfold isSlotAt
  rcases hh : heldAt ps a with ⟨q, b⟩
  cases b with
  | none => simp
  | some b =>
    cases b with
    | run i n => simp
    | slot i k s =>
      have := (held_slot_info hv hh).1
      subst this
      simp only [Bool.and_eq_true, decide_eq_true_eq]
      constructor
      · rintro ⟨rfl, h2⟩; exact ⟨i, s, rfl, h2⟩
      · rintro ⟨i', s', h1, h2⟩
        simp at h1
        obtain ⟨rfl, rfl, rfl⟩ := h1
        exact ⟨rfl, h2⟩
theorem slot_dropAt {ps : List Pg} (hv : pagesFault ps = 0) {a : Int} {i s : Nat} {c : Int} (h : heldAt ps a = (0, some (.slot i c s))) : dropAt ps a.toNat = dropBlk ps (.slot i c s) := by
  obtain ⟨_, _, ha, hi, hs, c0, c3, p, hp, p1, p2, pr, hu, hl⟩ := held_slot_info hv h
  unfold dropAt dropBlk
  subst hi
  rw [hp]
  simp only
  rw [if_pos p1, p2, hs, hp]
/-- What is dropped of right pages leaves right pages in which all else is held as it was. -/
theorem slot_dropped {ps : List Pg} (hv : pagesFault ps = 0) {c a : Int} (h : isSlotAt ps c a = true) :
    pagesFault (dropAt ps a.toNat) = 0 ∧ (dropAt ps a.toNat).length = ps.length ∧ dropBlock ps a = (0, dropAt ps a.toNat, a) ∧ (∀ x, heldAt (dropAt ps a.toNat) x = if heldAt ps x = heldAt ps a then (4, none) else heldAt ps x) ∧
      ∀ c' a', a' ≠ a → isSlotAt ps c' a' = true → isSlotAt (dropAt ps a.toNat) c' a' = true := by
  obtain ⟨i, s, hh, hs⟩ := (isSlotAt_iff hv).1 h
  obtain ⟨d1, d2, _, d4⟩ := dropped hv hh hs
  have hd := slot_dropAt hv hh
  have hx := held_dropped hv hh d1
  rw [hd]
  refine ⟨d1, d4, ?_, fun x => by rw [hx, hh], fun c' a' hne h' => ?_⟩
  · unfold dropBlock; rw [hh]; simp only; rw [if_pos hs]
  · obtain ⟨i', s', hh', hs'⟩ := (isSlotAt_iff hv).1 h'
    refine (isSlotAt_iff d1).2 ⟨i', s', ?_, hs'⟩
    rw [hx, hh', if_neg]
    intro e
    simp at e
    obtain ⟨rfl, rfl, rfl⟩ := e
    exact hne (hs'.symm.trans hs)

theorem magsFault_at (ps : List Pg) : ∀ {ms : List (List Int)} {k : Nat}, magsFault ps k ms = 0 → ∀ {j : Nat} {m : List Int}, ms[j]? = some m → magFault ps (((k + j) % 4 : Nat) : Int) m = 0
  | [], _, _, j, m, hj => by simp at hj
  | q :: r, k, h, j, m, hj => by
    unfold magsFault at h
    split at h
    · cases j with
      | zero => simp at hj; subst hj; assumption
      | succ j => have := magsFault_at ps h (j := j) (by simpa using hj); rw [show k + (j + 1) = k + 1 + j by omega]; exact this
    · exact absurd h (by assumption)
theorem magFault_ok {ps : List Pg} {c : Int} {m : List Int} (h : magFault ps c m = 0) : m.length ≤ 2 ∧ ∀ a ∈ m, isSlotAt ps c a = true := by
  unfold magFault at h
  split at h
  · omega
  · split at h
    · rename_i h1 h2; exact ⟨by omega, List.all_eq_true.1 h2⟩
    · omega
/-- All that is kept at hand in a right heap are slots' beginnings, each once. -/
def KeptOk (ps : List Pg) (xs : List Int) : Prop := xs.Nodup ∧ ∀ a ∈ xs, ∃ c : Int, isSlotAt ps c a = true
theorem kept_ok {h : Hp} (hf : heapFault h = 0) : KeptOk h.pages h.kept := by
  obtain ⟨h1, _, _, _, h5, h6, _⟩ := heapFault_ok hf
  refine ⟨by simpa [alike] using h6, fun a ha => ?_⟩
  obtain ⟨m, hm, ham⟩ := List.mem_flatten.1 ha
  obtain ⟨j, hj, rfl⟩ := List.getElem_of_mem hm
  exact ⟨_, (magFault_ok (magsFault_at _ h5 (List.getElem?_eq_getElem hj))).2 a ham⟩
theorem mags_small {h : Hp} (hf : heapFault h = 0) : h.mags.length ≤ 8 ∧ 4 ≤ h.mags.length ∧ ShortM 2 h.mags ∧ h.kept.length ≤ 16 := by
  obtain ⟨h1, _, h3, _, h5, h6, _⟩ := heapFault_ok hf
  have h8 : h.mags.length % 4 = 0 ∧ 4 ≤ h.mags.length ∧ h.mags.length ≤ 8 := by simpa [magCount] using h3
  have hs : ShortM 2 h.mags := fun m hm => by
    obtain ⟨j, hj, rfl⟩ := List.getElem_of_mem hm
    exact (magFault_ok (magsFault_at _ h5 (List.getElem?_eq_getElem hj))).1
  have key : ∀ ms : List (List Int), ShortM 2 ms → ms.flatten.length ≤ 2 * ms.length := by
    intro ms
    induction ms with
    | nil => simp
    | cons m r ih =>
      intro hm
      have := ih (fun x hx => hm x (by simp [hx]))
      have := hm m (by simp)
      simp only [List.flatten_cons, List.length_append, List.length_cons]; omega
  refine ⟨h8.2.2, h8.2.1, hs, ?_⟩
  have := key _ hs
  unfold Hp.kept; omega
/-- One step of dropping what is kept. -/
theorem KeptOk.step {ps : List Pg} (hv : pagesFault ps = 0) {a : Int} {r : List Int} (h : KeptOk ps (a :: r)) : pagesFault (dropAt ps a.toNat) = 0 ∧ dropBlock ps a = (0, dropAt ps a.toNat, a) ∧ KeptOk (dropAt ps a.toNat) r := by
  obtain ⟨hn, ha⟩ := h
  obtain ⟨c, hc⟩ := ha a (by simp)
  obtain ⟨d1, d2, d3, d4, d5⟩ := slot_dropped hv hc
  have hn' := List.nodup_cons.1 hn
  exact ⟨d1, d3, hn'.2, fun x hx => by
    obtain ⟨c', hc'⟩ := ha x (by simp [hx])
    exact ⟨c', d5 c' x (fun e => hn'.1 (e ▸ hx)) hc'⟩⟩
theorem keptAll : ∀ (xs : List Int) (ps : List Pg), pagesFault ps = 0 → KeptOk ps xs → pagesFault (dropAll ps xs) = 0
  | [], _, hv, _ => hv
  | a :: r, ps, hv, h => by
    obtain ⟨h1, _, h3⟩ := KeptOk.step hv h
    exact keptAll r _ h1 h3
/-- Behind some of these, the next. -/
theorem keptAfter : ∀ (xs ys : List Int) (ps : List Pg), pagesFault ps = 0 → KeptOk ps (xs ++ ys) → pagesFault (dropAll ps xs) = 0 ∧ KeptOk (dropAll ps xs) ys
  | [], _, _, hv, h => ⟨hv, h⟩
  | a :: r, ys, ps, hv, h => by
    obtain ⟨h1, _, h3⟩ := KeptOk.step (r := r ++ ys) hv h
    exact keptAfter r ys _ h1 h3
theorem KeptOk.slot_place {ps : List Pg} (hv : pagesFault ps = 0) {xs : List Int} (h : KeptOk ps xs) {a : Int} (ha : a ∈ xs) : 0 ≤ a ∧ a < ps.length * 16 := by
  obtain ⟨c, hc⟩ := h.2 a ha
  obtain ⟨i, s, hh, _⟩ := (isSlotAt_iff hv).1 hc
  obtain ⟨_, h1, h2, _⟩ := held_slot_info hv hh
  exact ⟨h1, h2⟩
end Go.Proofs.YthpamclljdcjpaaGreatDoor

/- Chapter 5 of the program: magazines that are pointed at. -/
namespace Go.Proofs.YthpamclljdcjpaaGreatDoor
open Go.RowKit

/-- A pointer to a block of its own in which a datum lies. -/
def KPtr {α : Type} (K : Lay α) (T : TypeId) : Lay α where
  sz := 1
  rd w S cs x := ∃ b row, cs = [.pointer (some ⟨b, 0, none⟩)] ∧ S b ∧ Row w b T row ∧ K.rd w S row.toList x
  own w S cs x := ∃ b row S', cs = [.pointer (some ⟨b, 0, none⟩)] ∧ S b ∧ Row w b T row ∧ K.own w S' row.toList x ∧ ∀ k, S' k → S k ∧ k ≠ b
  rd_len := by rintro w S cs x ⟨_, _, rfl, _⟩; rfl
  rd_turn := by rintro w w' S T' cs x ⟨b, row, rfl, hb, hr, hx⟩ ht hd; exact ⟨b, row, rfl, hb, ht.row hr (hd b hb hr.lt), K.rd_turn hx ht hd⟩
  rd_mono := by rintro w S S' cs x ⟨b, row, rfl, hb, hr, hx⟩ hd; exact ⟨b, row, rfl, hd b hb hr.lt, hr, K.rd_mono hx hd⟩
  own_turn := by rintro w w' S T' cs x ⟨b, row, S', rfl, hb, hr, hx, hk⟩ ht hd; exact ⟨b, row, S', rfl, hb, ht.row hr (hd b hb hr.lt), K.own_turn hx ht (fun k h => hd k (hk k h).1), hk⟩
  own_mono := by rintro w S S' cs x ⟨b, row, T', rfl, hb, hr, hx, hk⟩ hd; exact ⟨b, row, fun k => T' k ∧ k < w.heap.size, rfl, hd b hb hr.lt, hr, K.own_mono hx (fun k h hl => ⟨h, hl⟩), fun k h => ⟨hd k (hk k h.1).1 h.2, (hk k h.1).2⟩⟩
  own_rd := by rintro w S cs x ⟨b, row, S', rfl, hb, hr, hx, hk⟩; exact ⟨b, row, rfl, hb, hr, K.rd_mono (K.own_rd hx) (fun k h _ => (hk k h).1)⟩
theorem one_ptr {α : Type} (K : Lay α) (T : TypeId) : OneC (KPtr K T) := fun w S cs x ⟨_, _, h, _⟩ c hc => by rw [h] at hc; simp at hc; subst hc; rfl
/-- A magazine, or one whose slice is nil. -/
def KMagO : Lay (Option (List Int)) where
  sz := 1
  rd w S cs x := match x with | some m => KMag.rd w S cs m | none => cs = [.slice none 0 0]
  own w S cs x := match x with | some m => KMag.own w S cs m | none => cs = [.slice none 0 0]
  rd_len := by
    rintro w S cs (_ | m) h
    · subst h; rfl
    · exact KMag.rd_len h
  rd_turn := by
    rintro w w' S T cs (_ | m) h ht hd
    · exact h
    · exact KMag.rd_turn h ht hd
  rd_mono := by
    rintro w S S' cs (_ | m) h hd
    · exact h
    · exact KMag.rd_mono h hd
  own_turn := by
    rintro w w' S T cs (_ | m) h ht hd
    · exact h
    · exact KMag.own_turn h ht hd
  own_mono := by
    rintro w S S' cs (_ | m) h hd
    · exact h
    · exact KMag.own_mono h hd
  own_rd := by
    rintro w S cs (_ | m) h
    · exact h
    · exact KMag.own_rd h
def KPM : Lay (List Int) := KPtr KMag 196
def KPMO : Lay (Option (List Int)) := KPtr KMagO 196
theorem infoPM : (Tryz.prog.info? 124).map (fun i => (i.zero, i.size, i.bytes)) = some (some (.pointer none), 1, 8) := by kernel_rfl
/-- A magazine of a list of pointers. -/
theorem Lst.pm_at {w : World} {S : Nat → Prop} {ao : Option Addr} {n : Nat} {ms : List (List Int)} (h : Lst KPM w S ao n ms) {j : Nat} (hj : j < n) :
    ∃ b off g m a l c, ao = some ⟨b, off, none⟩ ∧ b < w.heap.size ∧ ms[j]? = some m ∧ w.cell? ⟨b, off + j, none⟩ = some (.pointer (some ⟨g, 0, none⟩)) ∧ Row w g 196 #[.slice a l c] ∧ l ≤ c ∧ c ≤ maxLen ∧ Lst KInt w S a l m := by
  obtain ⟨b, off, cs, x, rfl, hb, hs, hx, hl, hcs, ⟨g, row, rfl, hg, hr, ⟨a, l, c, hrow, h1, h2, h3⟩⟩⟩ := h.at_ hj
  have h0 := hcs 0 (show 0 < 1 by omega)
  rw [show KPM.sz = 1 from rfl, Nat.mul_one] at h0
  obtain ⟨row⟩ := row
  simp at hrow; subst hrow
  exact ⟨b, off, g, x, a, l, c, rfl, hb, hx, h0, hr, h1, h2, h3⟩

theorem isTooFull_calls {g : Nat} {a : Option Addr} {l c : Nat} {w : World} (hr : Row w g 196 #[.slice a l c]) :
    Calls Tryz.prog 145 #[.pointer (some ⟨g, 0, none⟩)] w fun e w' => e = .returned (.bool (decide ((2 : Int) < l))) ∧ w = w' := by
  have h0 := hr.lt
  have h1 := hr.cell 0
  simp at h1
  go_enter Tryz.func145, Tryz.ntmps145
  go_wp2_with fail
  go_ret
  exact ⟨by simp, rfl⟩

theorem isMagCount_calls {n : Nat} {w : World} (hn : n ≤ 17592186044416) :
    Calls Tryz.prog 76 #[.int .i64 n] w fun e w' => e = .returned (.bool (magCount n)) ∧ Below w.heap.size w w' := by
  by_cases h4 : (n : Int) % 4 = 0
  · have HM : Hid (within 1 2 [(n : Int) / 4] = magCount n) := by
      show _ = _
      rw [within_one, magCount]
      apply Bool.eq_iff_iff.2
      simp; omega
    go_enter Tryz.func76, Tryz.ntmps76
    go_wp2_with fail
    refine (allWithin_calls (Ints.one (by simp)) (by omega)).mono ?_
    rintro e w1 ⟨rfl, rfl⟩
    go_wp2_with fail
    go_ret
    exact ⟨ret_bool HM.out, (Below.refl _ _).alloc (Nat.le_refl _) _⟩
  · have HM : Hid (magCount n = false) := by
      show _ = _
      rw [magCount, decide_eq_false_iff_not]; omega
    have hq : ((n : Int) % 4 == 0) = false := by simpa using h4
    clear h4
    go_enter Tryz.func76, Tryz.ntmps76
    go_wp2_with fail
    go_ret
    exact ⟨ret_bool HM.out.symm, Below.refl _ _⟩

set_option maxRecDepth 100000 in
set_option maxHeartbeats 1000000 in
theorem isSlotStart_calls {ao : Option Addr} {n cc : Nat} {at_ c : Int} {ps : List Pg} {S : Nat → Prop} {w : World} (hT : Lst KPage w S ao n ps) (hv : pagesFault ps = 0) (hn : n ≤ cc) (hc : cc ≤ 9223372036854775807) :
    Calls Tryz.prog 146 #[.slice ao n cc, .int .i64 at_, .int .i64 c] w fun e w' => e = .returned (.bool (isSlotAt ps c at_)) ∧ Below w.heap.size w w' := by
  have HL := Lib.hid hT.1
  have hn40 : n ≤ 40 := by have := (pagesFault_ok hv).1; have := hT.1; omega
  have hS : ShortP 17592186044416 ps := fun p hp => Nat.le_trans (pagesFault_short hv p hp) (by decide)
  have qss := as_ss
  have qrs := as_rs
  rcases hh : heldAt ps at_ with ⟨q, b⟩
  rcases b with _ | b
  · have hq : (q != 0) = true := by
      have := held_code hv hh
      rcases this with rfl | rfl <;> rfl
    have HF : Hid (isSlotAt ps c at_ = false) := by show _ = _; unfold isSlotAt; rw [hh]
    go_enter Tryz.func146, Tryz.ntmps146
    go_wp2_with fail
    refine (heldAt_calls hT hS hn hc (by omega)).mono ?_
    rw [hh]
    rintro e w1 ⟨rfl, hb1⟩
    simp only [heldV, blkO]
    go_wp2_with fail
    go_ret
    exact ⟨ret_bool HF.out.symm, hb1⟩
  · have hq0 := (held_info hv hh).1
    subst hq0
    rcases b with ⟨i, k, s⟩ | ⟨i, m⟩
    · obtain ⟨_, a0, a1, hi, hs, c0, c3, p, hp, p1, p2, pr, hu, hl⟩ := held_slot_info hv hh
      have HF : Hid (isSlotAt ps c at_ = (decide (k = c) && decide ((i : Int) * 16 + s * sizeW k = at_))) := by show _ = _; unfold isSlotAt; rw [hh]; rfl
      have hi40 : i ≤ 40 := by have := (List.getElem?_eq_some_iff.1 hp).1; have := HL.out; omega
      have hs15 : s ≤ 15 := by rw [hs]; have := Nat.div_le_self (at_.toNat % 16) (sizeW k).toNat; omega
      clear hi hs hp hu hl p1 p2 pr
      by_cases hk : k = c
      · have e1 : (k == c) = true := by simp [hk]
        rcases hst : decide ((i : Int) * 16 + s * sizeW k = at_) with _ | _
        all_goals
          have e2 : (((i : Int) * 16 + s * sizeW k) == at_) = _ := hst
          have HF2 := HF.out
          rw [hst] at HF2
          have HF3 := Lib.hid HF2
          clear HF HF2 hst
          subst hk
          go_enter Tryz.func146, Tryz.ntmps146
          go_wp2_with fail
          refine (heldAt_calls hT hS hn hc (by omega)).mono ?_
          rw [hh]
          rintro e w1 ⟨rfl, hb1⟩
          simp only [heldV, blkO, blkV]
          have HB := Lib.hid hb1
          clear hb1
          go_wp2_with fail
          refine (slotStart_calls c0 c3 (by omega) (by omega) (by omega) (by omega)).mono ?_
          rintro e w2 ⟨rfl, hb2⟩
          have HB2 := Lib.hid (HB.out.trans ((below_past hb2).mono HB.out.size))
          clear hb2
          go_wp2_with fail
          go_ret
          exact ⟨ret_bool (by rw [HF3.out]; simp), HB2.out⟩
      · have e1 : (k == c) = false := by simpa using hk
        have HF2 : Hid (isSlotAt ps c at_ = false) := by show _ = _; rw [HF.out]; simp [hk]
        clear HF hk
        go_enter Tryz.func146, Tryz.ntmps146
        go_wp2_with fail
        refine (heldAt_calls hT hS hn hc (by omega)).mono ?_
        rw [hh]
        rintro e w1 ⟨rfl, hb1⟩
        simp only [heldV, blkO, blkV]
        have HB := Lib.hid hb1
        clear hb1
        go_wp2_with fail
        go_ret
        exact ⟨ret_bool HF2.out.symm, HB.out.alloc HB.out.size _⟩
    · have HF : Hid (isSlotAt ps c at_ = false) := by show _ = _; unfold isSlotAt; rw [hh]
      go_enter Tryz.func146, Tryz.ntmps146
      go_wp2_with fail
      refine (heldAt_calls hT hS hn hc (by omega)).mono ?_
      rw [hh]
      rintro e w1 ⟨rfl, hb1⟩
      simp only [heldV, blkO, blkV]
      have HB := Lib.hid hb1
      clear hb1
      go_wp2_with fail
      go_ret
      exact ⟨ret_bool HF.out.symm, HB.out.alloc HB.out.size _⟩
end Go.Proofs.YthpamclljdcjpaaGreatDoor
