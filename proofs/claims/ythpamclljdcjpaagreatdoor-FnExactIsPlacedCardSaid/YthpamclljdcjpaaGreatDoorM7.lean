/- Joined texts (Impl4d, Impl4e, Spec4i, With4, Without4, Impl4f): steps of the proofs of chapter 5's laws. -/
import Derived.Deep.RegionHeld3
import Derived.Test.YthpamclljdcjpaaGreatDoorM3
import Derived.Test.YthpamclljdcjpaaGreatDoorM4
import Derived.Test.YthpamclljdcjpaaGreatDoorM6
set_option linter.unusedVariables false
set_option linter.unusedSimpArgs false
/- Chapter 4 of the program: its exported functions that answer a code and a number. -/
namespace Go.Proofs.YthpamclljdcjpaaGreatDoor
open Go.RowKit

set_option maxHeartbeats 1000000 in
theorem usedIn_calls {ao : Option Addr} {n cc : Nat} {ps : List Pg} {S : Nat → Prop} {w : World} (hT : Lst KPage w S ao n ps) (hS : ShortP 17592186044416 ps) (hn : n ≤ cc) (hc : cc ≤ 9223372036854775807) (hn4 : n ≤ 17592186044416) :
    Calls Tryz.prog 218 #[.slice ao n cc] w (Pair w (usedInR ps)) := by
  have HL := Lib.hid hT.1
  by_cases hv : pagesFault ps = 0
  rotate_left
  · have HR := Lib.hid (show usedInR ps = (pagesFault ps, 0) by unfold usedInR; rw [if_neg hv])
    have hq : (pagesFault ps != 0) = true := by simpa using hv
    clear hv
    go_enter Tryz.func218, Tryz.ntmps218
    go_wp2_with fail
    refine (pagesFault_calls (hT.alloc _) hS (by omega)).mono ?_
    rintro e w1 ⟨rfl, hb1⟩
    have hres := Row.new hb1
    have hb := below_past hb1
    go_wp2_with (refine wpList_store_row rfl 45 _ _ rfl (w.heap.size) _ rfl rfl _ _ hres (by kernel_rfl) (by rfl) (by simp [Value.oneCell']) ?_)
    refine bodyPost_ret (results_cell_row rfl _ _ (w.heap.size) _ _ _ _ rfl (setRow_heap _ _ _ _ _ _ hres) Tryz.underlying45 rfl (by kernel_rfl)) rfl ?_
    exact pair_done hb (Nat.le_refl _) _ HR.out
  have HV := Lib.hid hv
  have HR := Lib.hid (show usedInR ps = (0, (usedIn ps : Int)) by unfold usedInR; rw [if_pos hv])
  clear hv
  go_enter Tryz.func218, Tryz.ntmps218
  go_wp2_with fail
  refine (pagesFault_calls (hT.alloc _) hS (by omega)).mono ?_
  rintro e w1 ⟨rfl, hb1⟩
  rw [HV.out]
  have hres := Row.new hb1
  have hb := below_past hb1
  have hlt := hres.lt
  have hT1 := (hT.alloc (.cells #[.int .i64 0, .int .i64 0] 45)).below hb1
  clear hb1
  go_wp2_with fail
  go_loopw [4, 6, 15] (fun q _ i wr => ∃ k f : Nat, k ≤ n ∧ i = .int .i64 k ∧ q = .int .i64 f ∧ f ≤ k ∧ Hid (usedIn ps = f + usedIn (ps.drop k)) ∧ Below w1.heap.size w1 wr) (fun _ _ i _ => n - (intOf i).toNat)
  case atStart => exact ⟨0, 0, Nat.zero_le _, rfl, rfl, Nat.le_refl _, by show _ = _; simp, Below.refl _ _⟩
  case round =>
    obtain ⟨k, f, hk, rfl, rfl, hfk, HW, hbw⟩ := hrel
    by_cases hlt2 : k < n
    · obtain ⟨b, off, p, a, l, c, rfl, d0, hp, e0, e1, e2, e3, hlc, hcm, hu⟩ := (hT1.below hbw).pg_at hlt2
      have HD : Hid (usedIn ps = f + ((if p.kind = 0 then 0 else 1) + usedIn (ps.drop (k + 1)))) := by have := HW.out; rw [drop_at hp, usedIn] at this; exact this
      have hB := Lib.hid (fun o => hbw.alloc hbw.size o)
      clear hp hu
      by_cases h0 : p.kind = 0
      · have H1 : Hid (usedIn ps = f + usedIn (ps.drop (k + 1))) := by have := HD.out; rw [if_pos h0] at this; show _ = _; omega
        rw [h0] at e0
        clear h0
        go_wp2_with fail
        go_roundw
        case rel => exact ⟨k + 1, f, by omega, by go_num, rfl, by omega, H1, hB.out _⟩
        case measure => simp [intOf]; omega
      · have H1 : Hid (usedIn ps = (f + 1) + usedIn (ps.drop (k + 1))) := by have := HD.out; rw [if_neg h0] at this; show _ = _; omega
        have hq : (p.kind != 0) = true := by simpa using h0
        clear h0
        go_wp2_with fail
        go_roundw
        case rel => exact ⟨k + 1, f + 1, by omega, by go_num, by go_num, by omega, H1, hB.out _⟩
        case measure => simp [intOf]; omega
    · have HF : Hid (usedInR ps = (0, (f : Int))) := by
        have := HW.out; rw [drop_end (by rw [HL.out]; omega), usedIn] at this; show _ = _; rw [HR.out, this]; rfl
      have hres2 := Row.below hres hbw
      have hb2 := hb.trans (hbw.mono hb.size)
      go_wp2_with (refine wpList_store_row rfl 45 _ _ rfl (w.heap.size) _ rfl rfl _ _ hres2 (by kernel_rfl) (by rfl) (by simp [Value.oneCell']) ?_)
      refine bodyPost_ret (results_cell_row rfl _ _ (w.heap.size) _ _ _ _ rfl (setRow_heap _ _ _ _ _ _ hres2) Tryz.underlying45 rfl (by kernel_rfl)) rfl ?_
      exact pair_done hb2 (Nat.le_refl _) _ HF.out

/-- Where the first run is, or no one. -/
theorem findRun_by {ps : List Pg} {m : Int} (hv : pagesFault ps = 0) (h : within 1 4 [m] = true) {k : Nat} (hk : m = k) : findRun ps m = match runFrom k 0 ps with | some i => (0, (i : Int)) | none => (7, 0) := by
  unfold findRun
  rw [if_pos hv, if_pos h, hk, Int.toNat_natCast]
  cases runFrom k 0 ps <;> rfl
set_option maxHeartbeats 1000000 in
theorem findRun_calls {ao : Option Addr} {n cc : Nat} {m : Int} {ps : List Pg} {S : Nat → Prop} {w : World} (hT : Lst KPage w S ao n ps) (hS : ShortP 17592186044416 ps) (hn : n ≤ cc) (hc : cc ≤ 9223372036854775807) (hn4 : n ≤ 17592186044416) :
    Calls Tryz.prog 238 #[.slice ao n cc, .int .i64 m] w (Pair w (findRun ps m)) := by
  by_cases hv : pagesFault ps = 0
  rotate_left
  · have HR := Lib.hid (show findRun ps m = (pagesFault ps, 0) by unfold findRun; rw [if_neg hv])
    have hq : (pagesFault ps != 0) = true := by simpa using hv
    clear hv
    go_enter Tryz.func238, Tryz.ntmps238
    go_wp2_with fail
    refine (pagesFault_calls (hT.alloc _) hS (by omega)).mono ?_
    rintro e w1 ⟨rfl, hb1⟩
    have hres := Row.new hb1
    have hb := below_past hb1
    go_wp2_with (refine wpList_store_row rfl 45 _ _ rfl (w.heap.size) _ rfl rfl _ _ hres (by kernel_rfl) (by rfl) (by simp [Value.oneCell']) ?_)
    refine bodyPost_ret (results_cell_row rfl _ _ (w.heap.size) _ _ _ _ rfl (setRow_heap _ _ _ _ _ _ hres) Tryz.underlying45 rfl (by kernel_rfl)) rfl ?_
    exact pair_done hb (Nat.le_refl _) _ HR.out
  have HV := Lib.hid hv
  rcases hw : within 1 4 [m] with _ | _
  · have HR := Lib.hid (show findRun ps m = (3, 0) by unfold findRun; rw [if_pos hv, hw]; rfl)
    have HW := Lib.hid hw
    clear hv hw
    go_enter Tryz.func238, Tryz.ntmps238
    go_wp2_with fail
    refine (pagesFault_calls (hT.alloc _) hS (by omega)).mono ?_
    rintro e w1 ⟨rfl, hb1⟩
    rw [HV.out]
    have hres := Row.new hb1
    have hb := below_past hb1
    have hlt := hres.lt
    have hres2 := (heap_alloc_old w1 (.cells #[.int .i64 m] 2) hlt).trans hres
    have hb2 := hb.alloc hb.size (.cells #[.int .i64 m] 2)
    have hT1 := ((hT.alloc (.cells #[.int .i64 0, .int .i64 0] 45)).below hb1).alloc (.cells #[.int .i64 m] 2)
    clear hb1 hres hb
    go_wp2_with fail
    refine (allWithin_calls (Ints.one (by simp)) (by omega)).mono ?_
    rw [HW.out]
    rintro e w2 ⟨rfl, rfl⟩
    go_wp2_with (refine wpList_store_row rfl 45 _ _ rfl (w.heap.size) _ rfl rfl _ _ hres2 (by kernel_rfl) (by rfl) (by simp [Value.oneCell']) ?_)
    refine bodyPost_ret (results_cell_row rfl _ _ (w.heap.size) _ _ _ _ rfl (setRow_heap _ _ _ _ _ _ hres2) Tryz.underlying45 rfl (by kernel_rfl)) rfl ?_
    exact pair_done hb2 (Nat.le_refl _) _ HR.out
  obtain ⟨k, hk⟩ : ∃ k : Nat, m = k := ⟨m.toNat, by have := within_range hw; omega⟩
  have hk1 := within_range hw
  have HR := Lib.hid (findRun_by hv hw hk)
  subst hk
  have hkk : 0 < k ∧ k ≤ 4 := by omega
  have HW := Lib.hid hw
  clear hw hv hk1
  rcases hx : runFrom k 0 ps with _ | i
  · have HR2 : Hid (findRun ps k = (7, 0)) := by show _ = _; rw [HR.out, hx]
    go_enter Tryz.func238, Tryz.ntmps238
    go_wp2_with fail
    refine (pagesFault_calls (hT.alloc _) hS (by omega)).mono ?_
    rintro e w1 ⟨rfl, hb1⟩
    rw [HV.out]
    have hres := Row.new hb1
    have hb := below_past hb1
    have hlt := hres.lt
    have hres2 := (heap_alloc_old w1 (.cells #[.int .i64 k] 2) hlt).trans hres
    have hb2 := hb.alloc hb.size (.cells #[.int .i64 k] 2)
    have hT1 := ((hT.alloc (.cells #[.int .i64 0, .int .i64 0] 45)).below hb1).alloc (.cells #[.int .i64 k] 2)
    clear hb1 hres hb
    go_wp2_with fail
    refine (allWithin_calls (Ints.one (by simp)) (by omega)).mono ?_
    rw [HW.out]
    rintro e w2 ⟨rfl, rfl⟩
    go_wp2_with fail
    refine (freeRun_calls hT1 hn (by unfold maxLen; omega) hkk.1 hkk.2).mono ?_
    rw [hx]
    rintro e w3 ⟨rfl, hb3⟩
    have hres3 := Row.below (w := w1.alloc _) hres2 hb3
    have hb4 := hb2.trans (hb3.mono hb2.size)
    clear hb3
    simp only [runV]
    go_wp2_with (refine wpList_store_row rfl 45 _ _ rfl (w.heap.size) _ rfl rfl _ _ hres3 (by kernel_rfl) (by rfl) (by simp [Value.oneCell']) ?_)
    refine bodyPost_ret (results_cell_row rfl _ _ (w.heap.size) _ _ _ _ rfl (setRow_heap _ _ _ _ _ _ hres3) Tryz.underlying45 rfl (by kernel_rfl)) rfl ?_
    exact pair_done hb4 (Nat.le_refl _) _ HR2.out
  · have HR2 : Hid (findRun ps k = (0, (i : Int))) := by show _ = _; rw [HR.out, hx]
    go_enter Tryz.func238, Tryz.ntmps238
    go_wp2_with fail
    refine (pagesFault_calls (hT.alloc _) hS (by omega)).mono ?_
    rintro e w1 ⟨rfl, hb1⟩
    rw [HV.out]
    have hres := Row.new hb1
    have hb := below_past hb1
    have hlt := hres.lt
    have hres2 := (heap_alloc_old w1 (.cells #[.int .i64 k] 2) hlt).trans hres
    have hb2 := hb.alloc hb.size (.cells #[.int .i64 k] 2)
    have hT1 := ((hT.alloc (.cells #[.int .i64 0, .int .i64 0] 45)).below hb1).alloc (.cells #[.int .i64 k] 2)
    clear hb1 hres hb
    go_wp2_with fail
    refine (allWithin_calls (Ints.one (by simp)) (by omega)).mono ?_
    rw [HW.out]
    rintro e w2 ⟨rfl, rfl⟩
    go_wp2_with fail
    refine (freeRun_calls hT1 hn (by unfold maxLen; omega) hkk.1 hkk.2).mono ?_
    rw [hx]
    rintro e w3 ⟨rfl, hb3⟩
    have hres3 := Row.below (w := w1.alloc _) hres2 hb3
    have hb4 := hb2.trans (hb3.mono hb2.size)
    clear hb3
    simp only [runV]
    go_wp2_with (refine wpList_store_row rfl 45 _ _ rfl (w.heap.size) _ rfl rfl _ _ hres3 (by kernel_rfl) (by rfl) (by simp [Value.oneCell']) ?_)
    refine bodyPost_ret (results_cell_row rfl _ _ (w.heap.size) _ _ _ _ rfl (setRow_heap _ _ _ _ _ _ hres3) Tryz.underlying45 rfl (by kernel_rfl)) rfl ?_
    exact pair_done hb4 (Nat.le_refl _) _ HR2.out

/-- What is held at a place of right pages, by its head. -/
theorem blockAt_head {ps : List Pg} {a : Nat} {p : Pg} (h : ps[headOf ps (a / 16)]? = some p) : blockAt ps a = if p.kind = 2 then some (.run (headOf ps (a / 16)) p.run)
    else if p.kind = 1 then (if p.used[a % 16 / (sizeW p.cls).toNat]? = some true then some (.slot (headOf ps (a / 16)) p.cls (a % 16 / (sizeW p.cls).toNat)) else none) else none := by
  unfold blockAt; rw [h]

set_option maxRecDepth 100000 in
set_option maxHeartbeats 2000000 in
theorem blockAt_calls {ao : Option Addr} {n cc a : Nat} {ps : List Pg} {S : Nat → Prop} {w : World} (hT : Lst KPage w S ao n ps) (hv : pagesFault ps = 0) (ha : a < n * 16) :
    Calls Tryz.prog 83 #[.slice ao n cc, .int .i64 a] w fun e w' => e = .returned (blkO (blockAt ps a)) ∧ Below w.heap.size w w' := by
  have HL := Lib.hid hT.1
  have HV := Lib.hid hv
  have hn : n ≤ 40 := by have := (pagesFault_ok hv).1; have := hT.1; omega
  obtain ⟨i, hi⟩ : ∃ i, i = a / 16 := ⟨_, rfl⟩
  have hin : i < n := by omega
  have hx2 : (a : Int) / 16 = (i : Int) := by omega
  have hhi := headOf_le ps i
  obtain ⟨p, hp⟩ : ∃ p, ps[headOf ps i]? = some p := ⟨_, List.getElem?_eq_getElem (by have := HL.out; omega)⟩
  have HP := Lib.hid hp
  have HBA := Lib.hid (blockAt_head (a := a) (by rw [← hi]; exact hp))
  rw [← hi] at HBA
  have hpf := ok_page hv hp
  have h3 : p.kind ≠ 3 := by
    intro h3
    obtain ⟨g, q, hg, _, _, _, hh⟩ := head_of_rest hv hp h3
    have hle := headOf_le ps (headOf ps i)
    have hx := List.getElem?_eq_getElem (l := ps) (i := i) (by have := HL.out; omega)
    by_cases k3 : (ps[i]'(by have := HL.out; omega)).kind = 3
    · obtain ⟨g', q', _, hg', hq', _, hh'⟩ := head_of_rest hv hx k3
      rw [hh', hg'] at hp; injection hp with hp; rw [← hp] at h3; omega
    · rw [headOf_self hx k3, hx] at hp; injection hp with hp; rw [← hp] at h3; exact k3 h3
  have H3 := Lib.hid h3
  have HPF := Lib.hid hpf
  clear hi hp h3 hpf hv
  go_enter Tryz.func83, Tryz.ntmps83
  go_wp2_with fail
  go_loopw [5] (fun x wr => ∃ m : Nat, m ≤ i ∧ x = .int .i64 m ∧ Hid (headOf ps m = headOf ps i) ∧ Below w.heap.size w wr) (fun x _ => (intOf x).toNat)
  case atStart => exact ⟨i, Nat.le_refl _, rfl, rfl, Below.refl _ _⟩
  case round =>
    obtain ⟨m, hm, rfl, HM, hbw⟩ := hrel
    obtain ⟨b, off, p', ad', l, c, rfl, d0, hp', e0, e1, e2, e3, hlc, hcm, hu⟩ := (hT.below hbw).pg_at (j := m) (by omega)
    have hB := Lib.hid (fun o => hbw.alloc hbw.size o)
    by_cases m3 : p'.kind = 3
    · obtain ⟨g, q, hg, _⟩ := head_of_rest HV.out hp' m3
      obtain ⟨m', rfl⟩ : ∃ m', m = m' + 1 := ⟨m - 1, by omega⟩
      have HN : Hid (headOf ps m' = headOf ps i) := by show _ = _; rw [← HM.out, headOf_back hp' m3]
      rw [m3] at e0
      clear hp' m3 hg
      go_wp2_with fail
      go_roundw
      case rel => exact ⟨m', by omega, by go_num, HN, hbw⟩
      case measure => simp [intOf]
    · have HN : Hid (headOf ps i = m) := by show _ = _; rw [← HM.out, headOf_self hp' m3]
      obtain rfl : p = p' := by have := HP.out; rw [HN.out, hp'] at this; injection this with this; exact this.symm
      have q3 : (p.kind == 3) = false := by simpa using m3
      have hb2 : Hid (blockAt ps a = if p.kind = 2 then some (.run m p.run) else if p.kind = 1 then (if p.used[a % 16 / (sizeW p.cls).toNat]? = some true then some (.slot m p.cls (a % 16 / (sizeW p.cls).toNat)) else none) else none) := by
        have := HBA.out; rw [HN.out] at this; exact this
      clear hp' m3
      by_cases k2 : p.kind = 2
      · have HF : Hid (blkO (blockAt ps a) = .iface 204 (.agg #[.int .i64 m, .int .i64 p.run])) := by show _ = _; rw [hb2.out, if_pos k2]; rfl
        rw [k2] at e0
        clear k2 q3
        go_wp2_with fail
        go_ret
        exact ⟨ret_val HF.out.symm, hB.out _⟩
      by_cases k1 : p.kind = 1
      · have hk := pageFault_ok HPF.out
        obtain ⟨h0, h3, hl⟩ : 0 ≤ p.cls ∧ p.cls ≤ 3 ∧ (p.used.length : Int) = 16 / sizeW p.cls := by
          rcases hk with h | h | h
          · exact ⟨h.2.1, h.2.2.1, h.2.2.2.2.1⟩
          · omega
          · omega
        have hsz := sizeW_small p.cls
        have hsl := slot_small (a := a) h0 h3 hl
        have hsi := slot_int (c := p.cls) (a := a) (by omega)
        obtain ⟨s, hs⟩ : ∃ s, s = a % 16 / (sizeW p.cls).toNat := ⟨_, rfl⟩
        have HB3 : Hid (blockAt ps a = if p.used[s]? = some true then some (.slot m p.cls s) else none) := by
          have := hb2.out; rw [if_neg k2, if_pos k1, ← hs] at this; exact this
        rw [← hs] at hsl hsi
        have hll : l = p.used.length := by have := hu.1; omega
        rw [← hll] at hsl
        obtain ⟨b2, o2, rfl, hbl2, hcl⟩ := hu.bool_at hsl
        obtain ⟨u0, hgx⟩ : ∃ u0, p.used[s]? = some u0 := ⟨_, List.getElem?_eq_getElem (by omega)⟩
        rw [List.getD_eq_getElem?_getD, hgx] at hcl
        simp only [Option.getD_some] at hcl
        rw [k1] at e0
        have HSI := Lib.hid hsi
        have HGX := Lib.hid hgx
        have hs16 : s ≤ 15 := by rw [hs]; have := Nat.div_le_self (a % 16) (sizeW p.cls).toNat; omega
        clear hk hl hsi hgx hll hs hu k1 k2 q3 HBA
        rcases u0 with _ | _
        · have HF : Hid (blkO (blockAt ps a) = .nilIface) := by show _ = _; rw [HB3.out, HGX.out]; rfl
          go_wp2_with fail
          refine (wordsOfClass_calls h0 h3).mono ?_
          rintro e w2 ⟨rfl, rfl⟩
          have hne : (sizeW p.cls == 0) = false := by simp; omega
          have hx := HSI.out
          go_wp2_with fail
          go_ret
          exact ⟨ret_val HF.out.symm, hB.out _⟩
        · have HF : Hid (blkO (blockAt ps a) = .iface 206 (.agg #[.int .i64 m, .int .i64 p.cls, .int .i64 s])) := by show _ = _; rw [HB3.out, HGX.out]; rfl
          go_wp2_with fail
          refine (wordsOfClass_calls h0 h3).mono ?_
          rintro e w2 ⟨rfl, rfl⟩
          have hne : (sizeW p.cls == 0) = false := by simp; omega
          have hx := HSI.out
          go_wp2_with fail
          go_ret
          exact ⟨ret_val HF.out.symm, hB.out _⟩
      · have HF : Hid (blkO (blockAt ps a) = .nilIface) := by show _ = _; rw [hb2.out, if_neg k2, if_neg k1]; rfl
        have q1 : (p.kind == 1) = false := by simpa using k1
        have q2 : (p.kind == 2) = false := by simpa using k2
        clear k1 k2
        go_wp2_with fail
        go_ret
        exact ⟨ret_val HF.out.symm, hB.out _⟩

/-- What 'heldAt' answers. -/
def heldV (x : Int × Option Blk) : Value := .tuple #[blkO x.2, .int .i64 x.1]
set_option maxHeartbeats 2000000 in
theorem heldAt_calls {ao : Option Addr} {n cc : Nat} {at_ : Int} {ps : List Pg} {S : Nat → Prop} {w : World} (hT : Lst KPage w S ao n ps) (hS : ShortP 17592186044416 ps) (hn : n ≤ cc) (hc : cc ≤ 9223372036854775807) (hn4 : n ≤ 17592186044416) :
    Calls Tryz.prog 154 #[.slice ao n cc, .int .i64 at_] w fun e w' => e = .returned (heldV (heldAt ps at_)) ∧ Below w.heap.size w w' := by
  have HL := Lib.hid hT.1
  by_cases hv : pagesFault ps = 0
  rotate_left
  · have HR := Lib.hid (show heldAt ps at_ = (pagesFault ps, none) by unfold heldAt; rw [if_neg hv])
    have hq : (pagesFault ps != 0) = true := by simpa using hv
    clear hv
    go_enter Tryz.func154, Tryz.ntmps154
    go_wp2_with fail
    refine (pagesFault_calls hT hS (by omega)).mono ?_
    rintro e w1 ⟨rfl, hb1⟩
    go_wp2_with fail
    go_ret2
    exact ⟨ret_val (by rw [HR.out]; rfl), hb1⟩
  have HV := Lib.hid hv
  have hn40 : n ≤ 40 := by have := (pagesFault_ok hv).1; have := hT.1; omega
  rcases hw : within 0 ((n : Int) * 16 - 1) [at_] with _ | _
  · have HR := Lib.hid (show heldAt ps at_ = (3, none) from held_no hv (by rw [HL.out]; exact hw))
    have HW := Lib.hid hw
    clear hv hw
    go_enter Tryz.func154, Tryz.ntmps154
    go_wp2_with fail
    refine (pagesFault_calls hT hS (by omega)).mono ?_
    rw [HV.out]
    rintro e w1 ⟨rfl, hb1⟩
    go_wp2_with fail
    refine (allWithin_calls (Ints.one (by simp)) (by omega)).mono ?_
    rw [HW.out]
    rintro e w2 ⟨rfl, rfl⟩
    go_wp2_with fail
    go_ret2
    exact ⟨ret_val (by rw [HR.out]; rfl), hb1.alloc hb1.size _⟩
  have hwr := within_range hw
  obtain ⟨a, ha⟩ : ∃ a : Nat, at_ = a := ⟨at_.toNat, by omega⟩
  subst ha
  have han : a < n * 16 := by omega
  have HR := Lib.hid (show heldAt ps a = match blockAt ps a with | some b => (0, some b) | none => (4, none) by
    unfold heldAt; rw [if_pos hv, HL.out, if_pos hw, Int.toNat_natCast]; cases blockAt ps a <;> rfl)
  have HW := Lib.hid hw
  clear hv hw hwr
  rcases hx : blockAt ps a with _ | b
  · have HR2 : Hid (heldAt ps a = (4, none)) := by show _ = _; rw [HR.out, hx]
    go_enter Tryz.func154, Tryz.ntmps154
    go_wp2_with fail
    refine (pagesFault_calls hT hS (by omega)).mono ?_
    rw [HV.out]
    rintro e w1 ⟨rfl, hb1⟩
    go_wp2_with fail
    refine (allWithin_calls (Ints.one (by simp)) (by omega)).mono ?_
    rw [HW.out]
    rintro e w2 ⟨rfl, rfl⟩
    go_wp2_with fail
    refine (blockAt_calls ((hT.below hb1).alloc _) HV.out han).mono ?_
    rw [hx]
    rintro e w3 ⟨rfl, hb3⟩
    have hb4 := below_box hb1 hb3
    clear hb3
    simp only [blkO]
    go_wp2_with fail
    go_ret2
    exact ⟨ret_val (by rw [HR2.out]; rfl), hb4⟩
  · have HR2 : Hid (heldAt ps a = (0, some b)) := by show _ = _; rw [HR.out, hx]
    rcases b with ⟨i, c, s⟩ | ⟨i, m⟩
    · skip
      go_enter Tryz.func154, Tryz.ntmps154
      go_wp2_with fail
      refine (pagesFault_calls hT hS (by omega)).mono ?_
      rw [HV.out]
      rintro e w1 ⟨rfl, hb1⟩
      go_wp2_with fail
      refine (allWithin_calls (Ints.one (by simp)) (by omega)).mono ?_
      rw [HW.out]
      rintro e w2 ⟨rfl, rfl⟩
      go_wp2_with fail
      refine (blockAt_calls ((hT.below hb1).alloc _) HV.out han).mono ?_
      rw [hx]
      rintro e w3 ⟨rfl, hb3⟩
      have hb4 := below_box hb1 hb3
      clear hb3
      simp only [blkO, blkV]
      go_wp2_with fail
      go_ret2
      exact ⟨ret_val (by rw [HR2.out]; rfl), hb4⟩
    · skip
      go_enter Tryz.func154, Tryz.ntmps154
      go_wp2_with fail
      refine (pagesFault_calls hT hS (by omega)).mono ?_
      rw [HV.out]
      rintro e w1 ⟨rfl, hb1⟩
      go_wp2_with fail
      refine (allWithin_calls (Ints.one (by simp)) (by omega)).mono ?_
      rw [HW.out]
      rintro e w2 ⟨rfl, rfl⟩
      go_wp2_with fail
      refine (blockAt_calls ((hT.below hb1).alloc _) HV.out han).mono ?_
      rw [hx]
      rintro e w3 ⟨rfl, hb3⟩
      have hb4 := below_box hb1 hb3
      clear hb3
      simp only [blkO, blkV]
      go_wp2_with fail
      go_ret2
      exact ⟨ret_val (by rw [HR2.out]; rfl), hb4⟩
end Go.Proofs.YthpamclljdcjpaaGreatDoor

/- Chapter 4 of the program: where a block begins, how great it is. -/
namespace Go.Proofs.YthpamclljdcjpaaGreatDoor
open Go.RowKit

/-- What is held has a place and a size of small numbers. -/
theorem held_slot_small {ps : List Pg} {a : Int} {c k : Int} {i s : Nat} (hv : pagesFault ps = 0) (h : heldAt ps a = (c, some (.slot i k s))) : 0 ≤ k ∧ k ≤ 3 ∧ (i : Int) ≤ 40 ∧ (s : Int) ≤ 15 := by
  obtain ⟨_, _, _, hi⟩ := held_info hv h
  rcases hi with ⟨i', k', s', p, he, hp, h1, h2, h0, h3, hu, hl, _, _, rfl⟩ | ⟨i', p, he, _⟩
  · injection he with e1 e2 e3
    subst e1 e2 e3
    have hil := (List.getElem?_eq_some_iff.1 hp).1
    have := (pagesFault_ok hv).1
    have := Nat.div_le_self (a.toNat % 16) (sizeW k).toNat
    exact ⟨h0, h3, by omega, by omega⟩
  · cases he
theorem held_run_small {ps : List Pg} {a : Int} {c m : Int} {i : Nat} (hv : pagesFault ps = 0) (h : heldAt ps a = (c, some (.run i m))) : 1 ≤ m ∧ m ≤ 4 ∧ (i : Int) + m ≤ ps.length ∧ ps.length ≤ 40 ∧ ∃ p, ps[i]? = some p ∧ p.kind = 2 ∧ p.run = m := by
  obtain ⟨_, _, _, hi⟩ := held_info hv h
  rcases hi with ⟨i', k', s', p, he, _⟩ | ⟨i', p, he, hp, h2, _⟩
  · cases he
  · injection he with e1 e2
    subst e1 e2
    have hr := ok_run hv hp h2
    have hf := run_fits hv hp h2
    exact ⟨hr.1, hr.2, hf, (pagesFault_ok hv).1, p, hp, h2, rfl⟩

set_option maxHeartbeats 2000000 in
theorem blockStart_calls {ao : Option Addr} {n cc : Nat} {at_ : Int} {ps : List Pg} {S : Nat → Prop} {w : World} (hT : Lst KPage w S ao n ps) (hS : ShortP 17592186044416 ps) (hn : n ≤ cc) (hc : cc ≤ 9223372036854775807) (hn4 : n ≤ 17592186044416) :
    Calls Tryz.prog 86 #[.slice ao n cc, .int .i64 at_] w (Pair w (blockStart ps at_)) := by
  rcases hh : heldAt ps at_ with ⟨c, b⟩
  rcases b with _ | b
  · have HR : Hid (blockStart ps at_ = (c, 0)) := by show _ = _; unfold blockStart; rw [hh]
    have hq : (c != 0) = true := by
      by_cases hv : pagesFault ps = 0
      · have := held_code hv hh; simp; omega
      · unfold heldAt at hh; rw [if_neg hv] at hh; injection hh with h1 _; simp; omega
    go_enter Tryz.func86, Tryz.ntmps86
    go_wp2_with fail
    refine (heldAt_calls (hT.alloc _) hS hn hc hn4).mono ?_
    rw [hh]
    rintro e w1 ⟨rfl, hb1⟩
    have hres := Row.new hb1
    have hb := below_past hb1
    clear hb1
    simp only [heldV, blkO, blkV]
    go_wp2_with (refine wpList_store_row rfl 45 _ _ rfl (w.heap.size) _ rfl rfl _ _ hres (by kernel_rfl) (by rfl) (by simp [Value.oneCell']) ?_)
    refine bodyPost_ret (results_cell_row rfl _ _ (w.heap.size) _ _ _ _ rfl (setRow_heap _ _ _ _ _ _ hres) Tryz.underlying45 rfl (by kernel_rfl)) rfl ?_
    exact pair_done hb (Nat.le_refl _) _ HR.out
  · by_cases hv : pagesFault ps = 0
    rotate_left
    · unfold heldAt at hh; rw [if_neg hv] at hh; cases hh
    have hc0 := (held_info hv hh).1
    subst hc0
    rcases b with ⟨i, k, s⟩ | ⟨i, m⟩
    · obtain ⟨h0, h3, hi, hs⟩ := held_slot_small hv hh
      have HR : Hid (blockStart ps at_ = (0, (i : Int) * 16 + s * sizeW k)) := by show _ = _; unfold blockStart; rw [hh]; rfl
      clear hv
      go_enter Tryz.func86, Tryz.ntmps86
      go_wp2_with fail
      refine (heldAt_calls (hT.alloc _) hS hn hc hn4).mono ?_
      rw [hh]
      rintro e w1 ⟨rfl, hb1⟩
      have hres := Row.new hb1
      have hb := below_past hb1
      clear hb1
      simp only [heldV, blkO, blkV]
      go_wp2_with fail
      refine (slotStart_calls h0 h3 (by omega) hi (by omega) hs).mono ?_
      rintro e w2 ⟨rfl, hb2⟩
      have hres2 := Row.below hres hb2
      have hb3 := hb.trans (hb2.mono hb.size)
      clear hb2
      go_wp2_with (refine wpList_store_row rfl 45 _ _ rfl (w.heap.size) _ rfl rfl _ _ hres2 (by kernel_rfl) (by rfl) (by simp [Value.oneCell']) ?_)
      refine bodyPost_ret (results_cell_row rfl _ _ (w.heap.size) _ _ _ _ rfl (setRow_heap _ _ _ _ _ _ hres2) Tryz.underlying45 rfl (by kernel_rfl)) rfl ?_
      exact pair_done hb3 (Nat.le_refl _) _ HR.out
    · obtain ⟨hm1, hm4, him, hl40, _⟩ := held_run_small hv hh
      have HR : Hid (blockStart ps at_ = (0, (i : Int) * 16)) := by show _ = _; unfold blockStart; rw [hh]; rfl
      clear hv
      go_enter Tryz.func86, Tryz.ntmps86
      go_wp2_with fail
      refine (heldAt_calls (hT.alloc _) hS hn hc hn4).mono ?_
      rw [hh]
      rintro e w1 ⟨rfl, hb1⟩
      have hres := Row.new hb1
      have hb := below_past hb1
      clear hb1
      simp only [heldV, blkO, blkV]
      go_wp2_with fail
      refine (runStart_calls (by omega) (by omega)).mono ?_
      rintro e w2 ⟨rfl, hb2⟩
      have hres2 := Row.below hres hb2
      have hb3 := hb.trans (hb2.mono hb.size)
      clear hb2
      go_wp2_with (refine wpList_store_row rfl 45 _ _ rfl (w.heap.size) _ rfl rfl _ _ hres2 (by kernel_rfl) (by rfl) (by simp [Value.oneCell']) ?_)
      refine bodyPost_ret (results_cell_row rfl _ _ (w.heap.size) _ _ _ _ rfl (setRow_heap _ _ _ _ _ _ hres2) Tryz.underlying45 rfl (by kernel_rfl)) rfl ?_
      exact pair_done hb3 (Nat.le_refl _) _ HR.out

end Go.Proofs.YthpamclljdcjpaaGreatDoor

/- Chapter 4 of the model: its exported functions that answer pages; pages compared. -/
namespace Go.Proofs.YthpamclljdcjpaaGreatDoor
open Go.RowKit

theorem pages_done {w w1 : World} {r : Int × List Pg × Int} {x z : Int} {ps : List Pg} {g n : Nat} {v : Value} (hb : Below w.heap.size w w1) (hg : w.heap.size ≤ g) (hv : Own KPage 137 w1 (fun k => g < k) v n ps) (cs : Array Value) (h : r = (x, ps, z)) :
    RetsPages w r (.returned (.agg #[.int .i64 x, v, .int .i64 z])) (w1.setRow g cs) := by
  subst h
  exact ⟨v, n, rfl, (hv.turn (Turn.setRow w1 g cs) (fun k hk _ e => by have : k = g := e; omega)).mono (fun k hk _ => by omega), below_setRow hb hg cs⟩

theorem findSlot_eq {ps : List Pg} {c : Int} (hv : pagesFault ps = 0) (h : within 0 3 [c] = true) : findSlot ps c = if slotAt ps c < 0 then (7, [], 0) else (0, slotPut ps c, slotAt ps c) := by
  unfold findSlot slotAt slotPut
  rw [if_pos hv, if_pos h]
  have hs := sizeW_small c
  cases hr : slotFor ps c with
  | none => simp
  | some x =>
    have : 0 ≤ (x.2 : Int) * sizeW c := Int.mul_nonneg (by omega) (by omega)
    simp only; rw [if_neg (by omega)]
set_option maxHeartbeats 1000000 in
theorem sFindSlot_calls {ao : Option Addr} {n cc : Nat} {c : Int} {ps : List Pg} {S : Nat → Prop} {w : World} (hT : Lst KPage w S ao n ps) (hS : ShortP 17592186044416 ps) (hn : n ≤ 17592186044416) :
    Calls Tryz.prog 32 #[.slice ao n cc, .int .i64 c] w (RetsPages w (findSlot ps c)) := by
  by_cases hv : pagesFault ps = 0
  rotate_left
  · have HR := Lib.hid (show findSlot ps c = (pagesFault ps, [], 0) by unfold findSlot; rw [if_neg hv])
    have hq : (pagesFault ps != 0) = true := by simpa using hv
    clear hv
    go_enter Tryz.func32, Tryz.ntmps32
    go_wp2_with fail
    refine (sPagesFault_calls (hT.alloc _) hS hn).mono ?_
    rintro e w1 ⟨rfl, hb1⟩
    have hres := Row.new hb1
    have hb := below_past hb1
    go_wp2_with (refine wpList_store_row rfl 55 _ _ rfl (w.heap.size) _ rfl rfl _ _ hres (by kernel_rfl) (by rfl) (by simp [Value.oneCell']) ?_)
    refine bodyPost_ret (results_cell_row rfl _ _ (w.heap.size) _ _ _ _ rfl (setRow_heap _ _ _ _ _ _ hres) Tryz.underlying55 rfl (by kernel_rfl)) rfl ?_
    exact pages_done hb (Nat.le_refl _) Own.nil _ HR.out
  have HV := Lib.hid hv
  have hn40 : n ≤ 40 := by have := (pagesFault_ok hv).1; have := hT.1; omega
  rcases hw : within 0 3 [c] with _ | _
  · have HR := Lib.hid (show findSlot ps c = (3, [], 0) by unfold findSlot; rw [if_pos hv, hw]; rfl)
    have HW := Lib.hid hw
    clear hv hw
    go_enter Tryz.func32, Tryz.ntmps32
    go_wp2_with fail
    refine (sPagesFault_calls (hT.alloc _) hS hn).mono ?_
    rintro e w1 ⟨rfl, hb1⟩
    rw [HV.out]
    have hres := Row.new hb1
    have hb := below_past hb1
    go_wp2_with fail
    refine l3IsClass_calls.mono ?_
    rw [HW.out]
    rintro e w2 ⟨rfl, rfl⟩
    go_wp2_with (refine wpList_store_row rfl 55 _ _ rfl (w.heap.size) _ rfl rfl _ _ hres (by kernel_rfl) (by rfl) (by simp [Value.oneCell']) ?_)
    refine bodyPost_ret (results_cell_row rfl _ _ (w.heap.size) _ _ _ _ rfl (setRow_heap _ _ _ _ _ _ hres) Tryz.underlying55 rfl (by kernel_rfl)) rfl ?_
    exact pages_done hb (Nat.le_refl _) Own.nil _ HR.out
  have HR := Lib.hid (findSlot_eq hv hw)
  have HW := Lib.hid hw
  have hc := within_range hw
  obtain ⟨hc0, hc3⟩ := hc
  clear hv hw
  by_cases hneg : slotAt ps c < 0
  · have HR2 : Hid (findSlot ps c = (7, [], 0)) := by show _ = _; rw [HR.out, if_pos hneg]
    go_enter Tryz.func32, Tryz.ntmps32
    go_wp2_with fail
    refine (sPagesFault_calls (hT.alloc _) hS hn).mono ?_
    rintro e w1 ⟨rfl, hb1⟩
    rw [HV.out]
    have hres := Row.new hb1
    have hb := below_past hb1
    go_wp2_with fail
    refine l3IsClass_calls.mono ?_
    rw [HW.out]
    rintro e w2 ⟨rfl, rfl⟩
    go_wp2_with fail
    refine (l4Copy_calls ((hT.alloc _).below hb1) hS (by omega)).mono ?_
    rintro e w2 ⟨v, rfl, hown, hb2⟩
    have hlt := hres.lt
    have hs2 := hb2.size
    have hres2 := hres.below hb2
    have hbb := hb.trans (hb2.mono hb.size)
    obtain ⟨vo, vc, rfl, _, _, _⟩ := hown.shape
    have HO := Lib.hid hown
    clear hown hb2 hb1
    go_wp2_with fail
    refine (l4Slot_calls HO.out hS (by omega) hc0 hc3).mono ?_
    rintro e w3 ⟨rfl, hown3, ht3⟩
    have hres3 : Row w3 w.heap.size 55 _ := ht3.row hres2 (fun h => by omega)
    have HO3 : Hid (Own KPage 137 w3 (fun k => w.heap.size < k) (.slice vo n vc) n (slotPut ps c) ∧ Below w.heap.size w w3) := ⟨hown3.mono (fun k hk _ => by omega), ht3.below hbb (by omega) (fun k hk => by omega)⟩
    clear hown3 ht3
    go_wp2_with (refine wpList_store_row rfl 55 _ _ rfl (w.heap.size) _ rfl rfl _ _ hres3 (by kernel_rfl) (by rfl) (by simp [Value.oneCell']) ?_)
    refine bodyPost_ret (results_cell_row rfl _ _ (w.heap.size) _ _ _ _ rfl (setRow_heap _ _ _ _ _ _ hres3) Tryz.underlying55 rfl (by kernel_rfl)) rfl ?_
    exact pages_done HO3.out.2 (Nat.le_refl _) Own.nil _ HR2.out
  · have HR2 : Hid (findSlot ps c = (0, slotPut ps c, slotAt ps c)) := by show _ = _; rw [HR.out, if_neg hneg]
    go_enter Tryz.func32, Tryz.ntmps32
    go_wp2_with fail
    refine (sPagesFault_calls (hT.alloc _) hS hn).mono ?_
    rintro e w1 ⟨rfl, hb1⟩
    rw [HV.out]
    have hres := Row.new hb1
    have hb := below_past hb1
    go_wp2_with fail
    refine l3IsClass_calls.mono ?_
    rw [HW.out]
    rintro e w2 ⟨rfl, rfl⟩
    go_wp2_with fail
    refine (l4Copy_calls ((hT.alloc _).below hb1) hS (by omega)).mono ?_
    rintro e w2 ⟨v, rfl, hown, hb2⟩
    have hlt := hres.lt
    have hs2 := hb2.size
    have hres2 := hres.below hb2
    have hbb := hb.trans (hb2.mono hb.size)
    obtain ⟨vo, vc, rfl, _, _, _⟩ := hown.shape
    have HO := Lib.hid hown
    clear hown hb2 hb1
    go_wp2_with fail
    refine (l4Slot_calls HO.out hS (by omega) hc0 hc3).mono ?_
    rintro e w3 ⟨rfl, hown3, ht3⟩
    have hres3 : Row w3 w.heap.size 55 _ := ht3.row hres2 (fun h => by omega)
    have HO3 : Hid (Own KPage 137 w3 (fun k => w.heap.size < k) (.slice vo n vc) n (slotPut ps c) ∧ Below w.heap.size w w3) := ⟨hown3.mono (fun k hk _ => by omega), ht3.below hbb (by omega) (fun k hk => by omega)⟩
    clear hown3 ht3
    go_wp2_with (refine wpList_store_row rfl 55 _ _ rfl (w.heap.size) _ rfl rfl _ _ hres3 (by kernel_rfl) (by rfl) (by simp [Value.oneCell']) ?_)
    refine bodyPost_ret (results_cell_row rfl _ _ (w.heap.size) _ _ _ _ rfl (setRow_heap _ _ _ _ _ _ hres3) Tryz.underlying55 rfl (by kernel_rfl)) rfl ?_
    exact pages_done HO3.out.2 (Nat.le_refl _) HO3.out.1 _ HR2.out

theorem freeN_drop : ∀ {m j : Nat} {ps : List Pg}, j ≤ m → (∀ i p, i < j → ps[i]? = some p → p.kind = 0) → j ≤ ps.length → freeN m ps = freeN (m - j) (ps.drop j)
  | m, 0, ps, _, _, _ => by simp
  | 0, j + 1, ps, h, _, _ => by omega
  | m + 1, j + 1, [], _, _, h => by simp at h
  | m + 1, j + 1, q :: r, h1, h2, h3 => by
    have h0 := h2 0 q (by omega) (by simp)
    rw [freeN, h0, List.drop_succ_cons, Nat.add_sub_add_right, ← freeN_drop (m := m) (j := j) (ps := r) (by omega) (fun i p hi hp => h2 (i + 1) p (by omega) (by simpa using hp)) (by simpa using h3)]
    simp
theorem dropBlock_fault {ps : List Pg} {a : Int} (h : (blockStart ps a).1 ≠ 0) : dropBlock ps a = ((blockStart ps a).1, [], 0) := by
  unfold dropBlock blockStart at *
  split <;> simp_all
/-- What is dropped where a block begins. -/
theorem dropAt_blk {ps : List Pg} {a : Nat} {c : Int} {b : Blk} (hv : pagesFault ps = 0) (h : heldAt ps a = (c, some b)) (hs : b.start = a) : dropAt ps a = dropBlk ps b ∧ ∃ p, ps[a / 16]? = some p ∧
    ((p.kind = 1 ∧ 0 ≤ p.cls ∧ p.cls ≤ 3 ∧ (p.used.length : Int) = 16 / sizeW p.cls) ∨ ((p.kind == 1) = false ∧ ∃ m : Nat, p.run = m ∧ a / 16 + m ≤ ps.length)) := by
  obtain ⟨_, _, _, hi⟩ := held_info hv h
  rw [Int.toNat_natCast] at hi
  rcases hi with ⟨i, k, s, p, rfl, hp, h1, h2, h0, h3, hu, hl, _, rfl, rfl⟩ | ⟨i, p, rfl, hp, h2, _⟩
  · subst h2
    refine ⟨?_, p, hp, .inl ⟨h1, h0, h3, hl⟩⟩
    unfold dropAt dropBlk
    simp only [hp, h1, if_true]
  · have hi : a / 16 = i := by simp only [Blk.start] at hs; omega
    have hr := ok_run hv hp h2
    have hf := run_fits hv hp h2
    refine ⟨?_, p, by rw [hi]; exact hp, .inr ⟨by simp [h2], p.run.toNat, by omega, by omega⟩⟩
    unfold dropAt dropBlk
    rw [hi, hp]; simp only; rw [if_neg (by omega)]

end Go.Proofs.YthpamclljdcjpaaGreatDoor

/- Chapter 4 of the program: a block that is taken. -/
namespace Go.Proofs.YthpamclljdcjpaaGreatDoor
open Go.RowKit

theorem as_ss (v : Value) (w : World) : (Instr.typeAssert (.iface 206 v) 129 206 true).run Tryz.prog w = .ok (.tuple #[v, .bool true]) w := by kernel_rfl
theorem as_rr (v : Value) (w : World) : (Instr.typeAssert (.iface 204 v) 129 204 true).run Tryz.prog w = .ok (.tuple #[v, .bool true]) w := by kernel_rfl
theorem as_rs (v : Value) (w : World) : (Instr.typeAssert (.iface 204 v) 129 206 true).run Tryz.prog w = .ok (.tuple #[.agg #[.int .i64 0, .int .i64 0, .int .i64 0], .bool false]) w := by kernel_rfl

set_option maxRecDepth 100000 in
set_option maxHeartbeats 2000000 in
theorem withSlot_calls {a : Option Addr} {n cc i s : Nat} {c : Int} {p : Pg} {ps : List Pg} {S : Nat → Prop} {w : World} (hT : Lst KPage w S a n ps) (hS : ShortP 16 ps) (hn : n ≤ 40) (hp : ps[i]? = some p) (hk : p.kind = 1) (hc0 : 0 ≤ c) (hc3 : c ≤ 3) (hs : s < p.used.length) :
    Calls Tryz.prog 251 #[.slice a n cc, .iface 206 (.agg #[.int .i64 i, .int .i64 c, .int .i64 s])] w (RetsPages w (0, putSlot ps c i s, (i : Int) * 16 + s * sizeW c)) := by
  have HL := Lib.hid hT.1
  have HP := Lib.hid hp
  have HK := Lib.hid hk
  have hin : i < n := by have := (List.getElem?_eq_some_iff.1 hp).1; have := hT.1; omega
  have hs15 : s ≤ 15 := by have := hS.at_ hp; omega
  clear hp hk
  have qs := as_ss
  have qr := as_rr
  have qrs := as_rs
  go_enter Tryz.func251, Tryz.ntmps251
  go_wp2_with fail
  refine (copyPages_calls (hT.alloc _) (fun q hq => by have := hS q hq; omega) (by omega)).mono ?_
  rintro e w1 ⟨v, rfl, hown, hb1⟩
  have hres := Row.new hb1
  have hb := below_past hb1
  clear hb1
  obtain ⟨g, cap, p', a0, l, c0, F, rfl, g0, hgS, hp', ⟨q0, q1, q2, q3⟩, ⟨f0, f1, f2, f3⟩, ⟨hU, hF, hlc, hcm⟩, hset, hus⟩ := hown.pg_at (j := i) hin
  obtain rfl : p = p' := by have := HP.out; rw [hp'] at this; injection this with this; exact this.symm
  have hll : l = p.used.length := by have := hU.1; omega
  rw [HK.out] at q0
  have hsl : s < l := by omega
  obtain ⟨o, ho⟩ : ∃ o, o = Obj.cells #[.int .i64 i, .int .i64 c, .int .i64 s] 206 := ⟨_, rfl⟩
  have hbox : Row (w1.alloc o) w1.heap.size 206 #[.int .i64 i, .int .i64 c, .int .i64 s] := by rw [ho]; exact heap_alloc_new _ _
  have x2 : (w1.alloc o).cell? ⟨w1.heap.size, 2, none⟩ = some (.int .i64 s) := by rw [hbox.cell]; rfl
  have kA : Below w1.heap.size w1 (w1.alloc o) := (Below.refl _ _).alloc (Nat.le_refl _) o
  have r2 := (kA.cell (p := ⟨g, i * 4 + 2, none⟩) g0).trans q2
  obtain ⟨g2, cap2, hv2, hg2S, hg2, hcl, hfr, hbst⟩ := hU.bool_at hsl
  cases hv2
  obtain ⟨hO1, hT1⟩ := hbst true
  have hg2' := hF g2 hg2S
  have hg2g : g2 ≠ g := hg2'.2.1
  have hg2x : g2 ≠ w1.heap.size := by omega
  have hcl2 := (kA.cell (p := ⟨g2, s, none⟩) hg2).trans hcl
  have hfr2 := (kA.frozen (p := ⟨g2, s, none⟩) hg2).trans hfr
  have kA2 : Below (w1.setCell ⟨g2, s, none⟩ (.bool true)).heap.size (w1.setCell ⟨g2, s, none⟩ (.bool true)) ((w1.setCell ⟨g2, s, none⟩ (.bool true)).alloc o) := (Below.refl _ _).alloc (Nat.le_refl _) o
  have y2 : ((w1.setCell ⟨g2, s, none⟩ (.bool true)).alloc o).cell? ⟨g, i * 4 + 2, none⟩ = some (.slice (some ⟨g2, 0, none⟩) l c0) := (kA2.cell (p := ⟨g, i * 4 + 2, none⟩) (by simpa using g0)).trans ((World.cell?_setCell_other _ _ _ _ (fun e => hg2g (by injection e))).trans q2)
  have hbox2 : Row ((w1.setCell ⟨g2, s, none⟩ (.bool true)).alloc o) w1.heap.size 206 #[.int .i64 i, .int .i64 c, .int .i64 s] := by
    have h1 := heap_alloc_new (w1.setCell ⟨g2, s, none⟩ (.bool true)) o
    rw [World.size_setCell, ho] at h1; rw [ho]; exact h1
  have y5 : ((w1.setCell ⟨g2, s, none⟩ (.bool true)).alloc o).cell? ⟨w1.heap.size, 2, none⟩ = some (.int .i64 s) := by rw [hbox2.cell]; rfl
  have hN := hus _ _ hT1 hO1
  have hPut : Hid (putSlot ps c i s = ps.set i ⟨p.kind, p.cls, p.used.set s true, p.run⟩) := by
    show _ = _; unfold putSlot; rw [HP.out]; simp only [useSlot]; rw [if_neg (by rw [HK.out]; omega)]
  have hresA : Row ((w1.setCell ⟨g2, s, none⟩ (.bool true)).alloc o) w.heap.size 55 #[.int .i64 0, .slice none 0 0, .int .i64 0] := row_alloc (hT1.row hres (fun h => by have := (hF _ h).1; simp at this; omega)) o
  have hbA : Below w.heap.size w ((w1.setCell ⟨g2, s, none⟩ (.bool true)).alloc o) := (hT1.below hb hb.size (fun k hk => by have := (hF _ hk).1; simp at this; omega)).alloc (by simpa using hb.size) o
  have HN := Lib.hid (And.intro (hN.1.alloc o) (And.intro hresA hbA))
  generalize p.used.getD s false = u0 at hcl2
  clear hset hus hbst hown hU hO1 hT1 hN hresA hbA hF hcl hfr
  subst ho
  go_wp2_with fail
  go_region_held3 (fun w' => w'.cell? ⟨g, i * 4 + 2, none⟩ = some (.slice (some ⟨g2, 0, none⟩) l c0) ∧ w'.cell? ⟨w1.heap.size, 2, none⟩ = some (.int .i64 s)) (first | assumption | exact ⟨r2, x2⟩ | exact ⟨y2, y5⟩)
    (fail)
  go_wp2_with fail
  refine (slotStart_calls hc0 hc3 (by omega) (by omega) (by omega) (by omega)).mono ?_
  rintro e w3 ⟨rfl, hb3⟩
  have hb3' : Below ((w1.setCell ⟨g2, s, none⟩ (.bool true)).alloc (.cells #[.int .i64 i, .int .i64 c, .int .i64 s] 206)).heap.size ((w1.setCell ⟨g2, s, none⟩ (.bool true)).alloc (.cells #[.int .i64 i, .int .i64 c, .int .i64 s] 206)) w3 := ⟨hb3.os, hb3.tape, hb3.output, hb3.size, hb3.block⟩
  have hresB := Row.below HN.out.2.1 hb3'
  have HM : Hid (Own KPage 137 w3 (fun k => w.heap.size < k) (.slice (some ⟨g, 0, none⟩) n cap) n (putSlot ps c i s) ∧ Below w.heap.size w w3) := by
    rw [hPut.out]
    exact ⟨(HN.out.1.below hb3').mono (fun k hk _ => by simp at hk; omega), HN.out.2.2.trans (hb3'.mono HN.out.2.2.size)⟩
  clear hb3 hb3'
  go_wp2_with (refine wpList_store_row rfl 55 _ _ rfl w.heap.size _ rfl rfl _ _ hresB (by kernel_rfl) (by rfl) (by simp [Value.oneCell']) ?_)
  refine bodyPost_ret (results_cell_row rfl _ _ w.heap.size _ _ _ _ rfl (setRow_heap _ _ _ _ _ _ hresB) Tryz.underlying55 rfl (by kernel_rfl)) rfl ?_
  exact pages_done HM.out.2 (Nat.le_refl _) HM.out.1 _ rfl
theorem keep1 {W a b : World} {p : Addr} {x : Value} (h : a.cell? p = some x ∧ Below W.heap.size W a) (hb : Below a.heap.size a b) : b.cell? p = some x ∧ Below W.heap.size W b :=
  ⟨(hb.cell (World.block_lt_of_cell? _ _ h.1)).trans h.1, h.2.trans (hb.mono h.2.size)⟩
theorem keep1_set {W a : World} {p q : Addr} {x v : Value} (h : a.cell? p = some x ∧ Below W.heap.size W a) (hx : q.block ≠ p.block) (hg : W.heap.size ≤ q.block) : (a.setCell q v).cell? p = some x ∧ Below W.heap.size W (a.setCell q v) :=
  ⟨(World.cell?_setCell_other _ _ _ _ (fun e => hx (by rw [e]))).trans h.1, h.2.setCell hg _⟩
theorem keep1_drew {W a : World} {p : Addr} {x : Value} (h : a.cell? p = some x ∧ Below W.heap.size W a) : a.drew.cell? p = some x ∧ Below W.heap.size W a.drew := ⟨h.1, h.2.drew⟩
set_option maxRecDepth 100000 in
set_option maxHeartbeats 2000000 in
theorem withFree_calls {a : Option Addr} {n cc i : Nat} {c : Int} {p : Pg} {ps : List Pg} {S : Nat → Prop} {w : World} (hT : Lst KPage w S a n ps) (hS : ShortP 16 ps) (hn : n ≤ 40) (hp : ps[i]? = some p) (hk : p.kind = 0) (hc0 : 0 ≤ c) (hc3 : c ≤ 3) :
    Calls Tryz.prog 251 #[.slice a n cc, .iface 206 (.agg #[.int .i64 i, .int .i64 c, .int .i64 0])] w (RetsPages w (0, putSlot ps c i 0, (i : Int) * 16)) := by
  have HL := Lib.hid hT.1
  have HP := Lib.hid hp
  have HK := Lib.hid hk
  have hin : i < n := by have := (List.getElem?_eq_some_iff.1 hp).1; have := hT.1; omega
  clear hp hk
  have qs := as_ss
  obtain ⟨ib, hib, hb0, hb1', hb2'⟩ := info_parts infoBool
  obtain ⟨z, hz⟩ : ∃ z : Nat, (16 : Int) / sizeW c = z := ⟨(16 / sizeW c).toNat, by rw [Int.toNat_of_nonneg (Int.ediv_nonneg (by omega) (by have := sizeW_small c; omega))]⟩
  have hz16 : z ≤ 16 := by have := Int.ediv_le_self (a := 16) (sizeW c) (by omega); omega
  have hz1 : 1 ≤ z := by
    rcases (show c = 0 ∨ c = 1 ∨ c = 2 ∨ c = 3 by omega) with e | e | e | e <;> rw [e] at hz <;> simp [sizeW] at hz <;> omega
  have hmk := fun W => run_make (P := Tryz.prog) W 135 4 ib (.bool false) Tryz.underlying135 hib hb0 .i64 .i64 z z (by omega) (Int.le_refl _) (by rw [hb2']; omega) (by omega)
  simp only [Int.toNat_natCast, hb1'] at hmk
  have rf := fun W => run_field_P1 W (.int .i64 0) (.int .i64 z)
  have qr := as_rr
  have qrs := as_rs
  go_enter Tryz.func251, Tryz.ntmps251
  go_wp2_with fail
  refine (copyPages_calls (hT.alloc _) (fun q hq => by have := hS q hq; omega) (by omega)).mono ?_
  rintro e w1 ⟨v, rfl, hown, hb1⟩
  have hres := Row.new hb1
  have hb := below_past hb1
  clear hb1
  obtain ⟨g, cap, p', a0, l, c0, F, rfl, g0, hgS, hp', ⟨q0, q1, q2, q3⟩, ⟨f0, f1, f2, f3⟩, ⟨hU, hF, hlc, hcm⟩, hset, hus⟩ := hown.here.pg_at (j := i) hin
  obtain rfl : p = p' := by have := HP.out; rw [hp'] at this; injection this with this; exact this.symm
  have hll : l = p.used.length := by have := hU.1; omega
  rw [HK.out] at q0
  go_wp2_with fail
  obtain ⟨o, ho⟩ : ∃ o, o = Obj.cells #[.int .i64 i, .int .i64 c, .int .i64 0] 206 := ⟨_, rfl⟩
  have hbox : Row (w1.alloc o) w1.heap.size 206 #[.int .i64 i, .int .i64 c, .int .i64 0] := by rw [ho]; exact heap_alloc_new _ _
  have x1 : (w1.alloc o).cell? ⟨w1.heap.size, 1, none⟩ = some (.int .i64 c) := by rw [hbox.cell]; rfl
  have kA : Below w1.heap.size w1 (w1.alloc o) := (Below.refl _ _).alloc (Nat.le_refl _) o
  have hgw : w.heap.size ≤ g := by have := hgS.1; simp at this; omega
  have hgx : g ≠ w1.heap.size := by omega
  have hS0 : (w1.alloc o).drew.cell? ⟨w1.heap.size, 1, none⟩ = some (.int .i64 c) ∧ Below w.heap.size w (w1.alloc o).drew := ⟨x1, (hb.alloc hb.size o).drew⟩
  have p0 := (kA.cell (p := ⟨g, i * 4, none⟩) g0).trans q0
  have p1 := (kA.cell (p := ⟨g, i * 4 + 1, none⟩) g0).trans q1
  have p2 := (kA.cell (p := ⟨g, i * 4 + 2, none⟩) g0).trans q2
  have p3 := (kA.cell (p := ⟨g, i * 4 + 3, none⟩) g0).trans q3
  have d0 := (kA.frozen (p := ⟨g, i * 4, none⟩) g0).trans f0
  have d1 := (kA.frozen (p := ⟨g, i * 4 + 1, none⟩) g0).trans f1
  have d2 := (kA.frozen (p := ⟨g, i * 4 + 2, none⟩) g0).trans f2
  have d3 := (kA.frozen (p := ⟨g, i * 4 + 3, none⟩) g0).trans f3
  have HSET := Lib.hid hset
  have HF := Lib.hid hF
  have HRES := Lib.hid hres
  have HQ := Lib.hid (And.intro p0 (And.intro p1 (And.intro p2 (And.intro p3 (And.intro d0 (And.intro d1 (And.intro d2 (And.intro d3 (Nat.lt_of_lt_of_le g0 kA.size)))))))))
  have hsk : ∀ W, Calls Tryz.prog 219 #[.int .i64 c] W fun e w' => e = .returned (.agg #[.int .i64 0, .int .i64 z]) ∧ Below W.heap.size W w' := fun W => by have := slots_known (w := W) hc0 hc3; rw [hz] at this; exact this
  have HZ := Lib.hid hz
  clear hz
  subst ho
  clear q0 q1 q2 q3 f0 f1 f2 f3 p0 p1 p2 p3 d0 d1 d2 d3
  have HSK := Lib.hid hsk
  clear hsk x1
  go_region_held3 (fun w' => w'.cell? ⟨w1.heap.size, 1, none⟩ = some (.int .i64 c) ∧ Below w.heap.size w w')
    (first | with_reducible assumption | with_reducible exact hS0 | with_reducible exact keep1 (by with_reducible assumption) ((Below.refl _ _).alloc (Nat.le_refl _) _) | with_reducible exact keep1 (keep1_set (keep1_set (keep1_set (keep1_set (by with_reducible assumption) hgx hgw) hgx hgw) hgx hgw) hgx hgw) ((Below.refl _ _).alloc (Nat.le_refl _) _))
    ((go_at_call 219; have hq := hS0; refine (HSK.out _).mono ?_; rintro e w2 ⟨rfl, b1⟩; have hS' := keep1 hq b1; have HB1 := Lib.hid b1; obtain ⟨p0, p1, p2, p3, d0, d1, d2, d3, gl⟩ := HQ.out; have p0' := (b1.cell (p := ⟨g, i * 4, none⟩) gl).trans p0; have p1' := (b1.cell (p := ⟨g, i * 4 + 1, none⟩) gl).trans p1; have p2' := (b1.cell (p := ⟨g, i * 4 + 2, none⟩) gl).trans p2; have p3' := (b1.cell (p := ⟨g, i * 4 + 3, none⟩) gl).trans p3; have d0' := (b1.frozen (p := ⟨g, i * 4, none⟩) gl).trans d0; have d1' := (b1.frozen (p := ⟨g, i * 4 + 1, none⟩) gl).trans d1; have d2' := (b1.frozen (p := ⟨g, i * 4 + 2, none⟩) gl).trans d2; have d3' := (b1.frozen (p := ⟨g, i * 4 + 3, none⟩) gl).trans d3; have gl2 : g < w2.heap.size := Nat.lt_of_lt_of_le gl b1.size; clear p0 p1 p2 p3 d0 d1 d2 d3 gl hq))
  clear hS'
  have hb2 : Below w1.heap.size w1 w2 := by
    have := HB1.out
    exact below_past (o := .cells #[.int .i64 i, .int .i64 c, .int .i64 0] 206) ⟨this.os, this.tape, this.output, this.size, this.block⟩
  have hbx2 : Row w2 w1.heap.size 206 #[.int .i64 i, .int .i64 c, .int .i64 0] := by
    have h1 := HB1.out.block w1.heap.size (by simp)
    exact h1.trans (heap_alloc_new w1 (.cells #[.int .i64 i, .int .i64 c, .int .i64 0] 206))
  have hs12 : w1.heap.size < w2.heap.size := hbx2.lt
  obtain ⟨M, hM⟩ : ∃ M, M = Obj.cells (madeCells #[.bool false] z) 4 := ⟨_, rfl⟩
  have hUM : Own KBool 4 (w2.alloc M) (fun q => q = w2.heap.size) (.slice (some ⟨w2.heap.size, 0, none⟩) z z) z (List.replicate z false) := by
    rw [hM]
    refine Own.of_made (B := 0) (z := .bool false) ?_ rfl rfl rfl
    have := World.ownsRow_lit (w := w2) (base := 0) (e := 4) (size := 1) (madeCells #[.bool false] z) z (Nat.zero_le _) (by unfold maxLen; omega) (by rw [size_madeCells, Nat.mul_one])
    simpa [KBool, Value.cells] using this
  obtain ⟨hA, hB, hC⟩ := HSET.out (w2.alloc M) ⟨1, c, List.replicate z false, 0⟩ (.slice (some ⟨w2.heap.size, 0, none⟩) z z) z (fun q => q = w2.heap.size) (Turn.of_below (hb2.alloc hb2.size M)) hUM (fun q hq hlt _ => by have := hb2.size; omega)
  simp only [] at hA hB hC
  rw [World.setCell_alloc_past M g (i * 4) _ gl2, World.setCell_alloc_past M g (i * 4 + 1) _ (by simpa using gl2), World.setCell_alloc_past M g (i * 4 + 2) _ (by simpa using gl2), World.setCell_alloc_past M g (i * 4 + 3) _ (by simpa using gl2)] at hA hB hC
  rw [hM] at hA hB hC
  clear hM hUM
  generalize hW3 : ((((w2.setCell ⟨g, i * 4, none⟩ (.int .i64 1)).setCell ⟨g, i * 4 + 1, none⟩ (.int .i64 c)).setCell ⟨g, i * 4 + 2, none⟩ (.slice (some ⟨w2.heap.size, 0, none⟩) z z)).setCell ⟨g, i * 4 + 3, none⟩ (.int .i64 0)).alloc (.cells (madeCells #[.bool false] z) 4) = W3 at hA hB hC ⊢
  have hbx3 : Row W3 w1.heap.size 206 #[.int .i64 i, .int .i64 c, .int .i64 0] := by
    rw [← hW3]
    refine row_alloc ?_ _
    exact ((Turn.set4 (w1 := w2) (g := g) (o0 := i * 4) (o1 := i * 4 + 1) (o2 := i * 4 + 2) (o3 := i * 4 + 3) (a := .int .i64 1) (b := .int .i64 c) (c := .slice (some ⟨w2.heap.size, 0, none⟩) z z) (d := .int .i64 0)).row hbx2 (fun e => hgx e.symm))
  have x2 : W3.cell? ⟨w1.heap.size, 2, none⟩ = some (.int .i64 0) := by rw [hbx3.cell]; rfl
  have hres3 : Row W3 w.heap.size 55 #[.int .i64 0, .slice none 0 0, .int .i64 0] := hB.row HRES.out (fun h => by have h1 : w.heap.size + 1 ≤ w.heap.size := (by simpa using h.1); omega)
  have hb3 : Below w.heap.size w W3 := hB.below hb hb.size (fun k hk => by have h1 := hk.1; simp at h1; omega)
  obtain ⟨g', cap', p', a', l', c', F', he', g0', hgS', hp', ⟨z0, z1, z2, z3⟩, _, ⟨hU', hF', _, _⟩, _, hus'⟩ := hA.pg_at hin
  cases he'
  have hp2 : p' = ⟨1, c, List.replicate z false, 0⟩ := by
    rw [List.getElem?_set_self (by have := HL.out; omega)] at hp'
    injection hp' with hp'; exact hp'.symm
  subst hp2
  obtain ⟨g2, cap2, hv2, hg2S, hg2, hcl, hfr, hbst⟩ := hU'.bool_at (j := 0) (by have := hU'.1; simp at this; omega)
  cases hv2
  obtain ⟨hO1, hT1⟩ := hbst true
  have hg2' := hF' g2 hg2S
  have hg2g : g2 ≠ g := hg2'.2.1
  have hg2x : g2 ≠ w1.heap.size := by
    rcases hg2'.1 with h | h
    · have := h.2; omega
    · omega
  have hg2r : w.heap.size < g2 := by
    rcases hg2'.1 with h | h
    · have := h.1; simp at this; omega
    · have := hb.size; omega
  have y2 : (W3.setCell ⟨g2, 0, none⟩ (.bool true)).cell? ⟨g, i * 4 + 2, none⟩ = some (.slice (some ⟨g2, 0, none⟩) l' c') := (World.cell?_setCell_other _ _ _ _ (fun e => hg2g (by injection e))).trans z2
  have y5 : (W3.setCell ⟨g2, 0, none⟩ (.bool true)).cell? ⟨w1.heap.size, 2, none⟩ = some (.int .i64 0) := (World.cell?_setCell_other _ _ _ _ (fun e => hg2x (by injection e))).trans x2
  have hN := hus' _ _ hT1 hO1
  have hl' : 0 < l' := by have := hU'.1; simp at this; omega
  have hPut : Hid (putSlot ps c i 0 = ps.set i ⟨1, c, (List.replicate z false).set 0 true, 0⟩) := by
    show _ = _; unfold putSlot; rw [HP.out]; simp only [useSlot]; rw [if_pos HK.out, HZ.out, Int.toNat_natCast]
  have hresA : Row (W3.setCell ⟨g2, 0, none⟩ (.bool true)) w.heap.size 55 #[.int .i64 0, .slice none 0 0, .int .i64 0] := hT1.row hres3 (fun h => by
    rcases (hF' _ h).1 with h1 | h1
    · have h2 : w.heap.size + 1 ≤ w.heap.size := (by simpa using h1.1)
      omega
    · have := hb.size; omega)
  have hbA : Below w.heap.size w (W3.setCell ⟨g2, 0, none⟩ (.bool true)) := hT1.below hb3 hb3.size (fun k hk => by
    rcases (hF' _ hk).1 with h1 | h1
    · have h2 := h1.1; simp at h2; omega
    · have := hb.size; omega)
  have hset2 := hN.1
  simp only [List.set_set] at hset2
  have HN := Lib.hid (And.intro hset2 (And.intro hresA hbA))
  generalize (List.replicate z false).getD 0 false = u0 at hcl
  clear hset hus hus' hbst hown hU hU' hO1 hT1 hN hresA hbA hF' hW3 p0' p1' p2' p3' d0' d1' d2' d3' hS0 hA hB hC hset2 z0 z1 z3
  go_wp2_with fail
  go_region_held3 (fun w' => w'.cell? ⟨g, i * 4 + 2, none⟩ = some (.slice (some ⟨g2, 0, none⟩) l' c') ∧ w'.cell? ⟨w1.heap.size, 2, none⟩ = some (.int .i64 0)) (first | with_reducible assumption | with_reducible exact ⟨z2, x2⟩ | with_reducible exact ⟨y2, y5⟩ | exact ⟨z2, x2⟩ | exact ⟨y2, y5⟩)
    (fail)
  go_wp2_with fail
  refine (slotStart_calls hc0 hc3 (by omega) (by omega) (by omega) (by omega)).mono ?_
  rintro e w4 ⟨rfl, hb4⟩
  have hb4' : Below (W3.setCell ⟨g2, 0, none⟩ (.bool true)).heap.size (W3.setCell ⟨g2, 0, none⟩ (.bool true)) w4 := ⟨hb4.os, hb4.tape, hb4.output, hb4.size, hb4.block⟩
  have hresB := Row.below HN.out.2.1 hb4'
  have HM : Hid (Own KPage 137 w4 (fun k => w.heap.size < k) (.slice (some ⟨g, 0, none⟩) n cap) n (putSlot ps c i 0) ∧ Below w.heap.size w w4) := by
    rw [hPut.out]
    refine ⟨(HN.out.1.below hb4').mono (fun k hk _ => ?_), HN.out.2.2.trans (hb4'.mono HN.out.2.2.size)⟩
    rcases hk with h1 | h1
    · have h2 := h1.1; simp at h2; omega
    · have := hb.size; omega
  clear hb4 hb4'
  go_wp2_with (refine wpList_store_row rfl 55 _ _ rfl w.heap.size _ rfl rfl _ _ hresB (by kernel_rfl) (by rfl) (by simp [Value.oneCell']) ?_)
  refine bodyPost_ret (results_cell_row rfl _ _ w.heap.size _ _ _ _ rfl (setRow_heap _ _ _ _ _ _ hresB) Tryz.underlying55 rfl (by kernel_rfl)) rfl ?_
  exact pages_done HM.out.2 (Nat.le_refl _) HM.out.1 _ (by simp)

set_option maxRecDepth 100000 in
set_option maxHeartbeats 2000000 in
theorem withRun_calls {a : Option Addr} {n cc i m : Nat} {ps : List Pg} {S : Nat → Prop} {w : World} (hT : Lst KPage w S a n ps) (hS : ShortP 16 ps) (hn : n ≤ 40) (hm0 : 0 < m) (hm : i + m ≤ n) :
    Calls Tryz.prog 251 #[.slice a n cc, .iface 204 (.agg #[.int .i64 i, .int .i64 m])] w (RetsPages w (0, putRun ps i m, (i : Int) * 16)) := by
  have HL := Lib.hid hT.1
  have qr := as_rr
  have qrs := as_rs
  go_enter Tryz.func251, Tryz.ntmps251
  go_wp2_with fail
  refine (copyPages_calls (hT.alloc _) (fun q hq => by have := hS q hq; omega) (by omega)).mono ?_
  rintro e w1 ⟨v, rfl, hown, hb1⟩
  have hres := Row.new hb1
  have hb := below_past hb1
  clear hb1
  obtain ⟨vo, vc, rfl, _, _, _⟩ := hown.shape
  have ho1 := hown.here
  have hbs := hb.size
  have HI := Lib.hid (And.intro (ho1.alloc (.cells #[.int .i64 i, .int .i64 m] 204)) (And.intro (row_alloc hres (.cells #[.int .i64 i, .int .i64 m] 204)) (hb.alloc hb.size (.cells #[.int .i64 i, .int .i64 m] 204))))
  have hbox := heap_alloc_new w1 (.cells #[.int .i64 i, .int .i64 m] 204)
  have HX := Lib.hid hbox
  clear hown ho1 hbox
  go_wp2_with fail
  go_loopw [9, 47] (fun _ x wr => ∃ k : Nat, k ≤ m ∧ x = .int .i64 k ∧ Own KPage 137 wr (fun q => w.heap.size + 1 ≤ q ∧ q < w1.heap.size) (.slice vo n vc) n (setMany ps i restPg k) ∧ Row wr w1.heap.size 204 #[.int .i64 i, .int .i64 m] ∧ Row wr w.heap.size 55 #[.int .i64 0, .slice none 0 0, .int .i64 0] ∧ Below w.heap.size w wr) (fun _ x _ => m - (intOf x).toNat)
  case atStart => exact ⟨0, Nat.zero_le _, rfl, HI.out.1.mono (fun q hq _ => by simpa using hq), HX.out, HI.out.2.1, HI.out.2.2⟩
  case round =>
    obtain ⟨k, hk, rfl, hO, hB, hR, hbw⟩ := hrel
    have x0 : wr.cell? ⟨w1.heap.size, 0, none⟩ = some (.int .i64 i) := by rw [hB.cell]; rfl
    have x1 : wr.cell? ⟨w1.heap.size, 1, none⟩ = some (.int .i64 m) := by rw [hB.cell]; rfl
    by_cases hlt : k < m
    · obtain ⟨g, cap, p, a', l, c', F, he, g0, hgS, hp, ⟨q0, q1, q2, q3⟩, ⟨f0, f1, f2, f3⟩, _, hset, _⟩ := hO.pg_at (j := i + k) (by omega)
      cases he
      have hN : ((i : Int) + (k : Int)).toNat = i + k := by omega
      have hst := hset wr restPg (.slice none 0 0) 0 (fun _ => False) (Turn.refl _ _) Own.nil (fun _ h => h.elim)
      have H2 := Lib.hid (And.intro (hst.1.mono (S' := fun q => w.heap.size + 1 ≤ q ∧ q < w1.heap.size) (fun q hq _ => hq.elim id False.elim)) (And.intro (hst.2.1.row hB (fun h => by omega)) (And.intro (hst.2.1.row hR (fun h => by omega)) (hst.2.1.below hbw (by have := hbw.size; omega) (fun q hq => by omega)))))
      clear hset hst hO hp hB hR hbw
      go_wp2_with fail
      go_roundw
      case rel => exact ⟨k + 1, by omega, by go_num, H2.out.1, H2.out.2.1, H2.out.2.2.1, H2.out.2.2.2⟩
      case measure => simp [intOf]; omega
    · have hkm : k = m := by omega
      obtain ⟨g, cap, p, a', l, c', F, he, g0, hgS, hp, ⟨q0, q1, q2, q3⟩, ⟨f0, f1, f2, f3⟩, _, hset, _⟩ := hO.pg_at (j := i) (by omega)
      cases he
      have hst := hset wr (runPg m) (.slice none 0 0) 0 (fun _ => False) (Turn.refl _ _) Own.nil (fun _ h => h.elim)
      have hOF := hst.1.mono (S' := fun q => w.heap.size + 1 ≤ q ∧ q < w1.heap.size) (fun q hq _ => hq.elim id False.elim)
      rw [hkm] at hOF
      have H2 := Lib.hid (And.intro hOF (And.intro (hst.2.1.row hR (fun h => by omega)) (hst.2.1.below hbw (by have := hbw.size; omega) (fun q hq => by omega))))
      have HK := Lib.hid hkm
      clear hset hst hO hp hB hR hbw hOF hkm
      go_wp2_with fail
      refine (runStart_calls (by omega) (by omega)).mono ?_
      rintro e w4 ⟨rfl, hb4⟩
      have hresB := Row.below H2.out.2.1 hb4
      have HM : Hid (Own KPage 137 w4 (fun q => w.heap.size < q) (.slice (some ⟨g, 0, none⟩) n vc) n (putRun ps i m) ∧ Below w.heap.size w w4) :=
        ⟨(H2.out.1.below hb4).mono (fun q hq _ => by omega), H2.out.2.2.trans (hb4.mono H2.out.2.2.size)⟩
      clear hb4
      go_wp2_with (refine wpList_store_row rfl 55 _ _ rfl w.heap.size _ rfl rfl _ _ hresB (by kernel_rfl) (by rfl) (by simp [Value.oneCell']) ?_)
      refine bodyPost_ret (results_cell_row rfl _ _ w.heap.size _ _ _ _ rfl (setRow_heap _ _ _ _ _ _ hresB) Tryz.underlying55 rfl (by kernel_rfl)) rfl ?_
      exact pages_done HM.out.2 (Nat.le_refl _) HM.out.1 _ rfl
end Go.Proofs.YthpamclljdcjpaaGreatDoor

/- Chapter 4 of the program: a block that is given back. -/
namespace Go.Proofs.YthpamclljdcjpaaGreatDoor
open Go.RowKit

set_option maxRecDepth 100000 in
set_option maxHeartbeats 4000000 in
theorem withoutSlot_calls {a : Option Addr} {n cc i s : Nat} {c : Int} {p : Pg} {ps : List Pg} {S : Nat → Prop} {w : World} (hT : Lst KPage w S a n ps) (hS : ShortP 16 ps) (hn : n ≤ 40) (hp : ps[i]? = some p) (hk : p.kind = 1) (hc0 : 0 ≤ c) (hc3 : c ≤ 3) (hs : s < p.used.length) :
    Calls Tryz.prog 240 #[.slice a n cc, .iface 206 (.agg #[.int .i64 i, .int .i64 c, .int .i64 s])] w fun e w' => ∃ v, e = .returned v ∧ Own KPage 137 w' (fun k => w.heap.size ≤ k) v n (dropBlk ps (.slot i c s)) ∧ Below w.heap.size w w' := by
  have HL := Lib.hid hT.1
  have HP := Lib.hid hp
  have HK := Lib.hid hk
  have hin : i < n := by have := (List.getElem?_eq_some_iff.1 hp).1; have := hT.1; omega
  have hs15 : s ≤ 15 := by have := hS.at_ hp; omega
  clear hp hk
  have qs := as_ss
  have qr := as_rr
  have qrs := as_rs
  go_enter Tryz.func240, Tryz.ntmps240
  go_wp2_with fail
  refine (copyPages_calls hT (fun q hq => by have := hS q hq; omega) (by omega)).mono ?_
  rintro e w1 ⟨v, rfl, hown, hb1⟩
  have hb := hb1
  clear hb1
  obtain ⟨g, cap, p', a0, l, c0, F, rfl, g0, hgS, hp', ⟨q0, q1, q2, q3⟩, ⟨f0, f1, f2, f3⟩, ⟨hU, hF, hlc, hcm⟩, hset, hus⟩ := hown.pg_at (j := i) hin
  obtain rfl : p = p' := by have := HP.out; rw [hp'] at this; injection this with this; exact this.symm
  have hll : l = p.used.length := by have := hU.1; omega
  rw [HK.out] at q0
  have hsl : s < l := by omega
  have hl16 : l ≤ 16 := by have := hS.at_ HP.out; omega
  have HLL := Lib.hid hll
  clear hll
  obtain ⟨o, ho⟩ : ∃ o, o = Obj.cells #[.int .i64 i, .int .i64 c, .int .i64 s] 206 := ⟨_, rfl⟩
  have hbox : Row (w1.alloc o) w1.heap.size 206 #[.int .i64 i, .int .i64 c, .int .i64 s] := by rw [ho]; exact heap_alloc_new _ _
  have x2 : (w1.alloc o).cell? ⟨w1.heap.size, 2, none⟩ = some (.int .i64 s) := by rw [hbox.cell]; rfl
  have kA : Below w1.heap.size w1 (w1.alloc o) := (Below.refl _ _).alloc (Nat.le_refl _) o
  have r2 := (kA.cell (p := ⟨g, i * 4 + 2, none⟩) g0).trans q2
  obtain ⟨g2, cap2, hv2, hg2S, hg2, hcl, hfr, hbst⟩ := hU.bool_at hsl
  cases hv2
  obtain ⟨hO1, hT1⟩ := hbst false
  have hg2' := hF g2 hg2S
  have hg2g : g2 ≠ g := hg2'.2.1
  have hg2x : g2 ≠ w1.heap.size := by omega
  have hcl2 := (kA.cell (p := ⟨g2, s, none⟩) hg2).trans hcl
  have hfr2 := (kA.frozen (p := ⟨g2, s, none⟩) hg2).trans hfr
  have kA2 : Below (w1.setCell ⟨g2, s, none⟩ (.bool false)).heap.size (w1.setCell ⟨g2, s, none⟩ (.bool false)) ((w1.setCell ⟨g2, s, none⟩ (.bool false)).alloc o) := (Below.refl _ _).alloc (Nat.le_refl _) o
  have y2 : ((w1.setCell ⟨g2, s, none⟩ (.bool false)).alloc o).cell? ⟨g, i * 4 + 2, none⟩ = some (.slice (some ⟨g2, 0, none⟩) l c0) := (kA2.cell (p := ⟨g, i * 4 + 2, none⟩) (by simpa using g0)).trans ((World.cell?_setCell_other _ _ _ _ (fun e => hg2g (by injection e))).trans q2)
  have hbox2 : Row ((w1.setCell ⟨g2, s, none⟩ (.bool false)).alloc o) w1.heap.size 206 #[.int .i64 i, .int .i64 c, .int .i64 s] := by
    have h1 := heap_alloc_new (w1.setCell ⟨g2, s, none⟩ (.bool false)) o
    rw [World.size_setCell, ho] at h1; rw [ho]; exact h1
  have y5 : ((w1.setCell ⟨g2, s, none⟩ (.bool false)).alloc o).cell? ⟨w1.heap.size, 2, none⟩ = some (.int .i64 s) := by rw [hbox2.cell]; rfl
  have hN := hus _ _ hT1 hO1
  have hPut : Hid (dropBlk ps (.slot i c s) = ps.set i (freeSlot p s)) := by
    show _ = _; unfold dropBlk; simp only [HP.out]
  have hbA : Below w.heap.size w ((w1.setCell ⟨g2, s, none⟩ (.bool false)).alloc o) := (hT1.below hb hb.size (fun k hk => (hF _ hk).1)).alloc (by simpa using hb.size) o
  have HN := Lib.hid (And.intro (hN.1.alloc o) (And.intro (hO1.alloc o) hbA))
  generalize p.used.getD s false = u0 at hcl2
  clear hset hus hbst hown hU hO1 hT1 hN hbA hF hcl hfr
  subst ho
  go_wp2_with fail
  go_region_held3 (fun w' => w'.cell? ⟨g, i * 4 + 2, none⟩ = some (.slice (some ⟨g2, 0, none⟩) l c0) ∧ w'.cell? ⟨w1.heap.size, 2, none⟩ = some (.int .i64 s)) (first | assumption | exact ⟨r2, x2⟩ | exact ⟨y2, y5⟩)
    (fail)
  go_wp2_with fail
  have hLU : Lst KBool ((w1.setCell ⟨g2, s, none⟩ (.bool false)).alloc (.cells #[.int .i64 i, .int .i64 c, .int .i64 s] 206)).drew F (some ⟨g2, 0, none⟩) l (p.used.set s false) := HN.out.2.1.lst.2.2.2
  rcases ha : anyB (p.used.set s false) with _ | _
  · refine (containsB_calls hLU (by omega)).mono ?_
    rw [ha]
    rintro e w4 ⟨rfl, rfl⟩
    obtain ⟨g', cap', p2, a2, l2, c2, F2, he2, g02, hgS2, hp2, ⟨z0, z1, z2, z3⟩, ⟨e0, e1, e2, e3⟩, _, hset2, _⟩ := HN.out.1.pg_at (j := i) hin
    cases he2
    have HS2 := Lib.hid hset2
    clear hset2 hp2
    have hR : Hid (dropBlk ps (.slot i c s) = (ps.set i ⟨p.kind, p.cls, p.used.set s false, p.run⟩).set i Pg.free) := by
      show _ = _; rw [hPut.out, freeSlot, if_neg (by rw [ha]; simp), List.set_set]
    go_wp2_with fail
    go_ret
    obtain ⟨hA, hB, _⟩ := HS2.out ((w1.setCell ⟨g2, s, none⟩ (.bool false)).alloc (.cells #[.int .i64 i, .int .i64 c, .int .i64 s] 206)) Pg.free (.slice none 0 0) 0 (fun _ => False) (Turn.refl _ _) Own.nil (fun _ h => h.elim)
    have gl : g < (w1.setCell ⟨g2, s, none⟩ (.bool false)).heap.size := by simpa using g0
    rw [World.setCell_alloc_past _ g (i * 4) _ gl, World.setCell_alloc_past _ g (i * 4 + 1) _ (by simpa using gl), World.setCell_alloc_past _ g (i * 4 + 2) _ (by simpa using gl), World.setCell_alloc_past _ g (i * 4 + 3) _ (by simpa using gl)] at hA hB
    exact ⟨_, rfl, by rw [hR.out]; exact hA.mono (fun k hk _ => hk.elim id False.elim), (hB.below HN.out.2.2 HN.out.2.2.size (fun k hk => hk)).drew⟩
  · refine (containsB_calls hLU (by omega)).mono ?_
    rw [ha]
    rintro e w4 ⟨rfl, rfl⟩
    have hR : Hid (dropBlk ps (.slot i c s) = ps.set i ⟨p.kind, p.cls, p.used.set s false, p.run⟩) := by
      show _ = _; rw [hPut.out, freeSlot, if_pos ha]
    go_wp2_with fail
    go_ret
    exact ⟨_, rfl, by rw [hR.out]; exact HN.out.1, HN.out.2.2.drew⟩

set_option maxRecDepth 100000 in
set_option maxHeartbeats 2000000 in
theorem withoutRun_calls {a : Option Addr} {n cc i m : Nat} {ps : List Pg} {S : Nat → Prop} {w : World} (hT : Lst KPage w S a n ps) (hS : ShortP 16 ps) (hn : n ≤ 40) (hm : i + m ≤ n) :
    Calls Tryz.prog 240 #[.slice a n cc, .iface 204 (.agg #[.int .i64 i, .int .i64 m])] w fun e w' => ∃ v, e = .returned v ∧ Own KPage 137 w' (fun k => w.heap.size ≤ k) v n (setMany ps i Pg.free m) ∧ Below w.heap.size w w' := by
  have HL := Lib.hid hT.1
  have qr := as_rr
  have qrs := as_rs
  go_enter Tryz.func240, Tryz.ntmps240
  go_wp2_with fail
  refine (copyPages_calls hT (fun q hq => by have := hS q hq; omega) (by omega)).mono ?_
  rintro e w1 ⟨v, rfl, hown, hb⟩
  obtain ⟨vo, vc, rfl, _, _, _⟩ := hown.shape
  have ho1 := hown.here
  have hbs := hb.size
  have HI := Lib.hid (And.intro (ho1.alloc (.cells #[.int .i64 i, .int .i64 m] 204)) (hb.alloc hb.size (.cells #[.int .i64 i, .int .i64 m] 204)))
  have hbox := heap_alloc_new w1 (.cells #[.int .i64 i, .int .i64 m] 204)
  have HX := Lib.hid hbox
  clear hown ho1 hbox
  go_wp2_with fail
  go_loopw [9, 41] (fun _ x wr => ∃ k : Nat, k ≤ m ∧ x = .int .i64 k ∧ Own KPage 137 wr (fun q => w.heap.size ≤ q ∧ q < w1.heap.size) (.slice vo n vc) n (setMany ps i Pg.free k) ∧ Row wr w1.heap.size 204 #[.int .i64 i, .int .i64 m] ∧ Below w.heap.size w wr) (fun _ x _ => m - (intOf x).toNat)
  case atStart => exact ⟨0, Nat.zero_le _, rfl, HI.out.1.mono (fun q hq _ => by simpa using hq), HX.out, HI.out.2⟩
  case round =>
    obtain ⟨k, hk, rfl, hO, hB, hbw⟩ := hrel
    have x0 : wr.cell? ⟨w1.heap.size, 0, none⟩ = some (.int .i64 i) := by rw [hB.cell]; rfl
    have x1 : wr.cell? ⟨w1.heap.size, 1, none⟩ = some (.int .i64 m) := by rw [hB.cell]; rfl
    by_cases hlt : k < m
    · obtain ⟨g, cap, p, a', l, c', F, he, g0, hgS, hp, ⟨q0, q1, q2, q3⟩, ⟨f0, f1, f2, f3⟩, _, hset, _⟩ := hO.pg_at (j := i + k) (by omega)
      cases he
      have hN : ((i : Int) + (k : Int)).toNat = i + k := by omega
      have hst := hset wr Pg.free (.slice none 0 0) 0 (fun _ => False) (Turn.refl _ _) Own.nil (fun _ h => h.elim)
      have H2 := Lib.hid (And.intro (hst.1.mono (S' := fun q => w.heap.size ≤ q ∧ q < w1.heap.size) (fun q hq _ => hq.elim id False.elim)) (And.intro (hst.2.1.row hB (fun h => by omega)) (hst.2.1.below hbw (by have := hbw.size; omega) (fun q hq => by omega))))
      clear hset hst hO hp hB hbw
      go_wp2_with fail
      go_roundw
      case rel => exact ⟨k + 1, by omega, by go_num, H2.out.1, H2.out.2.1, H2.out.2.2⟩
      case measure => simp [intOf]; omega
    · have F : Hid (Own KPage 137 wr (fun q => w.heap.size ≤ q) (.slice vo n vc) n (setMany ps i Pg.free m) ∧ Below w.heap.size w wr) := by
        rw [show k = m by omega] at hO; exact ⟨hO.mono (fun q hq _ => hq.1), hbw⟩
      clear hO hB hbw
      go_wp2_with fail
      go_ret
      exact ⟨_, rfl, F.out.1, F.out.2⟩
end Go.Proofs.YthpamclljdcjpaaGreatDoor

/- Chapter 4 of the program: pages compared. -/
namespace Go.Proofs.YthpamclljdcjpaaGreatDoor
open Go.RowKit

set_option maxRecDepth 100000 in
set_option maxHeartbeats 2000000 in
theorem equalPages_calls {a b : Option Addr} {n m c d : Nat} {ps qs : List Pg} {S S' : Nat → Prop} {w : World} (ha : Lst KPage w S a n ps) (hb : Lst KPage w S' b m qs) (hS : ShortP 17592186044416 ps) (hS2 : ShortP 17592186044416 qs) (hn : n ≤ 17592186044416) (hm : m ≤ 17592186044416) :
    Calls Tryz.prog 141 #[.slice a n c, .slice b m d, .func (Fn.func 142) #[] #[]] w fun e w' => e = .returned (.bool (decide (ps = qs))) ∧ Below w.heap.size w w' := by
  have HL := Lib.hid ha.1
  have HL2 := Lib.hid hb.1
  have HS := Lib.hid hS
  have HS2 := Lib.hid hS2
  by_cases hnm : n = m
  rotate_left
  · have HF : Hid (decide (ps = qs) = false) := by show _ = _; rw [decide_eq_false_iff_not]; rintro rfl; exact hnm (HL.out.symm.trans HL2.out)
    have hq : ((n : Int) != (m : Int)) = true := by simp; omega
    go_enter Tryz.func141, Tryz.ntmps141
    go_wp2_with fail
    go_ret
    exact ⟨ret_bool HF.out.symm, Below.refl _ _⟩
  subst hnm
  have hq : ((n : Int) != (n : Int)) = false := by simp
  go_enter Tryz.func141, Tryz.ntmps141
  go_wp2_with fail
  clear hq
  go_loopw [7, 8, 9, 17] (fun _ _ _ i wr => ∃ k : Nat, k ≤ n ∧ i = .int .i64 k ∧ Hid (SameUpto ps qs k) ∧ Below w.heap.size w wr) (fun _ _ _ i _ => n - (intOf i).toNat)
  case atStart => exact ⟨0, Nat.zero_le _, rfl, fun j hj => by omega, Below.refl _ _⟩
  case round =>
    obtain ⟨k, hk, rfl, HK, hbw⟩ := hrel
    by_cases hlt : k < n
    · obtain ⟨b0, o0, p, a0, l0, c0, rfl, d0, hp, e0, e1, e2, e3, hlc0, hcm0, hu0⟩ := (ha.below hbw).pg_at hlt
      obtain ⟨b1, o1, q, a1, l1, c1, rfl, d1, hp', f0, f1, f2, f3, hlc1, hcm1, hu1⟩ := (hb.below hbw).pg_at hlt
      have HP := Lib.hid hp
      have HP2 := Lib.hid hp'
      have hl : l0 ≤ 17592186044416 := by have := HS.out.at_ hp; have := hu0.1; omega
      have hl1 : l1 ≤ 17592186044416 := by have := HS2.out.at_ hp'; have := hu1.1; omega
      clear hp hp' hcm0 hcm1
      rcases hd : decide (p = q) with _ | _
      · have HF : Hid (decide (ps = qs) = false) := by
          show _ = _; rw [decide_eq_false_iff_not]; exact differ_at HP.out HP2.out (by simpa using hd)
        go_wp2_with fail
        refine (samePage_calls ((hu0.alloc _).alloc _) ((hu1.alloc _).alloc _) hl hl1).mono ?_
        rw [hd]
        rintro e w1 ⟨rfl, hx⟩
        have hb2 := below_box (hbw.alloc hbw.size _) hx
        clear hx
        go_wp2_with fail
        go_ret
        exact ⟨ret_bool HF.out.symm, hb2⟩
      · have HN := Lib.hid (HK.out.succ (HP.out.trans (by rw [HP2.out, show p = q by simpa using hd])))
        go_wp2_with fail
        refine (samePage_calls ((hu0.alloc _).alloc _) ((hu1.alloc _).alloc _) hl hl1).mono ?_
        rw [hd]
        rintro e w1 ⟨rfl, hx⟩
        have hb2 := below_box (hbw.alloc hbw.size _) hx
        clear hx
        go_wp2_with fail
        go_roundw
        case rel => exact ⟨k + 1, by omega, by go_num, HN, hb2⟩
        case measure => simp [intOf]; omega
    · have HF : Hid (decide (ps = qs) = true) := by show _ = _; rw [decide_eq_true_iff]; exact HK.out.all (by rw [HL.out]; omega) (by rw [HL2.out]; omega)
      go_wp2_with fail
      go_ret
      exact ⟨ret_bool HF.out.symm, hbw⟩

theorem samePages_calls {a b : Option Addr} {n m c d : Nat} {ps qs : List Pg} {S S' : Nat → Prop} {w : World} (ha : Lst KPage w S a n ps) (hb : Lst KPage w S' b m qs) (hS : ShortP 17592186044416 ps) (hS2 : ShortP 17592186044416 qs) (hn : n ≤ 17592186044416) (hm : m ≤ 17592186044416) :
    Calls Tryz.prog 68 #[.slice a n c, .slice b m d] w fun e w' => e = .returned (.bool (decide (ps = qs))) ∧ Below w.heap.size w w' := by
  go_enter Tryz.func68, Tryz.ntmps68
  go_wp2_with fail
  refine (equalPages_calls ha hb hS hS2 hn hm).mono ?_
  rintro e w1 ⟨rfl, hb1⟩
  go_wp2_with fail
  go_ret
  exact ⟨rfl, hb1⟩
end Go.Proofs.YthpamclljdcjpaaGreatDoor
