/- Chapter 4 of the program: its exported functions that answer a code and a number. -/
import Derived.Test.YtkikjoalhohlgaaRun4
import Derived.Test.YtkikjoalhohlgaaSpec4h
namespace Go.Proofs.Ytkikjoalhohlgaa
open Go.RowKit

set_option maxHeartbeats 1000000 in
theorem usedIn_calls {ao : Option Addr} {n cc : Nat} {ps : List Pg} {S : Nat → Prop} {w : World} (hT : Lst KPage w S ao n ps) (hS : ShortP 17592186044416 ps) (hn : n ≤ cc) (hc : cc ≤ 9223372036854775807) (hn4 : n ≤ 17592186044416) :
    Calls Try.prog 34 #[.slice ao n cc] w (Pair w (usedInR ps)) := by
  have HL := Lib.hid hT.1
  by_cases hv : pagesFault ps = 0
  rotate_left
  · have HR := Lib.hid (show usedInR ps = (pagesFault ps, 0) by unfold usedInR; rw [if_neg hv])
    have hq : (pagesFault ps != 0) = true := by simpa using hv
    clear hv
    go_enter Try.func34, Try.ntmps34
    go_wp2_with fail
    refine (pagesFault_calls (hT.alloc _) hS (by omega)).mono ?_
    rintro e w1 ⟨rfl, hb1⟩
    have hres := Row.new hb1
    have hb := below_past hb1
    go_wp2_with (refine wpList_store_row rfl 38 _ _ rfl (w.heap.size) _ rfl rfl _ _ hres (by kernel_rfl) (by rfl) (by simp [Value.oneCell']) ?_)
    refine bodyPost_ret (results_cell_row rfl _ _ (w.heap.size) _ _ _ _ rfl (setRow_heap _ _ _ _ _ _ hres) Try.underlying38 rfl (by kernel_rfl)) rfl ?_
    exact pair_done hb (Nat.le_refl _) _ HR.out
  have HV := Lib.hid hv
  have HR := Lib.hid (show usedInR ps = (0, (usedIn ps : Int)) by unfold usedInR; rw [if_pos hv])
  clear hv
  go_enter Try.func34, Try.ntmps34
  go_wp2_with fail
  refine (pagesFault_calls (hT.alloc _) hS (by omega)).mono ?_
  rintro e w1 ⟨rfl, hb1⟩
  rw [HV.out]
  have hres := Row.new hb1
  have hb := below_past hb1
  have hlt := hres.lt
  have hT1 := (hT.alloc (.cells #[.int .i64 0, .int .i64 0] 38)).below hb1
  clear hb1
  go_wp2_with fail
  go_loopw [4, 6, 15] (fun q _ i wr => ∃ k f : Nat, k ≤ n ∧ i = .int .i64 k ∧ q = .int .i64 f ∧ f ≤ k ∧ Hid (usedIn ps = f + usedIn (ps.drop k)) ∧ Below w1.heap.size w1 wr) (fun _ _ i _ => n - (intOf i).toNat)
  case atStart => exact ⟨0, 0, Nat.zero_le _, rfl, rfl, Nat.le_refl _, by show _ = _; simp, Below.refl _ _⟩
  case round =>
    obtain ⟨k, f, hk, rfl, rfl, hfk, HW, hbw⟩ := hrel
    by_cases hlt2 : k < n
    · obtain ⟨b, off, p, a, l, c, rfl, d0, hp, e0, e1, e2, e3, hlc, hcm, hu⟩ := (hT1.below hbw).pg_at hlt2
      have HD : Hid (usedIn ps = f + ((if p.kind = 0 then 0 else 1) + usedIn (ps.drop (k + 1)))) := by have := HW.out; rw [drop_at hp, usedIn] at this; exact this
      have hB := Lib.hid (fun o => hbw.alloc hbw.size o)
      clear hp hu
      by_cases h0 : p.kind = 0
      · have H1 : Hid (usedIn ps = f + usedIn (ps.drop (k + 1))) := by have := HD.out; rw [if_pos h0] at this; show _ = _; omega
        rw [h0] at e0
        clear h0
        go_wp2_with fail
        go_roundw
        case rel => exact ⟨k + 1, f, by omega, by go_num, rfl, by omega, H1, hB.out _⟩
        case measure => simp [intOf]; omega
      · have H1 : Hid (usedIn ps = (f + 1) + usedIn (ps.drop (k + 1))) := by have := HD.out; rw [if_neg h0] at this; show _ = _; omega
        have hq : (p.kind != 0) = true := by simpa using h0
        clear h0
        go_wp2_with fail
        go_roundw
        case rel => exact ⟨k + 1, f + 1, by omega, by go_num, by go_num, by omega, H1, hB.out _⟩
        case measure => simp [intOf]; omega
    · have HF : Hid (usedInR ps = (0, (f : Int))) := by
        have := HW.out; rw [drop_end (by rw [HL.out]; omega), usedIn] at this; show _ = _; rw [HR.out, this]; rfl
      have hres2 := Row.below hres hbw
      have hb2 := hb.trans (hbw.mono hb.size)
      go_wp2_with (refine wpList_store_row rfl 38 _ _ rfl (w.heap.size) _ rfl rfl _ _ hres2 (by kernel_rfl) (by rfl) (by simp [Value.oneCell']) ?_)
      refine bodyPost_ret (results_cell_row rfl _ _ (w.heap.size) _ _ _ _ rfl (setRow_heap _ _ _ _ _ _ hres2) Try.underlying38 rfl (by kernel_rfl)) rfl ?_
      exact pair_done hb2 (Nat.le_refl _) _ HF.out

/-- Where the first run is, or no one. -/
theorem findRun_by {ps : List Pg} {m : Int} (hv : pagesFault ps = 0) (h : within 1 4 [m] = true) {k : Nat} (hk : m = k) : findRun ps m = match runFrom k 0 ps with | some i => (0, (i : Int)) | none => (7, 0) := by
  unfold findRun
  rw [if_pos hv, if_pos h, hk, Int.toNat_natCast]
  cases runFrom k 0 ps <;> rfl
set_option maxHeartbeats 1000000 in
theorem findRun_calls {ao : Option Addr} {n cc : Nat} {m : Int} {ps : List Pg} {S : Nat → Prop} {w : World} (hT : Lst KPage w S ao n ps) (hS : ShortP 17592186044416 ps) (hn : n ≤ cc) (hc : cc ≤ 9223372036854775807) (hn4 : n ≤ 17592186044416) :
    Calls Try.prog 36 #[.slice ao n cc, .int .i64 m] w (Pair w (findRun ps m)) := by
  by_cases hv : pagesFault ps = 0
  rotate_left
  · have HR := Lib.hid (show findRun ps m = (pagesFault ps, 0) by unfold findRun; rw [if_neg hv])
    have hq : (pagesFault ps != 0) = true := by simpa using hv
    clear hv
    go_enter Try.func36, Try.ntmps36
    go_wp2_with fail
    refine (pagesFault_calls (hT.alloc _) hS (by omega)).mono ?_
    rintro e w1 ⟨rfl, hb1⟩
    have hres := Row.new hb1
    have hb := below_past hb1
    go_wp2_with (refine wpList_store_row rfl 38 _ _ rfl (w.heap.size) _ rfl rfl _ _ hres (by kernel_rfl) (by rfl) (by simp [Value.oneCell']) ?_)
    refine bodyPost_ret (results_cell_row rfl _ _ (w.heap.size) _ _ _ _ rfl (setRow_heap _ _ _ _ _ _ hres) Try.underlying38 rfl (by kernel_rfl)) rfl ?_
    exact pair_done hb (Nat.le_refl _) _ HR.out
  have HV := Lib.hid hv
  rcases hw : within 1 4 [m] with _ | _
  · have HR := Lib.hid (show findRun ps m = (3, 0) by unfold findRun; rw [if_pos hv, hw]; rfl)
    have HW := Lib.hid hw
    clear hv hw
    go_enter Try.func36, Try.ntmps36
    go_wp2_with fail
    refine (pagesFault_calls (hT.alloc _) hS (by omega)).mono ?_
    rintro e w1 ⟨rfl, hb1⟩
    rw [HV.out]
    have hres := Row.new hb1
    have hb := below_past hb1
    have hlt := hres.lt
    have hres2 := (heap_alloc_old w1 (.cells #[.int .i64 m] 2) hlt).trans hres
    have hb2 := hb.alloc hb.size (.cells #[.int .i64 m] 2)
    have hT1 := ((hT.alloc (.cells #[.int .i64 0, .int .i64 0] 38)).below hb1).alloc (.cells #[.int .i64 m] 2)
    clear hb1 hres hb
    go_wp2_with fail
    refine (allWithin_calls (Ints.one (by simp)) (by omega)).mono ?_
    rw [HW.out]
    rintro e w2 ⟨rfl, rfl⟩
    go_wp2_with (refine wpList_store_row rfl 38 _ _ rfl (w.heap.size) _ rfl rfl _ _ hres2 (by kernel_rfl) (by rfl) (by simp [Value.oneCell']) ?_)
    refine bodyPost_ret (results_cell_row rfl _ _ (w.heap.size) _ _ _ _ rfl (setRow_heap _ _ _ _ _ _ hres2) Try.underlying38 rfl (by kernel_rfl)) rfl ?_
    exact pair_done hb2 (Nat.le_refl _) _ HR.out
  obtain ⟨k, hk⟩ : ∃ k : Nat, m = k := ⟨m.toNat, by have := within_range hw; omega⟩
  have hk1 := within_range hw
  have HR := Lib.hid (findRun_by hv hw hk)
  subst hk
  have hkk : 0 < k ∧ k ≤ 4 := by omega
  have HW := Lib.hid hw
  clear hw hv hk1
  rcases hx : runFrom k 0 ps with _ | i
  · have HR2 : Hid (findRun ps k = (7, 0)) := by show _ = _; rw [HR.out, hx]
    go_enter Try.func36, Try.ntmps36
    go_wp2_with fail
    refine (pagesFault_calls (hT.alloc _) hS (by omega)).mono ?_
    rintro e w1 ⟨rfl, hb1⟩
    rw [HV.out]
    have hres := Row.new hb1
    have hb := below_past hb1
    have hlt := hres.lt
    have hres2 := (heap_alloc_old w1 (.cells #[.int .i64 k] 2) hlt).trans hres
    have hb2 := hb.alloc hb.size (.cells #[.int .i64 k] 2)
    have hT1 := ((hT.alloc (.cells #[.int .i64 0, .int .i64 0] 38)).below hb1).alloc (.cells #[.int .i64 k] 2)
    clear hb1 hres hb
    go_wp2_with fail
    refine (allWithin_calls (Ints.one (by simp)) (by omega)).mono ?_
    rw [HW.out]
    rintro e w2 ⟨rfl, rfl⟩
    go_wp2_with fail
    refine (freeRun_calls hT1 hn (by unfold maxLen; omega) hkk.1 hkk.2).mono ?_
    rw [hx]
    rintro e w3 ⟨rfl, hb3⟩
    have hres3 := Row.below (w := w1.alloc _) hres2 hb3
    have hb4 := hb2.trans (hb3.mono hb2.size)
    clear hb3
    simp only [runV]
    go_wp2_with (refine wpList_store_row rfl 38 _ _ rfl (w.heap.size) _ rfl rfl _ _ hres3 (by kernel_rfl) (by rfl) (by simp [Value.oneCell']) ?_)
    refine bodyPost_ret (results_cell_row rfl _ _ (w.heap.size) _ _ _ _ rfl (setRow_heap _ _ _ _ _ _ hres3) Try.underlying38 rfl (by kernel_rfl)) rfl ?_
    exact pair_done hb4 (Nat.le_refl _) _ HR2.out
  · have HR2 : Hid (findRun ps k = (0, (i : Int))) := by show _ = _; rw [HR.out, hx]
    go_enter Try.func36, Try.ntmps36
    go_wp2_with fail
    refine (pagesFault_calls (hT.alloc _) hS (by omega)).mono ?_
    rintro e w1 ⟨rfl, hb1⟩
    rw [HV.out]
    have hres := Row.new hb1
    have hb := below_past hb1
    have hlt := hres.lt
    have hres2 := (heap_alloc_old w1 (.cells #[.int .i64 k] 2) hlt).trans hres
    have hb2 := hb.alloc hb.size (.cells #[.int .i64 k] 2)
    have hT1 := ((hT.alloc (.cells #[.int .i64 0, .int .i64 0] 38)).below hb1).alloc (.cells #[.int .i64 k] 2)
    clear hb1 hres hb
    go_wp2_with fail
    refine (allWithin_calls (Ints.one (by simp)) (by omega)).mono ?_
    rw [HW.out]
    rintro e w2 ⟨rfl, rfl⟩
    go_wp2_with fail
    refine (freeRun_calls hT1 hn (by unfold maxLen; omega) hkk.1 hkk.2).mono ?_
    rw [hx]
    rintro e w3 ⟨rfl, hb3⟩
    have hres3 := Row.below (w := w1.alloc _) hres2 hb3
    have hb4 := hb2.trans (hb3.mono hb2.size)
    clear hb3
    simp only [runV]
    go_wp2_with (refine wpList_store_row rfl 38 _ _ rfl (w.heap.size) _ rfl rfl _ _ hres3 (by kernel_rfl) (by rfl) (by simp [Value.oneCell']) ?_)
    refine bodyPost_ret (results_cell_row rfl _ _ (w.heap.size) _ _ _ _ rfl (setRow_heap _ _ _ _ _ _ hres3) Try.underlying38 rfl (by kernel_rfl)) rfl ?_
    exact pair_done hb4 (Nat.le_refl _) _ HR2.out

/-- What is held at a place of right pages, by its head. -/
theorem blockAt_head {ps : List Pg} {a : Nat} {p : Pg} (h : ps[headOf ps (a / 16)]? = some p) : blockAt ps a = if p.kind = 2 then some (.run (headOf ps (a / 16)) p.run)
    else if p.kind = 1 then (if p.used[a % 16 / (sizeW p.cls).toNat]? = some true then some (.slot (headOf ps (a / 16)) p.cls (a % 16 / (sizeW p.cls).toNat)) else none) else none := by
  unfold blockAt; rw [h]

set_option maxRecDepth 100000 in
set_option maxHeartbeats 2000000 in
theorem blockAt_calls {ao : Option Addr} {n cc a : Nat} {ps : List Pg} {S : Nat → Prop} {w : World} (hT : Lst KPage w S ao n ps) (hv : pagesFault ps = 0) (ha : a < n * 16) :
    Calls Try.prog 97 #[.slice ao n cc, .int .i64 a] w fun e w' => e = .returned (blkO (blockAt ps a)) ∧ Below w.heap.size w w' := by
  have HL := Lib.hid hT.1
  have HV := Lib.hid hv
  have hn : n ≤ 40 := by have := (pagesFault_ok hv).1; have := hT.1; omega
  obtain ⟨i, hi⟩ : ∃ i, i = a / 16 := ⟨_, rfl⟩
  have hin : i < n := by omega
  have hx2 : (a : Int) / 16 = (i : Int) := by omega
  have hhi := headOf_le ps i
  obtain ⟨p, hp⟩ : ∃ p, ps[headOf ps i]? = some p := ⟨_, List.getElem?_eq_getElem (by have := HL.out; omega)⟩
  have HP := Lib.hid hp
  have HBA := Lib.hid (blockAt_head (a := a) (by rw [← hi]; exact hp))
  rw [← hi] at HBA
  have hpf := ok_page hv hp
  have h3 : p.kind ≠ 3 := by
    intro h3
    obtain ⟨g, q, hg, _, _, _, hh⟩ := head_of_rest hv hp h3
    have hle := headOf_le ps (headOf ps i)
    have hx := List.getElem?_eq_getElem (l := ps) (i := i) (by have := HL.out; omega)
    by_cases k3 : (ps[i]'(by have := HL.out; omega)).kind = 3
    · obtain ⟨g', q', _, hg', hq', _, hh'⟩ := head_of_rest hv hx k3
      rw [hh', hg'] at hp; injection hp with hp; rw [← hp] at h3; omega
    · rw [headOf_self hx k3, hx] at hp; injection hp with hp; rw [← hp] at h3; exact k3 h3
  have H3 := Lib.hid h3
  have HPF := Lib.hid hpf
  clear hi hp h3 hpf hv
  go_enter Try.func97, Try.ntmps97
  go_wp2_with fail
  go_loopw [5] (fun x wr => ∃ m : Nat, m ≤ i ∧ x = .int .i64 m ∧ Hid (headOf ps m = headOf ps i) ∧ Below w.heap.size w wr) (fun x _ => (intOf x).toNat)
  case atStart => exact ⟨i, Nat.le_refl _, rfl, rfl, Below.refl _ _⟩
  case round =>
    obtain ⟨m, hm, rfl, HM, hbw⟩ := hrel
    obtain ⟨b, off, p', ad', l, c, rfl, d0, hp', e0, e1, e2, e3, hlc, hcm, hu⟩ := (hT.below hbw).pg_at (j := m) (by omega)
    have hB := Lib.hid (fun o => hbw.alloc hbw.size o)
    by_cases m3 : p'.kind = 3
    · obtain ⟨g, q, hg, _⟩ := head_of_rest HV.out hp' m3
      obtain ⟨m', rfl⟩ : ∃ m', m = m' + 1 := ⟨m - 1, by omega⟩
      have HN : Hid (headOf ps m' = headOf ps i) := by show _ = _; rw [← HM.out, headOf_back hp' m3]
      rw [m3] at e0
      clear hp' m3 hg
      go_wp2_with fail
      go_roundw
      case rel => exact ⟨m', by omega, by go_num, HN, hbw⟩
      case measure => simp [intOf]
    · have HN : Hid (headOf ps i = m) := by show _ = _; rw [← HM.out, headOf_self hp' m3]
      obtain rfl : p = p' := by have := HP.out; rw [HN.out, hp'] at this; injection this with this; exact this.symm
      have q3 : (p.kind == 3) = false := by simpa using m3
      have hb2 : Hid (blockAt ps a = if p.kind = 2 then some (.run m p.run) else if p.kind = 1 then (if p.used[a % 16 / (sizeW p.cls).toNat]? = some true then some (.slot m p.cls (a % 16 / (sizeW p.cls).toNat)) else none) else none) := by
        have := HBA.out; rw [HN.out] at this; exact this
      clear hp' m3
      by_cases k2 : p.kind = 2
      · have HF : Hid (blkO (blockAt ps a) = .iface 80 (.agg #[.int .i64 m, .int .i64 p.run])) := by show _ = _; rw [hb2.out, if_pos k2]; rfl
        rw [k2] at e0
        clear k2 q3
        go_wp2_with fail
        go_ret
        exact ⟨ret_val HF.out.symm, hB.out _⟩
      by_cases k1 : p.kind = 1
      · have hk := pageFault_ok HPF.out
        obtain ⟨h0, h3, hl⟩ : 0 ≤ p.cls ∧ p.cls ≤ 3 ∧ (p.used.length : Int) = 16 / sizeW p.cls := by
          rcases hk with h | h | h
          · exact ⟨h.2.1, h.2.2.1, h.2.2.2.2.1⟩
          · omega
          · omega
        have hsz := sizeW_small p.cls
        have hsl := slot_small (a := a) h0 h3 hl
        have hsi := slot_int (c := p.cls) (a := a) (by omega)
        obtain ⟨s, hs⟩ : ∃ s, s = a % 16 / (sizeW p.cls).toNat := ⟨_, rfl⟩
        have HB3 : Hid (blockAt ps a = if p.used[s]? = some true then some (.slot m p.cls s) else none) := by
          have := hb2.out; rw [if_neg k2, if_pos k1, ← hs] at this; exact this
        rw [← hs] at hsl hsi
        have hll : l = p.used.length := by have := hu.1; omega
        rw [← hll] at hsl
        obtain ⟨b2, o2, rfl, hbl2, hcl⟩ := hu.bool_at hsl
        obtain ⟨u0, hgx⟩ : ∃ u0, p.used[s]? = some u0 := ⟨_, List.getElem?_eq_getElem (by omega)⟩
        rw [List.getD_eq_getElem?_getD, hgx] at hcl
        simp only [Option.getD_some] at hcl
        rw [k1] at e0
        have HSI := Lib.hid hsi
        have HGX := Lib.hid hgx
        have hs16 : s ≤ 15 := by rw [hs]; have := Nat.div_le_self (a % 16) (sizeW p.cls).toNat; omega
        clear hk hl hsi hgx hll hs hu k1 k2 q3 HBA
        rcases u0 with _ | _
        · have HF : Hid (blkO (blockAt ps a) = .nilIface) := by show _ = _; rw [HB3.out, HGX.out]; rfl
          go_wp2_with fail
          refine (wordsOfClass_calls h0 h3).mono ?_
          rintro e w2 ⟨rfl, rfl⟩
          have hne : (sizeW p.cls == 0) = false := by simp; omega
          have hx := HSI.out
          go_wp2_with fail
          go_ret
          exact ⟨ret_val HF.out.symm, hB.out _⟩
        · have HF : Hid (blkO (blockAt ps a) = .iface 107 (.agg #[.int .i64 m, .int .i64 p.cls, .int .i64 s])) := by show _ = _; rw [HB3.out, HGX.out]; rfl
          go_wp2_with fail
          refine (wordsOfClass_calls h0 h3).mono ?_
          rintro e w2 ⟨rfl, rfl⟩
          have hne : (sizeW p.cls == 0) = false := by simp; omega
          have hx := HSI.out
          go_wp2_with fail
          go_ret
          exact ⟨ret_val HF.out.symm, hB.out _⟩
      · have HF : Hid (blkO (blockAt ps a) = .nilIface) := by show _ = _; rw [hb2.out, if_neg k2, if_neg k1]; rfl
        have q1 : (p.kind == 1) = false := by simpa using k1
        have q2 : (p.kind == 2) = false := by simpa using k2
        clear k1 k2
        go_wp2_with fail
        go_ret
        exact ⟨ret_val HF.out.symm, hB.out _⟩

/-- What 'heldAt' answers. -/
def heldV (x : Int × Option Blk) : Value := .tuple #[blkO x.2, .int .i64 x.1]
set_option maxHeartbeats 2000000 in
theorem heldAt_calls {ao : Option Addr} {n cc : Nat} {at_ : Int} {ps : List Pg} {S : Nat → Prop} {w : World} (hT : Lst KPage w S ao n ps) (hS : ShortP 17592186044416 ps) (hn : n ≤ cc) (hc : cc ≤ 9223372036854775807) (hn4 : n ≤ 17592186044416) :
    Calls Try.prog 68 #[.slice ao n cc, .int .i64 at_] w fun e w' => e = .returned (heldV (heldAt ps at_)) ∧ Below w.heap.size w w' := by
  have HL := Lib.hid hT.1
  by_cases hv : pagesFault ps = 0
  rotate_left
  · have HR := Lib.hid (show heldAt ps at_ = (pagesFault ps, none) by unfold heldAt; rw [if_neg hv])
    have hq : (pagesFault ps != 0) = true := by simpa using hv
    clear hv
    go_enter Try.func68, Try.ntmps68
    go_wp2_with fail
    refine (pagesFault_calls hT hS (by omega)).mono ?_
    rintro e w1 ⟨rfl, hb1⟩
    go_wp2_with fail
    go_ret2
    exact ⟨ret_val (by rw [HR.out]; rfl), hb1⟩
  have HV := Lib.hid hv
  have hn40 : n ≤ 40 := by have := (pagesFault_ok hv).1; have := hT.1; omega
  rcases hw : within 0 ((n : Int) * 16 - 1) [at_] with _ | _
  · have HR := Lib.hid (show heldAt ps at_ = (3, none) from held_no hv (by rw [HL.out]; exact hw))
    have HW := Lib.hid hw
    clear hv hw
    go_enter Try.func68, Try.ntmps68
    go_wp2_with fail
    refine (pagesFault_calls hT hS (by omega)).mono ?_
    rw [HV.out]
    rintro e w1 ⟨rfl, hb1⟩
    go_wp2_with fail
    refine (allWithin_calls (Ints.one (by simp)) (by omega)).mono ?_
    rw [HW.out]
    rintro e w2 ⟨rfl, rfl⟩
    go_wp2_with fail
    go_ret2
    exact ⟨ret_val (by rw [HR.out]; rfl), hb1.alloc hb1.size _⟩
  have hwr := within_range hw
  obtain ⟨a, ha⟩ : ∃ a : Nat, at_ = a := ⟨at_.toNat, by omega⟩
  subst ha
  have han : a < n * 16 := by omega
  have HR := Lib.hid (show heldAt ps a = match blockAt ps a with | some b => (0, some b) | none => (4, none) by
    unfold heldAt; rw [if_pos hv, HL.out, if_pos hw, Int.toNat_natCast]; cases blockAt ps a <;> rfl)
  have HW := Lib.hid hw
  clear hv hw hwr
  rcases hx : blockAt ps a with _ | b
  · have HR2 : Hid (heldAt ps a = (4, none)) := by show _ = _; rw [HR.out, hx]
    go_enter Try.func68, Try.ntmps68
    go_wp2_with fail
    refine (pagesFault_calls hT hS (by omega)).mono ?_
    rw [HV.out]
    rintro e w1 ⟨rfl, hb1⟩
    go_wp2_with fail
    refine (allWithin_calls (Ints.one (by simp)) (by omega)).mono ?_
    rw [HW.out]
    rintro e w2 ⟨rfl, rfl⟩
    go_wp2_with fail
    refine (blockAt_calls ((hT.below hb1).alloc _) HV.out han).mono ?_
    rw [hx]
    rintro e w3 ⟨rfl, hb3⟩
    have hb4 := below_box hb1 hb3
    clear hb3
    simp only [blkO]
    go_wp2_with fail
    go_ret2
    exact ⟨ret_val (by rw [HR2.out]; rfl), hb4⟩
  · have HR2 : Hid (heldAt ps a = (0, some b)) := by show _ = _; rw [HR.out, hx]
    rcases b with ⟨i, c, s⟩ | ⟨i, m⟩
    · skip
      go_enter Try.func68, Try.ntmps68
      go_wp2_with fail
      refine (pagesFault_calls hT hS (by omega)).mono ?_
      rw [HV.out]
      rintro e w1 ⟨rfl, hb1⟩
      go_wp2_with fail
      refine (allWithin_calls (Ints.one (by simp)) (by omega)).mono ?_
      rw [HW.out]
      rintro e w2 ⟨rfl, rfl⟩
      go_wp2_with fail
      refine (blockAt_calls ((hT.below hb1).alloc _) HV.out han).mono ?_
      rw [hx]
      rintro e w3 ⟨rfl, hb3⟩
      have hb4 := below_box hb1 hb3
      clear hb3
      simp only [blkO, blkV]
      go_wp2_with fail
      go_ret2
      exact ⟨ret_val (by rw [HR2.out]; rfl), hb4⟩
    · skip
      go_enter Try.func68, Try.ntmps68
      go_wp2_with fail
      refine (pagesFault_calls hT hS (by omega)).mono ?_
      rw [HV.out]
      rintro e w1 ⟨rfl, hb1⟩
      go_wp2_with fail
      refine (allWithin_calls (Ints.one (by simp)) (by omega)).mono ?_
      rw [HW.out]
      rintro e w2 ⟨rfl, rfl⟩
      go_wp2_with fail
      refine (blockAt_calls ((hT.below hb1).alloc _) HV.out han).mono ?_
      rw [hx]
      rintro e w3 ⟨rfl, hb3⟩
      have hb4 := below_box hb1 hb3
      clear hb3
      simp only [blkO, blkV]
      go_wp2_with fail
      go_ret2
      exact ⟨ret_val (by rw [HR2.out]; rfl), hb4⟩
end Go.Proofs.Ytkikjoalhohlgaa
