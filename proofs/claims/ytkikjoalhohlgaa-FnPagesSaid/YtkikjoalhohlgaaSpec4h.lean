/- Chapter 4 of the model: where a block begins, how great it is. -/
import Derived.Test.YtkikjoalhohlgaaSpec4g
namespace Go.Proofs.Ytkikjoalhohlgaa
open Go.RowKit

theorem slot_small {p : Pg} {a : Nat} (h0 : 0 ≤ p.cls) (h3 : p.cls ≤ 3) (hl : (p.used.length : Int) = 16 / sizeW p.cls) : a % 16 / (sizeW p.cls).toNat < p.used.length := by
  rcases (show p.cls = 0 ∨ p.cls = 1 ∨ p.cls = 2 ∨ p.cls = 3 by omega) with e | e | e | e <;> rw [e] at hl ⊢ <;> simp [sizeW] at hl ⊢ <;> omega
theorem slot_int {c : Int} {a : Nat} (h0 : 0 < sizeW c) : (a : Int) % 16 / sizeW c = ((a % 16 / (sizeW c).toNat : Nat) : Int) := by
  obtain ⟨z, hz⟩ : ∃ z : Nat, sizeW c = z := ⟨(sizeW c).toNat, by omega⟩
  rw [hz, Int.toNat_natCast]; push_cast; rfl

theorem ret_two {a b c d : Int} (h1 : a = c) (h2 : b = d) : Ending.returned (.tuple #[.int .i64 a, .int .i64 b]) = .returned (.tuple #[.int .i64 c, .int .i64 d]) := by rw [h1, h2]
theorem headOf_self {ps : List Pg} {k : Nat} {p : Pg} (h : ps[k]? = some p) (h3 : p.kind ≠ 3) : headOf ps k = k := by
  cases k with
  | zero => rfl
  | succ k => unfold headOf; rw [h]; simp [h3]
theorem headOf_back {ps : List Pg} {k : Nat} {p : Pg} (h : ps[k + 1]? = some p) (h3 : p.kind = 3) : headOf ps (k + 1) = headOf ps k := by
  conv => lhs; unfold headOf
  rw [h]; simp [h3]

set_option maxRecDepth 100000 in
set_option maxHeartbeats 1000000 in
theorem l4Start_calls {ao : Option Addr} {n cc : Nat} {at_ : Int} {ps : List Pg} {S : Nat → Prop} {w : World} (hT : Lst KPage w S ao n ps) (hv : pagesFault ps = 0) :
    Calls Try.prog 81 #[.slice ao n cc, .int .i64 at_] w fun e w' => e = .returned (.tuple #[.int .i64 (blockStart ps at_).2, .int .i64 (blockStart ps at_).1]) ∧ w = w' := by
  have HL := Lib.hid hT.1
  have HV := Lib.hid hv
  have hn : n ≤ 40 := by have := (pagesFault_ok hv).1; have := hT.1; omega
  rcases hw : within 0 ((n : Int) * 16 - 1) [at_] with _ | _
  · have HR : Hid (blockStart ps at_ = (3, 0)) := by show _ = _; unfold blockStart; rw [held_no hv (by rw [HL.out]; exact hw)]
    have HW := Lib.hid hw
    clear hw hv
    go_enter Try.func81, Try.ntmps81
    go_wp2_with fail
    refine l1In_calls.mono ?_
    rw [HW.out]
    rintro e w2 ⟨rfl, rfl⟩
    go_wp2_with fail
    go_ret2
    exact ⟨ret_two (by rw [HR.out]) (by rw [HR.out]), rfl⟩
  have hw1 := within_range hw
  obtain ⟨a, ha⟩ : ∃ a : Nat, at_ = a := ⟨at_.toNat, by omega⟩
  subst ha
  have hal : a < n * 16 := by omega
  have HW := Lib.hid hw
  obtain ⟨i, hi⟩ : ∃ i, i = a / 16 := ⟨_, rfl⟩
  have hin : i < n := by omega
  obtain ⟨b, off, p, ad, l, c, rfl, d0, hp, e0, e1, e2, e3, hlc, hcm, hu⟩ := hT.pg_at hin
  have HP := Lib.hid hp
  have hpa : ps[a / 16]? = some p := by rw [← hi]; exact hp
  have hal' : a < ps.length * 16 := by rw [HL.out]; exact hal
  have hx1 : ((a : Int) / 16).toNat = i := by omega
  have hx2 : (a : Int) / 16 = (i : Int) := by omega
  have HI := Lib.hid hi
  rcases pageFault_kind (ok_page hv hp) with k0 | k1 | k2 | k3
  · have HR : Hid (blockStart ps a = (4, 0)) := by show _ = _; unfold blockStart; rw [held_free hv hal' hpa k0]
    rw [k0] at e0
    clear hw hv hw1 hp hpa hal' k0 hi
    go_enter Try.func81, Try.ntmps81
    go_wp2_with fail
    refine l1In_calls.mono ?_
    rw [HW.out]
    rintro e w2 ⟨rfl, rfl⟩
    go_wp2_with fail
    go_ret2
    exact ⟨ret_two (by rw [HR.out]) (by rw [HR.out]), rfl⟩
  · have hk := pageFault_ok (ok_page hv hp)
    obtain ⟨_, h0, h3, _, hl, _⟩ : p.kind = 1 ∧ 0 ≤ p.cls ∧ p.cls ≤ 3 ∧ p.run = 0 ∧ (p.used.length : Int) = 16 / sizeW p.cls ∧ anyB p.used = true := by
      rcases hk with h | h | h
      · exact h
      · omega
      · omega
    have hsz := sizeW_small p.cls
    have hsl := slot_small (a := a) h0 h3 hl
    have hsi := slot_int (c := p.cls) (a := a) (by omega)
    have hH := held_slot hv hal' hpa k1
    obtain ⟨s, hs⟩ : ∃ s, s = a % 16 / (sizeW p.cls).toNat := ⟨_, rfl⟩
    rw [← hs] at hsl hsi hH
    rw [← hi] at hH
    have hll : l = p.used.length := by have := hu.1; omega
    have hs16 : s ≤ 15 := by rw [hs]; have := Nat.div_le_self (a % 16) (sizeW p.cls).toNat; omega
    rw [← hll] at hsl
    obtain ⟨b2, o2, rfl, hb2, hcl⟩ := hu.bool_at hsl
    obtain ⟨u0, hgx⟩ : ∃ u0, p.used[s]? = some u0 := ⟨_, List.getElem?_eq_getElem (by omega)⟩
    rw [List.getD_eq_getElem?_getD, hgx] at hcl
    simp only [Option.getD_some] at hcl
    rw [k1] at e0
    have hsb : 0 ≤ (s : Int) * sizeW p.cls ∧ (s : Int) * sizeW p.cls ≤ 120 := by
      have := Int.mul_le_mul (show (s : Int) ≤ 15 by omega) hsz.2 (by omega) (by omega)
      exact ⟨Int.mul_nonneg (by omega) (by omega), by omega⟩
    have HSI := Lib.hid hsi
    have HH := Lib.hid hH
    have HGX := Lib.hid hgx
    have HLL := Lib.hid hll
    obtain ⟨hsb0, hsb1⟩ := hsb
    clear hk hl hsi hH hgx hll hs hw hv hw1 hp hpa hal' k1 hi hu
    rcases u0 with _ | _
    · have HR : Hid (blockStart ps a = (4, 0)) := by
        show _ = _; unfold blockStart; rw [HH.out, HGX.out]; rfl
      go_enter Try.func81, Try.ntmps81
      go_wp2_with fail
      refine l1In_calls.mono ?_
      rw [HW.out]
      rintro e w2 ⟨rfl, rfl⟩
      go_wp2_with fail
      refine (l3Size_calls h0 h3).mono ?_
      rintro e w2 ⟨rfl, rfl⟩
      have hne : (sizeW p.cls == 0) = false := by simp; omega
      have hx := HSI.out
      go_wp2_with fail
      go_ret2
      exact ⟨ret_two (by rw [HR.out]) (by rw [HR.out]), rfl⟩
    · have HR : Hid (blockStart ps a = (0, (i : Int) * 16 + s * sizeW p.cls)) := by
        show _ = _; unfold blockStart; rw [HH.out, HGX.out]; rfl
      go_enter Try.func81, Try.ntmps81
      go_wp2_with fail
      refine l1In_calls.mono ?_
      rw [HW.out]
      rintro e w2 ⟨rfl, rfl⟩
      go_wp2_with fail
      refine (l3Size_calls h0 h3).mono ?_
      rintro e w2 ⟨rfl, rfl⟩
      have hne : (sizeW p.cls == 0) = false := by simp; omega
      have hx := HSI.out
      go_wp2_with fail
      refine (l3Size_calls h0 h3).mono ?_
      rintro e w2 ⟨rfl, rfl⟩
      go_wp2_with fail
      go_ret2
      exact ⟨ret_two (by rw [HR.out]) (by rw [HR.out]), rfl⟩
  · obtain ⟨q, hq1, hq2, hq3⟩ := held_run hv hal' hpa (.inl k2)
    have HR : Hid (blockStart ps a = (0, (headOf ps i : Int) * 16)) := by show _ = _; unfold blockStart; rw [hq3, ← hi]; rfl
    have hhi := headOf_le ps i
    rw [k2] at e0
    clear hw hv hw1 hp hpa hal' k2 hi hq1 hq2 hq3 e1 e2 e3 hu
    go_enter Try.func81, Try.ntmps81
    go_wp2_with fail
    refine l1In_calls.mono ?_
    rw [HW.out]
    rintro e w2 ⟨rfl, rfl⟩
    go_wp2_with fail
    clear e0
    go_loop [6] (fun x => ∃ m : Nat, m ≤ i ∧ x = .int .i64 m ∧ Hid (headOf ps m = headOf ps i)) (fun x => (intOf x).toNat)
    case atStart => exact ⟨i, Nat.le_refl _, rfl, rfl⟩
    case round =>
      obtain ⟨m, hm, rfl, HM⟩ := hrel
      obtain ⟨b', off', p', ad', l', c', he, d0', hp', e0', _⟩ := hT.pg_at (j := m) (by omega)
      cases he
      by_cases m3 : p'.kind = 3
      · obtain ⟨g, q, hg, _⟩ := head_of_rest HV.out hp' m3
        obtain ⟨m', rfl⟩ : ∃ m', m = m' + 1 := ⟨m - 1, by omega⟩
        have HN : Hid (headOf ps m' = headOf ps i) := by show _ = _; rw [← HM.out, headOf_back hp' m3]
        rw [m3] at e0'
        clear hp' m3 hg
        go_wp2_with fail
        go_round
        case rel => exact ⟨m', by omega, by go_num, HN⟩
        case measure => simp [intOf]
      · have HN : Hid (headOf ps i = m) := by show _ = _; rw [← HM.out, headOf_self hp' m3]
        have hq : (p'.kind == 3) = false := by simpa using m3
        clear hp' m3
        go_wp2_with fail
        go_ret2
        exact ⟨ret_two (by rw [HR.out, HN.out]) (by rw [HR.out]), rfl⟩
  · obtain ⟨q, hq1, hq2, hq3⟩ := held_run hv hal' hpa (.inr k3)
    have HR : Hid (blockStart ps a = (0, (headOf ps i : Int) * 16)) := by show _ = _; unfold blockStart; rw [hq3, ← hi]; rfl
    have hhi := headOf_le ps i
    rw [k3] at e0
    clear hw hv hw1 hp hpa hal' k3 hi hq1 hq2 hq3 e1 e2 e3 hu
    go_enter Try.func81, Try.ntmps81
    go_wp2_with fail
    refine l1In_calls.mono ?_
    rw [HW.out]
    rintro e w2 ⟨rfl, rfl⟩
    go_wp2_with fail
    clear e0
    go_loop [6] (fun x => ∃ m : Nat, m ≤ i ∧ x = .int .i64 m ∧ Hid (headOf ps m = headOf ps i)) (fun x => (intOf x).toNat)
    case atStart => exact ⟨i, Nat.le_refl _, rfl, rfl⟩
    case round =>
      obtain ⟨m, hm, rfl, HM⟩ := hrel
      obtain ⟨b', off', p', ad', l', c', he, d0', hp', e0', _⟩ := hT.pg_at (j := m) (by omega)
      cases he
      by_cases m3 : p'.kind = 3
      · obtain ⟨g, q, hg, _⟩ := head_of_rest HV.out hp' m3
        obtain ⟨m', rfl⟩ : ∃ m', m = m' + 1 := ⟨m - 1, by omega⟩
        have HN : Hid (headOf ps m' = headOf ps i) := by show _ = _; rw [← HM.out, headOf_back hp' m3]
        rw [m3] at e0'
        clear hp' m3 hg
        go_wp2_with fail
        go_round
        case rel => exact ⟨m', by omega, by go_num, HN⟩
        case measure => simp [intOf]
      · have HN : Hid (headOf ps i = m) := by show _ = _; rw [← HM.out, headOf_self hp' m3]
        have hq : (p'.kind == 3) = false := by simpa using m3
        clear hp' m3
        go_wp2_with fail
        go_ret2
        exact ⟨ret_two (by rw [HR.out, HN.out]) (by rw [HR.out]), rfl⟩

/-- How many words a block has that begins in this page. -/
def sizeIn (p : Pg) : Int := if p.kind = 1 then sizeW p.cls else p.run * 16
set_option maxHeartbeats 400000 in
theorem l4Size_calls {ao : Option Addr} {n cc st : Nat} {ps : List Pg} {p : Pg} {S : Nat → Prop} {w : World} (hT : Lst KPage w S ao n ps) (hn : n ≤ 40) (hs : st < n * 16) (hp : ps[st / 16]? = some p) (hpf : pageFault p = 0) :
    Calls Try.prog 82 #[.slice ao n cc, .int .i64 st] w fun e w' => e = .returned (.int .i64 (sizeIn p)) ∧ w = w' := by
  obtain ⟨i, hi⟩ : ∃ i, i = st / 16 := ⟨_, rfl⟩
  have hin : i < n := by omega
  obtain ⟨b, off, p', ad, l, c, rfl, d0, hp', e0, e1, e2, e3, hlc, hcm, hu⟩ := hT.pg_at hin
  obtain rfl : p = p' := by rw [← hi, hp'] at hp; injection hp with hp; exact hp.symm
  have hx1 : ((st : Int) / 16).toNat = i := by omega
  have hk := pageFault_ok hpf
  clear hp hp' hi hu
  by_cases h1 : p.kind = 1
  · have HF := Lib.hid (show sizeIn p = sizeW p.cls from if_pos h1)
    have h03 : 0 ≤ p.cls ∧ p.cls ≤ 3 := by omega
    rw [h1] at e0
    clear h1 hk
    go_enter Try.func82, Try.ntmps82
    go_wp2_with fail
    refine (l3Size_calls h03.1 h03.2).mono ?_
    rintro e w2 ⟨rfl, rfl⟩
    go_wp2_with fail
    go_ret
    exact ⟨ret_int HF.out.symm, rfl⟩
  · have HF := Lib.hid (show sizeIn p = p.run * 16 from if_neg h1)
    have hr0 : 0 ≤ p.run := by omega
    have hr4 : p.run ≤ 4 := by omega
    have hq : (p.kind == 1) = false := by simpa using h1
    clear h1 hk
    go_enter Try.func82, Try.ntmps82
    go_wp2_with fail
    go_ret
    exact ⟨ret_int HF.out.symm, rfl⟩

theorem blockStart_fault {ps : List Pg} {a : Int} (h : pagesFault ps ≠ 0) : blockStart ps a = (pagesFault ps, 0) := by unfold blockStart heldAt; rw [if_neg h]
theorem blockSize_fault {ps : List Pg} {a : Int} (h : (blockStart ps a).1 ≠ 0) : blockSize ps a = ((blockStart ps a).1, (blockStart ps a).2) := by
  unfold blockSize blockStart at *
  split <;> simp_all
/-- Where no code is told, something is held. -/
theorem blockStart_held {ps : List Pg} {a : Int} (h : (blockStart ps a).1 = 0) : ∃ b, heldAt ps a = (0, some b) ∧ pagesFault ps = 0 ∧ (blockStart ps a).2 = b.start := by
  have hv : pagesFault ps = 0 := by
    rcases Int.lt_trichotomy (pagesFault ps) 0 with h1 | h1 | h1
    · rw [blockStart_fault (by omega)] at h; exact h
    · exact h1
    · rw [blockStart_fault (by omega)] at h; exact h
  unfold blockStart at *
  rcases hh : heldAt ps a with ⟨c, b⟩
  rw [hh] at h
  cases b with
  | none => have := held_code hv hh; simp at h; omega
  | some b => exact ⟨b, by rw [(held_info hv hh).1], hv, rfl⟩

set_option maxHeartbeats 400000 in
theorem sBlockStart_calls {ao : Option Addr} {n cc : Nat} {at_ : Int} {ps : List Pg} {S : Nat → Prop} {w : World} (hT : Lst KPage w S ao n ps) (hS : ShortP 17592186044416 ps) (hn : n ≤ 17592186044416) :
    Calls Try.prog 41 #[.slice ao n cc, .int .i64 at_] w (Pair w (blockStart ps at_)) := by
  by_cases hv : pagesFault ps = 0
  rotate_left
  · have HR := Lib.hid (blockStart_fault (a := at_) hv)
    have hq : (pagesFault ps != 0) = true := by simpa using hv
    clear hv
    go_enter Try.func41, Try.ntmps41
    go_wp2_with fail
    refine (sPagesFault_calls (hT.alloc _) hS hn).mono ?_
    rintro e w1 ⟨rfl, hb1⟩
    have hres := Row.new hb1
    have hb := below_past hb1
    go_wp2_with (refine wpList_store_row rfl 38 _ _ rfl (w.heap.size) _ rfl rfl _ _ hres (by kernel_rfl) (by rfl) (by simp [Value.oneCell']) ?_)
    refine bodyPost_ret (results_cell_row rfl _ _ (w.heap.size) _ _ _ _ rfl (setRow_heap _ _ _ _ _ _ hres) Try.underlying38 rfl (by kernel_rfl)) rfl ?_
    exact pair_done hb (Nat.le_refl _) _ HR.out
  have HV := Lib.hid hv
  clear hv
  go_enter Try.func41, Try.ntmps41
  go_wp2_with fail
  refine (sPagesFault_calls (hT.alloc _) hS hn).mono ?_
  rintro e w1 ⟨rfl, hb1⟩
  rw [HV.out]
  have hres := Row.new hb1
  have hb := below_past hb1
  go_wp2_with fail
  refine (l4Start_calls ((hT.alloc _).below hb1) HV.out).mono ?_
  rintro e w2 ⟨rfl, rfl⟩
  go_wp2_with (refine wpList_store_row rfl 38 _ _ rfl (w.heap.size) _ rfl rfl _ _ hres (by kernel_rfl) (by rfl) (by simp [Value.oneCell']) ?_)
  refine bodyPost_ret (results_cell_row rfl _ _ (w.heap.size) _ _ _ _ rfl (setRow_heap _ _ _ _ _ _ hres) Try.underlying38 rfl (by kernel_rfl)) rfl ?_
  exact pair_done hb (Nat.le_refl _) _ rfl

set_option maxHeartbeats 400000 in
theorem sBlockSize_calls {ao : Option Addr} {n cc : Nat} {at_ : Int} {ps : List Pg} {S : Nat → Prop} {w : World} (hT : Lst KPage w S ao n ps) (hS : ShortP 17592186044416 ps) (hn : n ≤ 17592186044416) :
    Calls Try.prog 42 #[.slice ao n cc, .int .i64 at_] w (Pair w (blockSize ps at_)) := by
  by_cases hv : (blockStart ps at_).1 = 0
  rotate_left
  · have HR := Lib.hid (blockSize_fault hv)
    have hq : ((blockStart ps at_).1 != 0) = true := by simpa using hv
    clear hv
    go_enter Try.func42, Try.ntmps42
    go_wp2_with fail
    refine (sBlockStart_calls (hT.alloc _) hS hn).mono ?_
    rintro e w1 ⟨rfl, hb1⟩
    have hres := Row.new hb1
    have hb := below_past hb1
    have hlt := hres.lt
    have hres2 := (heap_alloc_old w1 (.cells #[.int .i64 (blockStart ps at_).1, .int .i64 (blockStart ps at_).2] 38) hlt).trans hres
    go_wp2_with (refine wpList_store_row rfl 38 _ _ rfl (w.heap.size) _ rfl rfl _ _ hres2 (by kernel_rfl) (by rfl) (by simp [Value.oneCell']) ?_)
    refine bodyPost_ret (results_cell_row rfl _ _ (w.heap.size) _ _ _ _ rfl (setRow_heap _ _ _ _ _ _ hres2) Try.underlying38 rfl (by kernel_rfl)) rfl ?_
    exact pair_done (hb.alloc hb.size _) (Nat.le_refl _) _ HR.out
  obtain ⟨b, hh, hpf, hbs⟩ := blockStart_held hv
  have hlp := (pagesFault_ok hpf).1
  have hn40 : n ≤ 40 := by have := hT.1; omega
  obtain ⟨_, ha0, hal, hi⟩ := held_info hpf hh
  have hk : ∃ (st : Nat) (p : Pg), b.start = st ∧ st < n * 16 ∧ ps[st / 16]? = some p ∧ pageFault p = 0 ∧ sizeIn p = b.size := by
    rcases hi with ⟨i, k, s, p, rfl, hp, h1, h2, h0, h3, hu, hl, _⟩ | ⟨i, p, rfl, hp, h2, _⟩
    · have hil := (List.getElem?_eq_some_iff.1 hp).1
      have hsl := (List.getElem?_eq_some_iff.1 hu).1
      have hsz := sizeW_slots h0 h3
      have hs1 := sizeW_small k
      have hs16 : (s : Int) * sizeW k + sizeW k ≤ 16 := by
        have := Int.mul_le_mul_of_nonneg_right (show (s : Int) + 1 ≤ 16 / sizeW k by omega) (show 0 ≤ sizeW k by omega)
        rw [Int.add_mul, Int.one_mul, Int.mul_comm (16 / sizeW k)] at this; omega
      have hs0 : 0 ≤ (s : Int) * sizeW k := Int.mul_nonneg (by omega) (by omega)
      have hl' := hT.1
      refine ⟨(Blk.slot i k s).start.toNat, p, ?_, ?_, ?_, ok_page hpf hp, ?_⟩
      · simp only [Blk.start]; omega
      · simp only [Blk.start]; omega
      · rw [show (Blk.slot i k s).start.toNat / 16 = i by simp only [Blk.start]; omega]; exact hp
      · simp [sizeIn, h1, h2, Blk.size]
    · have hil := (List.getElem?_eq_some_iff.1 hp).1
      have hl' := hT.1
      refine ⟨i * 16, p, by simp [Blk.start], by omega, by rw [Nat.mul_div_cancel _ (by omega)]; exact hp, ok_page hpf hp, by simp [sizeIn, h2, Blk.size]⟩
  obtain ⟨st, p, hst, hs1, hp, hpf2, hsi⟩ := hk
  have HR : Hid (blockSize ps at_ = (0, sizeIn p)) := by show _ = _; unfold blockSize; rw [hh, hsi]
  have HE := Lib.hid (hbs.trans hst)
  have HV := Lib.hid hv
  clear hv hh hpf hbs hlp hi hst hsi ha0 hal
  go_enter Try.func42, Try.ntmps42
  go_wp2_with fail
  refine (sBlockStart_calls (hT.alloc _) hS hn).mono ?_
  rintro e w1 ⟨rfl, hb1⟩
  rw [HV.out, HE.out]
  have hres := Row.new hb1
  have hb := below_past hb1
  have hlt := hres.lt
  have hres2 := (heap_alloc_old w1 (.cells #[.int .i64 0, .int .i64 st] 38) hlt).trans hres
  go_wp2_with fail
  refine (l4Size_calls (((hT.alloc _).below hb1).alloc _) hn40 hs1 hp hpf2).mono ?_
  rintro e w2 ⟨rfl, rfl⟩
  go_wp2_with (refine wpList_store_row rfl 38 _ _ rfl (w.heap.size) _ rfl rfl _ _ hres2 (by kernel_rfl) (by rfl) (by simp [Value.oneCell']) ?_)
  refine bodyPost_ret (results_cell_row rfl _ _ (w.heap.size) _ _ _ _ rfl (setRow_heap _ _ _ _ _ _ hres2) Try.underlying38 rfl (by kernel_rfl)) rfl ?_
  exact pair_done (hb.alloc hb.size _) (Nat.le_refl _) _ HR.out
end Go.Proofs.Ytkikjoalhohlgaa
