/- Joined texts (Impl5, Impl5b, Spec5, Spec5b, Impl5c, Impl5d, Spec5c): steps of the proofs of chapter 5's laws. -/
import Derived.Deep.RegionHeld3
import Derived.IntWalk
import Derived.Test.YtcnpckaacigbfaaGreatM3
import Derived.Test.YtcnpckaacigbfaaGreatM6
import Derived.Test.YtcnpckaacigbfaaGreatM7
set_option linter.unusedVariables false
set_option linter.unusedSimpArgs false
/- Chapter 5 of the program: magazines that are pointed at. -/
namespace Go.Proofs.YtcnpckaacigbfaaGreat
open Go.RowKit

/-- A pointer to a block of its own in which a datum lies. -/
def KPtr {α : Type} (K : Lay α) (T : TypeId) : Lay α where
  sz := 1
  rd w S cs x := ∃ b row, cs = [.pointer (some ⟨b, 0, none⟩)] ∧ S b ∧ Row w b T row ∧ K.rd w S row.toList x
  own w S cs x := ∃ b row S', cs = [.pointer (some ⟨b, 0, none⟩)] ∧ S b ∧ Row w b T row ∧ K.own w S' row.toList x ∧ ∀ k, S' k → S k ∧ k ≠ b
  rd_len := by rintro w S cs x ⟨_, _, rfl, _⟩; rfl
  rd_turn := by rintro w w' S T' cs x ⟨b, row, rfl, hb, hr, hx⟩ ht hd; exact ⟨b, row, rfl, hb, ht.row hr (hd b hb hr.lt), K.rd_turn hx ht hd⟩
  rd_mono := by rintro w S S' cs x ⟨b, row, rfl, hb, hr, hx⟩ hd; exact ⟨b, row, rfl, hd b hb hr.lt, hr, K.rd_mono hx hd⟩
  own_turn := by rintro w w' S T' cs x ⟨b, row, S', rfl, hb, hr, hx, hk⟩ ht hd; exact ⟨b, row, S', rfl, hb, ht.row hr (hd b hb hr.lt), K.own_turn hx ht (fun k h => hd k (hk k h).1), hk⟩
  own_mono := by rintro w S S' cs x ⟨b, row, T', rfl, hb, hr, hx, hk⟩ hd; exact ⟨b, row, fun k => T' k ∧ k < w.heap.size, rfl, hd b hb hr.lt, hr, K.own_mono hx (fun k h hl => ⟨h, hl⟩), fun k h => ⟨hd k (hk k h.1).1 h.2, (hk k h.1).2⟩⟩
  own_rd := by rintro w S cs x ⟨b, row, S', rfl, hb, hr, hx, hk⟩; exact ⟨b, row, rfl, hb, hr, K.rd_mono (K.own_rd hx) (fun k h _ => (hk k h).1)⟩
theorem one_ptr {α : Type} (K : Lay α) (T : TypeId) : OneC (KPtr K T) := fun w S cs x ⟨_, _, h, _⟩ c hc => by rw [h] at hc; simp at hc; subst hc; rfl
/-- A magazine, or one whose slice is nil. -/
def KMagO : Lay (Option (List Int)) where
  sz := 1
  rd w S cs x := match x with | some m => KMag.rd w S cs m | none => cs = [.slice none 0 0]
  own w S cs x := match x with | some m => KMag.own w S cs m | none => cs = [.slice none 0 0]
  rd_len := by
    rintro w S cs (_ | m) h
    · subst h; rfl
    · exact KMag.rd_len h
  rd_turn := by
    rintro w w' S T cs (_ | m) h ht hd
    · exact h
    · exact KMag.rd_turn h ht hd
  rd_mono := by
    rintro w S S' cs (_ | m) h hd
    · exact h
    · exact KMag.rd_mono h hd
  own_turn := by
    rintro w w' S T cs (_ | m) h ht hd
    · exact h
    · exact KMag.own_turn h ht hd
  own_mono := by
    rintro w S S' cs (_ | m) h hd
    · exact h
    · exact KMag.own_mono h hd
  own_rd := by
    rintro w S cs (_ | m) h
    · exact h
    · exact KMag.own_rd h
def KPM : Lay (List Int) := KPtr KMag 136
def KPMO : Lay (Option (List Int)) := KPtr KMagO 136
theorem infoPM : (Tryz.prog.info? 86).map (fun i => (i.zero, i.size, i.bytes)) = some (some (.pointer none), 1, 8) := by kernel_rfl
/-- A magazine of a list of pointers. -/
theorem Lst.pm_at {w : World} {S : Nat → Prop} {ao : Option Addr} {n : Nat} {ms : List (List Int)} (h : Lst KPM w S ao n ms) {j : Nat} (hj : j < n) :
    ∃ b off g m a l c, ao = some ⟨b, off, none⟩ ∧ b < w.heap.size ∧ ms[j]? = some m ∧ w.cell? ⟨b, off + j, none⟩ = some (.pointer (some ⟨g, 0, none⟩)) ∧ Row w g 136 #[.slice a l c] ∧ l ≤ c ∧ c ≤ maxLen ∧ Lst KInt w S a l m := by
  obtain ⟨b, off, cs, x, rfl, hb, hs, hx, hl, hcs, ⟨g, row, rfl, hg, hr, ⟨a, l, c, hrow, h1, h2, h3⟩⟩⟩ := h.at_ hj
  have h0 := hcs 0 (show 0 < 1 by omega)
  rw [show KPM.sz = 1 from rfl, Nat.mul_one] at h0
  obtain ⟨row⟩ := row
  simp at hrow; subst hrow
  exact ⟨b, off, g, x, a, l, c, rfl, hb, hx, h0, hr, h1, h2, h3⟩

theorem isTooFull_calls {g : Nat} {a : Option Addr} {l c : Nat} {w : World} (hr : Row w g 136 #[.slice a l c]) :
    Calls Tryz.prog 117 #[.pointer (some ⟨g, 0, none⟩)] w fun e w' => e = .returned (.bool (decide ((2 : Int) < l))) ∧ w = w' := by
  have h0 := hr.lt
  have h1 := hr.cell 0
  simp at h1
  go_enter Tryz.func117, Tryz.ntmps117
  go_wp2_with fail
  go_ret
  exact ⟨by simp, rfl⟩

theorem isMagCount_calls {n : Nat} {w : World} (hn : n ≤ 17592186044416) :
    Calls Tryz.prog 57 #[.int .i64 n] w fun e w' => e = .returned (.bool (magCount n)) ∧ Below w.heap.size w w' := by
  by_cases h4 : (n : Int) % 4 = 0
  · have HM : Hid (within 1 2 [(n : Int) / 4] = magCount n) := by
      show _ = _
      rw [within_one, magCount]
      apply Bool.eq_iff_iff.2
      simp; omega
    go_enter Tryz.func57, Tryz.ntmps57
    go_wp2_with fail
    refine (allWithin_calls (Ints.one (by simp)) (by omega)).mono ?_
    rintro e w1 ⟨rfl, rfl⟩
    go_wp2_with fail
    go_ret
    exact ⟨ret_bool HM.out, (Below.refl _ _).alloc (Nat.le_refl _) _⟩
  · have HM : Hid (magCount n = false) := by
      show _ = _
      rw [magCount, decide_eq_false_iff_not]; omega
    have hq : ((n : Int) % 4 == 0) = false := by simpa using h4
    clear h4
    go_enter Tryz.func57, Tryz.ntmps57
    go_wp2_with fail
    go_ret
    exact ⟨ret_bool HM.out.symm, Below.refl _ _⟩

set_option maxRecDepth 100000 in
set_option maxHeartbeats 1000000 in
theorem isSlotStart_calls {ao : Option Addr} {n cc : Nat} {at_ c : Int} {ps : List Pg} {S : Nat → Prop} {w : World} (hT : Lst KPage w S ao n ps) (hv : pagesFault ps = 0) (hn : n ≤ cc) (hc : cc ≤ 9223372036854775807) :
    Calls Tryz.prog 118 #[.slice ao n cc, .int .i64 at_, .int .i64 c] w fun e w' => e = .returned (.bool (isSlotAt ps c at_)) ∧ Below w.heap.size w w' := by
  have HL := Lib.hid hT.1
  have hn40 : n ≤ 40 := by have := (pagesFault_ok hv).1; have := hT.1; omega
  have hS : ShortP 17592186044416 ps := fun p hp => Nat.le_trans (pagesFault_short hv p hp) (by decide)
  have qss := as_ss
  have qrs := as_rs
  rcases hh : heldAt ps at_ with ⟨q, b⟩
  rcases b with _ | b
  · have hq : (q != 0) = true := by
      have := held_code hv hh
      rcases this with rfl | rfl <;> rfl
    have HF : Hid (isSlotAt ps c at_ = false) := by show _ = _; unfold isSlotAt; rw [hh]
    go_enter Tryz.func118, Tryz.ntmps118
    go_wp2_with fail
    refine (heldAt_calls hT hS hn hc (by omega)).mono ?_
    rw [hh]
    rintro e w1 ⟨rfl, hb1⟩
    simp only [heldV, blkO]
    go_wp2_with fail
    go_ret
    exact ⟨ret_bool HF.out.symm, hb1⟩
  · have hq0 := (held_info hv hh).1
    subst hq0
    rcases b with ⟨i, k, s⟩ | ⟨i, m⟩
    · obtain ⟨_, a0, a1, hi, hs, c0, c3, p, hp, p1, p2, pr, hu, hl⟩ := held_slot_info hv hh
      have HF : Hid (isSlotAt ps c at_ = (decide (k = c) && decide ((i : Int) * 16 + s * sizeW k = at_))) := by show _ = _; unfold isSlotAt; rw [hh]; rfl
      have hi40 : i ≤ 40 := by have := (List.getElem?_eq_some_iff.1 hp).1; have := HL.out; omega
      have hs15 : s ≤ 15 := by rw [hs]; have := Nat.div_le_self (at_.toNat % 16) (sizeW k).toNat; omega
      clear hi hs hp hu hl p1 p2 pr
      by_cases hk : k = c
      · have e1 : (k == c) = true := by simp [hk]
        rcases hst : decide ((i : Int) * 16 + s * sizeW k = at_) with _ | _
        all_goals
          have e2 : (((i : Int) * 16 + s * sizeW k) == at_) = _ := hst
          have HF2 := HF.out
          rw [hst] at HF2
          have HF3 := Lib.hid HF2
          clear HF HF2 hst
          subst hk
          go_enter Tryz.func118, Tryz.ntmps118
          go_wp2_with fail
          refine (heldAt_calls hT hS hn hc (by omega)).mono ?_
          rw [hh]
          rintro e w1 ⟨rfl, hb1⟩
          simp only [heldV, blkO, blkV]
          have HB := Lib.hid hb1
          clear hb1
          go_wp2_with fail
          refine (slotStart_calls c0 c3 (by omega) (by omega) (by omega) (by omega)).mono ?_
          rintro e w2 ⟨rfl, hb2⟩
          have HB2 := Lib.hid (HB.out.trans ((below_past hb2).mono HB.out.size))
          clear hb2
          go_wp2_with fail
          go_ret
          exact ⟨ret_bool (by rw [HF3.out]; simp), HB2.out⟩
      · have e1 : (k == c) = false := by simpa using hk
        have HF2 : Hid (isSlotAt ps c at_ = false) := by show _ = _; rw [HF.out]; simp [hk]
        clear HF hk
        go_enter Tryz.func118, Tryz.ntmps118
        go_wp2_with fail
        refine (heldAt_calls hT hS hn hc (by omega)).mono ?_
        rw [hh]
        rintro e w1 ⟨rfl, hb1⟩
        simp only [heldV, blkO, blkV]
        have HB := Lib.hid hb1
        clear hb1
        go_wp2_with fail
        go_ret
        exact ⟨ret_bool HF2.out.symm, HB.out.alloc HB.out.size _⟩
    · have HF : Hid (isSlotAt ps c at_ = false) := by show _ = _; unfold isSlotAt; rw [hh]
      go_enter Tryz.func118, Tryz.ntmps118
      go_wp2_with fail
      refine (heldAt_calls hT hS hn hc (by omega)).mono ?_
      rw [hh]
      rintro e w1 ⟨rfl, hb1⟩
      simp only [heldV, blkO, blkV]
      have HB := Lib.hid hb1
      clear hb1
      go_wp2_with fail
      go_ret
      exact ⟨ret_bool HF.out.symm, HB.out.alloc HB.out.size _⟩
end Go.Proofs.YtcnpckaacigbfaaGreat

/- Chapter 5 of the program: why a heap is none. -/
namespace Go.Proofs.YtcnpckaacigbfaaGreat
open Go.RowKit

theorem hasIn_flatten_snoc {ms : List (List Int)} {k : Nat} {m : List Int} {v : Int} (h : ms[k]? = some m) : hasIn (ms.take (k + 1)).flatten v = (hasIn (ms.take k).flatten v || hasIn m v) := by
  rw [flatten_snoc h]; unfold hasIn; rw [List.contains_eq_any_beq, List.any_append, ← List.contains_eq_any_beq, ← List.contains_eq_any_beq]
theorem hasIn_flatten_yes {ms : List (List Int)} {k : Nat} {m : List Int} {v : Int} (h : ms[k]? = some m) (hv : hasIn m v = true) : hasIn ms.flatten v = true := by
  unfold hasIn at *
  rw [List.contains_iff_mem] at *
  exact List.mem_flatten.2 ⟨m, List.mem_of_getElem? h, hv⟩
theorem flatten_len_at {ms : List (List Int)} {k : Nat} {m : List Int} (h : ms[k]? = some m) : m.length ≤ ms.flatten.length := by
  have h1 := flatten_snoc h
  have h2 := flatten_take_le ms (k + 1)
  rw [h1, List.length_append] at h2; omega

set_option maxRecDepth 100000 in
set_option maxHeartbeats 1000000 in
theorem isKept_calls {pa wa ma : Option Addr} {pn pc wn wc mn mc : Nat} {v : Int} {ms : List (List Int)} {S : Nat → Prop} {w : World} (hM : Lst KMag w S ma mn ms) (hS : ShortM 17592186044416 ms) (hn : mn ≤ 17592186044416) :
    Calls Tryz.prog 77 #[.agg #[.slice pa pn pc, .slice wa wn wc, .slice ma mn mc], .int .i64 v] w fun e w' => e = .returned (.bool (hasIn ms.flatten v)) ∧ Below w.heap.size w w' := by
  have HL := Lib.hid hM.1
  have HS := Lib.hid hS
  go_enter Tryz.func77, Tryz.ntmps77
  go_wp2_with fail
  have hB0 : Below w.heap.size w (w.alloc (.cells #[.slice pa pn pc, .slice wa wn wc, .slice ma mn mc] 30)) := (Below.refl _ _).alloc (Nat.le_refl _) _
  go_loopw [6, 10] (fun _ i wr => ∃ k : Nat, k ≤ mn ∧ i = .int .i64 k ∧ Hid (hasIn (ms.take k).flatten v = false) ∧ Below w.heap.size w wr) (fun _ i _ => mn - (intOf i).toNat)
  case atStart => exact ⟨0, Nat.zero_le _, rfl, rfl, hB0⟩
  case round =>
    clear hB0
    obtain ⟨k, hk, rfl, HK, hbw⟩ := hrel
    by_cases hlt : k < mn
    · obtain ⟨b0, o0, m, a0, l0, c0, rfl, d0, hp, e0, hlc0, hcm0, hu0⟩ := (hM.below hbw).mag_at hlt
      have hl : l0 ≤ 17592186044416 := by have := HS.out.at_ hp; have := hu0.1; omega
      have HP := Lib.hid hp
      clear hp hcm0
      rcases hx : hasIn m v with _ | _
      · have HN : Hid (hasIn (ms.take (k + 1)).flatten v = false) := by show _ = _; rw [hasIn_flatten_snoc HP.out, HK.out, hx]; rfl
        go_wp2_with fail
        refine (containsI_calls hu0.ints hl).mono ?_
        rw [hx]
        rintro e w1 ⟨rfl, rfl⟩
        go_wp2_with fail
        go_roundw
        case rel => exact ⟨k + 1, by omega, by go_num, HN, hbw⟩
        case measure => simp [intOf]; omega
      · have HN : Hid (hasIn ms.flatten v = true) := hasIn_flatten_yes HP.out hx
        go_wp2_with fail
        refine (containsI_calls hu0.ints hl).mono ?_
        rw [hx]
        rintro e w1 ⟨rfl, rfl⟩
        go_wp2_with fail
        go_ret
        exact ⟨ret_bool HN.out.symm, hbw⟩
    · have HN : Hid (hasIn ms.flatten v = false) := by have := HK.out; rwa [List.take_of_length_le (by have := HL.out; omega)] at this
      go_wp2_with fail
      go_ret
      exact ⟨ret_bool HN.out.symm, hbw⟩

set_option maxRecDepth 100000 in
set_option maxHeartbeats 1000000 in
theorem magFault_calls {ao a : Option Addr} {n cc g l c : Nat} {cls : Int} {ps : List Pg} {m : List Int} {S S' : Nat → Prop} {w : World} (hT : Lst KPage w S ao n ps) (hv : pagesFault ps = 0) (hn : n ≤ cc) (hc : cc ≤ 9223372036854775807)
    (hr : Row w g 136 #[.slice a l c]) (hm : Lst KInt w S' a l m) :
    Calls Tryz.prog 60 #[.slice ao n cc, .pointer (some ⟨g, 0, none⟩), .int .i64 cls] w fun e w' => e = .returned (.int .i64 (magFault ps cls m)) ∧ Below w.heap.size w w' := by
  have HL := Lib.hid hm.1
  by_cases h2 : 2 < l
  · have hd : decide ((2 : Int) < (l : Int)) = true := by simp; omega
    have HF : Hid (magFault ps cls m = 2) := by show _ = _; unfold magFault; rw [if_pos (by rw [HL.out]; exact h2)]
    go_enter Tryz.func60, Tryz.ntmps60
    go_wp2_with fail
    refine (isTooFull_calls hr).mono ?_
    rw [hd]
    rintro e w1 ⟨rfl, rfl⟩
    go_wp2_with fail
    go_ret
    exact ⟨ret_int HF.out.symm, Below.refl _ _⟩
  have hd : decide ((2 : Int) < (l : Int)) = false := by simp; omega
  have HM : Hid (magFault ps cls m = if m.all (isSlotAt ps cls) = true then 0 else 1) := by show _ = _; unfold magFault; rw [if_neg (by rw [HL.out]; exact h2)]
  have h0 := hr.lt
  have h1 := hr.cell 0
  simp at h1
  go_enter Tryz.func60, Tryz.ntmps60
  go_wp2_with fail
  refine (isTooFull_calls hr).mono ?_
  rw [hd]
  rintro e w1 ⟨rfl, rfl⟩
  go_wp2_with fail
  go_loopw [8, 16] (fun _ i wr => ∃ k : Nat, k ≤ l ∧ i = .int .i64 k ∧ Hid ((m.take k).all (isSlotAt ps cls) = true) ∧ Below w.heap.size w wr) (fun _ i _ => l - (intOf i).toNat)
  case atStart => exact ⟨0, Nat.zero_le _, rfl, rfl, Below.refl _ _⟩
  case round =>
    clear h0 h1
    obtain ⟨k, hk, rfl, HK, hbw⟩ := hrel
    by_cases hlt : k < l
    · obtain ⟨b0, o0, rfl, d0, e0⟩ := (hm.ints.below hbw).at_ hlt
      have hx : m[k]? = some (m.getD k 0) := by rw [List.getD_eq_getElem?_getD, List.getElem?_eq_getElem (by rw [HL.out]; exact hlt)]; rfl
      have HX := Lib.hid hx
      generalize m.getD k 0 = x at e0 HX
      clear hx
      rcases hs : isSlotAt ps cls x with _ | _
      · have HF : Hid (magFault ps cls m = 1) := by
          show _ = _; rw [HM.out, if_neg]
          intro hall
          have := List.all_eq_true.1 hall x (List.mem_of_getElem? HX.out)
          rw [hs] at this; cases this
        go_wp2_with fail
        refine (isSlotStart_calls (hT.below hbw) hv hn hc).mono ?_
        rw [hs]
        rintro e w2 ⟨rfl, hb2⟩
        have hB2 := hbw.trans (hb2.mono hbw.size)
        clear hb2
        go_wp2_with fail
        go_ret
        exact ⟨ret_int HF.out.symm, hB2⟩
      · have HN : Hid ((m.take (k + 1)).all (isSlotAt ps cls) = true) := by
          show _ = _
          rw [List.take_add_one, HX.out, List.all_append, HK.out]; simp [hs]
        go_wp2_with fail
        refine (isSlotStart_calls (hT.below hbw) hv hn hc).mono ?_
        rw [hs]
        rintro e w2 ⟨rfl, hb2⟩
        have hB2 := hbw.trans (hb2.mono hbw.size)
        clear hb2
        go_wp2_with fail
        go_roundw
        case rel => exact ⟨k + 1, by omega, by go_num, HN, hB2⟩
        case measure => simp [intOf]; omega
    · have HF : Hid (magFault ps cls m = 0) := by
        show _ = _; rw [HM.out, if_pos]
        have := HK.out; rwa [List.take_of_length_le (by have := HL.out; omega)] at this
      go_wp2_with fail
      go_ret
      exact ⟨ret_int HF.out.symm, hbw⟩

theorem run_neq_ints {P : Program} {t e : TypeId} {n : Nat} {i : TypeInfo} (hu : P.underlying t = some (.array n e)) (hi : P.info? e = some i) (hc : P.cellsOf e = 1) (he : P.underlying e = some (.int .i64)) (hk : P.plainKey e = true)
    (A B : List Int) (hA : A.length = n) (hB : B.length = n) (w : World) :
    (binOp .neq t (.agg (A.map (Value.int .i64)).toArray) (.agg (B.map (Value.int .i64)).toArray)).run P w = .ok (.bool (!decide (A = B))) w := by
  rw [run_neq_struct, run_equalIn_array w 9999 _ _ hu hi, hc, run_eqInts he hk A B 9998 w _ (fun j hj => by simp at hj; omega)]
  simp only [Result.andThen_ok]
  congr 3
  rw [Bool.eq_iff_iff, List.all_eq_true, decide_eq_true_iff]
  constructor
  · intro h
    apply List.ext_getElem (by omega)
    intro j h1 h2
    have := h j (by simp; omega)
    simpa [List.getD, h1, h2] using this
  · rintro rfl j _
    simp
theorem freeZero_no {ws : List Int} : ∀ {ps : List Pg} {j k : Nat} {p : Pg}, ps[k]? = some p → p.kind = 0 → frameOf ws (j + k) ≠ List.replicate 16 0 → freeZero ws j ps = false
  | [], _, _, _, h, _, _ => by simp at h
  | q :: r, j, 0, p, h, h0, hf => by
    simp at h; subst h
    unfold freeZero
    rw [decide_eq_false (show ¬ (q.kind ≠ 0) from fun h => h h0), decide_eq_false (show ¬ (frameOf ws j = List.replicate 16 0) from hf)]; rfl
  | q :: r, j, k + 1, p, h, h0, hf => by
    have := freeZero_no (ws := ws) (ps := r) (j := j + 1) (k := k) (p := p) (by simpa using h) h0 (by rw [show j + 1 + k = j + (k + 1) by omega]; exact hf)
    simp [freeZero, this]
theorem freeZero_yes {ws : List Int} : ∀ {ps : List Pg} {j : Nat}, (∀ (k : Nat) (p : Pg), ps[k]? = some p → p.kind = 0 → frameOf ws (j + k) = List.replicate 16 0) → freeZero ws j ps = true
  | [], _, _ => rfl
  | q :: r, j, h => by
    unfold freeZero
    rw [freeZero_yes (ps := r) (j := j + 1) (fun k p hk h0 => by rw [show j + 1 + k = j + (k + 1) by omega]; exact h (k + 1) p (by simpa using hk) h0), Bool.and_true]
    by_cases h0 : q.kind = 0
    · have := h 0 q (by simp) h0
      rw [decide_eq_true (show frameOf ws j = List.replicate 16 0 from this), Bool.or_true]
    · simp [h0]
theorem freeZero_at {ws : List Int} {ps : List Pg} (h : freeZero ws 0 ps = true) {k : Nat} {p : Pg} (hp : ps[k]? = some p) (h0 : p.kind = 0) : frameOf ws k = List.replicate 16 0 := by
  by_cases hf : frameOf ws k = List.replicate 16 0
  · exact hf
  · rw [freeZero_no (ws := ws) (j := 0) hp h0 (by rw [Nat.zero_add]; exact hf)] at h; cases h
end Go.Proofs.YtcnpckaacigbfaaGreat

/- Chapter 1 and 5 of the model: frames of words; what is kept; what is wrong with a magazine. -/
namespace Go.Proofs.YtcnpckaacigbfaaGreat
open Go.RowKit

theorem quiet_same {P : Program} {f : FuncId} {args : Array Value} {w : World} {R : Ending → World → Prop} {v : Value} (h : Calls P f args w R) (hR : ∀ e w', R e w' → e = .returned v ∧ w = w') : Calls P f args w fun e w' => e = .returned v ∧ w' = w :=
  h.mono fun e w' h => ⟨(hR e w' h).1, (hR e w' h).2.symm⟩

theorem l1Value_calls {v : Int} {w : World} :
    Calls Tryz.prog 65 #[.int .i64 v] w fun e w' => e = .returned (.bool (within (-1000000000) 1000000000 [v])) ∧ w = w' := by
  go_enter Tryz.func65, Tryz.ntmps65
  go_wp2_with (go_at_call 53; refine l1In_calls.mono ?_; rintro e w' ⟨rfl, rfl⟩)
  go_ret
  exact ⟨rfl, rfl⟩

theorem Lst.frame {w : World} {S : Nat → Prop} {b off n f : Nat} {xs : List Int} (h : Lst KInt w S (some ⟨b, off, none⟩) n xs) (hf : (f + 1) * 16 ≤ n) : Lst KInt w S (some ⟨b, off + f * 16, none⟩) 16 (frameOf xs f) := by
  have := h.part (i := f * 16) (m := 16) (by omega)
  rw [show KInt.sz = 1 from rfl, Nat.mul_one] at this
  exact this
theorem l1Frame_calls {a : Option Addr} {n c f : Nat} {xs : List Int} {S : Nat → Prop} {w : World} (ha : Lst KInt w S a n xs) (hf : (f + 1) * 16 ≤ n) (hc : n ≤ c) (hx : n ≤ 17592186044416) :
    Calls Tryz.prog 70 #[.slice a n c, .int .i64 f] w fun e w' => ∃ v, e = .returned v ∧ Own KInt 2 w' (fun k => w.heap.size ≤ k) v 16 (frameOf xs f) ∧ Below w.heap.size w w' := by
  obtain ⟨b, off, rfl, hb, _⟩ := ha.2 (by omega)
  have hfr := Lib.hid (ha.frame hf)
  go_enter Tryz.func70, Tryz.ntmps70
  go_wp2_with fail
  rw [show (f + 1) * 16 - f * 16 = 16 by omega]
  refine (l1Ints_calls hfr.out (by omega)).mono ?_
  rintro e w1 ⟨v, rfl, hown, hb1⟩
  have HOW := Lib.hid hown
  clear hown
  go_wp2_with fail
  go_ret
  exact ⟨_, rfl, HOW.out, hb1⟩

set_option maxHeartbeats 400000 in
theorem l1Write_calls {v : Value} {S : Nat → Prop} {n f pb po pc : Nat} {xs page : List Int} {w : World} (ho : Own KInt 2 w S v n xs) (hf : (f + 1) * 16 ≤ n) (hp : Ints w (some ⟨pb, po, none⟩) 16 page) (hne : ¬ S pb) (hx : n ≤ 17592186044416) :
    Calls Tryz.prog 145 #[v, .int .i64 f, .slice (some ⟨pb, po, none⟩) 16 pc] w fun e w' =>
      e = .returned (.tuple #[]) ∧ Own KInt 2 w' S v n (putFrame xs f page) ∧ Turn S w w' := by
  have HL := Lib.hid ho.1
  have HPL := Lib.hid hp.1
  obtain ⟨vo, vc, rfl, _, _, _⟩ := ho.shape
  go_enter Tryz.func145, Tryz.ntmps145
  go_wp2
  go_loopw [6] (fun i wr => ∃ k : Nat, k ≤ 16 ∧ i = .int .i64 k ∧ Own KInt 2 wr S (.slice vo n vc) n (splice xs (f * 16) (page.take k)) ∧ Turn S w wr) (fun i _ => 16 - (intOf i).toNat)
  case atStart => exact ⟨0, by omega, rfl, by rw [List.take_zero, splice_nil]; exact ho, Turn.refl _ _⟩
  case round =>
    obtain ⟨k, hk, rfl, HOr, hgr⟩ := hrel
    by_cases hlt : k < 16
    · obtain ⟨pb', po', he, hpb, hpc⟩ := hp.at_ hlt
      simp only [Option.some.injEq, Addr.mk.injEq, and_true] at he
      obtain ⟨rfl, rfl⟩ := he
      have hkp : k < page.length := by rw [HPL.out]; exact hlt
      have hpc2 : wr.cell? ⟨pb, po + k, none⟩ = some (.int .i64 (page.getD k 0)) := by
        rw [World.cell?_of_block (w := w) (a := ⟨pb, po + k, none⟩) (hgr.block pb hpb hne)]; exact hpc
      obtain ⟨g, cap, he2, hgS, hgl, hcl, hfr, hst⟩ := HOr.int_at (j := f * 16 + k) (by omega)
      cases he2
      have hst2 := hst page[k]
      rw [splice_step xs page (f * 16) k hkp (by rw [HL.out, HPL.out]; omega)] at hst2
      have HST := Lib.hid hst2
      have HG := Lib.hid hgr
      have hpl : pb < wr.heap.size := Nat.lt_of_lt_of_le hpb hgr.size
      clear hst hst2 hgr hpc HOr
      go_wp2
      go_roundw
      case rel => exact ⟨k + 1, by omega, by go_num, HST.out.1, HG.out.trans HST.out.2 (fun _ h _ => h)⟩
      case measure => simp [intOf]; omega
    · obtain rfl : k = 16 := by omega
      have HF : Hid (Own KInt 2 wr S (.slice vo n vc) n (putFrame xs f page)) := by
        have := HOr
        rw [List.take_of_length_le (by rw [HPL.out]; omega)] at this
        exact this
      have HG := Lib.hid hgr
      clear HOr hgr
      go_wp2
      go_end0
      exact ⟨rfl, HF.out, HG.out⟩

theorem l1Zero_calls {a : Option Addr} {n c : Nat} {xs : List Int} {w : World} (ha : Ints w a n xs) (hx : n ≤ 17592186044416) :
    Calls Tryz.prog 69 #[.slice a n c] w fun e w' => e = .returned (.bool (decide (xs = List.replicate n 0))) ∧ w = w' := by
  have HL := Lib.hid ha.1
  go_enter Tryz.func69, Tryz.ntmps69
  go_wp2
  go_loop [3] (fun i => ∃ k : Nat, k ≤ n ∧ i = .int .i64 k ∧ Hid (xs.take k = List.replicate k 0)) (fun i => n - (intOf i).toNat)
  case atStart => exact ⟨0, Nat.zero_le _, rfl, rfl⟩
  case round =>
    obtain ⟨k, hk, rfl, HW⟩ := hrel
    by_cases hlt : k < n
    · obtain ⟨ba, oa, rfl, hba, hca⟩ := ha.at_ hlt
      have hkx : k < xs.length := by rw [HL.out]; exact hlt
      by_cases hz : xs[k] = 0
      · have hz' : (xs[k] != 0) = false := by simp [hz]
        have HS : Hid (xs.take (k + 1) = List.replicate (k + 1) 0) := by
          show _ = _
          rw [List.take_succ_eq_append_getElem hkx, HW.out, hz, List.replicate_succ']
        clear hz
        go_wp2
        go_round
        case rel => exact ⟨k + 1, by omega, by go_num, HS⟩
        case measure => simp [intOf]; omega
      · have hz' : (xs[k] != 0) = true := by simpa [bne_iff_ne] using hz
        have HF := Lib.hid (show decide (xs = List.replicate n 0) = false by
          simp only [decide_eq_false_iff_not]
          intro h
          apply hz
          have : xs[k]? = some 0 := by rw [h, List.getElem?_replicate, if_pos hlt]
          rw [List.getElem?_eq_getElem hkx] at this
          simpa using this)
        clear hz
        go_wp2
        go_ret
        exact ⟨ret_bool HF.out.symm, rfl⟩
    · have HF := Lib.hid (show decide (xs = List.replicate n 0) = true by
        have := HW.out
        rw [List.take_of_length_le (by have := HL.out; omega), show k = n by omega] at this
        simpa using this)
      go_wp2
      go_ret
      exact ⟨ret_bool HF.out.symm, rfl⟩

set_option maxRecDepth 100000 in
set_option maxHeartbeats 1000000 in
theorem l5All_calls {b mn mc : Nat} {vp vw : Value} {ma : Option Addr} {ms : List (List Int)} {S : Nat → Prop} {w : World} (hR : Row w b 30 #[vp, vw, .slice ma mn mc]) (hT : Lst KMag w S ma mn ms) (hn : mn ≤ 17592186044416) (hF : ms.flatten.length ≤ 1048576) :
    Calls Tryz.prog 67 #[.pointer (some ⟨b, 0, none⟩)] w fun e w' => ∃ v t, e = .returned v ∧ Own KInt 2 w' (fun k => w.heap.size ≤ k) v t ms.flatten ∧ Below w.heap.size w w' := by
  obtain ⟨ib, hib, hb0, hb1, hb2⟩ := info_parts info64
  have HL := Lib.hid hT.1
  have HF := Lib.hid hF
  have HR := Lib.hid hR
  clear hF hR
  go_enter Tryz.func67, Tryz.ntmps67
  have hE : Own KInt 2 (w.alloc (.cells #[] 2)) (fun k => w.heap.size ≤ k) (.slice (some ⟨w.heap.size, 0, none⟩) 0 0) 0 (ms.take 0).flatten := Own.empty (heap_alloc_new w (.cells #[] 2)) (Nat.le_refl _)
  have hB : Below w.heap.size w (w.alloc (.cells #[] 2)) := (Below.refl _ _).alloc (Nat.le_refl _) _
  have HE := Lib.hid (And.intro hE hB)
  clear hE hB
  go_wp2_with fail
  go_loopw [3, 4] (fun v i wr => ∃ k s : Nat, k ≤ mn ∧ i = .int .i64 k ∧ Hid (s = (ms.take k).flatten.length) ∧ Own KInt 2 wr (fun k => w.heap.size ≤ k) v s (ms.take k).flatten ∧ Below w.heap.size w wr) (fun _ i _ => mn - (intOf i).toNat)
  case atStart => exact ⟨0, 0, Nat.zero_le _, rfl, by simp [Hid], HE.out.1, HE.out.2⟩
  case round =>
    clear HE
    obtain ⟨k, s, hk, rfl, HS, hO, hbw⟩ := hrel
    obtain ⟨vo, vc, rfl, _, _, _⟩ := hO.shape
    have hs : s ≤ 1048576 := by have := flatten_take_le ms k; have := HS.out; have := HF.out; omega
    have R1 := HR.out.below hbw
    have q2 := R1.cell 2
    have ql := R1.lt
    simp at q2
    by_cases hlt : k < mn
    · obtain ⟨b0, o0, m, a0, l0, c0, rfl, d0, hp, e0, hlc0, hcm0, hu0⟩ := (hT.below hbw).mag_at hlt
      have HN : Hid (s + l0 = (ms.take (k + 1)).flatten.length) := by
        show _ = _; rw [flatten_snoc hp, List.length_append, ← HS.out, hu0.1]
      have hs2 : s + l0 ≤ 1048576 := by have := flatten_take_le ms (k + 1); have := HN.out; have := HF.out; omega
      have HP := Lib.hid hp
      clear hp hcm0
      have HO := Lib.hid hO
      have HB := Lib.hid hbw
      clear hO hbw R1
      go_wp2_with (
        at_builtin
        go_must (refine wpList_append_flat (K := KInt) rfl (.tmp 15) (.tmp 22) 27 rfl 2 ib (.int .i64 0) 8 Tryz.underlying27 hib hb0 hb1 hb2 rfl (by decide) flat_int one_int (n := s) (m := l0) (c := c0) rfl HO.out rfl hu0 (by unfold maxLen; omega) (by omega) ?_)
        intro v1 w1 ho1 ht1
        have H1 : Hid (Own KInt 2 w1 (fun k => w.heap.size ≤ k) v1 (s + l0) (ms.take (k + 1)).flatten ∧ Below w.heap.size w w1) := by
          refine ⟨?_, ht1.below HB.out HB.out.size (fun k h => h)⟩
          rw [flatten_snoc HP.out]
          exact ho1.mono (fun q hq _ => hq.elim id (fun h => Nat.le_trans HB.out.size h))
        clear ho1 ht1)
      go_roundw
      case rel => exact ⟨k + 1, s + l0, by omega, by go_num, HN, H1.out.1, H1.out.2⟩
      case measure => simp [intOf]; omega
    · have HE2 : Hid (Own KInt 2 wr (fun k => w.heap.size ≤ k) (.slice vo s vc) s ms.flatten ∧ Below w.heap.size w wr) := by
        rw [List.take_of_length_le (by have := HL.out; omega)] at hO
        exact ⟨hO, hbw⟩
      clear hO hbw R1
      go_wp2_with fail
      go_ret
      exact ⟨_, _, rfl, HE2.out.1, HE2.out.2⟩
end Go.Proofs.YtcnpckaacigbfaaGreat

/- Chapter 5 of the model: what is wrong with a magazine. -/
namespace Go.Proofs.YtcnpckaacigbfaaGreat
open Go.RowKit

theorem Lst.drewN {α : Type} {K : Lay α} {w : World} {S : Nat → Prop} {a : Option Addr} {n : Nat} {xs : List α} (h : Lst K w S a n xs) (m : Nat) : Lst K (w.drewN m) S a n xs := h.turn (T := fun _ => False) ((Turn.refl _ w).drewN m) (fun _ _ _ h => h)
theorem quiet_left {P : Program} {f : FuncId} {args : Array Value} {w : World} {n : Nat} {v : Value}
    (h : Calls P f args (w.drewN n) fun e w' => e = .returned v ∧ w.drewN n = w') : Calls P f args (w.drewN n) fun e w'' => e = .returned v ∧ ∃ m, w'' = w.drewN m :=
  h.mono fun _ _ ⟨he, hm⟩ => ⟨he, n, hm.symm⟩
theorem isSlot_start {ps : List Pg} (hv : pagesFault ps = 0) {c a cc s : Int} (h : blockStart ps a = (cc, s)) :
    (cc ≠ 0 → isSlotAt ps c a = false) ∧ (s ≠ a → isSlotAt ps c a = false) ∧ (cc = 0 → s = a → ∃ (n : Nat) (p : Pg), a = (n : Int) ∧ n / 16 < ps.length ∧ ps[n / 16]? = some p ∧ isSlotAt ps c a = (decide (p.kind = 1) && decide (p.cls = c))) := by
  unfold blockStart at h
  unfold isSlotAt
  rcases hh : heldAt ps a with ⟨q, b⟩
  rw [hh] at h
  cases b with
  | none =>
    simp only at h ⊢
    refine ⟨fun _ => trivial, fun _ => trivial, fun h0 => ?_⟩
    injection h with h1 h2
    have := held_code hv hh
    omega
  | some b =>
    simp only at h
    injection h with h1 h2
    subst h1 h2
    cases b with
    | run i m =>
      refine ⟨fun _ => rfl, fun _ => rfl, fun _ hs => ?_⟩
      obtain ⟨_, h0, h1, hx⟩ := held_info hv hh
      rcases hx with ⟨_, _, _, _, e, _⟩ | ⟨i', p, e, hp, hk, hi⟩
      · cases e
      · injection e with e1 e2
        subst e1
        obtain ⟨n, rfl⟩ := Int.eq_ofNat_of_zero_le h0
        have hn : n / 16 = i := by simp only [Blk.start] at hs; omega
        have hil := (List.getElem?_eq_some_iff.1 hp).1
        exact ⟨n, p, rfl, by omega, by rw [hn]; exact hp, by simp [hk]⟩
    | slot i k s =>
      obtain ⟨_, h0, h1, hi, hs', c0, c3, p, hp, p1, p2, _⟩ := held_slot_info hv hh
      refine ⟨fun h => absurd rfl h, fun hs => by simp only; rw [decide_eq_false hs, Bool.and_false], fun _ hs => ?_⟩
      obtain ⟨n, rfl⟩ := Int.eq_ofNat_of_zero_le h0
      have hil := (List.getElem?_eq_some_iff.1 hp).1
      have hn : n / 16 = i := by simpa using hi.symm
      refine ⟨n, p, rfl, by omega, by rw [hn]; exact hp, ?_⟩
      simp only
      rw [decide_eq_true hs, Bool.and_true, p1, p2]; simp

set_option maxRecDepth 100000 in
set_option maxHeartbeats 4000000 in
theorem l5Mag_calls {pa wa ma : Option Addr} {pn pc wn wk mn mc b k : Nat} {h : Hp} {m : List Int} {S : Nat → Prop} {w : World} (hR : Row w b 30 #[.slice pa pn pc, .slice wa wn wk, .slice ma mn mc]) (hr : HpR w S pa pn pc wa wn wk ma mn mc h) (hv : pagesFault h.pages = 0) (hm : h.mags[k]? = some m) (hmn : mn ≤ 1048576) :
    Calls Tryz.prog 66 #[.pointer (some ⟨b, 0, none⟩), .int .i64 k] w fun e w' => e = .returned (.int .i64 (magFault h.pages ((k % 4 : Nat) : Int) m)) ∧ Below w.heap.size w w' := by
  have HV := Lib.hid hv
  have HP := Lib.hid hr.pg.1
  have hpn : pn ≤ 40 := by have := (pagesFault_ok hv).1; have := hr.pg.1; omega
  have hkm : k < mn := by have := (List.getElem?_eq_some_iff.1 hm).1; have := hr.mg.1; omega
  obtain ⟨b0, o0, m', a0, l0, c0, rfl, d0, hp, e0, hlc0, hcm0, hu0⟩ := hr.mg.mag_at hkm
  obtain rfl : m = m' := by rw [hm] at hp; injection hp
  have HL := Lib.hid hu0.1
  obtain ⟨q4, hmod⟩ : ∃ q4 : Int, (k : Int) % 4 = q4 := ⟨_, rfl⟩
  have HQ := Lib.hid (show q4 = ((k % 4 : Nat) : Int) by omega)
  rw [← HQ.out]
  have hT := hr.pg
  have hu := hu0.ints
  have HR := Lib.hid hR
  have q0 := hR.cell 0
  have q2 := hR.cell 2
  have ql := hR.lt
  simp at q0 q2
  clear hr hv hm hp hu0 hcm0 hR
  by_cases h2 : 2 < l0
  · have HF : Hid (magFault h.pages q4 m = 2) := by show _ = _; unfold magFault; rw [if_pos (by rw [HL.out]; exact h2)]
    go_enter Tryz.func66, Tryz.ntmps66
    go_wp2_with fail
    go_ret
    exact ⟨ret_int HF.out.symm, Below.refl _ _⟩
  have HM : Hid (magFault h.pages q4 m = if m.all (isSlotAt h.pages q4) = true then 0 else 1) := by show _ = _; unfold magFault; rw [if_neg (by rw [HL.out]; exact h2)]
  have hl2 : l0 ≤ 2 := by omega
  go_enter Tryz.func66, Tryz.ntmps66
  go_wp2_with fail
  clear e0 q0 q2 ql
  go_loopw [6, 7, 8, 9] (fun i _ _ _ wr => ∃ j : Nat, j ≤ l0 ∧ i = .int .i64 j ∧ Hid ((m.take j).all (isSlotAt h.pages q4) = true) ∧ Below w.heap.size w wr) (fun i _ _ _ _ => l0 - (intOf i).toNat)
  case atStart => exact ⟨0, Nat.zero_le _, rfl, rfl, Below.refl _ _⟩
  case round =>
    obtain ⟨j, hj, rfl, HK, hbw⟩ := hrel
    by_cases hlt : j < l0
    · obtain ⟨b1, o1, rfl, d1, e1⟩ := (hu.below hbw).at_ hlt
      have hx : m[j]? = some (m.getD j 0) := by rw [List.getD_eq_getElem?_getD, List.getElem?_eq_getElem (by rw [HL.out]; exact hlt)]; rfl
      have HX := Lib.hid hx
      generalize m.getD j 0 = x at e1 HX
      clear hx
      have R1 := HR.out.below hbw
      have q0 := R1.cell 0
      have ql := R1.lt
      simp at q0
      obtain ⟨⟨cc, s⟩, hcs⟩ : ∃ p, blockStart h.pages x = p := ⟨_, rfl⟩
      obtain ⟨i1, i2, i3⟩ := isSlot_start HV.out (c := q4) hcs
      have HCS := Lib.hid hcs
      have hTb := hT.below hbw
      have HST : Hid (∀ n0 : Nat, Calls Tryz.prog 124 #[.slice pa pn pc, .int .i64 x] (wr.drewN n0) fun e w' => e = .returned (.tuple #[.int .i64 s, .int .i64 cc]) ∧ wr.drewN n0 = w') := fun n0 => by
        have := l4Start_calls (cc := pc) (at_ := x) (hTb.drewN n0) HV.out
        rw [HCS.out] at this
        exact this
      have hno : isSlotAt h.pages q4 x = false → Hid (magFault h.pages q4 m = 1) := fun hs => by
        show _ = _; rw [HM.out, if_neg]
        intro hall
        have := List.all_eq_true.1 hall x (List.mem_of_getElem? HX.out)
        rw [hs] at this; cases this
      clear hcs
      by_cases hc0 : cc = 0
      rotate_left
      · have HF := hno (i1 hc0)
        have hq : (cc != 0) = true := by simpa using hc0
        clear i1 i2 i3 hno hc0 R1
        go_wp2_with (go_quiet ((go_at_call 124; exact quiet_left (HST.out _))))
        go_ret
        exact ⟨ret_int HF.out.symm, below_drewN hbw _⟩
      have hq : (cc != 0) = false := by simp [hc0]
      by_cases hs0 : s = x
      rotate_left
      · have HF := hno (i2 hs0)
        have hq2 : (s != x) = true := by simpa using hs0
        clear i1 i2 i3 hno hs0 R1 hc0
        go_wp2_with (go_quiet ((go_at_call 124; exact quiet_left (HST.out _))))
        go_ret
        exact ⟨ret_int HF.out.symm, below_drewN hbw _⟩
      obtain ⟨n, p, rfl, hnl, hp, hsl⟩ := i3 hc0 hs0
      subst hc0 hs0
      have hnp : n / 16 < pn := by have := HP.out; omega
      obtain ⟨b2, o2, p', a2, l2, c2, rfl, d2, hp', f0, f1, f2, f3, _, _, _⟩ := hTb.pg_at hnp
      obtain rfl : p = p' := by rw [hp] at hp'; injection hp'
      have hdiv : (n : Int) / 16 = ((n / 16 : Nat) : Int) := by omega
      obtain ⟨u, hu16⟩ : ∃ u, n / 16 = u := ⟨_, rfl⟩
      rw [hu16] at hnp f0 f1 f2 f3 hdiv
      have hq2 : ((n : Int) != (n : Int)) = false := by simp
      clear i1 i2 i3 hnl hp hp' hu16 R1 f2 f3
      have hnx : (0 : Int) ≤ (n : Int) := by omega
      by_cases hk1 : p.kind = 1
      rotate_left
      · have HF := hno (by rw [hsl, decide_eq_false hk1]; rfl)
        have hq3 : (p.kind != 1) = true := by simpa using hk1
        clear hno hsl hk1
        go_wp2_with (go_quiet ((go_at_call 124; exact quiet_left (HST.out _))))
        go_ret
        exact ⟨ret_int HF.out.symm, below_drewN hbw _⟩
      have hq3 : (p.kind != 1) = false := by simp [hk1]
      by_cases hcl : p.cls = q4
      rotate_left
      · have HF := hno (by rw [hsl, decide_eq_false hcl, Bool.and_false])
        have hq4 : (p.cls != q4) = true := by simpa using hcl
        clear hno hsl hk1 hcl
        go_wp2_with (go_quiet ((go_at_call 124; exact quiet_left (HST.out _))))
        go_ret
        exact ⟨ret_int HF.out.symm, below_drewN hbw _⟩
      have hq4 : (p.cls != q4) = false := by simp [hcl]
      have HN : Hid ((m.take (j + 1)).all (isSlotAt h.pages q4) = true) := by
        show _ = _
        rw [List.take_add_one, HX.out, List.all_append, HK.out]
        simp [hsl, hk1, hcl]
      clear hno hsl hk1 hcl
      go_wp2_with (go_quiet ((go_at_call 124; exact quiet_left (HST.out _))))
      go_roundw
      case rel => exact ⟨j + 1, by omega, by go_num, HN, below_drewN hbw _⟩
      case measure => simp [intOf]; omega
    · have HF : Hid (magFault h.pages q4 m = 0) := by
        show _ = _; rw [HM.out, if_pos]
        have := HK.out; rwa [List.take_of_length_le (by have := HL.out; omega)] at this
      go_wp2_with fail
      go_ret
      exact ⟨ret_int HF.out.symm, hbw⟩
end Go.Proofs.YtcnpckaacigbfaaGreat

/- Chapter 5 of the program: free pages are of zeros; magazines made; why a heap is none. -/
namespace Go.Proofs.YtcnpckaacigbfaaGreat
open Go.RowKit

set_option maxRecDepth 100000 in
set_option maxHeartbeats 2000000 in
theorem areFreePagesZero_calls {pa wa ma : Option Addr} {pn pc wn wc mn mc : Nat} {h : Hp} {S : Nat → Prop} {w : World} (hr : HpR w S pa pn pc wa wn wc ma mn mc h) (hl : h.words.length = h.pages.length * 16) (hp40 : h.pages.length ≤ 40) :
    Calls Tryz.prog 63 #[.agg #[.slice pa pn pc, .slice wa wn wc, .slice ma mn mc]] w fun e w' => e = .returned (.bool (freeZero h.words 0 h.pages)) ∧ Below w.heap.size w w' := by
  obtain ⟨i0, hi, _, _, _⟩ := info_parts info64
  have HL := Lib.hid hr.pg.1
  have HW := Lib.hid hr.wd.1
  have hT := hr.pg
  have hwd := hr.wd.ints
  have hwc := hr.w1
  have HWn := Lib.hid (show wn = pn * 16 by have := HL.out; have := HW.out; omega)
  have hpn : pn ≤ 40 := by have := HL.out; omega
  clear hr hl
  go_enter Tryz.func63, Tryz.ntmps63
  go_wp2_with fail
  have hB0 : Below w.heap.size w (w.alloc (.cells #[.slice pa pn pc, .slice wa wn wc, .slice ma mn mc] 30)) := (Below.refl _ _).alloc (Nat.le_refl _) _
  have hR0 : Row (w.alloc (.cells #[.slice pa pn pc, .slice wa wn wc, .slice ma mn mc] 30)) w.heap.size 30 #[.slice pa pn pc, .slice wa wn wc, .slice ma mn mc] := heap_alloc_new w _
  go_loopw [3, 4, 8] (fun _ _ i wr => ∃ k : Nat, k ≤ pn ∧ i = .int .i64 k ∧ Hid (∀ (j : Nat) (p : Pg), j < k → h.pages[j]? = some p → p.kind = 0 → frameOf h.words (0 + j) = List.replicate 16 0) ∧ Row wr w.heap.size 30 #[.slice pa pn pc, .slice wa wn wc, .slice ma mn mc] ∧ Below w.heap.size w wr) (fun _ _ i _ => pn - (intOf i).toNat)
  case atStart => exact ⟨0, Nat.zero_le _, rfl, fun j p hj => by omega, hR0, hB0⟩
  case round =>
    clear hB0 hR0
    obtain ⟨k, hk, rfl, HK, hR, hbw⟩ := hrel
    by_cases hlt : k < pn
    · obtain ⟨b0, o0, p, a0, l0, c0, rfl, d0, hp, e0, e1, e2, e3, hlc0, hcm0, hu0⟩ := (hT.below hbw).pg_at hlt
      have HP := Lib.hid hp
      have r1 := hR.cell 1
      have rlt := hR.lt
      simp at r1
      clear hp hcm0 hu0
      by_cases h0 : p.kind = 0
      · have hf2 : (k + 1) * 16 ≤ wn := by rw [HWn.out]; omega
        have hwn4 : wn ≤ 17592186044416 := by rw [HWn.out]; omega
        have hai := (hwd.below hbw).alloc (.cells #[.int .i64 p.kind, .int .i64 p.cls, .slice a0 l0 c0, .int .i64 p.run] 55)
        have hneq := fun u : World => run_neq_ints (P := Tryz.prog) (t := 142) Tryz.underlying142 hi (by kernel_rfl) Tryz.underlying2 (by kernel_rfl) (frameOf h.words k) (List.replicate 16 0) (length_frameOf (by rw [HW.out]; exact hf2)) rfl u
        have heq2 : ∀ u : World, (binOp .neq 142 (.agg (List.map (Value.int .i64) (frameOf h.words k)).toArray) (.agg #[.int .i64 0, .int .i64 0, .int .i64 0, .int .i64 0, .int .i64 0, .int .i64 0, .int .i64 0, .int .i64 0, .int .i64 0, .int .i64 0, .int .i64 0, .int .i64 0, .int .i64 0, .int .i64 0, .int .i64 0, .int .i64 0])).run Tryz.prog u = .ok (.bool (!decide (frameOf h.words k = List.replicate 16 0))) u := hneq
        clear hneq
        have hRB := Lib.hid (And.intro hR hbw)
        rw [h0] at e0 hai
        rcases hz : decide (frameOf h.words k = List.replicate 16 0) with _ | _
        · have HF : Hid (freeZero h.words 0 h.pages = false) := freeZero_no (j := 0) HP.out h0 (by rw [Nat.zero_add]; simpa using hz)
          rw [hz] at heq2
          clear hz h0 hR hbw
          go_wp2_with fail
          refine (frameAt_calls hai hf2 hwc hwn4).mono ?_
          rintro e w2 ⟨rfl, hb2⟩
          have HB2 := Lib.hid (hRB.out.2.trans ((below_past hb2).mono hRB.out.2.size))
          clear hb2
          go_wp2_with fail
          go_ret
          exact ⟨ret_bool HF.out.symm, HB2.out⟩
        · have HN : Hid (∀ (j : Nat) (q : Pg), j < k + 1 → h.pages[j]? = some q → q.kind = 0 → frameOf h.words (0 + j) = List.replicate 16 0) := fun j q hj hq hq0 => by
            by_cases e : j = k
            · subst e; rw [Nat.zero_add]; simpa using hz
            · exact HK.out j q (by omega) hq hq0
          rw [hz] at heq2
          clear hz h0 hR hbw
          go_wp2_with fail
          refine (frameAt_calls hai hf2 hwc hwn4).mono ?_
          rintro e w2 ⟨rfl, hb2⟩
          have HB2 := Lib.hid (hRB.out.2.trans ((below_past hb2).mono hRB.out.2.size))
          have HR2 := Lib.hid (hRB.out.1.below (below_past hb2))
          clear hb2
          go_wp2_with fail
          go_roundw
          case rel => exact ⟨k + 1, by omega, by go_num, HN, HR2.out, HB2.out⟩
          case measure => simp [intOf]; omega
      · have HN : Hid (∀ (j : Nat) (q : Pg), j < k + 1 → h.pages[j]? = some q → q.kind = 0 → frameOf h.words (0 + j) = List.replicate 16 0) := fun j q hj hq hq0 => by
          by_cases e : j = k
          · subst e; have := HP.out.symm.trans hq; injection this with this; subst this; exact absurd hq0 h0
          · exact HK.out j q (by omega) hq hq0
        have hq : (p.kind == 0) = false := by simpa using h0
        have HRB := Lib.hid (And.intro (hR.below ((Below.refl _ _).alloc (Nat.le_refl wr.heap.size) (.cells #[.int .i64 p.kind, .int .i64 p.cls, .slice a0 l0 c0, .int .i64 p.run] 55))) (hbw.alloc hbw.size (.cells #[.int .i64 p.kind, .int .i64 p.cls, .slice a0 l0 c0, .int .i64 p.run] 55)))
        clear h0 hR hbw
        go_wp2_with fail
        go_roundw
        case rel => exact ⟨k + 1, by omega, by go_num, HN, HRB.out.1, HRB.out.2⟩
        case measure => simp [intOf]; omega
    · have HF : Hid (freeZero h.words 0 h.pages = true) := freeZero_yes fun j p hj hj0 => HK.out j p (by have := (List.getElem?_eq_some_iff.1 hj).1; have := HL.out; omega) hj hj0
      go_wp2_with fail
      go_ret
      exact ⟨ret_bool HF.out.symm, hbw⟩

set_option maxRecDepth 100000 in
set_option maxHeartbeats 2000000 in
theorem magazinesOf_calls {pa wa ma : Option Addr} {pn pc wn wc mn mc : Nat} {ms : List (List Int)} {S : Nat → Prop} {w : World} (hM : Lst KMag w S ma mn ms) (hS : ShortM 1048576 ms) (hn : mn ≤ 1048576) :
    Calls Tryz.prog 59 #[.agg #[.slice pa pn pc, .slice wa wn wc, .slice ma mn mc]] w fun e w' => ∃ v, e = .returned v ∧ Own KPM 86 w' (fun k => w.heap.size ≤ k) v mn ms ∧ Below w.heap.size w w' := by
  obtain ⟨ip, hip, hp0, hp1, hp2⟩ := info_parts infoPM
  have HL := Lib.hid hM.1
  have HS := Lib.hid hS
  go_enter Tryz.func59, Tryz.ntmps59
  go_wp2_with (
    at_make
    go_must (refine wpList_make_own _ rfl _ _ 84 rfl (w.heap.size + 1) 86 ip (.pointer none) 1 Tryz.underlying84 hip hp0 hp1 _ _ _ mn rfl rfl rfl (by rw [hp2]; omega) (by unfold maxLen; omega) (by simp) ?_)
    intro w1 hown hg1
    obtain ⟨g, hgB⟩ : ∃ g, g = (w.alloc (.cells #[.slice pa pn pc, .slice wa wn wc, .slice ma mn mc] 30)).heap.size := ⟨_, rfl⟩
    rw [← hgB] at hown ⊢
    have hO0 : Own KPM 86 w1 (fun q => w.heap.size ≤ q) (.slice (some ⟨g, 0, none⟩) 0 mn) 0 [] := by
      refine Own.of_row (cells := []) (F := fun _ _ => False) (K := KPM) ?_ rfl (fun g' h => ?_) (fun _ _ h => h.elim) (fun _ _ _ h => h.elim) (fun j x hj => by simp at hj)
      · obtain ⟨h1, h2⟩ := hown
        refine ⟨h1, ?_⟩
        rcases h2 with h2 | ⟨g', cap', cur, hv, _, r⟩
        · exact .inl h2
        · exact .inr ⟨g', cap', cur, hv, Nat.zero_le _, r⟩
      · simp [Value.ownBlock] at h; simp at hgB; omega
    have hB0 : Below w.heap.size w w1 := ((Below.refl _ _).alloc (Nat.le_refl _) _).grown hg1 (by simp) (by simp)
    have hR0 : Row w1 w.heap.size 30 #[.slice pa pn pc, .slice wa wn wc, .slice ma mn mc] := (hg1.block w.heap.size (by simp) (by simp)).trans (heap_alloc_new w _)
    have r2 := hR0.cell 2
    have rlt := hR0.lt
    simp at r2
    clear hown hg1 hgB)
  clear hR0 r2 rlt
  go_loopw [3, 5, 13] (fun v _ i wr => ∃ k : Nat, k ≤ mn ∧ i = .int .i64 k ∧ Own KPM 86 wr (fun q => w.heap.size ≤ q) v k (ms.take k) ∧ Below w.heap.size w wr) (fun _ _ i _ => mn - (intOf i).toNat)
  case atStart => exact ⟨0, Nat.zero_le _, rfl, by simpa using hO0, hB0⟩
  case round =>
    clear hO0 hB0
    obtain ⟨k, hk, rfl, hO, hbw⟩ := hrel
    obtain ⟨vo, vc, rfl, hvc1, hvc2, _⟩ := hO.shape
    by_cases hlt : k < mn
    · obtain ⟨b0, o0, m, a0, l0, c0, rfl, d0, hp, e0, hlc0, hcm0, hu0⟩ := (hM.below hbw).mag_at hlt
      have hl : l0 ≤ 1099511627776 := by have := HS.out.at_ hp; have := hu0.1; omega
      have HP := Lib.hid hp
      have HO := Lib.hid hO
      have HB := Lib.hid hbw
      have hu := hu0
      clear hp hcm0 hO hu0
      go_wp2_with fail
      refine (cloneI_calls hu hl).mono ?_
      rintro e w2 ⟨v2, rfl, hown2, hb2⟩
      obtain ⟨vo2, vc2, rfl, _, _, _⟩ := hown2.shape
      have hO2 : Own KPM 86 ((w2.alloc (.cells #[.slice vo2 l0 vc2] 136)).alloc (.cells #[.pointer (some ⟨w2.heap.size, 0, none⟩)] 86)) (fun q => w.heap.size ≤ q ∧ q < wr.heap.size) (.slice vo k vc) k (ms.take k) := ((HO.out.here.below hb2).alloc _).alloc _
      have hY : KPM.own ((w2.alloc (.cells #[.slice vo2 l0 vc2] 136)).alloc (.cells #[.pointer (some ⟨w2.heap.size, 0, none⟩)] 86)) (fun q => wr.heap.size ≤ q) [.pointer (some ⟨w2.heap.size, 0, none⟩)] m := by
        refine ⟨w2.heap.size, #[.slice vo2 l0 vc2], fun q => wr.heap.size ≤ q ∧ q < w2.heap.size, rfl, hb2.size, ?_, KMag_own_mk ((hown2.here.alloc _).alloc _), fun q hq => ⟨hq.1, by omega⟩⟩
        exact (Row.below (heap_alloc_new w2 _) ((Below.refl _ _).alloc (Nat.le_refl _) _))
      have hc3 : ((w2.alloc (.cells #[.slice vo2 l0 vc2] 136)).alloc (.cells #[.pointer (some ⟨w2.heap.size, 0, none⟩)] 86)).cell? ⟨w2.heap.size + 1, 0, none⟩ = some (.pointer (some ⟨w2.heap.size, 0, none⟩)) := by
        simp
      have H2 := Lib.hid (And.intro hO2 (And.intro hY hc3))
      have HB2 := Lib.hid (((HB.out.trans (hb2.mono HB.out.size)).alloc (by have := hb2.size; have := HB.out.size; omega) (.cells #[.slice vo2 l0 vc2] 136)).alloc (by have := hb2.size; have := HB.out.size; simp; omega) (.cells #[.pointer (some ⟨w2.heap.size, 0, none⟩)] 86))
      have hs12 := hb2.size
      clear hown2 hb2 hO2 hY hc3 hu
      go_wp2_with (
        at_builtin
        go_must (refine wpList_append_elem (K := KPM) rfl (.tmp 17) (.tmp 22) 84 rfl 86 ip (.pointer none) 8 Tryz.underlying84 hip hp0 hp1 hp2 rfl (by decide) (one_ptr _ _) (b := w2.heap.size + 1) (c := 1) (y := m) (cs := [.pointer (some ⟨w2.heap.size, 0, none⟩)]) rfl H2.out.1 rfl (fun j u hu => ?_) H2.out.2.1 (fun q hq _ hq2 => by omega) (by unfold maxLen; omega) (by omega) ?_)
        · cases j with
          | zero => simp at hu; subst hu; exact H2.out.2.2
          | succ j => simp at hu
        intro v3 w3 ho3 ht3
        have H3 : Hid (Own KPM 86 w3 (fun q => w.heap.size ≤ q) v3 (k + 1) (ms.take (k + 1)) ∧ Below w.heap.size w w3) := by
          refine ⟨?_, ht3.below HB2.out (by have := HB.out.size; simp; omega) (fun q hq => hq.1)⟩
          rw [List.take_add_one, HP.out]
          refine ho3.mono (fun q hq _ => ?_)
          have := HB.out.size
          simp at hq
          omega
        clear ho3 ht3)
      go_roundw
      case rel => exact ⟨k + 1, by omega, by go_num, H3.out.1, H3.out.2⟩
      case measure => simp [intOf]; omega
    · have HF : Hid (Own KPM 86 wr (fun q => w.heap.size ≤ q) (.slice vo k vc) mn ms ∧ Below w.heap.size w wr) := by
        have e : k = mn := by omega
        rw [List.take_of_length_le (by have := HL.out; omega)] at hO
        rw [← e]
        exact ⟨hO, hbw⟩
      clear hO hbw
      go_wp2_with fail
      go_ret
      exact ⟨_, rfl, HF.out.1, HF.out.2⟩
end Go.Proofs.YtcnpckaacigbfaaGreat

/- Chapter 5 of the program: why a heap is none. -/
namespace Go.Proofs.YtcnpckaacigbfaaGreat
open Go.RowKit

theorem magsFault_first {ps : List Pg} : ∀ {ms : List (List Int)} {j k : Nat} {m : List Int}, (∀ (i : Nat) (x : List Int), i < k → ms[i]? = some x → magFault ps (((j + i) % 4 : Nat) : Int) x = 0) → ms[k]? = some m → magFault ps (((j + k) % 4 : Nat) : Int) m ≠ 0 → magsFault ps j ms = magFault ps (((j + k) % 4 : Nat) : Int) m
  | [], _, _, _, _, h, _ => by simp at h
  | q :: r, j, 0, m, _, h, hne => by
    simp at h; subst h
    unfold magsFault
    rw [if_neg (by simpa using hne)]; simp
  | q :: r, j, k + 1, m, hall, h, hne => by
    unfold magsFault
    rw [if_pos (by simpa using hall 0 q (by omega) (by simp))]
    rw [show j + (k + 1) = j + 1 + k by omega] at hne ⊢
    exact magsFault_first (fun i x hi hx => by rw [show j + 1 + i = j + (i + 1) by omega]; exact hall (i + 1) x (by omega) (by simpa using hx)) (by simpa using h) hne
theorem magsFault_none {ps : List Pg} : ∀ {ms : List (List Int)} {j : Nat}, (∀ (i : Nat) (x : List Int), ms[i]? = some x → magFault ps (((j + i) % 4 : Nat) : Int) x = 0) → magsFault ps j ms = 0
  | [], _, _ => rfl
  | q :: r, j, hall => by
    unfold magsFault
    rw [if_pos (by simpa using hall 0 q (by simp))]
    exact magsFault_none (fun i x hx => by rw [show j + 1 + i = j + (i + 1) by omega]; exact hall (i + 1) x (by simpa using hx))

set_option maxRecDepth 100000 in
set_option maxHeartbeats 4000000 in
theorem heapFault_calls {pa wa ma : Option Addr} {pn pc wn wc mn mc : Nat} {h : Hp} {S : Nat → Prop} {w : World} (hr : HpR w S pa pn pc wa wn wc ma mn mc h) (hs : HpS 1048576 h) :
    Calls Tryz.prog 17 #[.agg #[.slice pa pn pc, .slice wa wn wc, .slice ma mn mc]] w fun e w' => e = .returned (.int .i64 (heapFault h)) ∧ Below w.heap.size w w' := by
  have HP := Lib.hid hr.pg.1
  have HW := Lib.hid hr.wd.1
  have HM := Lib.hid hr.mg.1
  have HS := Lib.hid hs
  have hpn : pn ≤ 1048576 := by have := HP.out; have := hs.p; omega
  have hwn : wn ≤ 1048576 := by have := HW.out; have := hs.w; omega
  have hmn : mn ≤ 1048576 := by have := HM.out; have := hs.m; omega
  have HR := Lib.hid hr
  have hp2 : pc ≤ 9223372036854775807 := Nat.le_trans hr.p2 (by decide)
  have hp1 := hr.p1
  have hT := hr.pg
  have HSP : Hid (ShortP 17592186044416 h.pages) := fun p hp => Nat.le_trans (hs.u p hp) (by decide)
  clear hr hs
  go_enter Tryz.func17, Tryz.ntmps17
  go_wp2_with fail
  refine (pagesFault_calls (hT.alloc _) HSP.out (by omega)).mono ?_
  rintro e w1 ⟨rfl, hb1⟩
  have R1 := Row.new hb1
  have B1 := Lib.hid (below_past hb1)
  clear hb1
  have q0 := R1.cell 0
  have q1 := R1.cell 1
  have q2 := R1.cell 2
  have ql := R1.lt
  simp at q0 q1 q2
  by_cases hv : pagesFault h.pages = 0
  rotate_left
  · have HF : Hid (heapFault h = pagesFault h.pages) := by show _ = _; unfold heapFault; rw [if_neg hv]
    have hq : (pagesFault h.pages != 0) = true := by simpa using hv
    clear hv
    go_wp2_with fail
    go_ret
    exact ⟨ret_int HF.out.symm, B1.out⟩
  have HV := Lib.hid hv
  have hq : (pagesFault h.pages != 0) = false := by simp [hv]
  rw [hv]
  clear hv hq
  by_cases hlen : (wn : Int) = (pn : Int) * 16
  rotate_left
  · have HF : Hid (heapFault h = 2) := by show _ = _; unfold heapFault; rw [if_pos HV.out, if_neg]; rintro ⟨h1, _⟩; have := HW.out; have := HP.out; omega
    have hq : ((wn : Int) != (pn : Int) * 16) = true := by simpa using hlen
    clear hlen
    go_wp2_with fail
    go_ret
    exact ⟨ret_int HF.out.symm, B1.out⟩
  have HLen := Lib.hid (show h.words.length = h.pages.length * 16 by have := HW.out; have := HP.out; omega)
  have hq : ((wn : Int) != (pn : Int) * 16) = false := by simpa using hlen
  clear hlen
  go_wp2_with fail
  refine (isMagCount_calls (by omega)).mono ?_
  rintro e w2 ⟨rfl, hb2⟩
  have R2 := R1.below hb2
  have B2 := Lib.hid (B1.out.trans (hb2.mono B1.out.size))
  clear hb2 R1 q0 q1 q2 ql hq
  have q0 := R2.cell 0
  have q1 := R2.cell 1
  have q2 := R2.cell 2
  have ql := R2.lt
  simp at q0 q1 q2
  rcases hmc : magCount mn with _ | _
  · have HF : Hid (heapFault h = 2) := by show _ = _; unfold heapFault; rw [if_pos HV.out, if_neg]; rintro ⟨_, h2⟩; rw [HM.out, hmc] at h2; cases h2
    go_wp2_with fail
    go_ret
    exact ⟨ret_int HF.out.symm, B2.out⟩
  have HMC : Hid (h.words.length = h.pages.length * 16 ∧ magCount h.mags.length = true) := ⟨HLen.out, by rw [HM.out]; exact hmc⟩
  clear hmc
  go_wp2_with fail
  refine (areWords_calls ((HR.out.wd.below B2.out).ints) (by omega)).mono ?_
  rintro e w3 ⟨rfl, rfl⟩
  rcases hwi : within (-1000000000) 1000000000 h.words with _ | _
  · have HF : Hid (heapFault h = 3) := by show _ = _; unfold heapFault; rw [if_pos HV.out, if_pos HMC.out, if_neg (by rw [hwi]; decide)]
    clear hwi
    go_wp2_with fail
    go_ret
    exact ⟨ret_int HF.out.symm, B2.out⟩
  have HWi := Lib.hid hwi
  clear hwi
  go_wp2_with fail
  refine (magazinesOf_calls (HR.out.mg.below B2.out) HS.out.k hmn).mono ?_
  rintro e w4 ⟨v4, rfl, hO4, hb4⟩
  obtain ⟨vo, vc, rfl, hv1, hv2, hL4⟩ := hO4.shape
  have R4 := R2.below hb4
  have B4 := Lib.hid (B2.out.trans (hb4.mono B2.out.size))
  clear hb4 hO4 R2 q0 q1 q2 ql
  go_wp2_with fail
  go_loopw [4, 5, 6, 35] (fun _ _ _ i wr => ∃ k : Nat, k ≤ mn ∧ i = .int .i64 k ∧ Hid (∀ (j : Nat) (x : List Int), j < k → h.mags[j]? = some x → magFault h.pages (((0 + j) % 4 : Nat) : Int) x = 0) ∧ Row wr w.heap.size 30 #[.slice pa pn pc, .slice wa wn wc, .slice ma mn mc] ∧ Below w4.heap.size w4 wr) (fun _ _ _ i _ => mn - (intOf i).toNat)
  case atStart => exact ⟨0, Nat.zero_le _, rfl, fun j x hj => by omega, R4, Below.refl _ _⟩
  case round =>
    clear R4
    obtain ⟨k, hk, rfl, HK, R5, hb5⟩ := hrel
    have B5 := Lib.hid (B4.out.trans (hb5.mono B4.out.size))
    by_cases hlt : k < mn
    · obtain ⟨b0, o0, g, m, a0, l0, c0, rfl, d0, hm, e0, hrow, hlc0, hcm0, hu0⟩ := (hL4.below hb5).pm_at hlt
      have HMm := Lib.hid hm
      obtain ⟨q4, hmod⟩ : ∃ q4 : Int, (k : Int) % 4 = q4 := ⟨_, rfl⟩
      have HQ := Lib.hid (show q4 = ((k % 4 : Nat) : Int) by omega)
      clear hm hcm0
      have q0 := R5.cell 0
      have q1 := R5.cell 1
      have q2 := R5.cell 2
      have ql := R5.lt
      simp at q0 q1 q2
      obtain ⟨f, hf⟩ : ∃ f, magFault h.pages q4 m = f := ⟨_, rfl⟩
      have HFm := Lib.hid hf
      clear hf
      have HFn : Hid (magFault h.pages ((k % 4 : Nat) : Int) m = f) := by show _ = _; rw [← HQ.out]; exact HFm.out
      by_cases hf0 : f = 0
      · have HN : Hid (∀ (j : Nat) (x : List Int), j < k + 1 → h.mags[j]? = some x → magFault h.pages (((0 + j) % 4 : Nat) : Int) x = 0) := fun j x hj hx => by
          by_cases e : j = k
          · subst e; have := HMm.out.symm.trans hx; injection this with this; subst this; rw [Nat.zero_add]; exact HFn.out.trans hf0
          · exact HK.out j x (by omega) hx
        have hq : (f != 0) = false := by simp [hf0]
        go_wp2_with fail
        refine (magFault_calls (hT.below B5.out) HV.out hp1 hp2 hrow hu0).mono ?_
        rw [HFm.out, hf0]
        rintro e w6 ⟨rfl, hb6⟩
        have R6 := R5.below hb6
        have HB6 := Lib.hid (hb5.trans (hb6.mono hb5.size))
        clear hb6 hrow R5 q0 q1 q2 ql hb5
        go_wp2_with fail
        go_roundw
        case rel => exact ⟨k + 1, by omega, by go_num, HN, R6, HB6.out⟩
        case measure => simp [intOf]; omega
      · have HF : Hid (heapFault h = f) := by
          have e1 := magsFault_first (j := 0) HK.out HMm.out (by rw [Nat.zero_add, HFn.out]; exact hf0)
          rw [Nat.zero_add, HFn.out] at e1
          show _ = _; unfold heapFault; rw [if_pos HV.out, if_pos HMC.out, if_pos HWi.out, e1, if_neg hf0]
        have hq : (f != 0) = true := by simpa using hf0
        clear hf0
        go_wp2_with fail
        refine (magFault_calls (hT.below B5.out) HV.out hp1 hp2 hrow hu0).mono ?_
        rw [HFm.out]
        rintro e w6 ⟨rfl, hb6⟩
        have HB6 := Lib.hid (B5.out.trans (hb6.mono B5.out.size))
        clear hb6 hrow
        go_wp2_with fail
        go_ret
        exact ⟨ret_int HF.out.symm, HB6.out⟩
    · have HM0 : Hid (magsFault h.pages 0 h.mags = 0) := magsFault_none (fun i x hx => HK.out i x (by have := (List.getElem?_eq_some_iff.1 hx).1; have := HM.out; omega) hx)
      have HShort : Hid (h.mags.flatten.length ≤ 1048576) := by
        have h8 : h.mags.length ≤ 8 := by
          have := HMC.out.2; simp [magCount] at this; omega
        have key : ∀ ms : List (List Int), ShortM 2 ms → ms.flatten.length ≤ 2 * ms.length := by
          intro ms
          induction ms with
          | nil => simp
          | cons m r ih =>
            intro hm
            have := ih (fun x hx => hm x (by simp [hx]))
            have := hm m (by simp)
            simp only [List.flatten_cons, List.length_append, List.length_cons]; omega
        have := key h.mags (fun m hm => by
          obtain ⟨j, hj, rfl⟩ := List.getElem_of_mem hm
          exact (magFault_ok (magsFault_at _ HM0.out (List.getElem?_eq_getElem hj))).1)
        show _ ≤ _; omega
      have q0 := R5.cell 0
      have q1 := R5.cell 1
      have q2 := R5.cell 2
      have ql := R5.lt
      simp at q0 q1 q2
      clear hL4 HK
      go_wp2_with fail
      refine (concat_calls (HR.out.mg.below B5.out) (by omega) HShort.out).mono ?_
      rintro e w6 ⟨v6, t6, rfl, hO6, hb6⟩
      have R6 := R5.below hb6
      have B6 := Lib.hid (B5.out.trans (hb6.mono B5.out.size))
      have hlen6 : t6 ≤ 17592186044416 := by have := hO6.1; have := HShort.out; omega
      obtain ⟨vo6, vc6, rfl, _, _, _⟩ := hO6.shape
      have rl5 := R5.lt
      clear R5 q0 q1 q2 ql
      go_wp2_with fail
      refine (hasTwoAlike_calls hO6 hlen6).mono ?_
      rintro e w7 ⟨rfl, ht7⟩
      have R7 := ht7.row R6 (fun h => by omega)
      have B7 := Lib.hid (ht7.below B6.out B6.out.size (fun q hq => Nat.le_trans B5.out.size hq))
      clear ht7 hO6 hb6 R6
      have q0 := R7.cell 0
      have q1 := R7.cell 1
      have q2 := R7.cell 2
      have ql := R7.lt
      simp at q0 q1 q2
      rcases hal : alike h.mags.flatten with _ | _
      rotate_left
      · have HF : Hid (heapFault h = 6) := by
          show _ = _; unfold heapFault; rw [if_pos HV.out, if_pos HMC.out, if_pos HWi.out, if_pos HM0.out, if_neg (by unfold Hp.kept; rw [hal]; decide)]
        clear hal
        go_wp2_with fail
        go_ret
        exact ⟨ret_int HF.out.symm, B7.out⟩
      have HAl : Hid (alike h.kept = false) := hal
      clear hal
      go_wp2_with fail
      refine (areFreePagesZero_calls (HR.out.below B7.out) HLen.out (pagesFault_ok HV.out).1).mono ?_
      rintro e w8 ⟨rfl, hb8⟩
      have B8 := Lib.hid (B7.out.trans (hb8.mono B7.out.size))
      clear hb8
      rcases hz : freeZero h.words 0 h.pages with _ | _
      · have HF : Hid (heapFault h = 8) := by
          show _ = _; unfold heapFault; rw [if_pos HV.out, if_pos HMC.out, if_pos HWi.out, if_pos HM0.out, if_pos HAl.out, if_neg (by rw [hz]; decide)]
        clear hz
        go_wp2_with fail
        go_ret
        exact ⟨ret_int HF.out.symm, B8.out⟩
      · have HF : Hid (heapFault h = 0) := heapFault_of HV.out HMC.out.1 HMC.out.2 HWi.out HM0.out HAl.out hz
        clear hz
        go_wp2_with fail
        go_ret
        exact ⟨ret_int HF.out.symm, B8.out⟩
end Go.Proofs.YtcnpckaacigbfaaGreat

/- Chapter 5 of the model: why a heap is none. -/
namespace Go.Proofs.YtcnpckaacigbfaaGreat
open Go.RowKit

theorem alike_yes {xs : List Int} {k : Nat} (hk : k < xs.length) (h : hasIn (xs.take k) xs[k] = true) : alike xs = true := by
  unfold alike
  rw [Bool.not_eq_true', decide_eq_false_iff_not]
  intro hn
  unfold hasIn at h
  rw [List.contains_iff_mem, List.mem_take_iff_getElem] at h
  obtain ⟨i, hi, he⟩ := h
  exact List.pairwise_iff_getElem.1 hn i k (by omega) hk (by omega) he
theorem nodup_step {xs : List Int} {k : Nat} (hk : k < xs.length) (hn : (xs.take k).Nodup) (h : hasIn (xs.take k) xs[k] = false) : (xs.take (k + 1)).Nodup := by
  rw [List.take_succ_eq_append_getElem hk, List.nodup_append]
  refine ⟨hn, by simp, fun a ha b hb e => ?_⟩
  simp at hb
  subst hb
  subst e
  unfold hasIn at h
  rw [Bool.eq_false_iff] at h
  exact h (List.contains_iff_mem.2 ha)

set_option maxRecDepth 100000 in
set_option maxHeartbeats 8000000 in
theorem sHeapFault_calls {pa wa ma : Option Addr} {pn pc wn wc mn mc : Nat} {h : Hp} {S : Nat → Prop} {w : World} (hr : HpR w S pa pn pc wa wn wc ma mn mc h) (hs : HpS 1048576 h) :
    Calls Tryz.prog 18 #[.agg #[.slice pa pn pc, .slice wa wn wc, .slice ma mn mc]] w fun e w' => e = .returned (.int .i64 (heapFault h)) ∧ Below w.heap.size w w' := by
  have HP := Lib.hid hr.pg.1
  have HW := Lib.hid hr.wd.1
  have HM := Lib.hid hr.mg.1
  have HS := Lib.hid hs
  have hpn : pn ≤ 1048576 := by have := HP.out; have := hs.p; omega
  have hwn : wn ≤ 1048576 := by have := HW.out; have := hs.w; omega
  have hmn : mn ≤ 1048576 := by have := HM.out; have := hs.m; omega
  have HR := Lib.hid hr
  have hp2 : pc ≤ 9223372036854775807 := Nat.le_trans hr.p2 (by decide)
  have hp1 := hr.p1
  have hw1 := hr.w1
  have hT := hr.pg
  have HSP : Hid (ShortP 17592186044416 h.pages) := fun p hp => Nat.le_trans (hs.u p hp) (by decide)
  clear hr hs
  go_enter Tryz.func18, Tryz.ntmps18
  go_wp2_with fail
  refine (sPagesFault_calls (hT.alloc _) HSP.out (by omega)).mono ?_
  rintro e w1 ⟨rfl, hb1⟩
  have R1 := Row.new hb1
  have B1 := Lib.hid (below_past hb1)
  clear hb1
  have q0 := R1.cell 0
  have q1 := R1.cell 1
  have q2 := R1.cell 2
  have ql := R1.lt
  simp at q0 q1 q2
  by_cases hv : pagesFault h.pages = 0
  rotate_left
  · have HF : Hid (heapFault h = pagesFault h.pages) := by show _ = _; unfold heapFault; rw [if_neg hv]
    have hq : (pagesFault h.pages != 0) = true := by simpa using hv
    clear hv
    go_wp2_with fail
    go_ret
    exact ⟨ret_int HF.out.symm, B1.out⟩
  have HV := Lib.hid hv
  have hq : (pagesFault h.pages != 0) = false := by simp [hv]
  rw [hv]
  clear hv hq
  obtain ⟨q4, hmod⟩ : ∃ q4 : Int, (mn : Int) % 4 = q4 := ⟨_, rfl⟩
  have HQ := Lib.hid hmod
  by_cases hlen : (wn : Int) = (pn : Int) * 16
  rotate_left
  · have HF : Hid (heapFault h = 2) := by show _ = _; unfold heapFault; rw [if_pos HV.out, if_neg]; rintro ⟨h1, _⟩; have := HW.out; have := HP.out; omega
    have hq : ((wn : Int) != (pn : Int) * 16) = true := by simpa using hlen
    have hq' : ((wn : Int) != 16 * (pn : Int)) = true := by simp; omega
    clear hlen
    go_wp2_with fail
    go_ret
    exact ⟨ret_int HF.out.symm, B1.out⟩
  have HLen := Lib.hid (show h.words.length = h.pages.length * 16 by have := HW.out; have := HP.out; omega)
  have hq : ((wn : Int) != (pn : Int) * 16) = false := by simpa using hlen
  have hq' : ((wn : Int) != 16 * (pn : Int)) = false := by simp; omega
  clear hlen
  have hno : magCount mn = false → Hid (heapFault h = 2) := fun hmc => by
    show _ = _; unfold heapFault; rw [if_pos HV.out, if_neg]; rintro ⟨_, h2⟩; rw [HM.out, hmc] at h2; cases h2
  by_cases h4 : q4 = 0
  rotate_left
  · have HF := hno (by unfold magCount; rw [decide_eq_false_iff_not]; omega)
    have hq2 : (q4 != 0) = true := by simpa using h4
    clear hno
    go_wp2_with fail
    go_ret
    exact ⟨ret_int HF.out.symm, B1.out⟩
  have hq2 : (q4 != 0) = false := by simp [h4]
  by_cases h5 : mn < 4
  · have HF := hno (by unfold magCount; rw [decide_eq_false_iff_not]; omega)
    clear hno
    go_wp2_with fail
    go_ret
    exact ⟨ret_int HF.out.symm, B1.out⟩
  by_cases h6 : 8 < mn
  · have HF := hno (by unfold magCount; rw [decide_eq_false_iff_not]; omega)
    clear hno
    go_wp2_with fail
    go_ret
    exact ⟨ret_int HF.out.symm, B1.out⟩
  have HMC : Hid (h.words.length = h.pages.length * 16 ∧ magCount h.mags.length = true) := ⟨HLen.out, by rw [HM.out]; unfold magCount; rw [decide_eq_true_iff]; omega⟩
  have hmn8 : mn ≤ 8 := by omega
  clear hno h4
  go_wp2_with fail
  clear hq hq' hq2 hmod h5 h6
  go_loop [5] (fun i => ∃ k : Nat, k ≤ wn ∧ i = .int .i64 k ∧ Hid (within (-1000000000) 1000000000 (h.words.take k) = true)) (fun i => wn - (intOf i).toNat)
  case atStart => exact ⟨0, Nat.zero_le _, rfl, by simp [Hid, within]⟩
  case round =>
    obtain ⟨k, hk, rfl, HK⟩ := hrel
    by_cases hlt : k < wn
    · obtain ⟨b3, o3, rfl, d3, e3⟩ := (HR.out.wd.below B1.out).ints.at_ hlt
      have hkx : k < h.words.length := by rw [HW.out]; exact hlt
      have hx : h.words.getD k 0 = h.words[k] := by rw [List.getD_eq_getElem?_getD, List.getElem?_eq_getElem hkx]; rfl
      rw [hx] at e3
      clear hx
      rcases hwi : within (-1000000000) 1000000000 [h.words[k]] with _ | _
      · have HF : Hid (heapFault h = 3) := by
          show _ = _; unfold heapFault; rw [if_pos HV.out, if_pos HMC.out, if_neg (by rw [within_one_no hkx hwi]; decide)]
        have HC : Hid (∀ u : World, Calls Tryz.prog 65 #[.int .i64 h.words[k]] u fun e w' => e = .returned (.bool false) ∧ u = w') := fun u => by rw [← hwi]; exact l1Value_calls
        clear hwi
        go_wp2_with (go_at_call 65; refine (HC.out _).mono ?_; rintro e w' ⟨rfl, rfl⟩)
        go_ret
        exact ⟨ret_int HF.out.symm, B1.out⟩
      · have HN := Lib.hid (within_one_snoc hkx hwi HK.out)
        have HC : Hid (∀ u : World, Calls Tryz.prog 65 #[.int .i64 h.words[k]] u fun e w' => e = .returned (.bool true) ∧ u = w') := fun u => by rw [← hwi]; exact l1Value_calls
        clear hwi
        go_wp2_with (go_at_call 65; refine (HC.out _).mono ?_; rintro e w' ⟨rfl, rfl⟩)
        go_round
        case rel => exact ⟨k + 1, by omega, by go_num, HN⟩
        case measure => simp [intOf]; omega
    · have HWi : Hid (within (-1000000000) 1000000000 h.words = true) := by
        have := HK.out
        rw [List.take_of_length_le (by have := HW.out; omega)] at this
        exact this
      clear HK
      go_wp2_with fail
      clear q0 q1 q2 ql hlt hk
      go_loopw [6, 7] (fun i _ wr => ∃ k : Nat, k ≤ mn ∧ i = .int .i64 k ∧ Hid (∀ (j : Nat) (x : List Int), j < k → h.mags[j]? = some x → magFault h.pages (((0 + j) % 4 : Nat) : Int) x = 0) ∧ Row wr w.heap.size 30 #[.slice pa pn pc, .slice wa wn wc, .slice ma mn mc] ∧ Below w.heap.size w wr) (fun i _ _ => mn - (intOf i).toNat)
      case atStart => exact ⟨0, Nat.zero_le _, rfl, fun j x hj => by omega, R1, B1.out⟩
      case round =>
        clear R1
        obtain ⟨k, hk, rfl, HK, R5, hb5⟩ := hrel
        have B5 := Lib.hid hb5
        by_cases hlt : k < mn
        · obtain ⟨m, hm⟩ : ∃ m, h.mags[k]? = some m := ⟨_, List.getElem?_eq_getElem (by have := HM.out; omega)⟩
          have HMm := Lib.hid hm
          obtain ⟨f, hf⟩ : ∃ f, magFault h.pages ((k % 4 : Nat) : Int) m = f := ⟨_, rfl⟩
          have HFm := Lib.hid hf
          have HC : Hid (Calls Tryz.prog 66 #[.pointer (some ⟨w.heap.size, 0, none⟩), .int .i64 k] wr fun e w' => e = .returned (.int .i64 f) ∧ Below wr.heap.size wr w') := by
            have := l5Mag_calls R5 (HR.out.below B5.out) HV.out HMm.out hmn
            rw [hf] at this; exact this
          have q0 := R5.cell 0
          have q1 := R5.cell 1
          have q2 := R5.cell 2
          have ql := R5.lt
          simp at q0 q1 q2
          clear hm hf hb5
          by_cases hf0 : f = 0
          · have HN : Hid (∀ (j : Nat) (x : List Int), j < k + 1 → h.mags[j]? = some x → magFault h.pages (((0 + j) % 4 : Nat) : Int) x = 0) := fun j x hj hx => by
              by_cases e : j = k
              · subst e; have := HMm.out.symm.trans hx; injection this with this; subst this; rw [Nat.zero_add]; exact HFm.out.trans hf0
              · exact HK.out j x (by omega) hx
            have hq : (f != 0) = false := by simp [hf0]
            clear hf0
            go_wp2_with fail
            refine HC.out.mono ?_
            rintro e w6 ⟨rfl, hb6⟩
            have R6 := R5.below hb6
            have HB6 := Lib.hid (B5.out.trans (hb6.mono B5.out.size))
            clear hb6 R5 q0 q1 q2 ql
            go_wp2_with fail
            go_roundw
            case rel => exact ⟨k + 1, by omega, by go_num, HN, R6, HB6.out⟩
            case measure => simp [intOf]; omega
          · have HF : Hid (heapFault h = f) := by
              have e1 := magsFault_first (j := 0) HK.out HMm.out (by rw [Nat.zero_add, HFm.out]; exact hf0)
              rw [Nat.zero_add, HFm.out] at e1
              show _ = _; unfold heapFault; rw [if_pos HV.out, if_pos HMC.out, if_pos HWi.out, e1, if_neg hf0]
            have hq : (f != 0) = true := by simpa using hf0
            clear hf0
            go_wp2_with fail
            refine HC.out.mono ?_
            rintro e w6 ⟨rfl, hb6⟩
            have HB6 := Lib.hid (B5.out.trans (hb6.mono B5.out.size))
            clear hb6
            go_wp2_with fail
            go_ret
            exact ⟨ret_int HF.out.symm, HB6.out⟩
        · have HM0 : Hid (magsFault h.pages 0 h.mags = 0) := magsFault_none (fun i x hx => HK.out i x (by have := (List.getElem?_eq_some_iff.1 hx).1; have := HM.out; omega) hx)
          have HShort : Hid (h.mags.flatten.length ≤ 1048576) := by
            have h8 : h.mags.length ≤ 8 := by
              have := HMC.out.2; simp [magCount] at this; omega
            have key : ∀ ms : List (List Int), ShortM 2 ms → ms.flatten.length ≤ 2 * ms.length := by
              intro ms
              induction ms with
              | nil => simp
              | cons m r ih =>
                intro hm
                have := ih (fun x hx => hm x (by simp [hx]))
                have := hm m (by simp)
                simp only [List.flatten_cons, List.length_append, List.length_cons]; omega
            have := key h.mags (fun m hm => by
              obtain ⟨j, hj, rfl⟩ := List.getElem_of_mem hm
              exact (magFault_ok (magsFault_at _ HM0.out (List.getElem?_eq_getElem hj))).1)
            show _ ≤ _; omega
          have q0 := R5.cell 0
          have q1 := R5.cell 1
          have q2 := R5.cell 2
          have ql := R5.lt
          simp at q0 q1 q2
          clear HK hb5
          go_wp2_with fail
          refine (l5All_calls R5 (HR.out.mg.below B5.out) (by omega) HShort.out).mono ?_
          rintro e w6 ⟨v6, t6, rfl, hO6, hb6⟩
          have R6 := R5.below hb6
          have B6 := Lib.hid (B5.out.trans (hb6.mono B5.out.size))
          have HT6 := Lib.hid hO6.1
          have ht6 : t6 ≤ 1048576 := by have := hO6.1; have := HShort.out; omega
          obtain ⟨vo6, vc6, rfl, hv1, hv2, hL6⟩ := hO6.shape
          have HI6 := Lib.hid hL6.ints
          clear R5 q0 q1 q2 ql hb6 hO6 hL6
          go_wp2_with fail
          go_loopw [9] (fun i wr => ∃ k : Nat, k ≤ t6 ∧ i = .int .i64 k ∧ Hid ((h.mags.flatten.take k).Nodup) ∧ Below w6.heap.size w6 wr) (fun i _ => t6 - (intOf i).toNat)
          case atStart => exact ⟨0, Nat.zero_le _, rfl, by simp [Hid], Below.refl _ _⟩
          case round =>
            clear hlt hk
            obtain ⟨k, hk, rfl, HN, hbw⟩ := hrel
            by_cases hlt : k < t6
            · have hiw := HI6.out.below hbw
              obtain ⟨b7, o7, rfl, d7, e7⟩ := hiw.at_ hlt
              have hkx : k < h.mags.flatten.length := by rw [HT6.out]; exact hlt
              have hx : h.mags.flatten.getD k 0 = h.mags.flatten[k] := by rw [List.getD_eq_getElem?_getD, List.getElem?_eq_getElem hkx]; rfl
              rw [hx] at e7
              obtain ⟨x, hxx⟩ : ∃ x, x = h.mags.flatten[k] := ⟨_, rfl⟩
              have HX := Lib.hid hxx
              rw [← hxx] at e7
              clear hx hxx
              have hpre : Ints wr (some ⟨b7, o7, none⟩) k (h.mags.flatten.take k) := ⟨by rw [List.length_take]; have := HT6.out; omega, fun h0 => by
                obtain ⟨b8, o8, e8, d8, c8⟩ := hiw.2 (by omega)
                refine ⟨b8, o8, e8, d8, fun i hi => ?_⟩
                rw [c8 i (by omega), List.getD_eq_getElem?_getD, List.getD_eq_getElem?_getD, List.getElem?_take, if_pos hi]⟩
              have HST : Hid (∀ n0 : Nat, Calls Tryz.prog 68 #[.slice (some ⟨b7, o7, none⟩) k vc6, .int .i64 x] (wr.drewN n0) fun e w' => e = .returned (.bool (hasIn (h.mags.flatten.take k) x)) ∧ wr.drewN n0 = w') := fun n0 => l1Has_calls (hpre.drewN n0) (by omega)
              clear hiw hpre
              rcases hh : hasIn (h.mags.flatten.take k) x with _ | _
              · have HN2 := Lib.hid (nodup_step hkx HN.out (by rw [← HX.out]; exact hh))
                rw [hh] at HST
                clear hh
                go_wp2_with (go_quiet ((go_at_call 68; exact quiet_left (HST.out _))))
                go_roundw
                case rel => exact ⟨k + 1, by omega, by go_num, HN2, below_drewN hbw _⟩
                case measure => simp [intOf]; omega
              · have HF : Hid (heapFault h = 6) := by
                  show _ = _; unfold heapFault; rw [if_pos HV.out, if_pos HMC.out, if_pos HWi.out, if_pos HM0.out, if_neg (by unfold Hp.kept; rw [alike_yes hkx (by rw [← HX.out]; exact hh)]; decide)]
                rw [hh] at HST
                clear hh
                have HB9 := Lib.hid (B6.out.trans (hbw.mono B6.out.size))
                go_wp2_with (go_quiet ((go_at_call 68; exact quiet_left (HST.out _))))
                go_ret
                exact ⟨ret_int HF.out.symm, below_drewN HB9.out _⟩
            · have HAl : Hid (alike h.kept = false) := by
                have := HN.out
                rw [List.take_of_length_le (by have := HT6.out; omega)] at this
                show _ = _
                unfold alike Hp.kept
                simpa using this
              have HB9 := Lib.hid (B6.out.trans (hbw.mono B6.out.size))
              have R9 := R6.below hbw
              have HWn := Lib.hid (show wn = pn * 16 by have := HLen.out; have := HW.out; have := HP.out; omega)
              have hpn40 : pn ≤ 40 := by have := (pagesFault_ok HV.out).1; have := HP.out; omega
              clear HN hbw R6
              go_wp2_with fail
              clear hlt hk
              go_loopw [10] (fun i wr => ∃ k : Nat, k ≤ pn ∧ i = .int .i64 k ∧ Hid (∀ (j : Nat) (p : Pg), j < k → h.pages[j]? = some p → p.kind = 0 → frameOf h.words (0 + j) = List.replicate 16 0) ∧ Row wr w.heap.size 30 #[.slice pa pn pc, .slice wa wn wc, .slice ma mn mc] ∧ Below w.heap.size w wr) (fun i _ => pn - (intOf i).toNat)
              case atStart => exact ⟨0, Nat.zero_le _, rfl, fun j p hj => by omega, R9, HB9.out⟩
              case round =>
                clear R9
                obtain ⟨k, hk, rfl, HK2, hR, hbw⟩ := hrel
                have q0 := hR.cell 0
                have q1 := hR.cell 1
                have ql := hR.lt
                simp at q0 q1
                by_cases hlt : k < pn
                · obtain ⟨b0, o0, p, a0, l0, c0, rfl, d0, hp, e0, e1, e2, e3, hlc0, hcm0, hu0⟩ := (hT.below hbw).pg_at hlt
                  have HPk := Lib.hid hp
                  clear hp hcm0 hu0 e1 e2 e3
                  by_cases h0 : p.kind = 0
                  · have hf2 : (k + 1) * 16 ≤ wn := by rw [HWn.out]; omega
                    have hwn4 : wn ≤ 17592186044416 := by rw [HWn.out]; omega
                    have HAi := Lib.hid (HR.out.wd.below hbw)
                    have hq : (p.kind == 0) = true := by simpa using h0
                    rcases hz : decide (frameOf h.words k = List.replicate 16 0) with _ | _
                    · have HF : Hid (heapFault h = 8) := by
                        show _ = _; unfold heapFault; rw [if_pos HV.out, if_pos HMC.out, if_pos HWi.out, if_pos HM0.out, if_pos HAl.out, if_neg]
                        rw [freeZero_no (j := 0) HPk.out h0 (by rw [Nat.zero_add]; simpa using hz)]; decide
                      clear h0
                      go_wp2_with fail
                      refine (l1Frame_calls HAi.out hf2 hw1 hwn4).mono ?_
                      rintro e w2 ⟨v2, rfl, hO2, hb2⟩
                      obtain ⟨vo2, vc2, rfl, _, _, hL2⟩ := hO2.shape
                      have HI2 := Lib.hid hL2.ints
                      have HB2 := Lib.hid (hbw.trans (hb2.mono hbw.size))
                      clear hb2 hO2 hL2
                      go_wp2_with fail
                      refine (l1Zero_calls HI2.out (by omega)).mono ?_
                      rw [hz]
                      rintro e w3 ⟨rfl, rfl⟩
                      go_wp2_with fail
                      go_ret
                      exact ⟨ret_int HF.out.symm, HB2.out⟩
                    · have HN : Hid (∀ (j : Nat) (q : Pg), j < k + 1 → h.pages[j]? = some q → q.kind = 0 → frameOf h.words (0 + j) = List.replicate 16 0) := fun j q hj hq hq0 => by
                        by_cases e : j = k
                        · subst e; rw [Nat.zero_add]; simpa using hz
                        · exact HK2.out j q (by omega) hq hq0
                      clear h0
                      go_wp2_with fail
                      refine (l1Frame_calls HAi.out hf2 hw1 hwn4).mono ?_
                      rintro e w2 ⟨v2, rfl, hO2, hb2⟩
                      obtain ⟨vo2, vc2, rfl, _, _, hL2⟩ := hO2.shape
                      have HI2 := Lib.hid hL2.ints
                      have HB2 := Lib.hid (hbw.trans (hb2.mono hbw.size))
                      have HR2 := Lib.hid (hR.below hb2)
                      clear hb2 hO2 hL2
                      go_wp2_with fail
                      refine (l1Zero_calls HI2.out (by omega)).mono ?_
                      rw [hz]
                      rintro e w3 ⟨rfl, rfl⟩
                      go_wp2_with fail
                      go_roundw
                      case rel => exact ⟨k + 1, by omega, by go_num, HN, HR2.out, HB2.out⟩
                      case measure => simp [intOf]; omega
                  · have HN : Hid (∀ (j : Nat) (q : Pg), j < k + 1 → h.pages[j]? = some q → q.kind = 0 → frameOf h.words (0 + j) = List.replicate 16 0) := fun j q hj hq hq0 => by
                      by_cases e : j = k
                      · subst e; have := HPk.out.symm.trans hq; injection this with this; subst this; exact absurd hq0 h0
                      · exact HK2.out j q (by omega) hq hq0
                    have hq : (p.kind == 0) = false := by simpa using h0
                    clear h0
                    go_wp2_with fail
                    go_roundw
                    case rel => exact ⟨k + 1, by omega, by go_num, HN, hR, hbw⟩
                    case measure => simp [intOf]; omega
                · have HF : Hid (heapFault h = 0) := heapFault_of HV.out HMC.out.1 HMC.out.2 HWi.out HM0.out HAl.out (freeZero_yes fun j p hj hj0 => HK2.out j p (by have := (List.getElem?_eq_some_iff.1 hj).1; have := HP.out; omega) hj hj0)
                  go_wp2_with fail
                  go_ret
                  exact ⟨ret_int HF.out.symm, hbw⟩
end Go.Proofs.YtcnpckaacigbfaaGreat
