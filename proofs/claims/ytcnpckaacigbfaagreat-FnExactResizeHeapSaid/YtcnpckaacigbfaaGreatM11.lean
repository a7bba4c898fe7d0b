/- Joined texts (Spec5h, Spec5i, Spec5j, App4, Impl5h, Impl5i, Impl5j): steps of the proofs of chapter 5's laws. -/
import Derived.Laws.CopyRow
import Derived.Deep.RegionHeld3
import Derived.Test.YtcnpckaacigbfaaGreatM4
import Derived.Test.YtcnpckaacigbfaaGreatM9
import Derived.Test.YtcnpckaacigbfaaGreatM10
set_option linter.unusedVariables false
set_option linter.unusedSimpArgs false
/- Chapter 5 of the model: what is kept at hand is dropped, free pages are swept. -/
namespace Go.Proofs.YtcnpckaacigbfaaGreat
open Go.RowKit

theorem rough_of {ps : List Pg} (hv : pagesFault ps = 0) : Rough ps := fun k p hp => by
  have hk := (List.getElem?_eq_some_iff.1 hp).1
  have hpf := ok_page hv hp
  refine ⟨pageFault_slots hpf, fun h1 => ?_, fun h1 => ?_⟩
  · rcases pageFault_ok hpf with h | h | h
    · exact ⟨h.2.1, h.2.2.1, h.2.2.2.2.1⟩
    · omega
    · omega
  · rcases pageFault_ok hpf with h | h | h
    · exact absurd h.1 h1
    · refine ⟨p.run.toNat, by omega, ?_⟩
      have := run_fits hv hp h.1
      omega
    · exact ⟨0, by omega, by omega⟩

theorem HpAt.mono {w : World} {S S' : Nat → Prop} {b : Nat} {h : Hp} (ha : HpAt w S b h) (hS : ∀ k, S k → k < w.heap.size → S' k) (hb : ¬ S' b) : HpAt w S' b h := by
  obtain ⟨vp, np, vw, nw, vm, nm, h1, h2⟩ := ha.ex
  exact ⟨⟨vp, np, vw, nw, vm, nm, h1, h2.mono hS⟩, hb⟩
theorem length_sweepW' : ∀ (ps : List Pg) (ws : List Int) (k : Nat), (k + ps.length) * 16 ≤ ws.length → (sweepW ws k ps).length = ws.length
  | [], _, _, _ => rfl
  | p :: r, ws, k, h => by
    simp only [List.length_cons] at h
    have hp : (if p.kind = 0 then putFrame ws k (List.replicate 16 0) else ws).length = ws.length := by
      split
      · exact length_putFrame (by rw [List.length_replicate]; omega)
      · rfl
    rw [sweepW, length_sweepW' r _ _ (by rw [hp]; omega), hp]
/-- Sixteen zeros, newly made. -/
theorem Ints.zeros16 {w : World} {g : Nat} {CW : Array Value} (hr : Row w g 2 CW) (hz : ZeroRow (Value.int .i64 0).cells.toList 16 CW) : Ints w (some ⟨g, 0, none⟩) 16 (List.replicate 16 0) :=
  (Own.of_zero (K := KInt) hr hz rfl rfl (by unfold maxLen; omega)).ints
/-- Its words, in focus. -/
theorem HpAt.wordsF {w : World} {S : Nat → Prop} {b : Nat} {h : Hp} (ha : HpAt w S b h) : ∃ pa np pc wa nw wc ma nm mc S2, Row w b 30 #[.slice pa np pc, .slice wa nw wc, .slice ma nm mc] ∧ Lst KPage w S pa np h.pages ∧ Own KInt 2 w S2 (.slice wa nw wc) nw h.words ∧ (∀ q, S2 q → S q ∧ q < w.heap.size) ∧
    ∀ w' xs, Own KInt 2 w' S2 (.slice wa nw wc) nw xs → Turn S2 w w' → HpAt w' S b ⟨h.pages, xs, h.mags⟩ := by
  obtain ⟨vp, np, vw, nw, vm, nm, h1, h2⟩ := ha.ex
  obtain ⟨S1, S2, S3, o1, o2, o3, d1, d2, d3, e1, e2, e3⟩ := h2.ex
  obtain ⟨pa, pc, rfl, _, _, hl1⟩ := o1.shape
  obtain ⟨wa, wc, rfl, _, _, _⟩ := o2.shape
  obtain ⟨ma, mc, rfl, _, _, _⟩ := o3.shape
  refine ⟨pa, np, pc, wa, nw, wc, ma, nm, mc, fun q => S2 q ∧ q < w.heap.size, h1, hl1.mono (fun q hq _ => d1 q hq), o2.here, fun q hq => ⟨d2 q hq.1, hq.2⟩, fun w' xs ho ht => ⟨⟨_, _, _, _, _, _, ht.row h1 (fun hq => ha.out (d2 _ hq.1)), HpO.mk3 (A := S1) (B := fun q => S2 q ∧ q < w.heap.size) (C := S3) (o1.turn ht (fun q hq _ h => e1 q hq h.1)) ho (o3.turn ht (fun q hq _ h => e3 q h.1 hq)) d1 (fun q hq => d2 q hq.1) d3 (fun q hq h => e1 q hq h.1) e2 (fun q hq h => e3 q hq.1 h)⟩, ha.out⟩⟩
/-- Its pages, in focus. -/
theorem HpAt.pagesF {w : World} {S : Nat → Prop} {b : Nat} {h : Hp} (ha : HpAt w S b h) : ∃ pa np pc wa nw wc ma nm mc S1, Row w b 30 #[.slice pa np pc, .slice wa nw wc, .slice ma nm mc] ∧ Own KPage 55 w S1 (.slice pa np pc) np h.pages ∧ (∀ q, S1 q → S q ∧ q < w.heap.size) ∧
    ∀ w' xs, Own KPage 55 w' S1 (.slice pa np pc) np xs → Turn S1 w w' → HpAt w' S b ⟨xs, h.words, h.mags⟩ := by
  obtain ⟨vp, np, vw, nw, vm, nm, h1, h2⟩ := ha.ex
  obtain ⟨S1, S2, S3, o1, o2, o3, d1, d2, d3, e1, e2, e3⟩ := h2.ex
  obtain ⟨pa, pc, rfl, _, _, hl1⟩ := o1.shape
  obtain ⟨wa, wc, rfl, _, _, _⟩ := o2.shape
  obtain ⟨ma, mc, rfl, _, _, _⟩ := o3.shape
  refine ⟨pa, np, pc, wa, nw, wc, ma, nm, mc, fun q => S1 q ∧ q < w.heap.size, h1, o1.here, fun q hq => ⟨d1 q hq.1, hq.2⟩, fun w' xs ho ht => ⟨⟨_, _, _, _, _, _, ht.row h1 (fun hq => ha.out (d1 _ hq.1)), HpO.mk3 (A := fun q => S1 q ∧ q < w.heap.size) (B := S2) (C := S3) ho (o2.turn ht (fun q hq _ h => e1 q h.1 hq)) (o3.turn ht (fun q hq _ h => e2 q h.1 hq)) (fun q hq => d1 q hq.1) d2 d3 (fun q hq h => e1 q hq.1 h) (fun q hq h => e2 q hq.1 h) e3⟩, ha.out⟩⟩

set_option maxRecDepth 100000 in
set_option maxHeartbeats 2000000 in
theorem l5Sweep_calls {b : Nat} {h : Hp} {S : Nat → Prop} {w : World} (ha : HpAt w S b h) (hl : h.words.length = h.pages.length * 16) (h40 : h.pages.length ≤ 40) :
    Calls Tryz.prog 113 #[.pointer (some ⟨b, 0, none⟩)] w fun e w' => e = .returned (.tuple #[]) ∧ HpAt w' S b ⟨h.pages, sweepW h.words 0 h.pages, h.mags⟩ ∧ Turn S w w' := by
  obtain ⟨i0, hi, hz0, hz1, hz2⟩ := info_parts info64
  obtain ⟨CW, hCW, hmk⟩ := make_eq (P := Tryz.prog) Tryz.underlying27 hi hz0 hz1 rfl 16 (by rw [hz2]; omega) (by omega)
  replace hmk : ∀ w : World, (Instr.makeSlice 27 (.int .i64 16) (.int .i64 16)).run Tryz.prog w = .ok (.slice (some ⟨w.heap.size, 0, none⟩) 16 16) (w.alloc (.cells CW 2)) := hmk
  have HCW := Lib.hid hCW
  have HL := Lib.hid hl
  clear hCW
  go_enter Tryz.func113, Tryz.ntmps113
  go_wp2_with fail
  go_loopw [2] (fun i wr => ∃ k : Nat, k ≤ h.pages.length ∧ i = .int .i64 k ∧ HpAt wr S b ⟨h.pages, sweepW h.words 0 (h.pages.take k), h.mags⟩ ∧ Turn S w wr) (fun i _ => h.pages.length - (intOf i).toNat)
  case atStart => exact ⟨0, Nat.zero_le _, rfl, by simpa [sweepW] using ha, Turn.refl _ _⟩
  case round =>
    obtain ⟨k, hk, rfl, hA, hT⟩ := hrel
    obtain ⟨pa, np, pc, wa, nw, wc, ma, nm, mc, S2, hR, hP, hW, hS2, hput⟩ := hA.wordsF
    have hnp : h.pages.length = np := hP.1
    have hnw := hW.1
    have HPut := Lib.hid hput
    have HT := Lib.hid hT
    have HA := Lib.hid hA
    have q0 := hR.cell 0
    have q1 := hR.cell 1
    have ql := hR.lt
    simp at q0 q1
    rw [hnp] at hk h40 ⊢
    have HNP := Lib.hid hnp
    clear hput hT hA hR hnp
    by_cases hlt : k < np
    · obtain ⟨b0, o0, p, a0, l0, c0, rfl, d0, hp, e0, e1, e2, e3, hlc0, hcm0, hu0⟩ := hP.pg_at hlt
      have HPk := Lib.hid hp
      have HSw := Lib.hid (sweepW_take (ws := h.words) hp)
      have hsl : (sweepW h.words 0 (h.pages.take k)).length = h.pages.length * 16 := by
        rw [length_sweepW' _ _ _ (by rw [HL.out, List.length_take]; have := HNP.out; omega)]; exact HL.out
      clear hp hcm0 hu0 e1 e2 e3
      by_cases h0 : p.kind = 0
      · have hnw2 : (sweepW h.words 0 (h.pages.take k)).length = nw := hnw
        have hf2 : (k + 1) * 16 ≤ nw := by have := HNP.out; omega
        have hn4 : nw ≤ 17592186044416 := by have := HNP.out; omega
        clear hnw2
        have hq : (p.kind == 0) = true := by simp [h0]
        have HW := Lib.hid hW
        have HS2 := Lib.hid hS2
        rw [if_pos h0] at HSw
        clear hW hS2 h0 hnw hsl
        go_wp2_with fail
        go_region_law (
          go_simp; go_at_call 145; refine (l1Write_calls (HW.out.drew.alloc _) hf2 (Ints.zeros16 (heap_alloc_new wr.drew (.cells CW 2)) HCW.out) (fun hq => Nat.lt_irrefl _ ((HS2.out _ hq).2)) hn4).mono ?_; rintro e w2 ⟨rfl, oW, tW⟩)
        all_goals
          have HN : Hid (HpAt w2 S b ⟨h.pages, sweepW h.words 0 (h.pages.take (k + 1)), h.mags⟩ ∧ Turn S w w2) := by
            have tt : Turn S2 wr w2 := ((Turn.of_below ((Below.refl _ wr).drew.alloc (Nat.le_refl _) _)).trans tW (fun _ h _ => h))
            refine ⟨?_, HT.out.trans (tt.mono (fun q hq _ => (HS2.out q hq).1)) (fun q hq _ => hq)⟩
            rw [HSw.out]
            exact HPut.out w2 _ oW tt
          clear oW tW
          go_wp2_with fail
          go_roundw
          case rel => exact ⟨k + 1, by omega, by go_num, HN.out.1, HN.out.2⟩
          case measure => simp [intOf]; omega
      · have hq : (p.kind == 0) = false := by simpa using h0
        have HN : Hid (HpAt wr S b ⟨h.pages, sweepW h.words 0 (h.pages.take (k + 1)), h.mags⟩) := by
          show HpAt _ _ _ _; rw [HSw.out, if_neg h0]; exact HA.out
        clear h0
        go_wp2_with fail
        go_roundw
        case rel => exact ⟨k + 1, by omega, by go_num, HN.out, HT.out⟩
        case measure => simp [intOf]; omega
    · have HF : Hid (HpAt wr S b ⟨h.pages, sweepW h.words 0 h.pages, h.mags⟩) := by
        have := HA.out
        rw [List.take_of_length_le (by have := HNP.out; omega)] at this
        exact this
      go_wp2_with fail
      go_end0
      exact ⟨rfl, HF.out, HT.out⟩
end Go.Proofs.YtcnpckaacigbfaaGreat

/- Chapter 5 of the model: a heap drained. -/
namespace Go.Proofs.YtcnpckaacigbfaaGreat
open Go.RowKit

theorem Lst.drew' {α : Type} {K : Lay α} {w : World} {S : Nat → Prop} {ao : Option Addr} {n : Nat} {xs : List α} (h : Lst K w S ao n xs) : Lst K w.drew S ao n xs := h.turn (T := fun _ => False) ((Turn.refl _ w).drewN 1) (fun _ _ _ h => h)
/-- Other magazines in a heap, newly made. -/
theorem HpAt.newMags {w : World} {S : Nat → Prop} {b nm : Nat} {h : Hp} {CM : Array Value} (ha : HpAt w (fun q => S q ∧ q < w.heap.size) b h) (hz : ZeroRow (Value.slice none 0 0).cells.toList nm CM) (hn : nm ≤ 8) :
    HpAt ((w.setCell ⟨b, 2, none⟩ (.slice (some ⟨w.heap.size, 0, none⟩) nm nm)).alloc (.cells CM 27)) (fun q => (S q ∧ q < w.heap.size) ∨ q = w.heap.size) b ⟨h.pages, h.words, List.replicate nm []⟩ ∧ Turn (fun q => q = b) w ((w.setCell ⟨b, 2, none⟩ (.slice (some ⟨w.heap.size, 0, none⟩) nm nm)).alloc (.cells CM 27)) := by
  obtain ⟨vp, np, vw, nw, vm, n3, h1, h2⟩ := ha.ex
  obtain ⟨S1, S2, S3, o1, o2, o3, d1, d2, d3, e1, e2, e3⟩ := h2.ex
  have hbl := h1.lt
  have tS := Turn.set w ⟨b, 2, none⟩ (.slice (some ⟨w.heap.size, 0, none⟩) nm nm)
  have tt : Turn (fun q => q = b) w ((w.setCell ⟨b, 2, none⟩ (.slice (some ⟨w.heap.size, 0, none⟩) nm nm)).alloc (.cells CM 27)) := tS.trans (Turn.alloc (fun q => q = b) _ _) (fun _ h _ => h)
  refine ⟨⟨⟨vp, np, vw, nw, .slice (some ⟨w.heap.size, 0, none⟩) nm nm, nm, ?_, HpO.mk3 (A := S1) (B := S2) (C := fun q => q = w.heap.size) (o1.turn tt (fun q hq _ e => ha.out (by rw [← show q = b from e]; exact d1 q hq))) (o2.turn tt (fun q hq _ e => ha.out (by rw [← show q = b from e]; exact d2 q hq))) ?_ (fun q hq => .inl (d1 q hq)) (fun q hq => .inl (d2 q hq)) (fun q hq => .inr hq) e1 (fun q hq e => ?_) (fun q hq e => ?_)⟩, ?_⟩, tt⟩
  · have := (h1.set (i := 2) (.slice (some ⟨w.heap.size, 0, none⟩) nm nm)).alloc (.cells CM 27)
    simpa using this
  · have h3 := heap_alloc_new (w.setCell ⟨b, 2, none⟩ (.slice (some ⟨w.heap.size, 0, none⟩) nm nm)) (.cells CM 27)
    rw [World.size_setCell] at h3
    exact (Own.of_zero (K := KMag) h3 hz rfl (KMag_own_mk Own.nil) (by unfold maxLen; omega))
  · have := (d1 q hq).2; omega
  · have := (d2 q hq).2; omega
  · rintro (hq | hq)
    · exact ha.out hq
    · omega

set_option maxRecDepth 100000 in
set_option maxHeartbeats 2000000 in
theorem l5Drain_calls {b : Nat} {h : Hp} {S : Nat → Prop} {w : World} (ha : HpAt w S b h) (hf : heapFault h = 0) :
    Calls Tryz.prog 55 #[.pointer (some ⟨b, 0, none⟩)] w fun e w' => e = .returned (.tuple #[]) ∧ HpAt w' (fun q => (S q ∧ q < w.heap.size) ∨ w.heap.size ≤ q) b (drainHp h) ∧ Turn (fun q => S q ∨ q = b) w w' := by
  obtain ⟨im, him, hm0, hm1, hm2⟩ := info_parts infoMg
  obtain ⟨vp, np, vw, nw, vm, nm, hR, hO⟩ := ha.ex
  obtain ⟨pa, pc, wa, wc, ma, mc, rfl, rfl, rfl, hrd⟩ := hO.shape
  have hnm8 : nm ≤ 8 := by have := (mags_small hf).1; have := hrd.mg.1; omega
  have hNM := Lib.hid hrd.mg.1
  have hSm := Lib.hid (mags_small hf).2.2.2
  obtain ⟨CM, hCM, hmk⟩ := make_eq (P := Tryz.prog) Tryz.underlying28 him hm0 hm1 rfl nm (by rw [hm2]; omega) (by omega)
  have HCM := Lib.hid hCM
  have HFk := Lib.hid hf
  have HA := Lib.hid ha
  have hbl := hR.lt
  have HRow := Lib.hid hR
  have HMg := Lib.hid hrd.mg
  clear hCM hR hO hrd ha hf him hm0 hm1 hm2
  go_enter Tryz.func55, Tryz.ntmps55
  go_wp2_with fail
  refine (l5All_calls HRow.out HMg.out (by omega) (by have := hSm.out; unfold Hp.kept at this; omega)).mono ?_
  rintro e w1 ⟨v1, t, rfl, hO1, hb1⟩
  obtain ⟨vo1, vc1, rfl, hv1, hv2, _⟩ := hO1.shape
  have HT1 := Lib.hid hO1.1
  have ht16 : t ≤ 16 := by have := hO1.1; have := hSm.out; unfold Hp.kept at this; omega
  have HO1 := Lib.hid hO1.here
  have HB1 := Lib.hid hb1
  have hA1 : HpAt w1 (fun q => S q ∧ q < w.heap.size) b ⟨dropAll h.pages (h.kept.take 0), h.words, h.mags⟩ := by
    have := (HA.out.mono (S' := fun q => S q ∧ q < w.heap.size) (fun q hq hl => ⟨hq, hl⟩) (fun hq => HA.out.out hq.1)).below hb1
    simpa [dropAll] using this
  have HA1 := Lib.hid hA1
  clear hA1 hb1 hO1 hv1 hv2
  go_wp2_with fail
  go_loopw [3] (fun i wr => ∃ k : Nat, k ≤ t ∧ i = .int .i64 k ∧ HpAt wr (fun q => S q ∧ q < w.heap.size) b ⟨dropAll h.pages (h.kept.take k), h.words, h.mags⟩ ∧ Turn (fun q => S q ∧ q < w.heap.size) w1 wr) (fun i _ => t - (intOf i).toNat)
  case atStart => exact ⟨0, Nat.zero_le _, rfl, HA1.out, Turn.refl _ _⟩
  case round =>
    clear HA1
    obtain ⟨k, hk, rfl, hA, hT⟩ := hrel
    have HT := Lib.hid hT
    by_cases hlt : k < t
    · obtain ⟨pa2, np2, pc2, wa2, nw2, wc2, ma2, nm2, mc2, S1, hR, hP, hS1, hput⟩ := hA.pagesF
      have hnp : (dropAll h.pages (h.kept.take k)).length = np2 := hP.1
      have hnp2 : h.pages.length = np2 := by rw [length_dropAll] at hnp; exact hnp
      have HPut := Lib.hid hput
      have q0 := hR.cell 0
      have ql := hR.lt
      simp at q0
      have hIa := (HO1.out.turn HT.out (fun q hq _ h => by have := hq.1; have := h.2; omega)).ints
      obtain ⟨ab, ao, rfl, ad, ac⟩ := hIa.at_ hlt
      have hkx : k < h.kept.length := by unfold Hp.kept; rw [HT1.out]; exact hlt
      have hkk := kept_ok HFk.out
      have hv0 := (heapFault_ok HFk.out).1
      have hsplit : h.kept = h.kept.take k ++ h.kept[k] :: h.kept.drop (k + 1) := by
        rw [← List.drop_eq_getElem_cons hkx, List.take_append_drop]
      have hka := keptAfter (h.kept.take k) (h.kept[k] :: h.kept.drop (k + 1)) h.pages hv0 (by rw [← hsplit]; exact hkk)
      have hpl := KeptOk.slot_place hv0 hkk (List.getElem_mem hkx)
      obtain ⟨st, hst⟩ := Int.eq_ofNat_of_zero_le hpl.1
      have hst2 : st < 16 * np2 := by have := hpl.2; omega
      have hx : h.mags.flatten.getD k 0 = (st : Int) := by
        have : h.kept[k] = h.mags.flatten.getD k 0 := by
          rw [List.getD_eq_getElem?_getD, List.getElem?_eq_getElem (by rw [HT1.out]; exact hlt)]; rfl
        rw [← this, hst]
      rw [hx] at ac
      have hRg := rough_of hka.1
      have hn40 : np2 ≤ 40 := by have := (pagesFault_ok hv0).1; omega
      have HN0 : Hid (dropAll h.pages (h.kept.take (k + 1)) = dropAt (dropAll h.pages (h.kept.take k)) st) := by
        show _ = _
        rw [List.take_succ_eq_append_getElem hkx, dropAll_snoc, hst]; rfl
      have HP := Lib.hid hP
      have HRg := Lib.hid hRg
      have HS1 := Lib.hid hS1
      clear hP hRg hx hst hpl hka hsplit hkk hv0 hIa hput hnp hnp2 hR hT hA hS1
      go_wp2_with fail
      go_region_law (
        go_simp; go_at_call 112; refine (l4Drop_calls HP.out.drew (by omega) hst2 HRg.out).mono ?_; rintro e w2 ⟨rfl, oP, tP⟩)
      all_goals
        have HN : Hid (HpAt w2 (fun q => S q ∧ q < w.heap.size) b ⟨dropAll h.pages (h.kept.take (k + 1)), h.words, h.mags⟩ ∧ Turn (fun q => S q ∧ q < w.heap.size) w1 w2) := by
          refine ⟨?_, HT.out.trans ((Turn.undrew tP).mono (fun q hq _ => (HS1.out q hq).1)) (fun q hq _ => hq)⟩
          rw [HN0.out]
          exact HPut.out w2 _ oP (Turn.undrew tP)
        clear oP tP
        go_wp2_with fail
        go_roundw
        case rel => exact ⟨k + 1, by omega, by go_num, HN.out.1, HN.out.2⟩
        case measure => simp [intOf]; omega
    · have hA2 : HpAt wr (fun q => S q ∧ q < w.heap.size) b ⟨dropAll h.pages h.kept, h.words, h.mags⟩ := by
        have := hA
        rw [List.take_of_length_le (by unfold Hp.kept; have := HT1.out; omega)] at this
        exact this
      obtain ⟨pa2, np2, pc2, wa2, nw2, wc2, ma2, nm2, mc2, S1, hR, hP, hS1, hput⟩ := hA2.pagesF
      obtain ⟨vp5, np5, vw5, nw5, vm5, nm5, hR5, hO5⟩ := hA2.ex
      obtain ⟨pa6, pc6, wa6, wc6, ma6, mc6, rfl, rfl, rfl, hrd6⟩ := hO5.shape
      obtain rfl : nm = nm5 := by have := hrd6.mg.1; have := hNM.out; simp only at *; omega
      have q2 := hR5.cell 2
      have qf := frozen_of_row _ _ 2 _ _ hR5
      have ql := hR5.lt
      simp at q2
      have hws : w.heap.size ≤ wr.heap.size := Nat.le_trans HB1.out.size HT.out.size
      have HNw := Lib.hid ((hA2.mono (S' := fun q => (S q ∧ q < w.heap.size) ∧ q < wr.heap.size) (fun q hq hl => ⟨hq, hl⟩) (fun hq => hA2.out hq.1)).newMags HCM.out hnm8)
      clear hA hA2 hR hP hS1 hput hR5 hO5 hrd6 hT
      go_wp2_with fail
      refine (l5Sweep_calls HNw.out.1 ?_ ?_).mono ?_
      · show h.words.length = (dropAll h.pages h.kept).length * 16
        rw [length_dropAll]; exact (heapFault_ok HFk.out).2.1
      · show (dropAll h.pages h.kept).length ≤ 40
        rw [length_dropAll]; exact (pagesFault_ok (heapFault_ok HFk.out).1).1
      rintro e w5 ⟨rfl, hA5, hT5⟩
      have HE : Hid (HpAt w5 (fun q => (S q ∧ q < w.heap.size) ∨ w.heap.size ≤ q) b (drainHp h) ∧ Turn (fun q => S q ∨ q = b) w w5) := by
        refine ⟨?_, ?_⟩
        · have e1 : drainHp h = ⟨dropAll h.pages h.kept, sweepW h.words 0 (dropAll h.pages h.kept), List.replicate nm []⟩ := by unfold drainHp; rw [hNM.out]
          rw [e1]
          exact hA5.mono (fun q hq _ => by
            rcases hq with hq | hq
            · exact .inl hq.1
            · exact .inr (by omega)) (fun hq => by
            rcases hq with hq | hq
            · exact HA.out.out hq.1
            · omega)
        · refine ((Turn.of_below (T := fun q => S q ∨ q = b) HB1.out).trans (HT.out.mono (U := fun q => S q ∨ q = b) (fun q hq _ => .inl hq.1)) (fun q hq _ => hq)).trans ((HNw.out.2.mono (U := fun q => q = b ∨ (S q ∧ q < w.heap.size) ∨ w.heap.size ≤ q) (fun q hq _ => .inl hq)).trans (hT5.mono (U := fun q => q = b ∨ (S q ∧ q < w.heap.size) ∨ w.heap.size ≤ q) (fun q hq _ => ?_)) (fun q hq _ => hq)) (fun q hq hl => ?_)
          · rcases hq with hq | hq
            · exact .inr (.inl hq.1)
            · exact .inr (.inr (by omega))
          · rcases hq with hq | hq | hq
            · exact .inr hq
            · exact .inl hq.1
            · omega
      clear hA5 hT5
      go_wp2_with fail
      go_end0
      exact ⟨rfl, HE.out.1, HE.out.2⟩
end Go.Proofs.YtcnpckaacigbfaaGreat

/- Chapter 5 of the model: heaps drained and resized. -/
namespace Go.Proofs.YtcnpckaacigbfaaGreat
open Go.RowKit

/-- A copy laid in a cell of its own. -/
theorem HpAt.boxed {w1 w2 : World} {h : Hp} {np nw nm : Nat} {vp vw vm : Value} (ho : HpO w2 (fun k => w1.heap.size ≤ k) vp np vw nw vm nm h) :
    HpAt (w2.alloc (.cells #[vp, vw, vm] 30)) (fun q => w1.heap.size ≤ q ∧ q < w2.heap.size) w2.heap.size h :=
  ⟨⟨_, _, _, _, _, _, heap_alloc_new _ _, (ho.mono (fun q hq hl => ⟨hq, hl⟩)).below ((Below.refl _ _).alloc (Nat.le_refl _) _)⟩, fun hq => by omega⟩

set_option maxRecDepth 100000 in
set_option maxHeartbeats 2000000 in
theorem sDrainHeap_calls {pa wa ma : Option Addr} {pn pc wn wk mn mc : Nat} {h : Hp} {S : Nat → Prop} {w : World} (hk : HpK w S pa pn pc wa wn wk ma mn mc h) :
    Calls Tryz.prog 16 #[.agg #[.slice pa pn pc, .slice wa wn wk, .slice ma mn mc]] w (RetsHeap w (drainHeap h)) := by
  have HK := Lib.hid hk
  obtain ⟨n1, n2, n3, n4, n5⟩ := hk.small
  clear hk
  obtain ⟨V, hV⟩ : ∃ V, V = (w.alloc (.cells #[.slice pa pn pc, .slice wa wn wk, .slice ma mn mc] 30)).alloc (.cells #[.int .i64 0, .slice none 0 0, .slice none 0 0, .slice none 0 0, .int .i64 0, .int .i64 0] 34) := ⟨_, rfl⟩
  have hB0 : Below w.heap.size w V := by rw [hV]; exact ((Below.refl _ _).alloc (Nat.le_refl _) _).alloc (by simp) _
  have HB0 := Lib.hid hB0
  clear hB0
  go_enter Tryz.func16, Tryz.ntmps16
  go_wp2_with fail
  rw [← hV]
  refine (sHeapFault_calls (HK.out.r.below HB0.out) HK.out.s).mono ?_
  rintro e w1 ⟨rfl, hb1⟩
  rw [hV] at hb1
  obtain ⟨R0, R1, B1, hs1⟩ := two_new hb1
  have HR0 : Hid (Row w1 w.heap.size 30 #[.slice pa pn pc, .slice wa wn wk, .slice ma mn mc]) := R0
  have HR1 : Hid (Row w1 (w.heap.size + 1) 34 #[.int .i64 0, .slice none 0 0, .slice none 0 0, .slice none 0 0, .int .i64 0, .int .i64 0]) := R1
  have HB1 := Lib.hid B1
  clear hb1 R1 B1 R0 hV
  by_cases hf : heapFault h = 0
  rotate_left
  · have HF : Hid (drainHeap h = (heapFault h, Hp.zero)) := by show _ = _; unfold drainHeap; rw [if_neg hf]
    have hq : (heapFault h != 0) = true := by simpa using hf
    clear hf
    have hres := HR1.out
    go_wp2_with (refine wpList_store_row rfl 34 _ _ rfl (w.heap.size + 1) _ rfl rfl _ _ hres (by kernel_rfl) (by rfl) (by simp [Value.oneCell']) ?_)
    refine bodyPost_ret (results_cell_row rfl _ _ (w.heap.size + 1) _ _ _ _ rfl (setRow_heap _ _ _ _ _ _ hres) Tryz.underlying34 rfl (by kernel_rfl)) rfl ?_
    exact heap_done HB1.out (by omega) HpO.zero _ HF.out
  have HF : Hid (drainHeap h = (0, drainHp h)) := by show _ = _; unfold drainHeap; rw [if_pos hf]
  have HFk := Lib.hid hf
  rw [hf]
  clear hf
  go_wp2_with fail
  refine (l5Copy_calls HR0.out (HK.out.below HB1.out)).mono ?_
  rintro e w2 ⟨vp, np, vw, nw, vm, nm, rfl, ho2, hb2⟩
  have HA := Lib.hid (HpAt.boxed ho2)
  have HB2 := Lib.hid hb2
  have HR2 := Lib.hid (HR1.out.below hb2)
  obtain ⟨pa', pc', wa', wc', ma', mc', rfl, rfl, rfl, _⟩ := ho2.shape
  clear ho2 hb2
  go_wp2_with fail
  refine (l5Drain_calls HA.out HFk.out).mono ?_
  rintro e w3 ⟨rfl, hA3, hT3⟩
  have hsz1 := HB2.out.size
  have hsz0 := HB1.out.size
  have hres := hT3.row (HR2.out.alloc (.cells #[.slice pa' np pc', .slice wa' nw wc', .slice ma' nm mc'] 30)) (fun hq => by rcases hq with hq | hq <;> omega)
  have HB3 : Hid (Below w.heap.size w w3) := hT3.below (HB1.out.trans ((HB2.out.alloc HB2.out.size _).mono hsz0)) (by simp; omega) (fun q hq => by rcases hq with hq | hq <;> omega)
  obtain ⟨vp6, np6, vw6, nw6, vm6, nm6, hR6, hO6⟩ := hA3.ex
  obtain ⟨pa6, pc6, wa6, wc6, ma6, mc6, rfl, rfl, rfl, _⟩ := hO6.shape
  have HO6 := Lib.hid (hO6.mono (S' := fun q => w.heap.size + 1 < q) (fun q hq _ => by
    rcases hq with hq | hq
    · omega
    · simp at hq; omega))
  have q0 := hR6.cell 0
  have q1 := hR6.cell 1
  have q2 := hR6.cell 2
  have ql := hR6.lt
  simp at q0 q1 q2
  clear hA3 hT3 hR6 hO6
  go_wp2_with (refine wpList_store_row rfl 34 _ _ rfl (w.heap.size + 1) _ rfl rfl _ _ hres (by kernel_rfl) (by rfl) (by simp [Value.oneCell']) ?_)
  refine bodyPost_ret (results_cell_row rfl _ _ (w.heap.size + 1) _ _ _ _ rfl (setRow_heap _ _ _ _ _ _ hres) Tryz.underlying34 rfl (by kernel_rfl)) rfl ?_
  exact heap_done HB3.out (by omega) HO6.out _ HF.out

theorem used_at {ps : List Pg} {n k : Nat} {p : Pg} (hk : n ≤ k) (hp : ps[k]? = some p) (h : p.kind ≠ 0) : anyUsed (ps.drop n) = true := by
  unfold anyUsed
  rw [List.any_eq_true]
  exact ⟨p, List.mem_of_getElem? (i := k - n) (by rw [List.getElem?_drop, show n + (k - n) = k by omega]; exact hp), by simpa using h⟩
theorem used_none {ps : List Pg} {n : Nat} (h : ∀ (k : Nat) (p : Pg), n ≤ k → ps[k]? = some p → p.kind = 0) : anyUsed (ps.drop n) = false := by
  unfold anyUsed
  rw [List.any_eq_false]
  intro p hp
  obtain ⟨j, hj⟩ := List.getElem?_of_mem hp
  rw [List.getElem?_drop] at hj
  simpa using h (n + j) p (by omega) hj
/-- Two of a heap's fields set. -/
theorem Row.set2 {w : World} {g : Nat} {t : TypeId} {a b c x y : Value} (h : Row w g t #[a, b, c]) : Row ((w.setCell ⟨g, 0, none⟩ x).setCell ⟨g, 1, none⟩ y) g t #[x, y, c] := by
  have := (h.set (i := 0) x).set (i := 1) y
  simpa using this
theorem Turn.set2 {w : World} {g : Nat} {x y : Value} : Turn (fun k => k = g) w ((w.setCell ⟨g, 0, none⟩ x).setCell ⟨g, 1, none⟩ y) :=
  (Turn.set w ⟨g, 0, none⟩ x).trans (Turn.set _ ⟨g, 1, none⟩ y) (fun _ h _ => h)

set_option maxRecDepth 100000 in
set_option maxHeartbeats 4000000 in
theorem l5Resize_calls {b p : Nat} {h : Hp} {S : Nat → Prop} {w : World} (ha : HpAt w S b h) (hf : heapFault h = 0) (hp : p ≤ 40) :
    Calls Tryz.prog 86 #[.pointer (some ⟨b, 0, none⟩), .int .i64 p] w fun e w' => Turn (fun q => S q ∨ q = b) w w' ∧
      ((anyUsed ((drainHp h).pages.drop p) = true ∧ e = .returned (.int .i64 8)) ∨ (anyUsed ((drainHp h).pages.drop p) = false ∧ e = .returned (.int .i64 0) ∧ HpAt w' (fun q => (S q ∧ q < w.heap.size) ∨ w.heap.size ≤ q) b (fitHp (drainHp h) p))) := by
  obtain ⟨ip, hip, hp0, hp1, hp2⟩ := info_parts infoPg
  obtain ⟨iw, hiw, hw0, hw1, hw2⟩ := info_parts info64
  obtain ⟨q, hq⟩ : ∃ q, q = p * 16 := ⟨_, rfl⟩
  obtain ⟨CP, hCP, hmk1⟩ := make_eq (P := Tryz.prog) Tryz.underlying26 hip hp0 hp1 rfl p (by rw [hp2]; omega) (by omega)
  obtain ⟨CW, hCW, hmk2⟩ := make_eq (P := Tryz.prog) Tryz.underlying27 hiw hw0 hw1 rfl q (by rw [hw2]; omega) (by omega)
  have hq2 : (p : Int) * 16 = (q : Int) := by omega
  have hq640 : q ≤ 640 := by omega
  have HCP := Lib.hid hCP
  have HCW := Lib.hid hCW
  have HQ := Lib.hid hq
  have hszP := Lib.hid (show (Tryz.prog.info? 55).map (·.size) = some KPage.sz by rw [hip, Option.map_some, hp1]; rfl)
  have hszW := Lib.hid (show (Tryz.prog.info? 2).map (·.size) = some KInt.sz by rw [hiw, Option.map_some, hw1]; rfl)
  have HA := Lib.hid ha
  have HFk := Lib.hid hf
  have hbl : b < w.heap.size := by obtain ⟨_, _, _, _, _, _, h1, _⟩ := ha.ex; exact h1.lt
  obtain ⟨D, hD⟩ : ∃ D, D = drainHp h := ⟨_, rfl⟩
  rw [← hD]
  have HDe := Lib.hid hD
  clear hq hCP hCW ha hf hD
  go_enter Tryz.func86, Tryz.ntmps86
  go_wp2_with fail
  refine (l5Drain_calls HA.out HFk.out).mono ?_
  rintro e w2 ⟨rfl, hA2, hT2⟩
  rw [← HDe.out] at hA2
  obtain ⟨vp, np, vw, nw, vm, nm, hR, hO⟩ := hA2.ex
  obtain ⟨S1, S2, S3, o1, o2, o3, d1, d2, d3, e1, e2, e3⟩ := hO.ex
  obtain ⟨pa, pc, rfl, hpc1, hpc2, hl1⟩ := o1.shape
  obtain ⟨wa, wc, rfl, _, _, _⟩ := o2.shape
  obtain ⟨ma, mc, rfl, _, _, _⟩ := o3.shape
  have hnp : np ≤ 40 := by
    have h1 := o1.1
    have h2 : D.pages.length = h.pages.length := by rw [HDe.out]; exact length_dropAll _ _
    have := (pagesFault_ok (heapFault_ok HFk.out).1).1
    omega
  have HNP := Lib.hid o1.1
  have HL1 := Lib.hid hl1
  have HRow := Lib.hid hR
  have O1 := Lib.hid o1.here
  have O2 := Lib.hid o2.here
  have O3 := Lib.hid o3.here
  have HDj := Lib.hid (And.intro d1 (And.intro d2 (And.intro d3 (And.intro e1 (And.intro e2 e3)))))
  have HT2 := Lib.hid hT2
  have hws := hT2.size
  have HOut := Lib.hid hA2.out
  have q0 := hR.cell 0
  have ql := hR.lt
  simp at q0
  clear o1 o2 o3 d1 d2 d3 e1 e2 e3 hl1 hR hO hA2 hT2 hpc2
  go_wp2_with fail
  go_loop [5] (fun i => ∃ k : Nat, p ≤ k ∧ k ≤ 40 ∧ i = .int .i64 k ∧ Hid (∀ (j : Nat) (x : Pg), p ≤ j → j < k → D.pages[j]? = some x → x.kind = 0)) (fun i => 41 - (intOf i).toNat)
  case atStart => exact ⟨p, Nat.le_refl _, hp, rfl, fun j x h1 h2 => by omega⟩
  case round =>
    obtain ⟨k, hk, hk40, rfl, HK⟩ := hrel
    by_cases hlt : k < np
    · obtain ⟨b0, o0, pg, a0, l0, c0, rfl, d0, hpg, f0, f1, f2, f3, hlc0, hcm0, hu0⟩ := HL1.out.pg_at hlt
      have HPg := Lib.hid hpg
      clear hpg f1 f2 f3 hcm0 hu0
      by_cases h0 : pg.kind = 0
      · have HN : Hid (∀ (j : Nat) (x : Pg), p ≤ j → j < k + 1 → D.pages[j]? = some x → x.kind = 0) := fun j x h1 h2 hx => by
          by_cases e : j = k
          · subst e; have := HPg.out.symm.trans hx; injection this with this; subst this; exact h0
          · exact HK.out j x h1 (by omega) hx
        have hq : (pg.kind != 0) = false := by simp [h0]
        clear h0
        go_wp2_with fail
        go_round
        case rel => exact ⟨k + 1, by omega, by omega, by go_num, HN⟩
        case measure => simp [intOf]; omega
      · have HF := Lib.hid (used_at hk HPg.out h0)
        have hq : (pg.kind != 0) = true := by simpa using h0
        clear h0
        go_wp2_with fail
        go_ret
        exact ⟨HT2.out, .inl ⟨HF.out, rfl⟩⟩
    · have HF := Lib.hid (used_none (ps := D.pages) (n := p) (fun j x h1 hx => HK.out j x h1 (by have := (List.getElem?_eq_some_iff.1 hx).1; have := HNP.out; omega) hx))
      have hng := Lib.hid (show ¬ (S1 w2.heap.size ∧ w2.heap.size < w2.heap.size) from fun hx => Nat.lt_irrefl _ hx.2)
      clear HK
      have hRa := heap_alloc_new w2 (.cells CP 55)
      have HRa : Hid (Row (w2.alloc (.cells CP 55)) w2.heap.size 55 CP) := hRa
      have HR2 := Lib.hid (HRow.out.alloc (.cells CP 55))
      have q5 := HR2.out.cell 0
      have q6 := HR2.out.cell 1
      simp at q5 q6
      clear hRa
      go_wp2_with (first
        | (with_reducible show wpList _ _ _ (Go.Oper.mk (some 36) (Go.Op.call _) _ _ _ _ :: _) _ _
           go_must (refine wpList_copy_fit (K := KPage) rfl (.tmp 31) (.tmp 35) 26 rfl 55 Tryz.underlying26 hszP.out one_page (m := p) (g := w2.heap.size) (n := np) (c := pc) (ao := pa) (d := Pg.free) rfl rfl (O1.out.alloc _) HRa.out HCP.out rfl (fun _ => KPage_own_mk (p := Pg.free) Own.nil) hng.out (by unfold maxLen; omega) ?_)
           intro w3 ho3 ht3
           have H1 := Lib.hid ho3
           have HT3 := Lib.hid ht3
           have HR3 := Lib.hid (ht3.row HR2.out (fun e => by omega))
           have hs3 := ht3.size
           have HRb : Hid (Row (w3.alloc (.cells CW 2)) w3.heap.size 2 CW) := heap_alloc_new _ _
           have H2 := Lib.hid (((O2.out.alloc (.cells CP 55)).turn ht3 (fun k hk _ e => by have := hk.2; omega)).alloc (.cells CW 2))
           have hngb := Lib.hid (show ¬ (S2 w3.heap.size ∧ w3.heap.size < w2.heap.size) from fun hx => by have := hx.2; simp at hs3; omega)
           have HR4 := Lib.hid (HR3.out.alloc (.cells CW 2))
           have r1 := HR4.out.cell 1
           have rl := HR4.out.lt
           simp at r1
           clear ho3 ht3)
        | (with_reducible show wpList _ _ _ (Go.Oper.mk (some 45) (Go.Op.call _) _ _ _ _ :: _) _ _
           go_must (refine wpList_copy_fit (K := KInt) rfl (.tmp 40) (.tmp 44) 27 rfl 2 Tryz.underlying27 hszW.out one_int (m := q) (g := w3.heap.size) (n := nw) (c := wc) (ao := wa) (d := (0 : Int)) rfl rfl H2.out HRb.out HCW.out rfl (fun _ => rfl) hngb.out (by unfold maxLen; omega) ?_)
           intro w4 ho4 ht4
           have H42 := Lib.hid ho4
           have HT4 := Lib.hid ht4
           have HR5 := Lib.hid (ht4.row HR4.out (fun e => by simp at hs3; omega))
           have s0 := HR5.out.cell 0
           have s1 := HR5.out.cell 1
           have sf0 := frozen_of_row _ _ 0 _ _ HR5.out
           have sf1 := frozen_of_row _ _ 1 _ _ HR5.out
           have sl := HR5.out.lt
           simp at s0 s1
           clear ho4 ht4))
      go_ret
      have hs2 : w2.heap.size + 1 ≤ w3.heap.size := by have := HT3.out.size; simpa using this
      have hs4 : w3.heap.size + 1 ≤ w4.heap.size := by have := HT4.out.size; simpa using this
      obtain ⟨d1, d2, d3, e1, e2, e3⟩ := HDj.out
      have B2 : Below w2.heap.size w2 (w2.alloc (.cells CP 55)) := (Below.refl _ _).alloc (Nat.le_refl _) _
      have tF : Turn (fun k => k = b) w4 ((w4.setCell ⟨b, 0, none⟩ (.slice (some ⟨w2.heap.size, 0, none⟩) p p)).setCell ⟨b, 1, none⟩ (.slice (some ⟨w3.heap.size, 0, none⟩) q q)) := Turn.set2
      have B3 : Below w2.heap.size w2 (w3.alloc (.cells CW 2)) := (HT3.out.below B2 (by simp) (fun k hk => by omega)).alloc (by omega) _
      have B4 : Below w2.heap.size w2 w4 := HT4.out.below B3 (by simp; omega) (fun k hk => by omega)
      have p1 : Own KPage 55 w4 (fun k => (S1 k ∧ k < w2.heap.size) ∨ k = w2.heap.size) (.slice (some ⟨w2.heap.size, 0, none⟩) p p) p (fitTo Pg.free D.pages p) := (H1.out.alloc (.cells CW 2)).turn HT4.out (fun k hk _ e => by
        rcases hk with hk | hk
        · have := hk.2; omega
        · omega)
      have p3 : Own KMag 27 w4 (fun k => S3 k ∧ k < w2.heap.size) (.slice ma nm mc) nm D.mags := O3.out.below B4
      have hnb : ∀ k, (((S k ∧ k < w.heap.size) ∨ w.heap.size ≤ k) → k ≠ b) := fun k hk e => HOut.out (by rw [← e]; exact hk)
      refine ⟨((HT2.out.trans (Turn.of_below (T := fun k => S k ∨ k = b) B4) (fun k hk _ => hk))).trans (tF.mono (fun k hk _ => .inr hk)) (fun k hk _ => hk), .inr ⟨HF.out, rfl, ⟨⟨_, p, _, q, _, nm, HR5.out.set2, ?_⟩, HOut.out⟩⟩⟩
      refine HpO.mk3 (A := fun k => (S1 k ∧ k < w2.heap.size) ∨ k = w2.heap.size) (B := fun k => (S2 k ∧ k < w2.heap.size) ∨ k = w3.heap.size) (C := fun k => S3 k ∧ k < w2.heap.size) (p1.turn tF ?_) ?_ (p3.turn tF ?_) ?_ ?_ ?_ ?_ ?_ ?_
      · rintro k (hk | hk) _ e
        · exact hnb k (d1 k hk.1) e
        · have e : k = b := e; omega
      · have p2 := H42.out
        rw [HQ.out] at p2
        simp only [fitHp]
        rw [HQ.out]
        refine p2.turn ?_ ?_ (T := fun k => k = b)
        · rw [HQ.out] at tF; exact tF
        · rintro k (hk | hk) _ e
          · exact hnb k (d2 k hk.1) e
          · have e : k = b := e; omega
      · intro k hk _ e
        exact hnb k (d3 k hk.1) e
      · rintro k (hk | hk)
        · exact d1 k hk.1
        · exact .inr (by omega)
      · rintro k (hk | hk)
        · exact d2 k hk.1
        · exact .inr (by omega)
      · exact fun k hk => d3 k hk.1
      · rintro k (hk | hk) (hq' | hq')
        · exact e1 k hk.1 hq'.1
        · have := hk.2; omega
        · have := hq'.2; omega
        · omega
      · rintro k (hk | hk) hq'
        · exact e2 k hk.1 hq'.1
        · have := hq'.2; omega
      · rintro k (hk | hk) hq'
        · exact e3 k hk.1 hq'.1
        · have := hq'.2; omega

set_option maxRecDepth 100000 in
set_option maxHeartbeats 4000000 in
theorem sResizeHeap_calls {pa wa ma : Option Addr} {pn pc wn wk mn mc : Nat} {h : Hp} {p : Int} {S : Nat → Prop} {w : World} (hk : HpK w S pa pn pc wa wn wk ma mn mc h) :
    Calls Tryz.prog 33 #[.agg #[.slice pa pn pc, .slice wa wn wk, .slice ma mn mc], .int .i64 p] w (RetsHeap w (resizeHeap h p)) := by
  have HK := Lib.hid hk
  obtain ⟨n1, n2, n3, n4, n5⟩ := hk.small
  clear hk
  obtain ⟨V, hV⟩ : ∃ V, V = (w.alloc (.cells #[.slice pa pn pc, .slice wa wn wk, .slice ma mn mc] 30)).alloc (.cells #[.int .i64 0, .slice none 0 0, .slice none 0 0, .slice none 0 0, .int .i64 0, .int .i64 0] 34) := ⟨_, rfl⟩
  have hB0 : Below w.heap.size w V := by rw [hV]; exact ((Below.refl _ _).alloc (Nat.le_refl _) _).alloc (by simp) _
  have HB0 := Lib.hid hB0
  clear hB0
  go_enter Tryz.func33, Tryz.ntmps33
  go_wp2_with fail
  rw [← hV]
  refine (sHeapFault_calls (HK.out.r.below HB0.out) HK.out.s).mono ?_
  rintro e w1 ⟨rfl, hb1⟩
  rw [hV] at hb1
  obtain ⟨R0, R1, B1, hs1⟩ := two_new hb1
  have HR0 : Hid (Row w1 w.heap.size 30 #[.slice pa pn pc, .slice wa wn wk, .slice ma mn mc]) := R0
  have HR1 : Hid (Row w1 (w.heap.size + 1) 34 #[.int .i64 0, .slice none 0 0, .slice none 0 0, .slice none 0 0, .int .i64 0, .int .i64 0]) := R1
  have HB1 := Lib.hid B1
  clear hb1 R1 B1 R0 hV
  by_cases hf : heapFault h = 0
  rotate_left
  · have HF : Hid (resizeHeap h p = (heapFault h, Hp.zero)) := by show _ = _; unfold resizeHeap; rw [if_neg hf]
    have hq : (heapFault h != 0) = true := by simpa using hf
    clear hf
    have hres := HR1.out
    go_wp2_with (refine wpList_store_row rfl 34 _ _ rfl (w.heap.size + 1) _ rfl rfl _ _ hres (by kernel_rfl) (by rfl) (by simp [Value.oneCell']) ?_)
    refine bodyPost_ret (results_cell_row rfl _ _ (w.heap.size + 1) _ _ _ _ rfl (setRow_heap _ _ _ _ _ _ hres) Tryz.underlying34 rfl (by kernel_rfl)) rfl ?_
    exact heap_done HB1.out (by omega) HpO.zero _ HF.out
  have HF0 : Hid (resizeHeap h p = if within 0 40 [p] = true then (if anyUsed ((drainHp h).pages.drop p.toNat) = true then (8, Hp.zero) else (0, fitHp (drainHp h) p.toNat)) else (3, Hp.zero)) := by show _ = _; unfold resizeHeap; rw [if_pos hf]
  have HFk := Lib.hid hf
  rw [hf]
  clear hf
  rcases h1 : within 0 40 [p] with _ | _
  · have HF : Hid (resizeHeap h p = (3, Hp.zero)) := by show _ = _; rw [HF0.out, h1]; rfl
    have hres := HR1.out
    go_wp2_with fail
    refine l1In_calls.mono ?_
    rw [h1]
    rintro e w2 ⟨rfl, rfl⟩
    go_wp2_with (refine wpList_store_row rfl 34 _ _ rfl (w.heap.size + 1) _ rfl rfl _ _ hres (by kernel_rfl) (by rfl) (by simp [Value.oneCell']) ?_)
    refine bodyPost_ret (results_cell_row rfl _ _ (w.heap.size + 1) _ _ _ _ rfl (setRow_heap _ _ _ _ _ _ hres) Tryz.underlying34 rfl (by kernel_rfl)) rfl ?_
    exact heap_done HB1.out (by omega) HpO.zero _ HF.out
  obtain ⟨n, rfl⟩ : ∃ n : Nat, p = n := ⟨p.toNat, by have := within_range h1; omega⟩
  have hn40 : n ≤ 40 := by have := within_range h1; omega
  have H1w := Lib.hid h1
  go_wp2_with fail
  refine l1In_calls.mono ?_
  rw [h1]
  rintro e w2 ⟨rfl, rfl⟩
  clear h1
  go_wp2_with fail
  refine (l5Copy_calls HR0.out (HK.out.below HB1.out)).mono ?_
  rintro e w2 ⟨vp, np, vw, nw, vm, nm, rfl, ho2, hb2⟩
  have HA := Lib.hid (HpAt.boxed ho2)
  have HB2 := Lib.hid hb2
  have HR2 := Lib.hid (HR1.out.below hb2)
  obtain ⟨pa', pc', wa', wc', ma', mc', rfl, rfl, rfl, _⟩ := ho2.shape
  clear ho2 hb2
  go_wp2_with fail
  refine (l5Resize_calls HA.out HFk.out hn40).mono ?_
  rintro e w3 ⟨hT3, hcase⟩
  have hsz1 := HB2.out.size
  have hsz0 := HB1.out.size
  have hres := hT3.row (HR2.out.alloc (.cells #[.slice pa' np pc', .slice wa' nw wc', .slice ma' nm mc'] 30)) (fun hq => by rcases hq with hq | hq <;> omega)
  have HB3 : Hid (Below w.heap.size w w3) := hT3.below (HB1.out.trans ((HB2.out.alloc HB2.out.size _).mono hsz0)) (by simp; omega) (fun q hq => by rcases hq with hq | hq <;> omega)
  clear hT3
  rcases hcase with ⟨hu, rfl⟩ | ⟨hu, rfl, hA3⟩
  · have HF : Hid (resizeHeap h (n : Int) = (8, Hp.zero)) := by show _ = _; rw [HF0.out, if_pos H1w.out, Int.toNat_natCast, if_pos hu]
    clear hu
    go_wp2_with (refine wpList_store_row rfl 34 _ _ rfl (w.heap.size + 1) _ rfl rfl _ _ hres (by kernel_rfl) (by rfl) (by simp [Value.oneCell']) ?_)
    refine bodyPost_ret (results_cell_row rfl _ _ (w.heap.size + 1) _ _ _ _ rfl (setRow_heap _ _ _ _ _ _ hres) Tryz.underlying34 rfl (by kernel_rfl)) rfl ?_
    exact heap_done HB3.out (by omega) HpO.zero _ HF.out
  · have HF : Hid (resizeHeap h (n : Int) = (0, fitHp (drainHp h) n)) := by show _ = _; rw [HF0.out, if_pos H1w.out, Int.toNat_natCast, if_neg (by rw [hu]; decide)]
    obtain ⟨vp6, np6, vw6, nw6, vm6, nm6, hR6, hO6⟩ := hA3.ex
    obtain ⟨pa6, pc6, wa6, wc6, ma6, mc6, rfl, rfl, rfl, _⟩ := hO6.shape
    have HO6 := Lib.hid (hO6.mono (S' := fun q => w.heap.size + 1 < q) (fun q hq _ => by
      rcases hq with hq | hq
      · omega
      · simp at hq; omega))
    have q0 := hR6.cell 0
    have q1 := hR6.cell 1
    have q2 := hR6.cell 2
    have ql := hR6.lt
    simp at q0 q1 q2
    clear hA3 hR6 hO6 hu
    go_wp2_with (refine wpList_store_row rfl 34 _ _ rfl (w.heap.size + 1) _ rfl rfl _ _ hres (by kernel_rfl) (by rfl) (by simp [Value.oneCell']) ?_)
    refine bodyPost_ret (results_cell_row rfl _ _ (w.heap.size + 1) _ _ _ _ rfl (setRow_heap _ _ _ _ _ _ hres) Tryz.underlying34 rfl (by kernel_rfl)) rfl ?_
    exact heap_done HB3.out (by omega) HO6.out _ HF.out
end Go.Proofs.YtcnpckaacigbfaaGreat

/- clear(xs[i:j]) of numbers that are owned. -/
namespace Go.Proofs.YtcnpckaacigbfaaGreat
open Go.RowKit

section
variable {P : Program} {w : World} {S : Nat → Prop} {ops : Array Oper} {rest : List Oper} {o : Oper} {a : Act} {Q : Exit → Act → World → Prop}
theorem wpList_clear_ints (hgd : o.guard = none) (x : Operand) (t : TypeId) (ho : o.op = .call { callee := .builtin .clear, args := #[x], argTypes := #[t] })
    (e : TypeId) (ht : P.underlying t = some (.slice e)) (hz : ∀ w, (Go.zeroValue e).run P w = .ok (.int .i64 0) w)
    {n cap m M off g c : Nat} {xs : List Int} (hx : a.eval x = .slice (some ⟨g, off, none⟩) M c) (hM : M = m + 1) (hown : Own KInt e w S (.slice (some ⟨g, 0, none⟩) n cap) n xs) (hm : off + (m + 1) ≤ n)
    (h : ∀ w', Own KInt e w' S (.slice (some ⟨g, 0, none⟩) n cap) n (splice xs off (List.replicate (m + 1) 0)) → Turn S w w' → wpList P ops Q rest (a.put o.dst (.tuple #[])) w') : wpList P ops Q (o :: rest) a w := by
  subst hM
  have hxl := hown.1
  obtain ⟨hg, cur, hr, h1, h2, h3, h4⟩ := hown.rowI
  obtain ⟨zs, hzs⟩ : ∃ zs : List Value, zs = List.replicate (m + 1) (.int .i64 0) := ⟨_, rfl⟩
  have hzc : (Builtin.zeroCells (Value.int .i64 0).cells (m + 1)).toList = zs := by
    apply List.ext_getElem?
    intro j
    rw [hzs, List.getElem?_replicate]
    by_cases hj : j < m + 1
    · rw [if_pos hj]; simp [Builtin.zeroCells, Value.cells, hj, Nat.mod_one]
    · rw [if_neg hj]; simp [Builtin.zeroCells, Value.cells, hj]
  have hstore := run_storeCells_at (P := P) g off e zs 0 cur w hr (by rw [hzs, List.length_replicate]; omega) (fun u hu => by rw [hzs] at hu; rw [List.eq_of_mem_replicate hu]; rfl)
  rw [Nat.add_zero] at hstore
  have hrun : (Builtin.clear_ #[t] o.type #[.slice (some ⟨g, off, none⟩) (m + 1) c]).run P w = .ok (.tuple #[]) (w.setRow g (cur.toList.take off ++ zs ++ cur.toList.drop (off + zs.length)).toArray) := by
    simp only [Builtin.clear_, List.getElem?_toArray, List.getElem?_cons_zero, Sem.run_bind, run_underlying ht, Result.andThen_ok, hz, hzc, hstore, Sem.run_pure]
  refine wpList_plain hgd fun K' hK' => ?_
  unfold Oper.wp execOp
  simp only [ho, resolve, invoke, builtin, Sem.run_bind, Sem.run_pure, Result.andThen_ok, List.map_toArray, List.map_cons, List.map_nil, hx, hrun]
  have hrow := setRow_heap w g cur (cur.toList.take off ++ zs ++ cur.toList.drop (off + zs.length)).toArray e _ hr
  have hzl : zs.length = m + 1 := by rw [hzs, List.length_replicate]
  have hcl : cur.toList.length = cap := by rw [Array.length_toList, h3, Nat.mul_one]
  refine hK' _ _ (h _ (Own.of_rowI (B := 0) ⟨?_, .inr ⟨g, cap, _, rfl, Nat.zero_le _, hrow, h1, h2, ?_, ?_⟩⟩ hg) ((Turn.setRow w g _).mono (fun k hk _ => by rw [show k = g from hk]; exact hg)))
  · rw [List.length_map, length_splice _ _ _ (by rw [List.length_replicate]; omega)]; omega
  · simp only [List.size_toArray, List.length_append, List.length_take, List.length_drop, hzl, hcl]; omega
  · rw [Nat.mul_one, List.toList_toArray]
    apply List.ext_getElem?
    intro j
    by_cases hj : j < n
    · rw [List.getElem?_take_of_lt hj, List.getElem?_map]
      have hcj : ∀ q, q < n → cur.toList[q]? = (xs.map (Value.int .i64))[q]? := fun q hq => by rw [← h4, List.getElem?_take_of_lt hq]
      unfold splice
      by_cases j1 : j < off
      · rw [List.append_assoc, List.getElem?_append_left (by rw [List.length_take, hcl]; omega), List.getElem?_take_of_lt j1, hcj j hj, List.getElem?_map, List.getElem?_append_left (by rw [List.length_take]; omega), List.getElem?_take_of_lt j1]
      · by_cases j2 : j < off + (m + 1)
        · rw [List.append_assoc, List.getElem?_append_right (by rw [List.length_take, hcl]; omega), List.getElem?_append_left (by rw [hzl, List.length_take, hcl]; omega), List.getElem?_append_right (by rw [List.length_take]; omega), List.getElem?_append_left (by rw [List.length_replicate, List.length_take]; omega), hzs, List.getElem?_replicate, List.getElem?_replicate]
          rw [if_pos (by rw [List.length_take, hcl]; omega), if_pos (by rw [List.length_take]; omega)]; rfl
        · rw [List.append_assoc, List.getElem?_append_right (by rw [List.length_take, hcl]; omega), List.getElem?_append_right (by rw [hzl, List.length_take, hcl]; omega), List.getElem?_append_right (by rw [List.length_take]; omega), List.getElem?_append_right (by rw [List.length_replicate, List.length_take]; omega), List.getElem?_drop, List.getElem?_drop, ← List.getElem?_map]
          rw [show off + zs.length + (j - (cur.toList.take off).length - zs.length) = j by rw [List.length_take, hcl, hzl]; omega, hcj j hj, List.length_replicate]
          congr 1
          rw [List.length_take]; omega
    · rw [List.getElem?_take_eq_none (by omega), List.getElem?_eq_none (by rw [List.length_map, length_splice _ _ _ (by rw [List.length_replicate]; omega)]; omega)]
end
end Go.Proofs.YtcnpckaacigbfaaGreat

/- Chapter 5 of the program: magazines emptied; words of free pages. -/
namespace Go.Proofs.YtcnpckaacigbfaaGreat
open Go.RowKit

theorem takeAll_calls {g : Nat} {a : Option Addr} {l c : Nat} {w : World} (hr : Row w g 136 #[.slice a l c]) :
    Calls Tryz.prog 104 #[.pointer (some ⟨g, 0, none⟩)] w fun e w' => e = .returned (.slice a l c) ∧ Row w' g 136 #[.slice none 0 0] ∧ Turn (fun k => k = g) w w' := by
  have h0 := hr.lt
  have h1 := hr.cell 0
  have h2 := frozen_of_row w g 0 _ _ hr
  simp at h1
  have HR := Lib.hid (show Row (w.setCell ⟨g, 0, none⟩ (.slice none 0 0)) g 136 #[.slice none 0 0] by
    have := heap_setCell_same w g 0 _ _ (.slice none 0 0) hr
    simpa [Row] using this)
  clear hr
  go_enter Tryz.func104, Tryz.ntmps104
  go_wp2_with fail
  go_ret
  exact ⟨rfl, HR.out, Turn.set w ⟨g, 0, none⟩ _⟩

set_option maxRecDepth 100000 in
set_option maxHeartbeats 2000000 in
theorem wordsFor_calls {ao wa : Option Addr} {n cc wn wk : Nat} {ps : List Pg} {ws : List Int} {S S' : Nat → Prop} {w : World} (hT : Lst KPage w S ao n ps) (hW : Lst KInt w S' wa wn ws) (hl : ws.length = ps.length * 16) (hp40 : ps.length ≤ 40) :
    Calls Tryz.prog 106 #[.slice ao n cc, .slice wa wn wk] w fun e w' => ∃ v, e = .returned v ∧ Own KInt 2 w' (fun k => w.heap.size ≤ k) v wn (sweepW ws 0 ps) ∧ Below w.heap.size w w' := by
  have HL := Lib.hid hT.1
  have HW := Lib.hid hW.1
  have HWn := Lib.hid (show wn = n * 16 by have := hT.1; have := hW.1; omega)
  have hn : n ≤ 40 := by have := hT.1; omega
  have hwn : wn ≤ 640 := by rw [HWn.out]; omega
  have hz : ∀ w, (Go.zeroValue 2).run Tryz.prog w = .ok (.int .i64 0) w := fun w => Tryz.zeroValue2 w
  have HZ := Lib.hid hz
  clear hl hz
  go_enter Tryz.func106, Tryz.ntmps106
  go_wp2_with fail
  refine (cloneI_calls hW (by omega)).mono ?_
  rintro e w1 ⟨v, rfl, hO, hb1⟩
  obtain ⟨vo, vc, rfl, hv1, hv2, _⟩ := hO.shape
  have hO0 : Own KInt 2 w1 (fun k => w.heap.size ≤ k) (.slice vo wn vc) wn (sweepW ws 0 (ps.take 0)) := by simpa [sweepW] using hO
  clear hO
  go_wp2_with fail
  go_loopw [6, 7, 12] (fun _ _ i wr => ∃ k : Nat, k ≤ n ∧ i = .int .i64 k ∧ Own KInt 2 wr (fun k => w.heap.size ≤ k) (.slice vo wn vc) wn (sweepW ws 0 (ps.take k)) ∧ Below w.heap.size w wr) (fun _ _ i _ => n - (intOf i).toNat)
  case atStart => exact ⟨0, Nat.zero_le _, rfl, hO0, hb1⟩
  case round =>
    clear hO0 hb1
    obtain ⟨k, hk, rfl, hO, hbw⟩ := hrel
    by_cases hlt : k < n
    · obtain ⟨b0, o0, p, a0, l0, c0, rfl, d0, hp, e0, e1, e2, e3, hlc0, hcm0, hu0⟩ := (hT.below hbw).pg_at hlt
      have HP := Lib.hid hp
      clear hp hcm0 hu0
      have HO := Lib.hid (hO.alloc (.cells #[.int .i64 p.kind, .int .i64 p.cls, .slice a0 l0 c0, .int .i64 p.run] 55))
      have HB := Lib.hid (hbw.alloc hbw.size (.cells #[.int .i64 p.kind, .int .i64 p.cls, .slice a0 l0 c0, .int .i64 p.run] 55))
      by_cases h0 : p.kind = 0
      · obtain ⟨g, rfl⟩ : ∃ g, vo = some ⟨g, 0, none⟩ := by
          rcases hO.2 with ⟨hx, _⟩ | ⟨g, _, _, _, hv, _⟩
          · injection hx with e1 e2 e3; exfalso; have := HWn.out; omega
          · cases hv; exact ⟨g, rfl⟩
        have hf2 : (k + 1) * 16 ≤ wn := by rw [HWn.out]; omega
        have hf3 : k * 16 < vc := by omega
        have HN : Hid (sweepW ws 0 (ps.take (k + 1)) = splice (sweepW ws 0 (ps.take k)) (k * 16) (List.replicate (15 + 1) 0)) := by
          show _ = _; rw [sweepW_take HP.out, if_pos h0]; rfl
        rw [h0] at e0 HO HB
        clear h0 hO hbw
        go_wp2_with (
          with_reducible show wpList _ _ _ (Go.Oper.mk none (Go.Op.call _) _ _ _ _ :: _) _ _
          go_must (refine wpList_clear_ints rfl (.tmp 26) 27 rfl 2 Tryz.underlying27 HZ.out (m := 15) (off := k * 16) (g := g) rfl (by omega) HO.out (by omega) ?_)
          intro w3 ho3 ht3
          have H3 : Hid (Own KInt 2 w3 (fun k => w.heap.size ≤ k) (.slice (some ⟨g, 0, none⟩) wn vc) wn (sweepW ws 0 (ps.take (k + 1))) ∧ Below w.heap.size w w3) := by
            refine ⟨?_, ht3.below HB.out HB.out.size (fun q hq => hq)⟩
            rw [HN.out]; exact ho3
          clear ho3 ht3)
        go_roundw
        case rel => exact ⟨k + 1, by omega, by go_num, H3.out.1, H3.out.2⟩
        case measure => simp [intOf]; omega
      · have HN : Hid (sweepW ws 0 (ps.take (k + 1)) = sweepW ws 0 (ps.take k)) := by
          show _ = _; rw [sweepW_take HP.out, if_neg h0]
        have hq : (p.kind == 0) = false := by simpa using h0
        have H3 : Hid (Own KInt 2 (wr.alloc (.cells #[.int .i64 p.kind, .int .i64 p.cls, .slice a0 l0 c0, .int .i64 p.run] 55)) (fun k => w.heap.size ≤ k) (.slice vo wn vc) wn (sweepW ws 0 (ps.take (k + 1)))) := by
          show Own _ _ _ _ _ _ _; rw [HN.out]; exact HO.out
        clear h0 hO hbw
        go_wp2_with fail
        go_roundw
        case rel => exact ⟨k + 1, by omega, by go_num, H3.out, HB.out⟩
        case measure => simp [intOf]; omega
    · have HF : Hid (Own KInt 2 wr (fun k => w.heap.size ≤ k) (.slice vo wn vc) wn (sweepW ws 0 ps) ∧ Below w.heap.size w wr) := by
        rw [List.take_of_length_le (by have := HL.out; omega)] at hO
        exact ⟨hO, hbw⟩
      clear hO hbw
      go_wp2_with fail
      go_ret
      exact ⟨_, rfl, HF.out.1, HF.out.2⟩

/-- Magazines all of which are nil, in a list of pointers. -/
theorem Lst.pmo_at {w : World} {S : Nat → Prop} {ao : Option Addr} {n : Nat} (h : Lst KPMO w S ao n (List.replicate n none)) {j : Nat} (hj : j < n) :
    ∃ b off g, ao = some ⟨b, off, none⟩ ∧ b < w.heap.size ∧ w.cell? ⟨b, off + j, none⟩ = some (.pointer (some ⟨g, 0, none⟩)) ∧ Row w g 136 #[.slice none 0 0] := by
  obtain ⟨b, off, cs, x, rfl, hb, hs, hx, hl, hcs, ⟨g, row, rfl, hg, hr, hrow⟩⟩ := h.at_ hj
  have h0 := hcs 0 (show 0 < 1 by omega)
  rw [show KPMO.sz = 1 from rfl, Nat.mul_one] at h0
  rw [List.getElem?_replicate, if_pos hj] at hx
  injection hx with hx; subst hx
  obtain ⟨row⟩ := row
  have : row = [.slice none 0 0] := hrow
  subst this
  exact ⟨b, off, g, rfl, hb, h0, hr⟩

set_option maxRecDepth 100000 in
set_option maxHeartbeats 2000000 in
theorem listsOf_calls {ao : Option Addr} {n cc : Nat} {S : Nat → Prop} {w : World} (hT : Lst KPMO w S ao n (List.replicate n none)) (hn : n ≤ 1048576) :
    Calls Tryz.prog 107 #[.slice ao n cc] w fun e w' => ∃ v, e = .returned v ∧ Own KMag 27 w' (fun k => w.heap.size ≤ k) v n (List.replicate n []) ∧ Below w.heap.size w w' := by
  obtain ⟨im, him, hm0, hm1, hm2⟩ := info_parts infoMg
  go_enter Tryz.func107, Tryz.ntmps107
  go_wp2_with (
    at_make
    go_must (refine wpList_make_own _ rfl _ _ 28 rfl w.heap.size 27 im (.slice none 0 0) 1 Tryz.underlying28 him hm0 hm1 _ _ _ n rfl rfl rfl (by rw [hm2]; omega) (by unfold maxLen; omega) (Nat.le_refl _) ?_)
    intro w1 hown hg1
    have hO0 : Own KMag 27 w1 (fun q => w.heap.size ≤ q) (.slice (some ⟨w.heap.size, 0, none⟩) 0 n) 0 (List.replicate 0 []) := by
      refine Own.of_row (cells := []) (F := fun _ _ => False) (K := KMag) ?_ rfl (fun g' h => ?_) (fun _ _ h => h.elim) (fun _ _ _ h => h.elim) (fun j x hj => by simp at hj)
      · obtain ⟨h1, h2⟩ := hown
        refine ⟨h1, ?_⟩
        rcases h2 with h2 | ⟨g', cap', cur, hv, _, r⟩
        · exact .inl h2
        · exact .inr ⟨g', cap', cur, hv, Nat.zero_le _, r⟩
      · simp [Value.ownBlock] at h; omega
    have hB0 : Below w.heap.size w w1 := (Below.refl _ _).grown hg1 (Nat.le_refl _) (by simp)
    clear hown hg1)
  go_loopw [3, 5, 11] (fun v _ i wr => ∃ k : Nat, k ≤ n ∧ i = .int .i64 k ∧ Own KMag 27 wr (fun q => w.heap.size ≤ q) v k (List.replicate k []) ∧ Below w.heap.size w wr) (fun _ _ i _ => n - (intOf i).toNat)
  case atStart => exact ⟨0, Nat.zero_le _, rfl, hO0, hB0⟩
  case round =>
    clear hO0 hB0
    obtain ⟨k, hk, rfl, hO, hbw⟩ := hrel
    obtain ⟨vo, vc, rfl, hvc1, hvc2, _⟩ := hO.shape
    by_cases hlt : k < n
    · obtain ⟨b0, o0, g, rfl, d0, e0, hr⟩ := (hT.below hbw).pmo_at hlt
      have r0 := hr.cell 0
      have rl := hr.lt
      simp at r0
      have HO := Lib.hid (hO.alloc (.cells #[.slice none 0 0] 27))
      have HB := Lib.hid (hbw.alloc hbw.size (.cells #[.slice none 0 0] 27))
      have hc3 : (wr.alloc (.cells #[.slice none 0 0] 27)).cell? ⟨wr.heap.size, 0, none⟩ = some (.slice none 0 0) := by
        simp
      have HC := Lib.hid hc3
      have hsz := hbw.size
      clear hr hO hbw hc3
      go_wp2_with (
        at_builtin
        go_must (refine wpList_append_elem (K := KMag) (G := fun _ => False) rfl (.tmp 15) (.tmp 20) 28 rfl 27 im (.slice none 0 0) 24 Tryz.underlying28 him hm0 hm1 hm2 rfl (by decide) one_mag (b := wr.heap.size) (c := 1) (y := ([] : List Int)) (cs := [.slice none 0 0]) rfl HO.out rfl (fun j u hu => ?_) (KMag_own_mk Own.nil) (fun _ h => h.elim) (by unfold maxLen; omega) (by omega) ?_)
        · cases j with
          | zero => simp at hu; subst hu; exact HC.out
          | succ j => simp at hu
        intro v3 w3 ho3 ht3
        have H3 : Hid (Own KMag 27 w3 (fun q => w.heap.size ≤ q) v3 (k + 1) (List.replicate (k + 1) []) ∧ Below w.heap.size w w3) := by
          refine ⟨?_, ht3.below HB.out HB.out.size (fun q hq => hq)⟩
          rw [List.replicate_succ']
          refine ho3.mono (fun q hq _ => ?_)
          rcases hq with hq | hq | hq
          · exact hq
          · exact hq.elim
          · simp at hq; omega
        clear ho3 ht3)
      go_roundw
      case rel => exact ⟨k + 1, by omega, by go_num, H3.out.1, H3.out.2⟩
      case measure => simp [intOf]; omega
    · obtain rfl : k = n := by omega
      have HF := Lib.hid (And.intro hO hbw)
      clear hO hbw
      go_wp2_with fail
      go_ret
      exact ⟨_, rfl, HF.out.1, HF.out.2⟩
end Go.Proofs.YtcnpckaacigbfaaGreat

/- Chapter 5 of the program: a heap drained. -/
namespace Go.Proofs.YtcnpckaacigbfaaGreat
open Go.RowKit

/-- Three cells, and all that was there, are kept. -/
theorem keepH {W a b : World} {p q r : Addr} {x y z : Value} (h : a.cell? p = some x ∧ a.cell? q = some y ∧ a.cell? r = some z ∧ Below W.heap.size W a) (hb : Below a.heap.size a b) :
    b.cell? p = some x ∧ b.cell? q = some y ∧ b.cell? r = some z ∧ Below W.heap.size W b := by
  obtain ⟨h1, h2, h3, h4⟩ := h
  exact ⟨(hb.cell (World.block_lt_of_cell? _ _ h1)).trans h1, (hb.cell (World.block_lt_of_cell? _ _ h2)).trans h2, (hb.cell (World.block_lt_of_cell? _ _ h3)).trans h3, h4.trans (hb.mono h4.size)⟩

/-- Of these magazines the first k are empty. -/
def mixM (ms : List (List Int)) (k : Nat) : List (Option (List Int)) := List.replicate k none ++ (ms.drop k).map some
theorem mixM_at {ms : List (List Int)} {k : Nat} {m : List Int} (h : ms[k]? = some m) : (mixM ms k)[k]? = some (some m) := by
  unfold mixM
  rw [List.getElem?_append_right (by simp), List.length_replicate, Nat.sub_self, List.getElem?_map, List.getElem?_drop, Nat.add_zero, h]; rfl
theorem mixM_step {ms : List (List Int)} {k : Nat} {m : List Int} (h : ms[k]? = some m) : (mixM ms k).set k none = mixM ms (k + 1) := by
  unfold mixM
  rw [List.set_append_right _ _ (by simp), List.length_replicate, Nat.sub_self, drop_at h, List.map_cons, List.set_cons_zero, List.replicate_succ', List.append_assoc]; rfl
theorem mixM_full {ms : List (List Int)} {n : Nat} (h : ms.length = n) : mixM ms n = List.replicate n none := by
  unfold mixM
  rw [List.drop_of_length_le (by omega)]; simp

/-- What is owned while a heap is drained: pages, magazines. -/
structure DrSt (V w : World) (vp : Value) (pn : Nat) (ps : List Pg) (vm : Value) (mn : Nat) (os : List (Option (List Int))) : Prop where
  ex : ∃ Sp Sm : Nat → Prop, Own KPage 55 w Sp vp pn ps ∧ Own KPMO 86 w Sm vm mn os ∧ (∀ q, Sp q → V.heap.size ≤ q) ∧ (∀ q, Sm q → V.heap.size ≤ q) ∧ (∀ q, Sp q → ¬ Sm q) ∧ Below V.heap.size V w
theorem DrSt.take {V w : World} {vp vm : Value} {pn mn k : Nat} {ps : List Pg} {ms : List (List Int)} {m : List Int} (h : DrSt V w vp pn ps vm mn (mixM ms k)) (hk : k < mn) (hm : ms[k]? = some m) :
    ∃ g cap b a l c, vm = .slice (some ⟨g, 0, none⟩) mn cap ∧ g < w.heap.size ∧ w.cell? ⟨g, k, none⟩ = some (.pointer (some ⟨b, 0, none⟩)) ∧ Row w b 136 #[.slice a l c] ∧ l ≤ c ∧ c ≤ maxLen ∧
      ∀ w', Row w' b 136 #[.slice none 0 0] → Turn (fun q => q = b) w w' → DrSt V w' vp pn ps vm mn (mixM ms (k + 1)) ∧ Lst KInt w' (fun _ => True) a l m := by
  obtain ⟨Sp, Sm, h1, h2, d1, d2, d3, hb⟩ := h.ex
  obtain ⟨g, cap, cs, F, x, rfl, hgS, hx, hcl, hu0, ho0, hF, hst⟩ := h2.here.focus hk
  rw [mixM_at hm] at hx
  injection hx with hx; subst hx
  obtain ⟨b, row, S', rfl, hFb, hrow, hown, hS'⟩ := ho0
  obtain ⟨row⟩ := row
  obtain ⟨v, n, hv, ho⟩ := hown
  have hv' : row = [v] := hv
  subst hv'
  obtain ⟨a, c, rfl, hlc, hcm, hL⟩ := ho.shape
  obtain ⟨c1, c2, _⟩ := hu0.cell
  have c3 := c2 0 (by simp)
  rw [show KPMO.sz = 1 from rfl, Nat.mul_one] at c3 hu0 hst
  refine ⟨g, cap, b, a, n, c, rfl, c1, by simpa using c3, hrow, hlc, hcm, fun w' hr' ht => ⟨?_, (hL.turn ht (fun q hq _ e => (hS' q hq).2 e)).mono (fun _ _ _ => trivial)⟩⟩
  have hbg : ¬ b = g := fun e => (hF b hFb).2.1 e
  have hnew := hst w' F [.pointer (some ⟨b, 0, none⟩)] none rfl (ht.mono (fun q hq _ => .inl (by rw [show q = b from hq]; exact hFb))) (hu0.turn ht (fun e => hbg e.symm)) ⟨b, _, fun _ => False, rfl, hFb, hr', rfl, fun _ h => h.elim⟩ (fun q hq => .inl hq)
  rw [mixM_step hm] at hnew
  have hbS := (hF b hFb).1.1
  refine ⟨Sp, Sm, h1.turn ht (fun q hq _ e => d3 q hq (by rw [show q = b from e]; exact hbS)), hnew.mono (fun q hq _ => hq.elim (fun h => h.1) (fun h => (hF q h).1.1)), d1, d2, d3, ht.below hb hb.size (fun q hq => by rw [show q = b from hq]; exact d2 b hbS)⟩
theorem KPM_some {w : World} {S : Nat → Prop} {cs : List Value} {m : List Int} (h : KPM.own w S cs m) : KPMO.own w S cs (some m) := h
/-- One step: the next place that is kept is dropped. -/
theorem drain_step {h : Hp} (hf : heapFault h = 0) {k j : Nat} {m : List Int} {a : Int} (hm : h.mags[k]? = some m) (ha : m[j]? = some a) :
    pagesFault (dropAll h.pages ((h.mags.take k).flatten ++ m.take j)) = 0 ∧ dropBlock (dropAll h.pages ((h.mags.take k).flatten ++ m.take j)) a = (0, dropAll h.pages ((h.mags.take k).flatten ++ m.take (j + 1)), a) := by
  have hv := (heapFault_ok hf).1
  have hk := kept_ok hf
  have e1 : h.kept = ((h.mags.take k).flatten ++ m.take j) ++ (a :: (m.drop (j + 1) ++ (h.mags.drop (k + 1)).flatten)) := by
    have h1 : h.mags.flatten = (h.mags.take k).flatten ++ (h.mags.drop k).flatten := by rw [← List.flatten_append, List.take_append_drop]
    have h2 : m = m.take j ++ m.drop j := (List.take_append_drop j m).symm
    unfold Hp.kept
    rw [h1, drop_at hm, List.flatten_cons, List.append_assoc]
    congr 1
    rw [← List.cons_append, ← drop_at ha, ← List.append_assoc, ← h2]
  rw [e1] at hk
  obtain ⟨h1, h2⟩ := keptAfter _ _ _ hv hk
  obtain ⟨h3, h4, _⟩ := h2.step h1
  refine ⟨h1, ?_⟩
  rw [h4, List.take_add_one, ha, Option.toList_some, ← List.append_assoc, dropAll_snoc]

theorem run_field_PR1 (u : World) (x v y : Value) : (Instr.field 122 (.agg #[x, v, y]) 1).run Tryz.prog u = .ok v u := by
  simp [Instr.field, run_underlying Tryz.underlying122, part, isAgg, run_underlying Tryz.underlying26, asAgg]

set_option maxRecDepth 100000 in
set_option maxHeartbeats 4000000 in
theorem drained_calls {pa wa ma : Option Addr} {pn pc wn wk mn mc : Nat} {h : Hp} {S : Nat → Prop} {w : World} (hk : HpK w S pa pn pc wa wn wk ma mn mc h) (hf : heapFault h = 0) :
    Calls Tryz.prog 49 #[.agg #[.slice pa pn pc, .slice wa wn wk, .slice ma mn mc]] w (MakesHeap w (drainHp h)) := by
  have HK := Lib.hid hk
  have HF := Lib.hid hf
  have HP := Lib.hid hk.r.pg.1
  have HM := Lib.hid hk.r.mg.1
  obtain ⟨n1, n2, n3, n4, n5⟩ := hk.small
  have hmn : mn ≤ 8 := by have := (mags_small hf).1; have := HM.out; omega
  clear hk hf
  go_enter Tryz.func49, Tryz.ntmps49
  go_upto_region 1 with (fail)
  obtain ⟨V, hV⟩ : ∃ V, V = (w.alloc (.cells #[.slice pa pn pc, .slice wa wn wk, .slice ma mn mc] 30)).alloc (.cells #[.slice none 0 0, .slice none 0 0, .slice none 0 0] 30) := ⟨_, rfl⟩
  rw [← hV]
  have hB0 : Below w.heap.size w V := by rw [hV]; exact ((Below.refl _ _).alloc (Nat.le_refl _) _).alloc (by simp) _
  have R0 : Row V w.heap.size 30 #[.slice pa pn pc, .slice wa wn wk, .slice ma mn mc] := by
    rw [hV]; exact Row.below (heap_alloc_new w _) ((Below.refl _ _).alloc (Nat.le_refl _) _)
  have R1 : Row V (w.heap.size + 1) 30 #[.slice none 0 0, .slice none 0 0, .slice none 0 0] := by
    rw [hV]
    have := heap_alloc_new (w.alloc (.cells #[.slice pa pn pc, .slice wa wn wk, .slice ma mn mc] 30)) (.cells #[.slice none 0 0, .slice none 0 0, .slice none 0 0] 30)
    simpa [Row] using this
  have HVs := Lib.hid (show V.heap.size = w.heap.size + 2 by rw [hV]; simp)
  have HB0 := Lib.hid hB0
  have HR0 := Lib.hid R0
  have HR1 := Lib.hid R1
  have q0 := R0.cell 0
  have q1 := R0.cell 1
  have q2 := R0.cell 2
  have kB := Below.refl V.heap.size V
  simp at q0 q1 q2
  clear hV hB0 R0 R1
  go_region_held3 (fun w' => w'.cell? ⟨w.heap.size, 0, none⟩ = some (.slice pa pn pc) ∧ w'.cell? ⟨w.heap.size, 1, none⟩ = some (.slice wa wn wk) ∧ w'.cell? ⟨w.heap.size, 2, none⟩ = some (.slice ma mn mc) ∧ Below V.heap.size V w') (first | with_reducible assumption | with_reducible exact ⟨q0, q1, q2, kB.drew⟩ | exact ⟨q0, q1, q2, kB.drew⟩)
  (first
    | (go_at_call 103; obtain ⟨y0, y1, y2, kb⟩ := ‹_ ∧ _ ∧ _ ∧ Below _ _ _›; refine (copyPages_calls ((HK.out.r.pg.below HB0.out).below kb) HK.out.short n1).mono ?_; rintro e wP ⟨vP, rfl, oP, bP⟩; have hS' := keepH ⟨y0, y1, y2, kb⟩ bP)
    | (go_at_call 59; obtain ⟨y0, y1, y2, kb⟩ := ‹_ ∧ _ ∧ _ ∧ Below _ _ _›; refine (magazinesOf_calls ((HK.out.r.mg.below HB0.out).below kb) HK.out.s.k n3).mono ?_; rintro e wM ⟨vM, rfl, oM, bM⟩; have hS'' := keepH ⟨y0, y1, y2, kb⟩ bM))
  obtain ⟨_, _, _, kbM⟩ := hS''
  obtain ⟨_, _, _, kbP⟩ := hS'
  have HD0 : Hid (DrSt V wM vP pn (dropAll h.pages ((h.mags.take 0).flatten ++ [])) vM mn (mixM h.mags 0)) := by
    refine ⟨fun q => V.heap.size ≤ q ∧ q < wP.heap.size, fun q => wP.heap.size ≤ q, (oP.here.mono (fun q hq hl => ⟨hq.1, hl⟩)).below bM, oM.map rfl (by simp [mixM]; exact HM.out) (fun w S cs j x y hx hy ho => ?_), fun q hq => hq.1, fun q hq => Nat.le_trans kbP.size hq, fun q hq hq2 => by omega, kbM⟩
    simp only [mixM, List.replicate_zero, List.nil_append, List.drop_zero, List.getElem?_map, hx, Option.map_some, Option.some.injEq] at hy
    subst hy
    exact KPM_some ho
  obtain ⟨po, pk, rfl, _, _, _⟩ := oP.shape
  obtain ⟨mo, mk, rfl, hmk1, hmk2, _⟩ := oM.shape
  clear oP oM bP bM kbM kbP q0 q1 q2 kB
  go_wp2_with fail
  go_loopw [3, 6, 8, 16] (fun vp _ _ i wr => ∃ k : Nat, k ≤ mn ∧ i = .int .i64 k ∧ DrSt V wr vp pn (dropAll h.pages ((h.mags.take k).flatten ++ [])) (.slice mo mn mk) mn (mixM h.mags k)) (fun _ _ _ i _ => mn - (intOf i).toNat)
  case atStart => exact ⟨0, Nat.zero_le _, rfl, HD0.out⟩
  case round =>
    clear HD0
    obtain ⟨k, hk, rfl, HD⟩ := hrel
    obtain ⟨Sp0, Sm0, hp0, _⟩ := HD.ex
    obtain ⟨vo0, vk0, rfl, _, _, _⟩ := hp0.shape
    clear hp0
    by_cases hlt : k < mn
    · obtain ⟨m, hm⟩ : ∃ m, h.mags[k]? = some m := ⟨_, List.getElem?_eq_getElem (by have := HM.out; omega)⟩
      obtain ⟨g, cap, b, a, l, c, hv, hg, hcell, hrow, hlc, hcm, hup⟩ := HD.take hlt hm
      obtain ⟨rfl, rfl⟩ : mo = some ⟨g, 0, none⟩ ∧ mk = cap := by injection hv with h1 _ h3; exact ⟨h1, h3⟩
      have HMm := Lib.hid hm
      have HU := Lib.hid hup
      clear hv hup hm HD
      go_wp2_with fail
      refine (takeAll_calls hrow).mono ?_
      rintro e w2 ⟨rfl, hr2, ht2⟩
      obtain ⟨HD2, hL2⟩ := HU.out w2 hr2 ht2
      obtain ⟨Sp, Sm, h1, h2, d1, d2, d3, hb⟩ := HD2.ex
      have H1 := Lib.hid h1.here
      have H2 := Lib.hid h2.here
      have HDs := Lib.hid (And.intro d1 (And.intro d2 (And.intro d3 hb)))
      have HLm := Lib.hid hL2.1
      have hl20 : l ≤ 1048576 := by have := HK.out.s.k.at_ HMm.out; have := HLm.out; omega
      clear HU hr2 ht2 HD2 h1 h2 d1 d2 d3 hb hrow hcell
      have hO0 : Own KPage 55 w2 (fun q => (Sp q ∧ q < w2.heap.size) ∨ w2.heap.size ≤ q) (.slice vo0 pn vk0) pn (dropAll h.pages ((h.mags.take k).flatten ++ m.take 0)) := H1.out.mono (fun q hq _ => .inl hq)
      go_wp2_with fail
      go_loopw [3, 8, 23] (fun vp _ i wr => ∃ j : Nat, j ≤ l ∧ i = .int .i64 j ∧ Own KPage 55 wr (fun q => (Sp q ∧ q < w2.heap.size) ∨ w2.heap.size ≤ q) vp pn (dropAll h.pages ((h.mags.take k).flatten ++ m.take j)) ∧ Below w2.heap.size w2 wr) (fun _ _ i _ => l - (intOf i).toNat)
      case atStart => exact ⟨0, Nat.zero_le _, rfl, hO0, Below.refl _ _⟩
      case round =>
        clear hO0
        obtain ⟨j, hj, rfl, hO, hbw⟩ := hrel
        obtain ⟨vo, vk, rfl, hvk1, hvk2, hLp⟩ := hO.shape
        by_cases hjl : j < l
        · obtain ⟨b0, o0, rfl, d0, e0⟩ := (hL2.ints.below hbw).at_ hjl
          obtain ⟨x, hx⟩ : ∃ x, m[j]? = some x := ⟨_, List.getElem?_eq_getElem (by have := HLm.out; omega)⟩
          have hgx : m.getD j 0 = x := by rw [List.getD_eq_getElem?_getD, hx]; rfl
          rw [hgx] at e0
          obtain ⟨s1, s2⟩ := drain_step HF.out HMm.out hx
          have HS2 := Lib.hid s2
          have hsh : Hid (ShortP 17592186044416 (dropAll h.pages ((h.mags.take k).flatten ++ m.take j))) := fun p hp => Nat.le_trans (pagesFault_short s1 p hp) (by decide)
          have hlen3 := Lib.hid (length_dropAll ((h.mags.take k).flatten ++ m.take (j + 1)) h.pages)
          have hvk3 : vk ≤ 9223372036854775807 := Nat.le_trans hvk2 (by decide)
          have hf1 := run_field_PR1
          clear hx hgx s1 s2 hO
          go_wp2_with fail
          refine (dropBlock_calls hLp hsh.out hvk1 hvk3 (by omega)).mono ?_
          rw [HS2.out]
          rintro e w3 ⟨v3, n3, rfl, ho3, hb3⟩
          have hn3 : pn = n3 := (ho3.1.symm.trans (hlen3.out.trans HP.out)).symm
          subst hn3
          have hbs := hbw.size
          have H3 := Lib.hid (And.intro (ho3.mono (S' := fun q => (Sp q ∧ q < w2.heap.size) ∨ w2.heap.size ≤ q) (fun q hq _ => .inr (Nat.le_trans hbw.size hq))) (hbw.trans (hb3.mono hbw.size)))
          clear ho3 hb3 hLp hbw
          go_wp2_with fail
          go_roundw
          case rel => exact ⟨j + 1, by omega, by go_num, H3.out.1, H3.out.2⟩
          case measure => simp [intOf]; omega
        · have HN : Hid (DrSt V wr (.slice vo pn vk) pn (dropAll h.pages ((h.mags.take (k + 1)).flatten ++ [])) (.slice (some ⟨g, 0, none⟩) mn mk) mn (mixM h.mags (k + 1))) := by
            rw [show m.take j = m from List.take_of_length_le (by have := HLm.out; omega), ← flatten_snoc HMm.out, ← List.append_nil (h.mags.take (k + 1)).flatten] at hO
            refine ⟨_, fun q => Sm q ∧ q < w2.heap.size, hO, H2.out.below hbw, ?_, fun q hq => HDs.out.2.1 q hq.1, ?_, HDs.out.2.2.2.trans (hbw.mono HDs.out.2.2.2.size)⟩
            · rintro q (hq | hq)
              · exact HDs.out.1 q hq.1
              · exact Nat.le_trans HDs.out.2.2.2.size hq
            · rintro q (hq | hq) hq2
              · exact HDs.out.2.2.1 q hq.1 hq2.1
              · omega
          clear hO hLp hbw
          go_wp2_with fail
          go_roundw
          case rel => exact ⟨k + 1, by omega, by go_num, HN.out⟩
          case measure => simp [intOf]; omega
    · have hkn : k = mn := by omega
      have hdr : dropAll h.pages ((h.mags.take k).flatten ++ []) = dropAll h.pages h.kept := by
        rw [List.take_of_length_le (by have := HM.out; omega), List.append_nil]; rfl
      have hmx : mixM h.mags k = List.replicate mn none := by rw [hkn]; exact mixM_full HM.out
      rw [hdr, hmx] at HD
      obtain ⟨Sp, Sm, h1, h2, d1, d2, d3, hb⟩ := HD.ex
      obtain ⟨vo, vk, hvv, hvk1, hvk2, hLp⟩ := h1.shape
      cases hvv
      have H1 := Lib.hid h1.here
      have H2 := Lib.hid h2.lst.2.2.2
      have HDs := Lib.hid (And.intro d1 hb)
      have R5 := HR0.out.below hb
      have HR5 := Lib.hid (HR1.out.below hb)
      have q1 := R5.cell 1
      have ql := R5.lt
      simp at q1
      have HLen := Lib.hid (show h.words.length = (dropAll h.pages h.kept).length * 16 by rw [length_dropAll]; exact (heapFault_ok HF.out).2.1)
      have HL40 := Lib.hid (show (dropAll h.pages h.kept).length ≤ 40 by rw [length_dropAll]; exact (pagesFault_ok (heapFault_ok HF.out).1).1)
      clear HD h1 h2 d1 d2 d3 hdr hmx
      go_wp2_with fail
      refine (wordsFor_calls hLp ((HK.out.r.wd.below HB0.out).below hb) HLen.out HL40.out).mono ?_
      rintro e w6 ⟨v6, rfl, ho6, hb6⟩
      have H6 := Lib.hid ho6.here
      have HB6 := Lib.hid (HDs.out.2.trans (hb6.mono HDs.out.2.size))
      have HP6 := Lib.hid (H1.out.below hb6)
      have HM6 := Lib.hid (H2.out.below hb6)
      have HR6 := Lib.hid (HR5.out.below hb6)
      have hs6 := hb6.size
      obtain ⟨wo6, wk6, rfl, _, _, _⟩ := ho6.shape
      clear ho6 hb6 R5 q1 ql hLp hb
      go_wp2_with fail
      refine (listsOf_calls HM6.out n3).mono ?_
      rintro e w7 ⟨v7, rfl, ho7, hb7⟩
      have hres := HR6.out.below hb7
      have hB7 := HB6.out.trans (hb7.mono HB6.out.size)
      have HW7 := Lib.hid (H6.out.below hb7)
      have HP7 := Lib.hid (HP6.out.below hb7)
      have HM7 := Lib.hid ho7
      have hs7 := hb7.size
      obtain ⟨mo7, mk7, rfl, _, _, _⟩ := ho7.shape
      clear ho7 hb7
      go_wp2_with (refine wpList_store_row rfl 30 _ _ rfl (w.heap.size + 1) _ rfl rfl _ _ hres (by kernel_rfl) (by rfl) (by simp [Value.oneCell']) ?_)
      refine bodyPost_ret (results_cell_row rfl _ _ (w.heap.size + 1) _ _ _ _ rfl (setRow_heap _ _ _ _ _ _ hres) Tryz.underlying30 rfl (by kernel_rfl)) rfl ?_
      have hV2 := HVs.out
      have hBw : Below w.heap.size w w7 := HB0.out.trans (hB7.mono (by omega))
      refine ⟨_, pn, _, wn, _, mn, rfl, HpO.mk3 (A := fun q => Sp q ∧ q < wr.heap.size) (B := fun q => wr.heap.size ≤ q ∧ q < w6.heap.size) (C := fun q => w6.heap.size ≤ q) (HP7.out.turn (Turn.setRow _ _ _) ?_) (HW7.out.turn (Turn.setRow _ _ _) ?_) ?_ ?_ ?_ ?_ ?_ ?_ ?_, below_setRow hBw (by omega) _⟩
      · intro q hq _ e
        have := HDs.out.1 q hq.1
        have e' : q = w.heap.size + 1 := e
        omega
      · intro q hq _ e
        have := HDs.out.2.size
        have e' : q = w.heap.size + 1 := e
        omega
      · have := HM7.out.turn (Turn.setRow w7 (w.heap.size + 1) #[.slice vo0 pn vk0, .slice wo6 wn wk6, .slice mo7 mn mk7]) (fun q hq _ e => by
          have := HDs.out.2.size
          have e' : q = w.heap.size + 1 := e
          omega)
        simp only [drainHp]
        rw [HM.out]
        exact this
      · intro q hq
        have := HDs.out.1 q hq.1
        omega
      · intro q hq
        have := HDs.out.2.size
        omega
      · intro q hq
        have := HDs.out.2.size
        omega
      · intro q hq hq2; omega
      · intro q hq hq2; omega
      · intro q hq hq2; omega
end Go.Proofs.YtcnpckaacigbfaaGreat

/- Chapter 5 of the program: a heap drained, and of another size. -/
namespace Go.Proofs.YtcnpckaacigbfaaGreat
open Go.RowKit

/-- The first page that is not free, or -1. -/
def idxU : List Pg → Nat → Int
  | [], _ => -1
  | p :: r, k => if p.kind = 0 then idxU r (k + 1) else k
theorem idxU_any : ∀ (ps : List Pg) (k : Nat), decide (0 ≤ idxU ps k) = anyUsed ps
  | [], k => by simp [idxU, anyUsed]
  | p :: r, k => by
    unfold idxU anyUsed
    by_cases h : p.kind = 0
    · rw [if_pos h, idxU_any r (k + 1)]; simp [anyUsed, h]
    · rw [if_neg h]; simp [h]

theorem isInUse_calls {a : Option Addr} {l c : Nat} {k x r : Int} {w : World} :
    Calls Tryz.prog 85 #[.agg #[.int .i64 k, .int .i64 x, .slice a l c, .int .i64 r]] w fun e w' => e = .returned (.bool (k != 0)) ∧ Below w.heap.size w w' := by
  go_enter Tryz.func85, Tryz.ntmps85
  go_wp2_with fail
  go_ret
  exact ⟨rfl, (Below.refl _ _).alloc (Nat.le_refl _) _⟩

set_option maxRecDepth 100000 in
set_option maxHeartbeats 1000000 in
theorem indexU_calls {ao : Option Addr} {n cc : Nat} {ps : List Pg} {S : Nat → Prop} {w : World} (hT : Lst KPage w S ao n ps) (hn : n ≤ 17592186044416) :
    Calls Tryz.prog 131 #[.slice ao n cc, .func (Fn.func 85) #[] #[]] w fun e w' => e = .returned (.int .i64 (idxU ps 0)) ∧ Below w.heap.size w w' := by
  have HL := Lib.hid hT.1
  go_enter Tryz.func131, Tryz.ntmps131
  go_wp2_with fail
  go_loopw [5, 8] (fun _ i wr => ∃ k : Nat, k ≤ n ∧ i = .int .i64 k ∧ Hid (idxU ps 0 = idxU (ps.drop k) k) ∧ Below w.heap.size w wr) (fun _ i _ => n - (intOf i).toNat)
  case atStart => exact ⟨0, Nat.zero_le _, rfl, rfl, Below.refl _ _⟩
  case round =>
    obtain ⟨k, hk, rfl, HW, hbw⟩ := hrel
    by_cases hlt : k < n
    · obtain ⟨b0, o0, p, a0, l0, c0, rfl, d0, hp, e0, e1, e2, e3, hlc0, hcm0, hu0⟩ := (hT.below hbw).pg_at hlt
      have HS : Hid (idxU ps 0 = if p.kind = 0 then idxU (ps.drop (k + 1)) (k + 1) else (k : Int)) := by have := HW.out; rw [drop_at hp, idxU] at this; exact this
      clear hp hcm0 hu0
      by_cases h0 : p.kind = 0
      · have HF : Hid (idxU ps 0 = idxU (ps.drop (k + 1)) (k + 1)) := by have := HS.out; rw [if_pos h0] at this; exact this
        have hq : (p.kind != 0) = false := by simp [h0]
        clear h0
        go_wp2_with fail
        refine isInUse_calls.mono ?_
        rw [hq]
        rintro e w2 ⟨rfl, hb2⟩
        have HB2 := Lib.hid (hbw.trans (hb2.mono hbw.size))
        clear hb2 hq
        go_wp2_with fail
        go_roundw
        case rel => exact ⟨k + 1, by omega, by go_num, HF, HB2.out⟩
        case measure => simp [intOf]; omega
      · have HF : Hid (idxU ps 0 = (k : Int)) := by have := HS.out; rw [if_neg h0] at this; exact this
        have hq : (p.kind != 0) = true := by simpa using h0
        clear h0
        go_wp2_with fail
        refine isInUse_calls.mono ?_
        rw [hq]
        rintro e w2 ⟨rfl, hb2⟩
        have HB2 := Lib.hid (hbw.trans (hb2.mono hbw.size))
        clear hb2 hq
        go_wp2_with fail
        go_ret
        exact ⟨ret_int HF.out.symm, HB2.out⟩
    · have HF : Hid (idxU ps 0 = -1) := by have := HW.out; rw [drop_end (by rw [HL.out]; omega), idxU] at this; exact this
      go_wp2_with fail
      go_ret
      exact ⟨ret_int HF.out.symm, hbw⟩

theorem containsU_calls {ao : Option Addr} {n cc : Nat} {ps : List Pg} {S : Nat → Prop} {w : World} (hT : Lst KPage w S ao n ps) (hn : n ≤ 17592186044416) :
    Calls Tryz.prog 84 #[.slice ao n cc, .func (Fn.func 85) #[] #[]] w fun e w' => e = .returned (.bool (anyUsed ps)) ∧ Below w.heap.size w w' := by
  have hx := idxU_any ps 0
  rcases ha : anyUsed ps with _ | _
  · have h0 : ¬ (0 ≤ idxU ps 0) := by rw [ha] at hx; simpa using hx
    clear hx ha
    go_enter Tryz.func84, Tryz.ntmps84
    go_wp2_with fail
    refine (indexU_calls hT hn).mono ?_
    rintro e w1 ⟨rfl, hb⟩
    go_wp2_with fail
    go_ret
    exact ⟨ret_bool (by simpa using h0), hb⟩
  · have h0 : 0 ≤ idxU ps 0 := by rw [ha] at hx; simpa using hx
    clear hx ha
    go_enter Tryz.func84, Tryz.ntmps84
    go_wp2_with fail
    refine (indexU_calls hT hn).mono ?_
    rintro e w1 ⟨rfl, hb⟩
    go_wp2_with fail
    go_ret
    exact ⟨ret_bool (by simp), hb⟩

set_option maxRecDepth 100000 in
set_option maxHeartbeats 4000000 in
theorem drainHeap_calls {pa wa ma : Option Addr} {pn pc wn wk mn mc : Nat} {h : Hp} {S : Nat → Prop} {w : World} (hk : HpK w S pa pn pc wa wn wk ma mn mc h) :
    Calls Tryz.prog 13 #[.agg #[.slice pa pn pc, .slice wa wn wk, .slice ma mn mc]] w (RetsHeap w (drainHeap h)) := by
  have HK := Lib.hid hk
  clear hk
  have hB0 : Below w.heap.size w ((w.alloc (.cells #[.slice pa pn pc, .slice wa wn wk, .slice ma mn mc] 30)).alloc (.cells #[.int .i64 0, .slice none 0 0, .slice none 0 0, .slice none 0 0, .int .i64 0, .int .i64 0] 34)) := ((Below.refl _ _).alloc (Nat.le_refl _) _).alloc (by simp) _
  have HB0 := Lib.hid hB0
  clear hB0
  go_enter Tryz.func13, Tryz.ntmps13
  go_wp2_with fail
  refine (heapFault_calls (HK.out.r.below HB0.out) HK.out.s).mono ?_
  rintro e w1 ⟨rfl, hb1⟩
  obtain ⟨R0, R1, B1, hs1⟩ := two_new hb1
  have R0 : Row w1 w.heap.size 30 #[.slice pa pn pc, .slice wa wn wk, .slice ma mn mc] := R0
  have HR1 : Hid (Row w1 (w.heap.size + 1) 34 #[.int .i64 0, .slice none 0 0, .slice none 0 0, .slice none 0 0, .int .i64 0, .int .i64 0]) := R1
  have HB1 := Lib.hid B1
  clear hb1 R1 B1
  have q0 := R0.cell 0
  have q1 := R0.cell 1
  have q2 := R0.cell 2
  have ql := R0.lt
  simp at q0 q1 q2
  by_cases hf : heapFault h = 0
  rotate_left
  · have HF : Hid (drainHeap h = (heapFault h, Hp.zero)) := by show _ = _; unfold drainHeap; rw [if_neg hf]
    have hq : (heapFault h != 0) = true := by simpa using hf
    clear hf
    have hres := HR1.out
    go_wp2_with (refine wpList_store_row rfl 34 _ _ rfl (w.heap.size + 1) _ rfl rfl _ _ hres (by kernel_rfl) (by rfl) (by simp [Value.oneCell']) ?_)
    refine bodyPost_ret (results_cell_row rfl _ _ (w.heap.size + 1) _ _ _ _ rfl (setRow_heap _ _ _ _ _ _ hres) Tryz.underlying34 rfl (by kernel_rfl)) rfl ?_
    exact heap_done HB1.out (by omega) HpO.zero _ HF.out
  have HF : Hid (drainHeap h = (0, drainHp h)) := by show _ = _; unfold drainHeap; rw [if_pos hf]
  have HF0 := Lib.hid hf
  rw [hf]
  clear hf
  go_wp2_with fail
  refine (drained_calls (HK.out.below HB1.out) HF0.out).mono ?_
  rintro e w2 ⟨vp, np, vw, nw, vm, nm, rfl, ho2, hb2⟩
  obtain ⟨pa2, pc2, wa2, wc2, ma2, mc2, rfl, rfl, rfl, _⟩ := ho2.shape
  have hres := HR1.out.below hb2
  have hB2 := HB1.out.trans (hb2.mono HB1.out.size)
  have HO2 := Lib.hid (ho2.mono (S' := fun k => w.heap.size + 1 < k) (fun k hk _ => by omega))
  clear ho2 hb2 R0 q0 q1 q2 ql
  go_wp2_with (refine wpList_store_row rfl 34 _ _ rfl (w.heap.size + 1) _ rfl rfl _ _ hres (by kernel_rfl) (by rfl) (by simp [Value.oneCell']) ?_)
  refine bodyPost_ret (results_cell_row rfl _ _ (w.heap.size + 1) _ _ _ _ rfl (setRow_heap _ _ _ _ _ _ hres) Tryz.underlying34 rfl (by kernel_rfl)) rfl ?_
  exact heap_done hB2 (by omega) HO2.out _ HF.out
end Go.Proofs.YtcnpckaacigbfaaGreat
