/- The draws of chapter 4: pages, and a number or two. -/
import Derived.Test.YtkikjoalhohlgaaDraw4b
import Derived.Test.YtkikjoalhohlgaaFacts4
namespace Go.Proofs.Ytkikjoalhohlgaa
open Go.RowKit

theorem start_bd {ps : List Pg} {a : Int} (h : (blockStart ps a).1 = 0) : 0 ≤ (blockStart ps a).2 ∧ (blockStart ps a).2 ≤ a := by
  obtain ⟨b, hb, hv, he⟩ := blockStart_held h
  have := block_range hv hb
  rw [he]; exact ⟨this.1, this.2.1⟩
/-- What the choice of a place leaves. -/
def SomeAt (w : World) (p k n : Nat) (e : Ending) (w' : World) : Prop := ∃ (r : Int) (k' : Nat), e = .returned (.int .i64 r) ∧ -1 ≤ r ∧ r ≤ 16 * n + 50 ∧ Src w' p k' ∧ k' ≤ k + 2 ∧ w.grownBy w' (some p)
theorem SomeAt.mk {w w' : World} {p k n : Nat} {r : Int} {k' : Nat} (h0 : -1 ≤ r) (h1 : r ≤ 16 * n + 50) (hs : Src w' p k') (hk : k' ≤ k + 2) (hg : w.grownBy w' (some p)) : SomeAt w p k n (.returned (.int .i64 r)) w' := ⟨r, k', rfl, h0, h1, hs, hk, hg⟩

set_option maxRecDepth 100000 in
set_option maxHeartbeats 1600000 in
theorem l4Some_calls {p k : Nat} {ao : Option Addr} {n c : Nat} {ps : List Pg} {S : Nat → Prop} {w : World} (hs : Src w p k) (hk : k ≤ 1000000) (hT : Lst KPage w S ao n ps) (hSp : ∀ j, S j → j ≠ p) (hS : ShortP 17 ps) (hn : n ≤ 51) :
    Calls Try.prog 67 #[.pointer (some ⟨p, 0, none⟩), .slice ao n c] w (SomeAt w p k n) := by
  have HSh := Lib.hid (ShortP.mono hS (show 17 ≤ 17592186044416 by decide))
  have HP := Lib.hid hSp
  have HT := Lib.hid hT
  clear hS hSp hT
  go_enter Try.func67, Try.ntmps67
  go_wp2_with fail
  refine (next_calls hs (by omega)).mono ?_
  rintro e w1 ⟨r, rfl, r0, r1, _, S1, g1⟩
  have r2 := r1 (by omega)
  have HS1 := Lib.hid S1
  have HG1 := Lib.hid g1
  have HT1 := Lib.hid (HT.out.turn (Turn.of_some g1) (fun j hj _ => HP.out j hj))
  clear r1 S1 g1 HT
  go_wp2_with fail
  refine (sPagesFault_calls HT1.out HSh.out (by omega)).mono ?_
  rintro e w2 ⟨rfl, B2⟩
  have HS2 := Lib.hid (HS1.out.below B2)
  have HG2 := Lib.hid (grown_turn HG1.out (Turn.of_below (T := fun _ => False) B2) (fun _ h => h.elim))
  have HT2 := Lib.hid (HT1.out.below B2)
  clear B2 HS1 HG1 HT1
  by_cases hv : pagesFault ps = 0
  · have HV := Lib.hid hv
    rw [hv]
    clear hv
    go_wp2_with fail
    refine (chance_calls HS2.out (by omega)).mono ?_
    rintro e w3 ⟨b, rfl, S3, g3⟩
    have HS3 := Lib.hid S3
    have HG3 := Lib.hid (grown_trans HG2.out g3)
    have HT3 := Lib.hid (HT2.out.turn (Turn.of_some g3) (fun j hj _ => HP.out j hj))
    clear S3 g3 HS2 HG2 HT2
    cases b with
    | true =>
      go_wp2_with fail
      go_ret
      exact SomeAt.mk (by omega) (by omega) HS3.out (by omega) HG3.out
    | false =>
      go_wp2_with fail
      go_loop [6] (fun t => ∃ j : Nat, j ≤ 40 ∧ t = .int .i64 j) (fun t => 40 - (intOf t).toNat)
      case atStart => exact ⟨0, by omega, rfl⟩
      case round =>
        obtain ⟨j, hj, rfl⟩ := hrel
        by_cases hlt : j < 40
        · have hlt' : (j : Int) < 40 := by omega
          go_wp2_with fail
          refine (l4Start_calls HT3.out HV.out).mono ?_
          rintro e w' ⟨rfl, rfl⟩
          have hbd := start_bd (ps := ps) (a := r - 1 + j)
          generalize blockStart ps (r - 1 + ↑j) = bs at hbd ⊢
          by_cases hc : bs.1 = 0
          · have h2 := hbd hc
            clear hbd
            rw [hc]
            go_wp2_with fail
            go_ret
            exact SomeAt.mk (by omega) (by omega) HS3.out (by omega) HG3.out
          · have hc' : (bs.1 == 0) = false := by simpa using hc
            clear hbd hc
            go_wp2_with fail
            go_round
            case rel => exact ⟨j + 1, by omega, by go_num⟩
            case measure => simp [intOf]; omega
        · have hlt' : ¬ (j : Int) < 40 := by omega
          go_wp2_with fail
          go_ret
          exact SomeAt.mk (by omega) (by omega) HS3.out (by omega) HG3.out
  · have hv' : (pagesFault ps == 0) = false := by simpa using hv
    have hv2 : (pagesFault ps != 0) = true := by simpa using hv
    generalize pagesFault ps = f at hv' hv2 ⊢
    go_wp2_with fail
    go_ret
    exact SomeAt.mk (by omega) (by omega) HS2.out (by omega) HG2.out

/-- Pages that were drawn. -/
def DrewP (w w' : World) (v : Value) (n : Nat) (ps : List Pg) : Prop := Own KPage 45 w' (fun j => w.heap.size ≤ j) v n ps ∧ n ≤ 51 ∧ ShortP 17 ps
def DrawnP (w : World) (e : Ending) (w' : World) : Prop := ∃ v n ps, e = .returned v ∧ DrewP w w' v n ps ∧ Below w.heap.size w w'
def DrawnPI (w : World) (e : Ending) (w' : World) : Prop := ∃ v n ps r, e = .returned (.tuple #[v, .int .i64 r]) ∧ DrewP w w' v n ps ∧ -1 ≤ r ∧ r ≤ 1000 ∧ Below w.heap.size w w'
def DrawnPII (w : World) (e : Ending) (w' : World) : Prop := ∃ v n ps r t, e = .returned (.tuple #[v, .int .i64 r, .int .i64 t]) ∧ DrewP w w' v n ps ∧ -1 ≤ r ∧ r ≤ 1000 ∧ -1 ≤ t ∧ t ≤ 1000 ∧ Below w.heap.size w w'
def DrawnPP (w : World) (e : Ending) (w' : World) : Prop := ∃ v n ps u m qs, e = .returned (.tuple #[v, u]) ∧ DrewP w w' v n ps ∧ DrewP w w' u m qs ∧ Below w.heap.size w w'
/-- Of what a bent draw leaves behind a source of its own. -/
def Past (w w' : World) (v : Value) (n : Nat) (ps : List Pg) : Prop := Own KPage 45 w' (fun j => w.heap.size < j) v n ps
theorem Past.kept {w w1 w2 : World} {v : Value} {n : Nat} {ps : List Pg} (h : Past w w1 v n ps) (hb : Below w1.heap.size w1 w2) : Past w w2 v n ps := Own.below h hb
theorem Past.grown {w w1 w2 : World} {v : Value} {n : Nat} {ps : List Pg} (h : Past w w1 v n ps) (hg : w1.grownBy w2 (some w.heap.size)) : Past w w2 v n ps := Own.turn h (Turn.of_some hg) (fun j hj _ e => by have : w.heap.size < j := hj; omega)
theorem Past.drew {w w' : World} {v : Value} {n : Nat} {ps : List Pg} (h : Past w w' v n ps) (hn : n ≤ 51) (hs : ShortP 17 ps) : DrewP w w' v n ps := ⟨Own.mono h (fun j hj _ => Nat.le_of_lt hj), hn, hs⟩
theorem DrawnPages.past {w w1 w2 : World} {k m : Nat} {e : Ending} (h : DrawnPages w1 w.heap.size k m (ShortP 17) e w2) (hm : m ≤ 51) (hs : Src w1 w.heap.size k) (hb : Below w.heap.size w w1) :
    ∃ v n ps k', e = .returned v ∧ Hid (Past w w2 v n ps) ∧ Hid (ShortP 17 ps) ∧ Hid (Src w2 w.heap.size k') ∧ k' ≤ k + 200 ∧ Hid (Below w.heap.size w w2) ∧ (∃ ao c, v = .slice ao n c ∧ n ≤ c) ∧ n ≤ 51 ∧ 1 ≤ n := by
  obtain ⟨v, n, ps, k', rfl, hO, h1, h2, hQ, hS, hk, hg⟩ := h
  have hz := hs.lt
  refine ⟨v, n, ps, k', rfl, Lib.hid (hO.mono (fun j hj _ => Nat.lt_of_lt_of_le hz hj)), Lib.hid hQ, Lib.hid hS, hk, Lib.hid (below_of_grown hb hg), ?_, by omega, h1⟩
  obtain ⟨ao, c, h3, h4, _⟩ := hO.shape
  exact ⟨ao, c, h3, h4⟩
theorem DrewP.kept {w w1 w2 : World} {v : Value} {n : Nat} {ps : List Pg} (h : DrewP w w1 v n ps) (hb : Below w1.heap.size w1 w2) : DrewP w w2 v n ps := ⟨h.1.below hb, h.2⟩

set_option maxRecDepth 100000 in
set_option maxHeartbeats 800000 in
theorem drawFindSlot_calls {ao : Option Addr} {nb cb : Nat} {bs : List Int} {w : World} (hb : Bytes w ao nb bs) (hn : nb ≤ 1048576) :
    Calls Try.prog 16 #[.slice ao nb cb] w (DrawnPI w) := by
  go_enter Try.func16, Try.ntmps16
  go_wp2_with fail
  refine (source_calls hb hn).mono ?_
  rintro e w1 ⟨rfl, S1, B1⟩
  go_wp2_with fail
  refine (l4Bent_calls S1 (by omega)).mono ?_
  intro e w2 h2
  obtain ⟨v, n, ps, k2, rfl, HD, HQ, HS, hk2, HB, ⟨la, lc, rfl, hlc⟩, hn51, hn1⟩ := h2.past (Nat.le_refl _) S1 B1
  clear h2 S1 B1
  have hsl := HS.out.lt
  go_wp2_with fail
  refine (pick_calls (HS.out.below ((Below.refl _ _).alloc (Nat.le_refl _) _)) (by omega) (Ints.lit (n := 6) (xs := [0, 1, 2, 3, 4, -1]) (by simp) rfl) (by omega) (by omega) (by simp; omega)).mono ?_
  rintro e w3 ⟨r, rfl, hr, S3, g3⟩
  have hr1 : -1 ≤ r ∧ r ≤ 1000 := by simp at hr; omega
  have F : Hid (DrawnPI w (.returned (.tuple #[.slice la n lc, .int .i64 r])) w3) := Lib.hid ⟨_, n, ps, r, rfl, ((HD.out.kept ((Below.refl _ _).alloc (Nat.le_refl _) _)).grown g3).drew hn51 HQ.out, hr1.1, hr1.2, below_of_grown (HB.out.alloc HB.out.size _) g3⟩
  clear hr S3 g3 HD HS HB
  go_wp2_with fail
  go_ret2
  exact F.out

set_option maxRecDepth 100000 in
set_option maxHeartbeats 800000 in
theorem drawFindRun_calls {ao : Option Addr} {nb cb : Nat} {bs : List Int} {w : World} (hb : Bytes w ao nb bs) (hn : nb ≤ 1048576) :
    Calls Try.prog 35 #[.slice ao nb cb] w (DrawnPI w) := by
  go_enter Try.func35, Try.ntmps35
  go_wp2_with fail
  refine (source_calls hb hn).mono ?_
  rintro e w1 ⟨rfl, S1, B1⟩
  go_wp2_with fail
  refine (l4Bent_calls S1 (by omega)).mono ?_
  intro e w2 h2
  obtain ⟨v, n, ps, k2, rfl, HD, HQ, HS, hk2, HB, ⟨la, lc, rfl, hlc⟩, hn51, hn1⟩ := h2.past (Nat.le_refl _) S1 B1
  clear h2 S1 B1
  have hsl := HS.out.lt
  go_wp2_with fail
  refine (pick_calls (HS.out.below ((Below.refl _ _).alloc (Nat.le_refl _) _)) (by omega) (Ints.lit (n := 6) (xs := [1, 2, 3, 4, 5, 0]) (by simp) rfl) (by omega) (by omega) (by simp; omega)).mono ?_
  rintro e w3 ⟨r, rfl, hr, S3, g3⟩
  have hr1 : -1 ≤ r ∧ r ≤ 1000 := by simp at hr; omega
  have F : Hid (DrawnPI w (.returned (.tuple #[.slice la n lc, .int .i64 r])) w3) := Lib.hid ⟨_, n, ps, r, rfl, ((HD.out.kept ((Below.refl _ _).alloc (Nat.le_refl _) _)).grown g3).drew hn51 HQ.out, hr1.1, hr1.2, below_of_grown (HB.out.alloc HB.out.size _) g3⟩
  clear hr S3 g3 HD HS HB
  go_wp2_with fail
  go_ret2
  exact F.out

set_option maxRecDepth 100000 in
set_option maxHeartbeats 800000 in
theorem drawUsedIn_calls {ao : Option Addr} {nb cb : Nat} {bs : List Int} {w : World} (hb : Bytes w ao nb bs) (hn : nb ≤ 1048576) :
    Calls Try.prog 39 #[.slice ao nb cb] w (DrawnP w) := by
  go_enter Try.func39, Try.ntmps39
  go_wp2_with fail
  refine (source_calls hb hn).mono ?_
  rintro e w1 ⟨rfl, S1, B1⟩
  go_wp2_with fail
  refine (l4Bent_calls S1 (by omega)).mono ?_
  intro e w2 h2
  obtain ⟨v, n, ps, k2, rfl, HD, HQ, HS, hk2, HB, ⟨la, lc, rfl, hlc⟩, hn51, hn1⟩ := h2.past (Nat.le_refl _) S1 B1
  have F : Hid (DrawnP w (.returned (.slice la n lc)) w2) := Lib.hid ⟨_, n, ps, rfl, HD.out.drew hn51 HQ.out, HB.out⟩
  clear h2 S1 B1 HD HQ HS HB
  go_wp2_with fail
  go_ret
  exact F.out

set_option maxRecDepth 100000 in
set_option maxHeartbeats 800000 in
theorem drawDropBlock_calls {ao : Option Addr} {nb cb : Nat} {bs : List Int} {w : World} (hb : Bytes w ao nb bs) (hn : nb ≤ 1048576) :
    Calls Try.prog 20 #[.slice ao nb cb] w (DrawnPI w) := by
  go_enter Try.func20, Try.ntmps20
  go_wp2_with fail
  refine (source_calls hb hn).mono ?_
  rintro e w1 ⟨rfl, S1, B1⟩
  go_wp2_with fail
  refine (l4Bent_calls S1 (by omega)).mono ?_
  intro e w2 h2
  obtain ⟨v, n, ps, k2, rfl, HD, HQ, HS, hk2, HB, ⟨la, lc, rfl, hlc⟩, hn51, hn1⟩ := h2.past (Nat.le_refl _) S1 B1
  clear h2 S1 B1
  have hsl := HS.out.lt
  go_wp2_with fail
  refine (l4Some_calls HS.out (by omega) (Own.lst HD.out).2.2.2 (fun j hj => by omega) HQ.out hn51).mono ?_
  rintro e w3 ⟨r, k3, rfl, r0, r1, S3, hk3, g3⟩
  have F : Hid (DrawnPI w (.returned (.tuple #[.slice la n lc, .int .i64 r])) w3) := Lib.hid ⟨_, n, ps, r, rfl, (HD.out.grown g3).drew hn51 HQ.out, r0, by omega, below_of_grown HB.out g3⟩
  clear S3 g3 HD HS HB HQ
  go_wp2_with fail
  go_ret2
  exact F.out

set_option maxRecDepth 100000 in
set_option maxHeartbeats 800000 in
theorem drawBlockStart_calls {ao : Option Addr} {nb cb : Nat} {bs : List Int} {w : World} (hb : Bytes w ao nb bs) (hn : nb ≤ 1048576) :
    Calls Try.prog 37 #[.slice ao nb cb] w (DrawnPI w) := by
  go_enter Try.func37, Try.ntmps37
  go_wp2_with fail
  refine (source_calls hb hn).mono ?_
  rintro e w1 ⟨rfl, S1, B1⟩
  go_wp2_with fail
  refine (l4Bent_calls S1 (by omega)).mono ?_
  intro e w2 h2
  obtain ⟨v, n, ps, k2, rfl, HD, HQ, HS, hk2, HB, ⟨la, lc, rfl, hlc⟩, hn51, hn1⟩ := h2.past (Nat.le_refl _) S1 B1
  clear h2 S1 B1
  have hsl := HS.out.lt
  go_wp2_with fail
  refine (l4Some_calls HS.out (by omega) (Own.lst HD.out).2.2.2 (fun j hj => by omega) HQ.out hn51).mono ?_
  rintro e w3 ⟨r, k3, rfl, r0, r1, S3, hk3, g3⟩
  have HD3 := Lib.hid (HD.out.grown g3)
  have HB3 := Lib.hid (below_of_grown HB.out g3)
  have hsl3 := S3.lt
  have HS3 := Lib.hid S3
  clear S3 g3 HD HS HB
  go_wp2_with fail
  refine (pick_calls (HS3.out.below ((Below.refl _ _).alloc (Nat.le_refl _) _)) (by omega) (Ints.lit (n := 4) (xs := [0, 0, 1, 3]) (by simp) rfl) (by omega) (by omega) (by simp; omega)).mono ?_
  rintro e w4 ⟨t, rfl, ht, S4, g4⟩
  have ht1 : 0 ≤ t ∧ t ≤ 3 := by simp at ht; omega
  have F : Hid (DrawnPI w (.returned (.tuple #[.slice la n lc, .int .i64 (r + t)])) w4) := Lib.hid ⟨_, n, ps, r + t, rfl, ((HD3.out.kept ((Below.refl _ _).alloc (Nat.le_refl _) _)).grown g4).drew hn51 HQ.out, by omega, by omega, below_of_grown (HB3.out.alloc HB3.out.size _) g4⟩
  clear ht S4 g4 HD3 HS3 HB3
  go_wp2_with fail
  go_ret2
  exact F.out

set_option maxRecDepth 100000 in
set_option maxHeartbeats 800000 in
theorem drawTakeRun_calls {ao : Option Addr} {nb cb : Nat} {bs : List Int} {w : World} (hb : Bytes w ao nb bs) (hn : nb ≤ 1048576) :
    Calls Try.prog 18 #[.slice ao nb cb] w (DrawnPII w) := by
  go_enter Try.func18, Try.ntmps18
  go_wp2_with fail
  refine (source_calls hb hn).mono ?_
  rintro e w1 ⟨rfl, S1, B1⟩
  go_wp2_with fail
  refine (l4Bent_calls S1 (by omega)).mono ?_
  intro e w2 h2
  obtain ⟨v, n, ps, k2, rfl, HD, HQ, HS, hk2, HB, ⟨la, lc, rfl, hlc⟩, hn51, hn1⟩ := h2.past (Nat.le_refl _) S1 B1
  clear h2 S1 B1
  have hsl := HS.out.lt
  go_wp2_with fail
  refine (pick_calls (HS.out.below ((Below.refl _ _).alloc (Nat.le_refl _) _)) (by omega) (Ints.lit (n := 4) (xs := [1, 2, 4, 5]) (by simp) rfl) (by omega) (by omega) (by simp; omega)).mono ?_
  rintro e w3 ⟨t, rfl, ht, S3, g3⟩
  obtain ⟨t, rfl⟩ : ∃ t' : Nat, t = t' := ⟨t.toNat, by simp at ht; omega⟩
  have ht1 : 1 ≤ t ∧ t ≤ 5 := by simp at ht; omega
  have HD3 := Lib.hid ((HD.out.kept ((Below.refl _ _).alloc (Nat.le_refl _) _)).grown g3)
  have HB3 := Lib.hid (below_of_grown (HB.out.alloc HB.out.size _) g3)
  have HS3 := Lib.hid S3
  clear ht S3 g3 HD HS HB hsl
  go_wp2_with fail
  refine (next_calls HS3.out (by omega)).mono ?_
  rintro e w4 ⟨r, rfl, r0, r1, _, S4, g4⟩
  have r2 := r1 (by omega)
  have HD4 := Lib.hid (HD3.out.grown g4)
  have HB4 := Lib.hid (below_of_grown HB3.out g4)
  have HS4 := Lib.hid S4
  clear r1 S4 g4 HD3 HS3 HB3
  go_wp2_with fail
  refine (chance_calls HS4.out (by omega)).mono ?_
  rintro e w5 ⟨b, rfl, S5, g5⟩
  have HD5 := Lib.hid (HD4.out.grown g5)
  have HB5 := Lib.hid (below_of_grown HB4.out g5)
  clear S5 g5 HD4 HS4 HB4
  cases b with
  | false =>
    have F : Hid (DrawnPII w (.returned (.tuple #[.slice la n lc, .int .i64 (r - 1), .int .i64 t])) w5) := Lib.hid ⟨_, n, ps, r - 1, t, rfl, HD5.out.drew hn51 HQ.out, by omega, by omega, by omega, by omega, HB5.out⟩
    clear HD5 HB5 HQ
    go_wp2_with fail
    go_ret3
    exact F.out
  | true =>
    go_wp2_with fail
    refine (l4Run_calls (Own.lst HD5.out).2.2.2 (by omega) (by omega) (by omega)).mono ?_
    rintro e w' ⟨rfl, rfl⟩
    have hR : -1 ≤ runAt t ps ∧ runAt t ps ≤ 1000 := by
      have hl := HD5.out.1
      unfold runAt
      cases hr : runFrom t 0 ps with
      | none => simp
      | some i =>
        have := freeN_len (runFrom_in hr).2
        rw [List.length_drop] at this
        simp only
        omega
    generalize runAt t ps = R at hR ⊢
    have F : Hid (DrawnPII w (.returned (.tuple #[.slice la n lc, .int .i64 R, .int .i64 t])) w5) := Lib.hid ⟨_, n, ps, R, t, rfl, HD5.out.drew hn51 HQ.out, by omega, by omega, by omega, by omega, HB5.out⟩
    clear HD5 HB5 HQ
    go_wp2_with fail
    go_ret3
    exact F.out

set_option maxRecDepth 100000 in
set_option maxHeartbeats 800000 in
theorem drawSamePages_calls {ao : Option Addr} {nb cb : Nat} {bs : List Int} {w : World} (hb : Bytes w ao nb bs) (hn : nb ≤ 1048576) :
    Calls Try.prog 22 #[.slice ao nb cb] w (DrawnPP w) := by
  go_enter Try.func22, Try.ntmps22
  go_wp2_with fail
  refine (source_calls hb hn).mono ?_
  rintro e w1 ⟨rfl, S1, B1⟩
  have HBy := Lib.hid hb
  clear hb
  go_wp2_with fail
  refine (l4Draw_calls S1 (by omega)).mono ?_
  rintro e w2 ⟨g, n, ps, k2, rfl, hO, hn1, hn10, hR, S2, hk2, g2⟩
  have hz := S1.lt
  have HD := Lib.hid (show Past w w2 (.slice (some ⟨g, 0, none⟩) n n) n ps from hO.mono (fun j hj _ => Nat.lt_of_lt_of_le hz hj))
  have HQ := Lib.hid (hR.short.mono (show 16 ≤ 17 by decide))
  have HB := Lib.hid (below_of_grown B1 g2)
  have HS := Lib.hid S2
  clear hO hR S2 g2 S1 B1 hz
  go_wp2_with fail
  refine (chance_calls HS.out (by omega)).mono ?_
  rintro e w3 ⟨b, rfl, S3, g3⟩
  have HD3 := Lib.hid (HD.out.grown g3)
  have HB3 := Lib.hid (below_of_grown HB.out g3)
  have hz3 := S3.lt
  clear S3 g3 HD HS HB
  cases b with
  | true =>
    go_wp2_with fail
    refine (l4Copy_calls (Own.lst HD3.out).2.2.2 (HQ.out.mono (by decide)) (by omega)).mono ?_
    rintro e w4 ⟨u, rfl, hO4, B4⟩
    have F : Hid (DrawnPP w (.returned (.tuple #[.slice (some ⟨g, 0, none⟩) n n, u])) w4) := Lib.hid ⟨_, n, ps, u, n, ps, rfl, (HD3.out.kept B4).drew (by omega) HQ.out, ⟨hO4.mono (fun j hj _ => by omega), by omega, HQ.out⟩, HB3.out.trans (B4.mono HB3.out.size)⟩
    clear HD3 HB3 HQ hO4 B4
    go_wp2_with fail
    go_ret2
    exact F.out
  | false =>
    go_wp2_with fail
    refine (source_calls (HBy.out.below HB3.out) hn).mono ?_
    rintro e w4 ⟨rfl, S4, B4⟩
    go_wp2_with fail
    refine (l4Bent_calls S4 (by omega)).mono ?_
    rintro e w5 ⟨v, m, qs, k5, rfl, hO5, hm1, hm51, hQ5, S5, hk5, g5⟩
    have hz4 := S4.lt
    have hb5 := below_of_grown B4 g5
    have F : Hid (DrawnPP w (.returned (.tuple #[.slice (some ⟨g, 0, none⟩) n n, v])) w5) := Lib.hid ⟨_, n, ps, v, m, qs, rfl, (HD3.out.kept hb5).drew (by omega) HQ.out, ⟨hO5.mono (fun j hj _ => by omega), hm51, hQ5⟩, HB3.out.trans (hb5.mono HB3.out.size)⟩
    clear HD3 HB3 HQ hO5 hQ5 S5 g5 S4 B4 hb5
    go_wp2_with fail
    go_ret2
    exact F.out

/-- A page that was drawn. -/
def DrawnG (w : World) (e : Ending) (w' : World) : Prop := ∃ a l c, ∃ p : Pg, e = .returned (.agg #[.int .i64 p.kind, .int .i64 p.cls, .slice a l c, .int .i64 p.run]) ∧ Lst KBool w' (fun _ => True) a l p.used ∧ l ≤ 17 ∧ l ≤ c ∧ c ≤ maxLen ∧ Below w.heap.size w w'
set_option maxRecDepth 100000 in
set_option maxHeartbeats 800000 in
theorem drawPageFault_calls {ao : Option Addr} {nb cb : Nat} {bs : List Int} {w : World} (hb : Bytes w ao nb bs) (hn : nb ≤ 1048576) :
    Calls Try.prog 38 #[.slice ao nb cb] w (DrawnG w) := by
  have hZ : Row (w.alloc (.cells #[.int .i64 0, .int .i64 0, .slice none 0 0, .int .i64 0] 45)) w.heap.size 45 #[.int .i64 0, .int .i64 0, .slice none 0 0, .int .i64 0] := heap_alloc_new w _
  have HZ := Lib.hid hZ
  clear hZ
  go_enter Try.func38, Try.ntmps38
  go_wp2_with fail
  refine (source_calls (hb.below ((Below.refl _ _).alloc (Nat.le_refl _) _)) hn).mono ?_
  rintro e w1 ⟨rfl, S1, B1⟩
  have HZ1 := Lib.hid (HZ.out.below B1)
  have HB1 := Lib.hid (((Below.refl w.heap.size w).alloc (Nat.le_refl _) (.cells #[.int .i64 0, .int .i64 0, .slice none 0 0, .int .i64 0] 45)).trans (B1.mono (by simp)))
  have HS1 := Lib.hid (show Src w1 (w.heap.size + 1) 0 by simpa using S1)
  have hz1 := HS1.out.lt
  clear HZ B1 S1
  go_wp2_with fail
  refine (l4Bent_calls HS1.out (by omega)).mono ?_
  rintro e w2 ⟨v, n, ps, k2, rfl, hO, hn1, hn51, hQ, S2, hk2, g2⟩
  obtain ⟨la, lc, rfl, hlc, hcm, _⟩ := hO.shape
  have HZ2 := Lib.hid (show Row w2 w.heap.size 45 _ from (g2.block w.heap.size HZ1.out.lt (by simp)).trans HZ1.out)
  have HB2 := Lib.hid (show Below w.heap.size w w2 from Turn.below HB1.out (Turn.of_some g2) HB1.out.size (fun j hj => by omega))
  have HO2 := Lib.hid (show Own KPage 45 w2 (fun j => w.heap.size + 1 < j) (.slice la n lc) n ps from hO.mono (fun j hj _ => by omega))
  have HQ := Lib.hid hQ
  have HS2 := Lib.hid S2
  clear HZ1 HB1 hO hQ S2 g2 HS1
  go_wp2_with fail
  refine (next_calls HS2.out (by omega)).mono ?_
  rintro e w3 ⟨i, rfl, r0, r1, _, S3, g3⟩
  obtain ⟨i, rfl⟩ : ∃ i' : Nat, i = i' := ⟨i.toNat, by omega⟩
  have hin : i < n := by have := r1 (by omega); omega
  have HZ3 := Lib.hid (show Row w3 w.heap.size 45 _ from (g3.block w.heap.size HZ2.out.lt (by simp)).trans HZ2.out)
  have HB3 := Lib.hid (show Below w.heap.size w w3 from Turn.below HB2.out (Turn.of_some g3) HB2.out.size (fun j hj => by omega))
  have HO3 := Lib.hid (HO2.out.turn (Turn.of_some g3) (fun j hj _ e => by omega))
  clear r0 r1 S3 g3 HZ2 HB2 HO2 HS2
  obtain ⟨g, cap, p, a, l, c, F, he, g0, hgS, hp, ⟨q0, q1, q2, q3⟩, ⟨f0, f1, f2, f3⟩, ⟨hU, hF, hlc2, hcm2⟩, _, _⟩ := HO3.out.pg_at hin
  simp only [Value.slice.injEq] at he
  obtain ⟨rfl, _, rfl⟩ := he
  have hl17 : l ≤ 17 := by have := HQ.out.at_ hp; have := hU.1; omega
  have HF : Hid (Lst KBool (w3.setRow w.heap.size #[.int .i64 p.kind, .int .i64 p.cls, .slice a l c, .int .i64 p.run]) (fun _ => True) a l p.used) :=
    Lib.hid ((hU.lst.2.2.2.turn (Turn.setRow w3 w.heap.size _) (fun j hj _ e => by have h5 : w.heap.size + 1 < j := (hF j hj).1; have e' : j = w.heap.size := e; omega)).mono (fun _ _ _ => trivial))
  have HB4 := Lib.hid (show Below w.heap.size w (w3.setRow w.heap.size #[.int .i64 p.kind, .int .i64 p.cls, .slice a l c, .int .i64 p.run]) from Turn.below HB3.out (Turn.setRow w3 w.heap.size _) HB3.out.size (fun j hj => by have e' : j = w.heap.size := hj; omega))
  have hin' : (i : Int) < (n : Int) := by omega
  clear hU hF HB3 HO3 HQ hp f0 f1 f2 f3 hgS
  go_wp2_with (refine wpList_store_row rfl 45 _ _ rfl w.heap.size _ rfl rfl _ _ HZ3.out (by kernel_rfl) (by rfl) (by simp [Value.oneCell']) ?_)
  refine bodyPost_ret (results_cell_row rfl _ _ w.heap.size _ _ _ _ rfl (setRow_heap _ _ _ _ _ _ HZ3.out) Try.underlying45 rfl (by kernel_rfl)) rfl ?_
  exact ⟨a, l, c, p, rfl, HF.out, hl17, hlc2, hcm2, HB4.out⟩
end Go.Proofs.Ytkikjoalhohlgaa
