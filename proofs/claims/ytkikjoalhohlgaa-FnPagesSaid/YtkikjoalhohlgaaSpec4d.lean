/- Chapter 4 of the model: runs that are found and taken; pages that are counted; how great a block is. -/
import Derived.Test.YtkikjoalhohlgaaOwn4
import Derived.Test.YtkikjoalhohlgaaSpec4b
namespace Go.Proofs.Ytkikjoalhohlgaa
open Go.RowKit

set_option maxRecDepth 100000 in
set_option maxHeartbeats 1000000 in
theorem l4Take_calls {v : Value} {n at_ m : Nat} {ps : List Pg} {S : Nat → Prop} {w : World} (hT : Own KPage 45 w S v n ps) (hn : n ≤ 17592186044416) (hm0 : 0 < m) (hm : at_ + m ≤ n) :
    Calls Try.prog 77 #[v, .int .i64 at_, .int .i64 m] w fun e w' => e = .returned (.tuple #[]) ∧ Own KPage 45 w' S v n (putRun ps at_ m) ∧ Turn S w w' := by
  have HL := Lib.hid hT.1
  obtain ⟨ao, c, rfl, _, _, _⟩ := hT.shape
  go_enter Try.func77, Try.ntmps77
  go_wp2_with fail
  go_loopw [6] (fun i wr => ∃ k : Nat, k ≤ m ∧ i = .int .i64 k ∧ Own KPage 45 wr S (.slice ao n c) n (setMany ps at_ restPg k) ∧ Turn S w wr) (fun i _ => m - (intOf i).toNat)
  case atStart => exact ⟨0, Nat.zero_le _, rfl, hT, Turn.refl _ _⟩
  case round =>
    obtain ⟨k, hk, rfl, hO, ht⟩ := hrel
    by_cases hlt : k < m
    · obtain ⟨g, cap, p, a, l, c', F, he, g0, hgS, hp, ⟨q0, q1, q2, q3⟩, ⟨f0, f1, f2, f3⟩, _, hset, _⟩ := hO.pg_at (j := at_ + k) (by omega)
      cases he
      have hN : ((at_ : Int) + (k : Int)).toNat = at_ + k := by omega
      have hst := hset wr restPg (.slice none 0 0) 0 (fun _ => False) (Turn.refl _ _) Own.nil (fun _ h => h.elim)
      have H2 := Lib.hid (And.intro (hst.1.mono (S' := S) (fun q hq _ => hq.elim id False.elim)) (ht.trans hst.2.1 (fun _ h _ => h)))
      clear hset hst hO ht hp
      go_wp2_with fail
      go_roundw
      case rel => exact ⟨k + 1, by omega, by go_num, H2.out.1, H2.out.2⟩
      case measure => simp [intOf]; omega
    · obtain rfl : k = m := by omega
      obtain ⟨g, cap, p, a, l, c', F, he, g0, hgS, hp, ⟨q0, q1, q2, q3⟩, ⟨f0, f1, f2, f3⟩, _, hset, _⟩ := hO.pg_at (j := at_) (by omega)
      cases he
      have hst := hset wr (runPg k) (.slice none 0 0) 0 (fun _ => False) (Turn.refl _ _) Own.nil (fun _ h => h.elim)
      have H2 := Lib.hid (And.intro (hst.1.mono (S' := S) (fun q hq _ => hq.elim id False.elim)) (ht.trans hst.2.1 (fun _ h _ => h)))
      clear hset hst hO ht hp
      go_wp2_with fail
      go_end0
      exact ⟨rfl, H2.out.1, H2.out.2⟩

/-- The first run of n free pages, or -1. -/
def runAt (n : Nat) (ps : List Pg) : Int := match runFrom n 0 ps with
  | some i => (i : Int)
  | none => -1
theorem freeN_snoc : ∀ {f : Nat} {ps : List Pg} {p : Pg}, freeN f ps = true → ps[f]? = some p → p.kind = 0 → freeN (f + 1) ps = true
  | 0, [], p, _, h, _ => by simp at h
  | 0, q :: r, p, _, h, h0 => by simp at h; subst h; simp [freeN, h0]
  | f + 1, [], p, _, h, _ => by simp at h
  | f + 1, q :: r, p, h1, h, h0 => by
    rw [freeN] at h1 ⊢
    simp only [Bool.and_eq_true] at h1 ⊢
    exact ⟨h1.1, freeN_snoc h1.2 (by simpa using h) h0⟩
theorem freeN_no : ∀ {n f : Nat} {ps : List Pg} {p : Pg}, f < n → ps[f]? = some p → p.kind ≠ 0 → freeN n ps = false
  | 0, f, ps, p, h, _, _ => by omega
  | n + 1, f, [], p, _, h, _ => by simp at h
  | n + 1, 0, q :: r, p, _, h, h0 => by simp at h; subst h; simp [freeN, h0]
  | n + 1, f + 1, q :: r, p, hf, h, h0 => by
    rw [freeN, freeN_no (n := n) (f := f) (by omega) (by simpa using h) h0]; simp
theorem freeN_short : ∀ {n : Nat} {ps : List Pg}, ps.length < n → freeN n ps = false
  | 0, ps, h => by omega
  | n + 1, [], _ => rfl
  | n + 1, q :: r, h => by rw [freeN, freeN_short (n := n) (by simpa using h)]; simp
theorem runFrom_skip {n : Nat} : ∀ {f k : Nat} {ps : List Pg} {p : Pg}, f < n → ps[f]? = some p → p.kind ≠ 0 → runFrom n k ps = runFrom n (k + f + 1) (ps.drop (f + 1))
  | f, k, [], p, _, h, _ => by simp at h
  | 0, k, q :: r, p, hf, h, h0 => by
    rw [runFrom, freeN_no hf h h0]; simp
  | f + 1, k, q :: r, p, hf, h, h0 => by
    rw [runFrom, freeN_no hf h h0]
    simp only [Bool.false_eq_true, if_false, List.drop_succ_cons]
    rw [runFrom_skip (f := f) (by omega) (by simpa using h) h0]
    congr 1; omega
theorem runFrom_short {n : Nat} : ∀ {k : Nat} {ps : List Pg}, ps.length < n → runFrom n k ps = none
  | k, [], _ => rfl
  | k, q :: r, h => by
    rw [runFrom, freeN_short h]
    simp only [Bool.false_eq_true, if_false]
    exact runFrom_short (by simp at h; omega)

set_option maxRecDepth 100000 in
set_option maxHeartbeats 1000000 in
theorem l4Run_calls {ao : Option Addr} {n cc m : Nat} {ps : List Pg} {S : Nat → Prop} {w : World} (hT : Lst KPage w S ao n ps) (hn : n ≤ 17592186044416) (hm0 : 0 < m) (hm : m ≤ 17592186044416) :
    Calls Try.prog 65 #[.slice ao n cc, .int .i64 m] w fun e w' => e = .returned (.int .i64 (runAt m ps)) ∧ w = w' := by
  have HL := Lib.hid hT.1
  go_enter Try.func65, Try.ntmps65
  go_wp2_with fail
  go_loop [5, 6] (fun q i => ∃ k f : Nat, k ≤ n ∧ i = .int .i64 k ∧ q = .int .i64 f ∧ f ≤ k ∧ f < m ∧ Hid (runFrom m 0 ps = runFrom m (k - f) (ps.drop (k - f))) ∧ Hid (freeN f (ps.drop (k - f)) = true)) (fun _ i => n - (intOf i).toNat)
  case atStart => exact ⟨0, 0, Nat.zero_le _, rfl, rfl, Nat.le_refl _, hm0, rfl, rfl⟩
  case round =>
    obtain ⟨k, f, hk, rfl, rfl, hfk, hfm, HW, HF⟩ := hrel
    by_cases hlt : k < n
    · obtain ⟨b, off, p, a, l, c, rfl, d0, hp, e0, e1, e2, e3, hlc, hcm, hu⟩ := hT.pg_at hlt
      have HP := Lib.hid hp
      have HPf : Hid ((ps.drop (k - f))[f]? = some p) := by rw [List.getElem?_drop, Nat.sub_add_cancel hfk]; exact hp
      clear hp hu e1 e2 e3
      by_cases h0 : p.kind = 0
      · rw [h0] at e0
        by_cases hfin : f + 1 = m
        · have HR : Hid (runAt m ps = (k : Int) + 1 - m) := by
            show runAt m ps = _
            have h1 : freeN m (ps.drop (k - f)) = true := by rw [← hfin]; exact freeN_snoc HF.out HPf.out h0
            have h2 : runFrom m (k - f) (ps.drop (k - f)) = some (k - f) := by
              rcases hd : ps.drop (k - f) with _ | ⟨q, r⟩
              · rw [hd] at h1; have := freeN_short (n := m) (ps := []) (by simpa using hm0); rw [this] at h1; cases h1
              · rw [runFrom, ← hd, if_pos h1]
            unfold runAt; rw [HW.out, h2]; simp only; omega
          have hq : ((f : Int) + 1 == (m : Int)) = true := by simp; omega
          clear h0 hfin
          go_wp2_with fail
          go_ret
          exact ⟨ret_int HR.out.symm, rfl⟩
        · have hq : ((f : Int) + 1 == (m : Int)) = false := by simp; omega
          have H1 : Hid (runFrom m 0 ps = runFrom m (k + 1 - (f + 1)) (ps.drop (k + 1 - (f + 1)))) := by rw [Nat.add_sub_add_right]; exact HW.out
          have H2 : Hid (freeN (f + 1) (ps.drop (k + 1 - (f + 1))) = true) := by rw [Nat.add_sub_add_right]; exact freeN_snoc HF.out HPf.out h0
          have hfm2 : f + 1 < m := by omega
          clear h0 hfin
          go_wp2_with fail
          go_round
          case rel => exact ⟨k + 1, f + 1, by omega, by go_num, by go_num, by omega, hfm2, H1, H2⟩
          case measure => simp [intOf]; omega
      · have hq : (p.kind != 0) = true := by simpa using h0
        have hq2 : ((0 : Int) == (m : Int)) = false := by simp; omega
        have H1 : Hid (runFrom m 0 ps = runFrom m (k + 1 - 0) (ps.drop (k + 1 - 0))) := by
          have := HW.out
          rw [runFrom_skip hfm HPf.out h0, List.drop_drop, show k - f + f + 1 = k + 1 by omega, show k - f + (f + 1) = k + 1 by omega] at this
          exact this
        clear h0
        go_wp2_with fail
        go_round
        case rel => exact ⟨k + 1, 0, by omega, by go_num, rfl, by omega, hm0, H1, rfl⟩
        case measure => simp [intOf]; omega
    · have HR : Hid (runAt m ps = -1) := by
        show runAt m ps = -1
        unfold runAt; rw [HW.out, runFrom_short (by rw [List.length_drop, HL.out]; omega)]
      go_wp2_with fail
      go_ret
      exact ⟨ret_int HR.out.symm, rfl⟩

set_option maxHeartbeats 400000 in
theorem l4Used_calls {ao : Option Addr} {n cc : Nat} {ps : List Pg} {S : Nat → Prop} {w : World} (hT : Lst KPage w S ao n ps) (hn : n ≤ 17592186044416) :
    Calls Try.prog 88 #[.slice ao n cc] w fun e w' => e = .returned (.int .i64 (usedIn ps)) ∧ w = w' := by
  have HL := Lib.hid hT.1
  go_enter Try.func88, Try.ntmps88
  go_wp2_with fail
  go_loop [3, 4] (fun q i => ∃ k f : Nat, k ≤ n ∧ i = .int .i64 k ∧ q = .int .i64 f ∧ f ≤ k ∧ Hid (usedIn ps = f + usedIn (ps.drop k))) (fun _ i => n - (intOf i).toNat)
  case atStart => exact ⟨0, 0, Nat.zero_le _, rfl, rfl, Nat.le_refl _, by show _ = _; simp⟩
  case round =>
    obtain ⟨k, f, hk, rfl, rfl, hfk, HW⟩ := hrel
    by_cases hlt : k < n
    · obtain ⟨b, off, p, a, l, c, rfl, d0, hp, e0, e1, e2, e3, hlc, hcm, hu⟩ := hT.pg_at hlt
      have HD : Hid (usedIn ps = f + ((if p.kind = 0 then 0 else 1) + usedIn (ps.drop (k + 1)))) := by have := HW.out; rw [drop_at hp, usedIn] at this; exact this
      clear hp hu e1 e2 e3
      by_cases h0 : p.kind = 0
      · have H1 : Hid (usedIn ps = f + usedIn (ps.drop (k + 1))) := by have := HD.out; rw [if_pos h0] at this; show _ = _; omega
        rw [h0] at e0
        clear h0
        go_wp2_with fail
        go_round
        case rel => exact ⟨k + 1, f, by omega, by go_num, rfl, by omega, H1⟩
        case measure => simp [intOf]; omega
      · have H1 : Hid (usedIn ps = (f + 1) + usedIn (ps.drop (k + 1))) := by have := HD.out; rw [if_neg h0] at this; show _ = _; omega
        have hq : (p.kind != 0) = true := by simpa using h0
        clear h0
        go_wp2_with fail
        go_round
        case rel => exact ⟨k + 1, f + 1, by omega, by go_num, by go_num, by omega, H1⟩
        case measure => simp [intOf]; omega
    · have HR : Hid (usedIn ps = f) := by have := HW.out; rw [drop_end (by rw [HL.out]; omega), usedIn] at this; exact this
      go_wp2_with fail
      go_ret
      exact ⟨ret_int (by rw [HR.out]), rfl⟩
end Go.Proofs.Ytkikjoalhohlgaa
