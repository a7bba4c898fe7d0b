/- The laws' helpers over pages: compared, marked, held. -/
import Derived.Test.YtkikjoalhohlgaaHelp4
namespace Go.Proofs.Ytkikjoalhohlgaa
open Go.RowKit

theorem eqPg_calls {a b : Option Addr} {n m c d : Nat} {p : Pg} {S S' : Nat → Prop} {w : World} (ha : Lst KBool w S a n p.used) (hb : Lst KBool w S' b m p.used) (hx : n ≤ 17592186044416) :
    Calls Try.prog 48 #[.agg #[.int .i64 p.kind, .int .i64 p.cls, .slice a n c, .int .i64 p.run], .agg #[.int .i64 p.kind, .int .i64 p.cls, .slice b m d, .int .i64 p.run]] w fun e w' => e = .returned (.bool true) ∧ Below w.heap.size w w' := by
  have hq1 : (p.kind != p.kind) = false := by simp
  have hq2 : (p.cls != p.cls) = false := by simp
  have hq3 : (p.run != p.run) = false := by simp
  go_enter Try.func48, Try.ntmps48
  go_wp2_with fail
  refine (eqB_calls ((ha.alloc _).alloc _) ((hb.alloc _).alloc _) hx).mono ?_
  rintro e w1 ⟨rfl, hb1⟩
  obtain ⟨h0, h1, hbw, hs⟩ := two_new hb1
  have r0 := Row.cell (w := w1) h0 3
  have r1 := Row.cell (w := w1) h1 3
  simp at r0 r1
  clear hb1
  go_wp2_with fail
  go_ret
  exact ⟨rfl, hbw⟩

/-- Eight cells, and all that was there, are kept. -/
theorem keep8 {W a b : World} {p1 p2 p3 p4 p5 p6 p7 p8 : Addr} {x1 x2 x3 x4 x5 x6 x7 x8 : Value} (h : a.cell? p1 = some x1 ∧ a.cell? p2 = some x2 ∧ a.cell? p3 = some x3 ∧ a.cell? p4 = some x4 ∧ a.cell? p5 = some x5 ∧ a.cell? p6 = some x6 ∧ a.cell? p7 = some x7 ∧ a.cell? p8 = some x8 ∧ Below W.heap.size W a) (hb : Below a.heap.size a b) :
    b.cell? p1 = some x1 ∧ b.cell? p2 = some x2 ∧ b.cell? p3 = some x3 ∧ b.cell? p4 = some x4 ∧ b.cell? p5 = some x5 ∧ b.cell? p6 = some x6 ∧ b.cell? p7 = some x7 ∧ b.cell? p8 = some x8 ∧ Below W.heap.size W b := by
  obtain ⟨h1, h2, h3, h4, h5, h6, h7, h8, h⟩ := h
  have k := fun (p : Addr) (x : Value) (e : a.cell? p = some x) => (hb.cell (World.block_lt_of_cell? _ _ e)).trans e
  exact ⟨k _ _ h1, k _ _ h2, k _ _ h3, k _ _ h4, k _ _ h5, k _ _ h6, k _ _ h7, k _ _ h8, h.trans (hb.mono h.size)⟩

set_option maxHeartbeats 800000 in
theorem eqPgs_calls {a b : Option Addr} {n m c d : Nat} {ps : List Pg} {S S' : Nat → Prop} {w : World} (ha : Lst KPage w S a n ps) (hb : Lst KPage w S' b m ps) (hS : ShortP 17592186044416 ps) (hn : n ≤ 1048576) :
    Calls Try.prog 51 #[.slice a n c, .slice b m d] w fun e w' => e = .returned (.bool true) ∧ Below w.heap.size w w' := by
  obtain rfl : n = m := ha.1.symm.trans hb.1
  have h1 : ((n : Int) != (n : Int)) = false := by simp
  have HL := Lib.hid ha.1
  have HS := Lib.hid hS
  go_enter Try.func51, Try.ntmps51
  go_wp2
  go_loopw [5] (fun i wr => ∃ k : Nat, k ≤ n ∧ i = .int .i64 k ∧ Below w.heap.size w wr) (fun i _ => n - (intOf i).toNat)
  case atStart => exact ⟨0, Nat.zero_le _, rfl, Below.refl _ _⟩
  case round =>
    obtain ⟨k, hk, rfl, hbw⟩ := hrel
    by_cases hlt : k < n
    · obtain ⟨b0, o0, p, a0, l0, c0, rfl, d0, hp, e0, e1, e2, e3, hlc0, hcm0, hu0⟩ := (ha.below hbw).pg_at hlt
      obtain ⟨b1, o1, p', a1, l1, c1, rfl, d1, hp', f0, f1, f2, f3, hlc1, hcm1, hu1⟩ := (hb.below hbw).pg_at hlt
      obtain rfl : p = p' := by rw [hp] at hp'; injection hp'
      have hl : l0 ≤ 17592186044416 := by have := HS.out.at_ hp; have := hu0.1; omega
      have kB := Below.refl wr.heap.size wr
      clear hp hp'
      go_wp2_with fail
      go_region_held3 (fun w' => w'.cell? ⟨b0, o0 + k * 4, none⟩ = some (.int .i64 p.kind) ∧ w'.cell? ⟨b0, o0 + k * 4 + 1, none⟩ = some (.int .i64 p.cls) ∧ w'.cell? ⟨b0, o0 + k * 4 + 2, none⟩ = some (.slice a0 l0 c0) ∧ w'.cell? ⟨b0, o0 + k * 4 + 3, none⟩ = some (.int .i64 p.run) ∧ w'.cell? ⟨b1, o1 + k * 4, none⟩ = some (.int .i64 p.kind) ∧ w'.cell? ⟨b1, o1 + k * 4 + 1, none⟩ = some (.int .i64 p.cls) ∧ w'.cell? ⟨b1, o1 + k * 4 + 2, none⟩ = some (.slice a1 l1 c1) ∧ w'.cell? ⟨b1, o1 + k * 4 + 3, none⟩ = some (.int .i64 p.run) ∧ Below wr.heap.size wr w') (first | assumption | exact ⟨e0, e1, e2, e3, f0, f1, f2, f3, kB.drew⟩)
        ((go_at_call 48; obtain ⟨x0, x1, x2, x3, x4, x5, x6, x7, kb⟩ := ‹_ ∧ _ ∧ _ ∧ _ ∧ _ ∧ _ ∧ _ ∧ _ ∧ Below _ _ _›; refine (eqPg_calls (hu0.below kb) (hu1.below kb) hl).mono ?_; rintro e w' ⟨rfl, b1⟩; have hS' := keep8 ⟨x0, x1, x2, x3, x4, x5, x6, x7, kb⟩ b1))
      have kb2 := hbw.trans (hS'.2.2.2.2.2.2.2.2.mono hbw.size)
      clear hS'
      go_wp2_with fail
      go_roundw
      case rel => exact ⟨k + 1, by omega, by go_num, kb2⟩
      case measure => simp [intOf]; omega
    · go_wp2
      go_ret
      exact ⟨rfl, hbw⟩

/-- A page that is marked from K on; how many marks pages take. -/
def markPg (p : Pg) (K : Int) : Pg := ⟨K, K + 1, marksB (K + 2) p.used.length, K + 2 + p.used.length⟩
def cntP : List Pg → Nat
  | [] => 0
  | p :: r => 3 + p.used.length + cntP r
def marksP : List Pg → Int → List Pg
  | [], _ => []
  | p :: r, K => markPg p K :: marksP r (K + (3 + p.used.length : Nat))
theorem length_marksP : ∀ (ps : List Pg) (K : Int), (marksP ps K).length = ps.length
  | [], _ => rfl
  | p :: r, K => by simp [marksP, length_marksP r]
theorem cntP_take : ∀ {ps : List Pg} {k : Nat} {p : Pg}, ps[k]? = some p → cntP (ps.take (k + 1)) = cntP (ps.take k) + (3 + p.used.length)
  | [], k, p, h => by simp at h
  | q :: r, 0, p, h => by simp at h; subst h; simp [cntP]
  | q :: r, k + 1, p, h => by
    have := cntP_take (ps := r) (k := k) (p := p) (by simpa using h)
    simp only [List.take_succ_cons, cntP] at this ⊢; omega
theorem marksP_at : ∀ {ps : List Pg} {k : Nat} {p : Pg} {K : Int}, ps[k]? = some p → (marksP ps K)[k]? = some (markPg p (K + cntP (ps.take k)))
  | [], k, p, K, h => by simp at h
  | q :: r, 0, p, K, h => by simp at h; subst h; simp [marksP, cntP]
  | q :: r, k + 1, p, K, h => by
    have := marksP_at (ps := r) (k := k) (p := p) (K := K + (3 + q.used.length : Nat)) (by simpa using h)
    simp only [marksP, List.getElem?_cons_succ, List.take_succ_cons, cntP, this]
    congr 2; omega
def markedP (ps : List Pg) (K : Int) (k : Nat) : List Pg := (marksP ps K).take k ++ ps.drop k
theorem markedP_zero (ps : List Pg) (K : Int) : markedP ps K 0 = ps := by simp [markedP]
theorem markedP_full (ps : List Pg) (K : Int) : markedP ps K ps.length = marksP ps K := by simp [markedP, ← length_marksP ps K]
theorem markedP_at {ps : List Pg} {K : Int} {k : Nat} {p : Pg} (h : ps[k]? = some p) : (markedP ps K k)[k]? = some p := by
  have hk := (List.getElem?_eq_some_iff.1 h).1
  unfold markedP
  rw [List.getElem?_append_right (by simp; omega), List.length_take, length_marksP, Nat.min_eq_left (by omega), Nat.sub_self, List.getElem?_drop, Nat.add_zero, h]
theorem markedP_step {ps : List Pg} {K : Int} {k : Nat} {p : Pg} (h : ps[k]? = some p) : (markedP ps K k).set k (markPg p (K + cntP (ps.take k))) = markedP ps K (k + 1) := by
  have hk := (List.getElem?_eq_some_iff.1 h).1
  have hl : ((marksP ps K).take k).length = k := by rw [List.length_take, length_marksP]; omega
  unfold markedP
  rw [List.set_append_right _ _ (by omega), hl, Nat.sub_self, drop_at h, List.set_cons_zero, List.take_add_one, marksP_at h, List.append_assoc]
  rfl
theorem cntP_le {N : Nat} : ∀ {ps : List Pg}, ShortP N ps → cntP ps ≤ ps.length * (N + 3)
  | [], _ => by simp [cntP]
  | p :: r, h => by
    have h1 := h p (by simp)
    have h2 := cntP_le (N := N) (ps := r) (fun q hq => h q (by simp [hq]))
    simp only [cntP, List.length_cons, Nat.add_mul]; omega
theorem cntP_bound {ps : List Pg} (h : ShortP 1048576 ps) (hn : ps.length ≤ 1048576) (k : Nat) : cntP (ps.take k) ≤ 1099514773504 := by
  have h1 := cntP_le (N := 1048576) (ps := ps.take k) (fun q hq => h q (List.mem_of_mem_take hq))
  have h2 : (ps.take k).length ≤ 1048576 := by rw [List.length_take]; omega
  have := Nat.mul_le_mul_right (1048576 + 3) h2
  omega
theorem ShortP_marks {N : Nat} {ps : List Pg} {K : Int} (h : ShortP N ps) : ShortP N (marksP ps K) := by
  intro q hq
  obtain ⟨j, hj, rfl⟩ := List.getElem_of_mem hq
  have hjl : j < ps.length := by rwa [length_marksP] at hj
  have h1 := marksP_at (K := K) (List.getElem?_eq_getElem hjl)
  rw [List.getElem?_eq_getElem hj] at h1
  injection h1 with h1
  rw [h1]
  simp only [markPg, length_marksB]
  exact h _ (List.getElem_mem hjl)

set_option maxHeartbeats 1000000 in
theorem markPgs_calls {v : Value} {n : Nat} {ps : List Pg} {K : Int} {S : Nat → Prop} {w : World} (ho : Own KPage 45 w S v n ps) (hS : ShortP 1048576 ps) (hn : n ≤ 1048576) (h0 : 0 ≤ K) (hK : K ≤ 1048576) :
    Calls Try.prog 53 #[v, .int .i64 K] w fun e w' => e = .returned (.int .i64 (K + cntP ps)) ∧ Own KPage 45 w' S v n (marksP ps K) ∧ Turn S w w' := by
  have HL := Lib.hid ho.1
  have HS := Lib.hid hS
  obtain ⟨ao, c, rfl, hnc, hcm, _⟩ := ho.shape
  go_enter Try.func53, Try.ntmps53
  go_wp2
  go_loopw [1, 5] (fun q i wr => ∃ k r : Nat, k ≤ n ∧ i = .int .i64 k ∧ q = .int .i64 (K + r) ∧ Hid (r = cntP (ps.take k)) ∧ Own KPage 45 wr S (.slice ao n c) n (markedP ps K k) ∧ Turn S w wr) (fun _ i _ => n - (intOf i).toNat)
  case atStart => exact ⟨0, 0, Nat.zero_le _, rfl, by simp, rfl, by rw [markedP_zero]; exact ho, Turn.refl _ _⟩
  case round =>
    obtain ⟨k, r, hk, rfl, rfl, HR, HO, HT⟩ := hrel
    have hr : r ≤ 1099514773504 := by rw [HR.out]; exact cntP_bound HS.out (by rw [HL.out]; exact hn) k
    by_cases hlt : k < n
    · obtain ⟨g, cap, cs, F, p, he, hgS, hp, hcl, hu0, ho0, hF, hst⟩ := HO.focus hlt
      cases he
      have HP : Hid (ps[k]? = some p) := by
        have h1 : k < ps.length := by rw [HL.out]; exact hlt
        have h2 := markedP_at (K := K) (List.getElem?_eq_getElem h1)
        rw [h2] at hp
        show ps[k]? = some p
        rw [List.getElem?_eq_getElem h1]; exact hp
      obtain ⟨v, l, rfl, hU⟩ := KPage_own ho0
      obtain ⟨av, cv, rfl, hlv, hcv, _⟩ := hU.shape
      have hl : l ≤ 1048576 := by have := HS.out.at_ HP.out; have := hU.1; omega
      have HUL := Lib.hid hU.1
      rw [KPage_sz] at hu0 hst
      obtain ⟨c0, c1, c2, c3, hcs, g0, q0, q1, q2, q3, f0, f1, f2, f3⟩ := hu0.cells4 rfl
      injection hcs with e0 hcs; injection hcs with e1 hcs; injection hcs with e2 hcs; injection hcs with e3
      subst e0 e1 e2 e3
      have U1 := ((hu0.set (i := 0) (u := .int .i64 (K + r)) (by simp)).set (i := 1) (u := .int .i64 (K + r + 1)) (by simp))
      have T1 := (Turn.set wr ⟨g, k * 4, none⟩ (.int .i64 (K + r))).trans (Turn.set _ ⟨g, k * 4 + 1, none⟩ (.int .i64 (K + r + 1))) (fun _ h _ => h)
      go_wp2_with fail
      refine (markB_calls (hU.turn T1 (fun k hk _ e => (hF k hk).2.1 e)) (by omega) (by omega) (by omega)).mono ?_
      rintro e w1 ⟨rfl, ho2, ht2⟩
      have hFg : ¬ F g := fun h => (hF g h).2.1 rfl
      have U2 := U1.turn ht2 hFg
      obtain ⟨_, z2, z3⟩ := U2.cell
      have y3 := z2 3 (by simp)
      have y3f := z3 (k * 4 + 3)
      simp at y3
      have U3 := U2.set (i := 3) (u := .int .i64 (K + r + 1 + 1 + l)) (by simp)
      have ho3 := ho2.turn (Turn.set w1 ⟨g, k * 4 + 3, none⟩ (.int .i64 (K + r + 1 + 1 + l))) (fun k' hk' _ e => (hF k' hk').2.1 e)
      have T3 := ((T1.mono (U := fun i => F i ∨ i = g) (fun _ h _ => .inr h)).trans ht2 (fun _ h _ => .inl h)).trans (Turn.set w1 ⟨g, k * 4 + 3, none⟩ (.int .i64 (K + r + 1 + 1 + l))) (fun _ h _ => .inr h)
      have hlu : l = p.used.length := HUL.out.symm
      have hO2 := hst _ F _ (markPg p (K + r)) rfl T3 U3 (by
        have e1 : K + (r : Int) + 2 = K + r + 1 + 1 := by omega
        have := KPage_own_mk (p := markPg p (K + r)) (v := .slice av l cv) (n := l) (S := F) (w := w1.setCell ⟨g, k * 4 + 3, none⟩ (.int .i64 (K + r + 1 + 1 + l))) (by simp only [markPg]; rw [← hlu, e1]; exact ho3)
        simp only [markPg] at this ⊢
        rw [← hlu, e1] at this ⊢
        exact this) (fun k h => .inl h)
      rw [HR.out, markedP_step HP.out, ← HR.out] at hO2
      have HE := cntP_take HP.out
      rw [← HR.out, ← hlu] at HE
      have H2 := Lib.hid (And.intro (hO2.mono (S' := S) (fun k hk _ => hk.elim id (fun h => (hF k h).1))) (HT.trans T3 (fun k hk _ => hk.elim (fun h => (hF k h).1) (fun h => h ▸ hgS))))
      have H3 := Lib.hid HE.symm
      clear hO2 HE hlu T3 ho3 U3 U2 z2 z3 U1 T1 ho2 ht2 hst hF hU ho0 hu0 HO HT hp
      go_wp2_with fail
      go_roundw
      case rel => exact ⟨k + 1, r + (3 + l), by omega, by go_num, by go_num, H3.out, H2.out.1, H2.out.2⟩
      case measure => simp [intOf]; omega
    · obtain rfl : k = n := by omega
      have HF : Hid (r = cntP ps ∧ Own KPage 45 wr S (.slice ao k c) k (marksP ps K) ∧ Turn S w wr) := by
        have h1 := markedP_full ps K
        rw [HL.out] at h1
        rw [h1] at HO
        have h2 := HR.out
        rw [List.take_of_length_le (by rw [HL.out]; omega)] at h2
        exact ⟨h2, HO, HT⟩
      clear HO HT
      go_wp2_with fail
      go_ret
      exact ⟨ret_int (by rw [HF.out.1]), HF.out.2.1, HF.out.2.2⟩

set_option maxHeartbeats 800000 in
theorem heldPgs_calls {ao : Option Addr} {n c : Nat} {ps : List Pg} {K : Int} {S : Nat → Prop} {w : World} (ha : Lst KPage w S ao n (marksP ps K)) (hS : ShortP 1048576 ps) (hn : n ≤ 1048576) (h0 : 0 ≤ K) (hK : K ≤ 1048576) :
    Calls Try.prog 93 #[.slice ao n c, .int .i64 K] w fun e w' => e = .returned (.int .i64 (K + cntP ps)) ∧ Below w.heap.size w w' := by
  have HL := Lib.hid ((length_marksP ps K).symm.trans ha.1)
  have HS := Lib.hid hS
  go_enter Try.func93, Try.ntmps93
  go_wp2
  go_loopw [1, 5] (fun q i wr => ∃ k r : Nat, k ≤ n ∧ i = .int .i64 k ∧ q = .int .i64 (K + r) ∧ Hid (r = cntP (ps.take k)) ∧ Below w.heap.size w wr) (fun _ i _ => n - (intOf i).toNat)
  case atStart => exact ⟨0, 0, Nat.zero_le _, rfl, by simp, rfl, Below.refl _ _⟩
  case round =>
    obtain ⟨k, r, hk, rfl, rfl, HR, hbw⟩ := hrel
    have hr : r ≤ 1099514773504 := by rw [HR.out]; exact cntP_bound HS.out (by rw [HL.out]; exact hn) k
    by_cases hlt : k < n
    · have h1 : k < ps.length := by rw [HL.out]; exact hlt
      obtain ⟨b, off, p, a, l, c', rfl, d0, hp, e0, e1, e2, e3, hlc, hcm, hu⟩ := (ha.below hbw).pg_at hlt
      have hp0 : ps[k]? = some ps[k] := List.getElem?_eq_getElem h1
      rw [marksP_at hp0, ← HR.out] at hp
      injection hp with hp
      subst hp
      have hl : l = ps[k].used.length := by have := hu.1; simp only [markPg, length_marksB] at this; omega
      have hl2 : l ≤ 1048576 := by have := HS.out.at_ hp0; omega
      have H3 := Lib.hid (show r + (3 + l) = cntP (ps.take (k + 1)) by rw [cntP_take hp0, ← HR.out, hl])
      simp only [markPg] at e0 e1 e3 hu
      rw [← hl] at e3 hu
      clear hl hp0
      have n0 : (K + (r : Int) != K + r) = false := by simp
      have n1 : (K + (r : Int) + 1 != K + r + 1) = false := by simp
      have n3 : (K + (r : Int) + 1 + 1 + l != K + r + 1 + 1 + l) = false := by simp
      have x2 : K + (r : Int) + 2 = K + r + 1 + 1 := by omega
      rw [x2] at e3 hu
      clear x2
      have hge : ¬ (K + (r : Int) + 1 + 1 + l < 0) := by omega
      go_wp2_with fail
      refine (heldB_calls hu (by omega) (by omega) (by omega)).mono ?_
      rintro e w1 ⟨rfl, rfl⟩
      go_wp2_with fail
      go_roundw
      case rel => exact ⟨k + 1, r + (3 + l), by omega, by go_num, by go_num, H3.out, hbw⟩
      case measure => simp [intOf]; omega
    · obtain rfl : k = n := by omega
      have HF : Hid (r = cntP ps) := by
        have h2 := HR.out
        rw [List.take_of_length_le (by rw [HL.out]; omega)] at h2
        exact h2
      go_wp2_with fail
      go_ret
      exact ⟨ret_int (by rw [HF.out]), hbw⟩

/-- Results of a code, pages and a place: compared, marked, held. -/
theorem eqPR_calls {a b : Option Addr} {n m c d : Nat} {q z : Int} {ps : List Pg} {S S' : Nat → Prop} {w : World} (ha : Lst KPage w S a n ps) (hb : Lst KPage w S' b m ps) (hS : ShortP 17592186044416 ps) (hn : n ≤ 1048576) :
    Calls Try.prog 52 #[.agg #[.int .i64 q, .slice a n c, .int .i64 z], .agg #[.int .i64 q, .slice b m d, .int .i64 z]] w fun e w' => e = .returned (.bool true) ∧ Below w.heap.size w w' := by
  have hq : (q != q) = false := by simp
  have hz : (z != z) = false := by simp
  go_enter Try.func52, Try.ntmps52
  go_wp2_with fail
  refine (eqPgs_calls ((ha.alloc _).alloc _) ((hb.alloc _).alloc _) hS hn).mono ?_
  rintro e w1 ⟨rfl, hb1⟩
  obtain ⟨h0, h1, hbw, hs⟩ := two_new hb1
  have r0 := Row.cell (w := w1) h0 2
  have r1 := Row.cell (w := w1) h1 2
  simp at r0 r1
  clear hb1
  go_wp2_with fail
  go_ret
  exact ⟨rfl, hbw⟩

theorem markPR_calls {v : Value} {n : Nat} {q z K : Int} {ps : List Pg} {S : Nat → Prop} {w : World} (ho : Own KPage 45 w S v n ps) (hS : ShortP 1048576 ps) (hn : n ≤ 1048576) (h0 : 0 ≤ K) (hK : K ≤ 1048576) :
    Calls Try.prog 54 #[.agg #[.int .i64 q, v, .int .i64 z], .int .i64 K] w fun e w' => e = .returned (.int .i64 (K + cntP ps)) ∧ Own KPage 45 w' S v n (marksP ps K) ∧ Turn S w w' := by
  obtain ⟨ao, c, rfl, _, _, _⟩ := ho.shape
  have HO := Lib.hid ho
  clear ho
  go_enter Try.func54, Try.ntmps54
  go_wp2_with fail
  have ho1 := HO.out.here.alloc (.cells #[.int .i64 q, .slice ao n c, .int .i64 z] 28)
  refine (markPgs_calls ho1 hS hn h0 hK).mono ?_
  rintro e w1 ⟨rfl, ho2, ht⟩
  have HO2 : Hid (Own KPage 45 w1 S (.slice ao n c) n (marksP ps K) ∧ Turn S w w1) := ⟨ho2.mono (fun k hk _ => hk.1), (Turn.alloc S w _).trans ht (fun k hk _ => hk.1)⟩
  clear ho1 ho2 ht
  go_wp2_with fail
  go_ret
  exact ⟨rfl, HO2.out.1, HO2.out.2⟩

theorem heldPR_calls {ao : Option Addr} {n c : Nat} {q z K : Int} {ps : List Pg} {S : Nat → Prop} {w : World} (ha : Lst KPage w S ao n (marksP ps K)) (hS : ShortP 1048576 ps) (hn : n ≤ 1048576) (h0 : 0 ≤ K) (hK : K ≤ 1048576) :
    Calls Try.prog 55 #[.agg #[.int .i64 q, .slice ao n c, .int .i64 z], .int .i64 K] w fun e w' => e = .returned (.int .i64 (K + cntP ps)) ∧ Below w.heap.size w w' := by
  go_enter Try.func55, Try.ntmps55
  go_wp2_with fail
  refine (heldPgs_calls (ha.alloc _) hS hn h0 hK).mono ?_
  rintro e w1 ⟨rfl, hb1⟩
  have hlt : ¬ (K + (cntP ps : Int) < 0) := by omega
  go_wp2_with fail
  go_ret
  exact ⟨rfl, below_past hb1⟩
end Go.Proofs.Ytkikjoalhohlgaa
