/- Joined texts (Help5d, Hold5, Blk4, Run4, Spec4f, Spec4g, Spec4h, Impl4d, Impl4e, Spec4i, With4, Without4): steps of the proofs of chapter 5's laws. -/
import Derived.Handy
import Derived.Deep.LoopGhost
import Derived.Deep.RegionHeld3
import Derived.Test.YtcnpckaacigbfaaGreatM3
import Derived.Test.YtcnpckaacigbfaaGreatM4
import Derived.Test.YtcnpckaacigbfaaGreatM5
set_option linter.unusedVariables false
set_option linter.unusedSimpArgs false
/- The laws' helpers over heaps: marked, held. -/
namespace Go.Proofs.YtcnpckaacigbfaaGreat
open Go.RowKit

/-- Lists of lists that are marked from K on. -/
def marksM : List (List Int) → Int → List (List Int)
  | [], _ => []
  | m :: r, K => marks K m.length :: marksM r (K + (m.length : Int))
theorem length_marksM : ∀ (ms : List (List Int)) (K : Int), (marksM ms K).length = ms.length
  | [], _ => rfl
  | m :: r, K => by simp [marksM, length_marksM r]
theorem marksM_at : ∀ {ms : List (List Int)} {k : Nat} {m : List Int} {K : Int}, ms[k]? = some m → (marksM ms K)[k]? = some (marks (K + ((ms.take k).flatten.length : Int)) m.length)
  | [], k, m, K, h => by simp at h
  | q :: r, 0, m, K, h => by simp at h; subst h; simp [marksM]
  | q :: r, k + 1, m, K, h => by
    have := marksM_at (ms := r) (k := k) (m := m) (K := K + (q.length : Int)) (by simpa using h)
    simp only [marksM, List.getElem?_cons_succ, List.take_succ_cons, List.flatten_cons, List.length_append, this]
    congr 2; omega
def markedM (ms : List (List Int)) (K : Int) (k : Nat) : List (List Int) := (marksM ms K).take k ++ ms.drop k
theorem markedM_zero (ms : List (List Int)) (K : Int) : markedM ms K 0 = ms := by simp [markedM]
theorem markedM_full (ms : List (List Int)) (K : Int) : markedM ms K ms.length = marksM ms K := by simp [markedM, ← length_marksM ms K]
theorem markedM_at {ms : List (List Int)} {K : Int} {k : Nat} {m : List Int} (h : ms[k]? = some m) : (markedM ms K k)[k]? = some m := by
  have hk := (List.getElem?_eq_some_iff.1 h).1
  unfold markedM
  rw [List.getElem?_append_right (by simp; omega), List.length_take, length_marksM, Nat.min_eq_left (by omega), Nat.sub_self, List.getElem?_drop, Nat.add_zero, h]
theorem markedM_step {ms : List (List Int)} {K : Int} {k : Nat} {m : List Int} (h : ms[k]? = some m) : (markedM ms K k).set k (marks (K + ((ms.take k).flatten.length : Int)) m.length) = markedM ms K (k + 1) := by
  have hk := (List.getElem?_eq_some_iff.1 h).1
  have hl : ((marksM ms K).take k).length = k := by rw [List.length_take, length_marksM]; omega
  unfold markedM
  rw [List.set_append_right _ _ (by omega), hl, Nat.sub_self, drop_at h, List.set_cons_zero, List.take_add_one, marksM_at h, List.append_assoc]
  rfl
theorem flatten_bound {N : Nat} : ∀ {ms : List (List Int)}, ShortM N ms → ms.flatten.length ≤ ms.length * N
  | [], _ => by simp
  | m :: r, h => by
    have h1 := h m (by simp)
    have h2 := flatten_bound (N := N) (ms := r) (fun q hq => h q (by simp [hq]))
    simp only [List.flatten_cons, List.length_append, List.length_cons, Nat.add_mul]; omega
theorem cntM_bound {ms : List (List Int)} (h : ShortM 1048576 ms) (hn : ms.length ≤ 1048576) (k : Nat) : (ms.take k).flatten.length ≤ 1099511627776 := by
  have h1 := flatten_bound (N := 1048576) (ms := ms.take k) (fun q hq => h q (List.mem_of_mem_take hq))
  have h2 : (ms.take k).length ≤ 1048576 := by rw [List.length_take]; omega
  have := Nat.mul_le_mul_right 1048576 h2
  omega
theorem cntM_take {ms : List (List Int)} {k : Nat} {m : List Int} (h : ms[k]? = some m) : (ms.take (k + 1)).flatten.length = (ms.take k).flatten.length + m.length := by
  rw [List.take_add_one, h]; simp

set_option maxHeartbeats 1000000 in
theorem markMags_calls {v : Value} {n t : Nat} {ms : List (List Int)} {K : Int} {S : Nat → Prop} {w : World} (ho : Own KMag 27 w S v n ms) (ht : ms.flatten.length = t) (hS : ShortM 1048576 ms) (hn : n ≤ 1048576) (h0 : 0 ≤ K) (hK : K ≤ 4398046511104) :
    Calls Tryz.prog 98 #[v, .int .i64 K] w fun e w' => e = .returned (.int .i64 (K + t)) ∧ Own KMag 27 w' S v n (marksM ms K) ∧ Turn S w w' := by
  have HL := Lib.hid ho.1
  have HS := Lib.hid hS
  have HTt := Lib.hid ht
  clear ht
  obtain ⟨ao, c, rfl, hnc, hcm, _⟩ := ho.shape
  go_enter Tryz.func98, Tryz.ntmps98
  go_wp2
  go_loopw [1, 5] (fun q i wr => ∃ k r : Nat, k ≤ n ∧ i = .int .i64 k ∧ q = .int .i64 (K + r) ∧ Hid (r = (ms.take k).flatten.length) ∧ Own KMag 27 wr S (.slice ao n c) n (markedM ms K k) ∧ Turn S w wr) (fun _ i _ => n - (intOf i).toNat)
  case atStart => exact ⟨0, 0, Nat.zero_le _, rfl, by simp, by simp [Hid], by rw [markedM_zero]; exact ho, Turn.refl _ _⟩
  case round =>
    obtain ⟨k, r, hk, rfl, rfl, HR, HO, HT⟩ := hrel
    have hr : r ≤ 1099511627776 := by rw [HR.out]; exact cntM_bound HS.out (by rw [HL.out]; exact hn) k
    by_cases hlt : k < n
    · obtain ⟨g, cap, cs, F, m, he, hgS, hp, hcl, hu0, ho0, hF, hst⟩ := HO.focus hlt
      cases he
      have HP : Hid (ms[k]? = some m) := by
        have h1 : k < ms.length := by rw [HL.out]; exact hlt
        have h2 := markedM_at (K := K) (List.getElem?_eq_getElem h1)
        rw [h2] at hp
        show ms[k]? = some m
        rw [List.getElem?_eq_getElem h1]; exact hp
      obtain ⟨y0, l, rfl, hU⟩ := ho0
      obtain ⟨av, cv, rfl, hlv, hcv, _⟩ := hU.shape
      have hl : l ≤ 1048576 := by have := HS.out.at_ HP.out; have := hU.1; omega
      have HUL := Lib.hid hU.1
      obtain ⟨z1, z2, z3⟩ := hu0.cell
      have q0 := z2 0 (by simp)
      rw [show KMag.sz = 1 from rfl, Nat.mul_one] at q0 hu0 hst
      simp only [Nat.add_zero, List.getElem?_cons_zero] at q0
      clear z2 z3
      go_wp2_with fail
      refine (markW_calls hU (by omega) (by omega) (by omega)).mono ?_
      rintro e w1 ⟨rfl, ho2, ht2⟩
      have hFg : ¬ F g := fun h => (hF g h).2.1 rfl
      have U2 := hu0.turn ht2 hFg
      have hO2 := hst _ F _ (marks (K + r) l) rfl (ht2.mono (fun k hk _ => .inl hk)) U2 (KMag_own_mk ho2) (fun k h => .inl h)
      have hlm : m.length = l := HUL.out
      rw [HR.out, ← hlm, markedM_step HP.out] at hO2
      have HE := cntM_take HP.out
      rw [← HR.out, hlm] at HE
      have H2 := Lib.hid (And.intro (hO2.mono (S' := S) (fun k hk _ => hk.elim id (fun h => (hF k h).1))) (HT.trans ht2 (fun k hk _ => (hF k hk).1)))
      have H3 := Lib.hid HE.symm
      clear hO2 HE hlm U2 hst hF hU hu0 HO HT hp ho2 ht2
      go_wp2_with fail
      go_roundw
      case rel => exact ⟨k + 1, r + l, by omega, by go_num, by go_num, H3.out, H2.out.1, H2.out.2⟩
      case measure => simp [intOf]; omega
    · obtain rfl : k = n := by omega
      have HF : Hid (r = t ∧ Own KMag 27 wr S (.slice ao k c) k (marksM ms K) ∧ Turn S w wr) := by
        have h1 := markedM_full ms K
        rw [HL.out] at h1
        rw [h1] at HO
        have h2 := HR.out
        rw [List.take_of_length_le (by rw [HL.out]; omega)] at h2
        exact ⟨h2.trans HTt.out, HO, HT⟩
      clear HO HT
      go_wp2_with fail
      go_ret
      exact ⟨ret_int (by rw [HF.out.1]), HF.out.2.1, HF.out.2.2⟩

set_option maxHeartbeats 800000 in
theorem heldMags_calls {ao : Option Addr} {n c t : Nat} {ms : List (List Int)} {K : Int} {S : Nat → Prop} {w : World} (ha : Lst KMag w S ao n (marksM ms K)) (ht : ms.flatten.length = t) (hS : ShortM 1048576 ms) (hn : n ≤ 1048576) (h0 : 0 ≤ K) (hK : K ≤ 4398046511104) :
    Calls Tryz.prog 137 #[.slice ao n c, .int .i64 K] w fun e w' => e = .returned (.int .i64 (K + t)) ∧ w = w' := by
  have HL := Lib.hid ((length_marksM ms K).symm.trans ha.1)
  have HS := Lib.hid hS
  have HTt := Lib.hid ht
  clear ht
  go_enter Tryz.func137, Tryz.ntmps137
  go_wp2
  go_loop [1, 5] (fun q i => ∃ k r : Nat, k ≤ n ∧ i = .int .i64 k ∧ q = .int .i64 (K + r) ∧ Hid (r = (ms.take k).flatten.length)) (fun _ i => n - (intOf i).toNat)
  case atStart => exact ⟨0, 0, Nat.zero_le _, rfl, by simp, by simp [Hid]⟩
  case round =>
    obtain ⟨k, r, hk, rfl, rfl, HR⟩ := hrel
    have hr : r ≤ 1099511627776 := by rw [HR.out]; exact cntM_bound HS.out (by rw [HL.out]; exact hn) k
    by_cases hlt : k < n
    · have h1 : k < ms.length := by rw [HL.out]; exact hlt
      obtain ⟨b0, o0, m, a, l, c', rfl, d0, hp, e0, hlc, hcm, hu⟩ := ha.mag_at hlt
      have hp0 : ms[k]? = some ms[k] := List.getElem?_eq_getElem h1
      rw [marksM_at hp0, ← HR.out] at hp
      injection hp with hp
      subst hp
      have hl : l = ms[k].length := by have := hu.1; rw [length_marks] at this; omega
      have hl2 : l ≤ 1048576 := by have := HS.out.at_ hp0; omega
      have H3 := Lib.hid (show r + l = (ms.take (k + 1)).flatten.length by rw [cntM_take hp0, ← HR.out, hl])
      rw [← hl] at hu
      have HU := Lib.hid hu.ints
      clear hl hp0 hu
      have hge : ¬ (K + (r : Int) + l < 0) := by omega
      go_wp2_with fail
      refine (held_calls HU.out (by omega) (by omega) (by omega)).mono ?_
      rintro e w1 ⟨rfl, rfl⟩
      go_wp2_with fail
      go_round
      case rel => exact ⟨k + 1, r + l, by omega, by go_num, by go_num, H3.out⟩
      case measure => simp [intOf]; omega
    · obtain rfl : k = n := by omega
      have HF : Hid (r = t) := by
        have h2 := HR.out
        rw [List.take_of_length_le (by rw [HL.out]; omega)] at h2
        exact h2.trans HTt.out
      go_wp2_with fail
      go_ret
      exact ⟨ret_int (by rw [HF.out]), rfl⟩

/-- A heap that is marked from K on; how many marks it takes. -/
def markHp (h : Hp) (K : Int) : Hp := ⟨marksP h.pages K, marks (K + cntP h.pages) h.words.length, marksM h.mags (K + cntP h.pages + h.words.length)⟩
def cntH (h : Hp) : Nat := cntP h.pages + h.words.length + h.mags.flatten.length
theorem cntH_le {h : Hp} (hs : HpS 1048576 h) : cntP h.pages ≤ 1099514773504 ∧ h.words.length ≤ 1048576 ∧ h.mags.flatten.length ≤ 1099511627776 := by
  refine ⟨?_, hs.w, ?_⟩
  · have := cntP_bound hs.u hs.p h.pages.length; rwa [List.take_length] at this
  · have := cntM_bound hs.k hs.m h.mags.length; rwa [List.take_length] at this

set_option maxHeartbeats 800000 in
theorem markHeap_calls {vp vw vm : Value} {np nw nm : Nat} {h : Hp} {K : Int} {S : Nat → Prop} {w : World} (ho : HpO w S vp np vw nw vm nm h) (hs : HpS 1048576 h) (h0 : 0 ≤ K) (hK : K ≤ 1048576) :
    Calls Tryz.prog 38 #[.agg #[vp, vw, vm], .int .i64 K] w fun e w' => e = .returned (.int .i64 (K + cntH h)) ∧ HpO w' S vp np vw nw vm nm (markHp h K) ∧ Turn S w w' := by
  obtain ⟨S1, S2, S3, o1, o2, o3, d1, d2, d3, e1, e2, e3⟩ := ho.ex
  obtain ⟨pa, pc, rfl, _, _, _⟩ := o1.shape
  obtain ⟨wa, wc, rfl, _, _, _⟩ := o2.shape
  obtain ⟨ma, mc, rfl, _, _, _⟩ := o3.shape
  have HS := Lib.hid hs
  have n1 : np ≤ 1048576 := by have := o1.1; have := hs.p; omega
  have n2 : nw ≤ 1048576 := by have := o2.1; have := hs.w; omega
  have n3 : nm ≤ 1048576 := by have := o3.1; have := hs.m; omega
  obtain ⟨c1, hc1⟩ : ∃ c, c = cntP h.pages := ⟨_, rfl⟩
  have hc1b : c1 ≤ 1099514773504 := by rw [hc1]; exact (cntH_le hs).1
  have HC1 := Lib.hid hc1
  have HW := Lib.hid o2.1
  have O1 := Lib.hid o1.here
  have O2 := Lib.hid o2.here
  have O3 := Lib.hid o3.here
  have HD := Lib.hid (And.intro d1 (And.intro d2 (And.intro d3 (And.intro e1 (And.intro e2 e3)))))
  clear ho o1 o2 o3 d1 d2 d3 e1 e2 e3 hs hc1
  go_enter Tryz.func38, Tryz.ntmps38
  go_wp2_with fail
  have hrow : Row (w.alloc (.cells #[.slice pa np pc, .slice wa nw wc, .slice ma nm mc] 30)) w.heap.size 30 #[.slice pa np pc, .slice wa nw wc, .slice ma nm mc] := heap_alloc_new _ _
  refine (markPgs_calls (O1.out.alloc _) HS.out.u n1 h0 hK).mono ?_
  rintro e w1 ⟨rfl, p1, t1⟩
  rw [← HC1.out]
  have R1 := t1.row hrow (fun hq => by have := hq.2; omega)
  have tA := (Turn.alloc (fun q => S1 q ∧ q < w.heap.size) w (.cells #[.slice pa np pc, .slice wa nw wc, .slice ma nm mc] 30)).trans t1 (fun _ h _ => h)
  have H1 := Lib.hid (And.intro p1 (And.intro (O2.out.turn tA (fun q hq _ h => HD.out.2.2.2.1 q h.1 hq.1)) (And.intro (O3.out.turn tA (fun q hq _ h => HD.out.2.2.2.2.1 q h.1 hq.1)) tA)))
  have q1 := R1.cell 1
  have q2 := R1.cell 2
  have ql := R1.lt
  simp at q1 q2
  clear hrow p1 t1 tA
  go_wp2_with fail
  refine (markW_calls H1.out.2.1 (by omega) (by omega) (by omega)).mono ?_
  rintro e w2 ⟨rfl, p2, t2⟩
  have R2 := t2.row R1 (fun hq => by have := hq.2; omega)
  have H2 := Lib.hid (And.intro (H1.out.1.turn t2 (fun q hq _ h => HD.out.2.2.2.1 q hq.1 h.1)) (And.intro p2 (And.intro (H1.out.2.2.1.turn t2 (fun q hq _ h => HD.out.2.2.2.2.2 q h.1 hq.1)) t2)))
  clear q1 q2 ql R1 p2 t2
  have q2 := R2.cell 2
  have ql := R2.lt
  simp at q2
  go_wp2_with fail
  obtain ⟨c3, hc3⟩ : ∃ c, c = h.mags.flatten.length := ⟨_, rfl⟩
  have hc3b : c3 ≤ 1099511627776 := by rw [hc3]; exact (cntH_le HS.out).2.2
  have HC3 := Lib.hid hc3
  refine (markMags_calls H2.out.2.2.1 hc3.symm HS.out.k n3 (by omega) (by omega)).mono ?_
  rintro e w3 ⟨rfl, p3, t3⟩
  have HE : Hid (HpO w3 S (.slice pa np pc) np (.slice wa nw wc) nw (.slice ma nm mc) nm (markHp h K) ∧ Turn S w w3) := by
    obtain ⟨d1, d2, d3, e1, e2, e3⟩ := HD.out
    refine ⟨HpO.mk3 (A := fun q => S1 q ∧ q < w.heap.size) (B := fun q => S2 q ∧ q < w.heap.size) (C := fun q => S3 q ∧ q < w.heap.size) (H2.out.1.turn t3 (fun q hq _ h => e2 q hq.1 h.1)) ?_ ?_ (fun q hq => d1 q hq.1) (fun q hq => d2 q hq.1) (fun q hq => d3 q hq.1) (fun q hq h => e1 q hq.1 h.1) (fun q hq h => e2 q hq.1 h.1) (fun q hq h => e3 q hq.1 h.1), ?_⟩
    · have := H2.out.2.1.turn t3 (fun q hq _ h => e3 q hq.1 h.1)
      simp only [markHp]
      rw [← HC1.out, HW.out]; exact this
    · simp only [markHp]
      rw [← HC1.out, HW.out]; exact p3
    · exact ((H1.out.2.2.2.mono (U := S) (fun q hq _ => d1 q hq.1)).trans (H2.out.2.2.2.mono (U := S) (fun q hq _ => d2 q hq.1)) (fun q hq _ => hq)).trans (t3.mono (U := S) (fun q hq _ => d3 q hq.1)) (fun q hq _ => hq)
  clear p3 t3 hc3
  go_wp2_with fail
  go_ret
  refine ⟨ret_int ?_, HE.out.1, HE.out.2⟩
  unfold cntH
  rw [← HC1.out, HW.out, ← HC3.out]
  omega

set_option maxHeartbeats 800000 in
theorem heldHeap_calls {pa wa ma : Option Addr} {pn pc wn wk mn mc : Nat} {h : Hp} {K : Int} {S : Nat → Prop} {w : World} (hr : HpR w S pa pn pc wa wn wk ma mn mc (markHp h K)) (hs : HpS 1048576 h) (h0 : 0 ≤ K) (hK : K ≤ 1048576) :
    Calls Tryz.prog 101 #[.agg #[.slice pa pn pc, .slice wa wn wk, .slice ma mn mc], .int .i64 K] w fun e w' => e = .returned (.int .i64 (K + cntH h)) ∧ Below w.heap.size w w' := by
  have HR := Lib.hid hr
  have HS := Lib.hid hs
  have n1 : pn ≤ 1048576 := by have := hs.p; have h2 := hr.pg.1; simp only [markHp, length_marksP] at h2; omega
  have hwl : h.words.length = wn := by have h2 := hr.wd.1; simp only [markHp, length_marks] at h2; exact h2
  have n2 : wn ≤ 1048576 := by have := hs.w; omega
  have n3 : mn ≤ 1048576 := by have h2 := hr.mg.1; simp only [markHp, length_marksM] at h2; have := hs.m; omega
  obtain ⟨c1, hc1⟩ : ∃ c, c = cntP h.pages := ⟨_, rfl⟩
  have hc1b : c1 ≤ 1099514773504 := by rw [hc1]; exact (cntH_le hs).1
  have HC1 := Lib.hid hc1
  have HW := Lib.hid hwl
  clear hr hs hc1 hwl
  have g1 : ¬ (K + (c1 : Int) < 0) := by omega
  have g2 : ¬ (K + (c1 : Int) + wn < 0) := by omega
  go_enter Tryz.func101, Tryz.ntmps101
  go_wp2_with fail
  refine (heldPgs_calls (HR.out.pg.alloc _) HS.out.u n1 h0 hK).mono ?_
  rintro e w1 ⟨rfl, hb1⟩
  rw [← HC1.out]
  have R1 := Row.new hb1
  have B1 := Lib.hid (below_past hb1)
  have q1 := R1.cell 1
  have q2 := R1.cell 2
  have ql := R1.lt
  simp at q1 q2
  clear hb1 R1
  go_wp2_with fail
  refine (held_calls (K := K + c1) (by have := (HR.out.below B1.out).wd.ints; simp only [markHp] at this; rw [← HC1.out, HW.out] at this; exact this) (by omega) (by omega) (by omega)).mono ?_
  rintro e w2 ⟨rfl, rfl⟩
  go_wp2_with fail
  obtain ⟨c3, hc3⟩ : ∃ c, c = h.mags.flatten.length := ⟨_, rfl⟩
  have hc3b : c3 ≤ 1099511627776 := by rw [hc3]; exact (cntH_le HS.out).2.2
  have HC3 := Lib.hid hc3
  refine (heldMags_calls (ms := h.mags) (K := K + c1 + wn) (t := c3) (by have := (HR.out.below B1.out).mg; simp only [markHp] at this; rw [← HC1.out, HW.out] at this; exact this) hc3.symm HS.out.k n3 (by omega) (by omega)).mono ?_
  rintro e w3 ⟨rfl, rfl⟩
  clear hc3
  have g3 : ¬ (K + (c1 : Int) + wn + c3 < 0) := by omega
  go_wp2_with fail
  go_ret
  refine ⟨ret_int ?_, B1.out⟩
  unfold cntH
  rw [← HC1.out, HW.out, ← HC3.out]
  omega

set_option maxHeartbeats 800000 in
theorem markHR_calls {vp vw vm : Value} {np nw nm : Nat} {h : Hp} {q K : Int} {S : Nat → Prop} {w : World} (ho : HpO w S vp np vw nw vm nm h) (hs : HpS 1048576 h) (h0 : 0 ≤ K) (hK : K ≤ 1048576) :
    Calls Tryz.prog 42 #[.agg #[.int .i64 q, vp, vw, vm, .int .i64 0, .int .i64 0], .int .i64 K] w fun e w' => e = .returned (.int .i64 (K + cntH h)) ∧ HpO w' S vp np vw nw vm nm (markHp h K) ∧ Turn S w w' := by
  obtain ⟨pa, pc, wa, wc, ma, mc, rfl, rfl, rfl, _⟩ := ho.shape
  have HO := Lib.hid (ho.mono (S' := fun k => S k ∧ k < w.heap.size) (fun k hk hl => ⟨hk, hl⟩))
  have HS := Lib.hid hs
  clear ho hs
  go_enter Tryz.func42, Tryz.ntmps42
  go_wp2_with fail
  refine (markHeap_calls (HO.out.below ((Below.refl _ _).alloc (Nat.le_refl _) _)) HS.out h0 hK).mono ?_
  rintro e w1 ⟨rfl, ho2, ht⟩
  obtain ⟨c, hc⟩ : ∃ c, c = cntH h := ⟨_, rfl⟩
  have HC := Lib.hid hc
  rw [← hc]
  have hcb : c ≤ 2199027449856 := by rw [hc]; have := cntH_le HS.out; unfold cntH; omega
  have HO2 := Lib.hid (And.intro (ho2.mono (S' := S) (fun k hk _ => hk.1)) ((Turn.alloc S w _).trans ht (fun k hk _ => hk.1)))
  clear ho2 ht hc
  go_wp2_with fail
  go_ret
  exact ⟨ret_int (by rw [HC.out]), HO2.out.1, HO2.out.2⟩

theorem heldHR_calls {pa wa ma : Option Addr} {pn pc wn wk mn mc : Nat} {h : Hp} {q K : Int} {S : Nat → Prop} {w : World} (hr : HpR w S pa pn pc wa wn wk ma mn mc (markHp h K)) (hs : HpS 1048576 h) (h0 : 0 ≤ K) (hK : K ≤ 1048576) :
    Calls Tryz.prog 43 #[.agg #[.int .i64 q, .slice pa pn pc, .slice wa wn wk, .slice ma mn mc, .int .i64 0, .int .i64 0], .int .i64 K] w fun e w' => e = .returned (.int .i64 (K + cntH h)) ∧ Below w.heap.size w w' := by
  have HR := Lib.hid hr
  have HS := Lib.hid hs
  clear hr hs
  go_enter Tryz.func43, Tryz.ntmps43
  go_wp2_with fail
  refine (heldHeap_calls (HR.out.below ((Below.refl _ _).alloc (Nat.le_refl _) _)) HS.out h0 hK).mono ?_
  rintro e w1 ⟨rfl, hb1⟩
  obtain ⟨c, hc⟩ : ∃ c, c = cntH h := ⟨_, rfl⟩
  have HC := Lib.hid hc
  rw [← hc]
  have hcb : c ≤ 2199027449856 := by rw [hc]; have := cntH_le HS.out; unfold cntH; omega
  have hlt : ¬ (K + (c : Int) < 0) := by omega
  clear hc
  go_wp2_with fail
  go_ret
  exact ⟨ret_int (by rw [HC.out]), below_past hb1⟩
end Go.Proofs.YtcnpckaacigbfaaGreat

/- What the exact laws of chapter 5 have in their hands. -/
namespace Go.Proofs.YtcnpckaacigbfaaGreat
open Go.RowKit

theorem MakesHeap.open_ {w w' : World} {h : Hp} {e : Ending} (hm : MakesHeap w h e w') : ∃ pa pn pc wa wn wk ma mn mc, e = .returned (.agg #[.slice pa pn pc, .slice wa wn wk, .slice ma mn mc]) ∧ HpO w' (fun k => w.heap.size ≤ k) (.slice pa pn pc) pn (.slice wa wn wk) wn (.slice ma mn mc) mn h ∧ Below w.heap.size w w' := by
  obtain ⟨vp, np, vw, nw, vm, nm, rfl, ho, hb⟩ := hm
  obtain ⟨pa, pc, wa, wc, ma, mc, rfl, rfl, rfl, _⟩ := ho.shape
  exact ⟨_, _, _, _, _, _, _, _, _, rfl, ho, hb⟩
/-- The heap that came in, in its box. -/
structure InH (w W : World) (pa : Option Addr) (pn pc : Nat) (wa : Option Addr) (wn wk : Nat) (ma : Option Addr) (mn mc : Nat) (h : Hp) : Prop where
  bel : Below w.heap.size w W
  row : Row W w.heap.size 58 #[.slice pa pn pc, .slice wa wn wk, .slice ma mn mc]
  rd : HpR W (fun k => k < w.heap.size) pa pn pc wa wn wk ma mn mc h
theorem InH.below {w W W' : World} {pa wa ma : Option Addr} {pn pc wn wk mn mc : Nat} {h : Hp} (hi : InH w W pa pn pc wa wn wk ma mn mc h) (hb : Below W.heap.size W W') : InH w W' pa pn pc wa wn wk ma mn mc h :=
  ⟨hi.bel.trans (hb.mono hi.bel.size), hi.row.below hb, hi.rd.below hb⟩
theorem InH.start {w : World} {S : Nat → Prop} {pa wa ma : Option Addr} {pn pc wn wk mn mc : Nat} {h : Hp} (hT : HpR w S pa pn pc wa wn wk ma mn mc h) : InH w (w.alloc (.cells #[.slice pa pn pc, .slice wa wn wk, .slice ma mn mc] 58)) pa pn pc wa wn wk ma mn mc h :=
  ⟨(Below.refl _ _).alloc (Nat.le_refl _) _, heap_alloc_new _ _, (hT.mono (fun k _ hk => hk)).alloc _⟩
theorem InH.turn {w W W' : World} {T : Nat → Prop} {pa wa ma : Option Addr} {pn pc wn wk mn mc : Nat} {h : Hp} (hi : InH w W pa pn pc wa wn wk ma mn mc h) (ht : Turn T W W') (hT : ∀ k, T k → w.heap.size < k) : InH w W' pa pn pc wa wn wk ma mn mc h :=
  ⟨ht.below hi.bel hi.bel.size (fun k hk => Nat.le_of_lt (hT k hk)), ht.row hi.row (fun hk => Nat.lt_irrefl _ (hT _ hk)), hi.rd.turn ht (fun k hk _ h => by have := hT k h; omega)⟩
/-- Six cells, and all that was there, are kept. -/
theorem keepHH {W a b : World} {p1 p2 p3 p4 p5 p6 : Addr} {x1 x2 x3 x4 x5 x6 : Value} (h : a.cell? p1 = some x1 ∧ a.cell? p2 = some x2 ∧ a.cell? p3 = some x3 ∧ a.cell? p4 = some x4 ∧ a.cell? p5 = some x5 ∧ a.cell? p6 = some x6 ∧ Below W.heap.size W a) (hb : Below a.heap.size a b) :
    b.cell? p1 = some x1 ∧ b.cell? p2 = some x2 ∧ b.cell? p3 = some x3 ∧ b.cell? p4 = some x4 ∧ b.cell? p5 = some x5 ∧ b.cell? p6 = some x6 ∧ Below W.heap.size W b := by
  obtain ⟨h1, h2, h3, h4, h5, h6, h⟩ := h
  have k := fun (p : Addr) (x : Value) (e : a.cell? p = some x) => (hb.cell (World.block_lt_of_cell? _ _ e)).trans e
  exact ⟨k _ _ h1, k _ _ h2, k _ _ h3, k _ _ h4, k _ _ h5, k _ _ h6, h.trans (hb.mono h.size)⟩
end Go.Proofs.YtcnpckaacigbfaaGreat

/- Chapter 4 of the program: what holds a block. -/
namespace Go.Proofs.YtcnpckaacigbfaaGreat
open Go.RowKit

def blkV : Blk → Value
  | .slot i c s => .iface 152 (.agg #[.int .i64 i, .int .i64 c, .int .i64 s])
  | .run i n => .iface 149 (.agg #[.int .i64 i, .int .i64 n])
def blkO : Option Blk → Value
  | none => .nilIface
  | some b => blkV b

theorem slotSize_calls {i c s : Int} {w : World} (h0 : 0 ≤ c) (h3 : c ≤ 3) :
    Calls Tryz.prog 170 #[.agg #[.int .i64 i, .int .i64 c, .int .i64 s]] w fun e w' => e = .returned (.int .i64 (sizeW c)) ∧ Below w.heap.size w w' := by
  go_enter Tryz.func170, Tryz.ntmps170
  go_wp2_with fail
  refine (wordsOfClass_calls h0 h3).mono ?_
  rintro e w' ⟨rfl, rfl⟩
  go_wp2_with fail
  go_ret
  exact ⟨rfl, (Below.refl _ _).alloc (Nat.le_refl _) _⟩

theorem runStart_calls {i n : Int} {w : World} (h0 : 0 ≤ i) (h3 : i ≤ 40) :
    Calls Tryz.prog 211 #[.agg #[.int .i64 i, .int .i64 n]] w fun e w' => e = .returned (.int .i64 (i * 16)) ∧ Below w.heap.size w w' := by
  go_enter Tryz.func211, Tryz.ntmps211
  go_wp2_with fail
  go_ret
  exact ⟨rfl, (Below.refl _ _).alloc (Nat.le_refl _) _⟩

/-- Three cells, and all that was there, are kept. -/
theorem keep3 {W a b : World} {p q r : Addr} {x y z : Value} (h : a.cell? p = some x ∧ a.cell? q = some y ∧ a.cell? r = some z ∧ Below W.heap.size W a) (hb : Below a.heap.size a b) : b.cell? p = some x ∧ b.cell? q = some y ∧ b.cell? r = some z ∧ Below W.heap.size W b :=
  ⟨(hb.cell (World.block_lt_of_cell? _ _ h.1)).trans h.1, (hb.cell (World.block_lt_of_cell? _ _ h.2.1)).trans h.2.1, (hb.cell (World.block_lt_of_cell? _ _ h.2.2.1)).trans h.2.2.1, h.2.2.2.trans (hb.mono h.2.2.2.size)⟩

set_option maxHeartbeats 1000000 in
theorem slotStart_calls {i c s : Int} {w : World} (h0 : 0 ≤ c) (h3 : c ≤ 3) (hi0 : 0 ≤ i) (hi : i ≤ 40) (hs0 : 0 ≤ s) (hs : s ≤ 15) :
    Calls Tryz.prog 149 #[.agg #[.int .i64 i, .int .i64 c, .int .i64 s]] w fun e w' => e = .returned (.int .i64 (i * 16 + s * sizeW c)) ∧ Below w.heap.size w w' := by
  have hsz := sizeW_small c
  have hm0 : 0 ≤ s * sizeW c := Int.mul_nonneg hs0 (by omega)
  have hm1 : s * sizeW c ≤ 120 := by
    have := Int.mul_le_mul hs hsz.2 (by omega) (by omega)
    omega
  have hw1 : IntKind.i64.wrap (i * 16) = i * 16 := by rw [IntKind.wrap_i64]; omega
  have hw2 : IntKind.i64.wrap (s * sizeW c) = s * sizeW c := by rw [IntKind.wrap_i64]; omega
  have hw3 : IntKind.i64.wrap (i * 16 + s * sizeW c) = i * 16 + s * sizeW c := by rw [IntKind.wrap_i64]; omega
  obtain ⟨o, ho⟩ : ∃ o, o = Obj.cells #[.int .i64 i, .int .i64 c, .int .i64 s] 152 := ⟨_, rfl⟩
  have hrow : Row (w.alloc o) w.heap.size 152 #[.int .i64 i, .int .i64 c, .int .i64 s] := by rw [ho]; exact heap_alloc_new _ _
  have q0 : (w.alloc o).cell? ⟨w.heap.size, 0, none⟩ = some (.int .i64 i) := by rw [hrow.cell]; rfl
  have q1 : (w.alloc o).cell? ⟨w.heap.size, 1, none⟩ = some (.int .i64 c) := by rw [hrow.cell]; rfl
  have q2 : (w.alloc o).cell? ⟨w.heap.size, 2, none⟩ = some (.int .i64 s) := by rw [hrow.cell]; rfl
  have kB : Below w.heap.size w (w.alloc o) := (Below.refl _ _).alloc (Nat.le_refl _) o
  have kS : w.heap.size < (w.alloc o).heap.size := by simp
  subst ho
  go_enter Tryz.func149, Tryz.ntmps149
  go_wp2_with fail
  go_region_held3 (fun w' => w'.cell? ⟨w.heap.size, 0, none⟩ = some (.int .i64 i) ∧ w'.cell? ⟨w.heap.size, 1, none⟩ = some (.int .i64 c) ∧ w'.cell? ⟨w.heap.size, 2, none⟩ = some (.int .i64 s) ∧ Below w.heap.size w w') (first | assumption | exact ⟨q0, q1, q2, kB.drew⟩)
    ((go_at_call 170; obtain ⟨x0, x1, x2, kb⟩ := ‹_ ∧ _ ∧ _ ∧ Below _ _ _›; refine (slotSize_calls h0 h3).mono ?_; rintro e w' ⟨rfl, b1⟩; have hS' := keep3 ⟨x0, x1, x2, kb⟩ b1))
  have kb2 := hS'.2.2.2
  clear hS'
  go_wp2_with fail
  go_ret
  exact ⟨rfl, kb2⟩
end Go.Proofs.YtcnpckaacigbfaaGreat

/- Chapter 4 of the program: a slot that is searched for; runs that are free. -/
namespace Go.Proofs.YtcnpckaacigbfaaGreat
open Go.RowKit

theorem ret_val {a b : Value} (h : a = b) : Ending.returned a = .returned b := by rw [h]
/-- What is found so far, as a block. -/
def fv (c : Int) (f : Option (Nat × Nat)) : Value := blkO (f.map fun x => Blk.slot x.1 c x.2)

theorem freeN_take : ∀ {m : Nat} {ps : List Pg}, freeN m (ps.take m) = freeN m ps
  | 0, ps => rfl
  | m + 1, [] => rfl
  | m + 1, q :: r => by rw [List.take_succ_cons, freeN, freeN, freeN_take]
theorem freeN_all {m : Nat} {ps : List Pg} (h1 : m ≤ ps.length) (h : ∀ i p, i < m → ps[i]? = some p → p.kind = 0) : freeN m ps = true := by
  induction m generalizing ps with
  | zero => rfl
  | succ m ih =>
    cases ps with
    | nil => simp at h1
    | cons q r =>
      rw [freeN, h 0 q (by omega) (by simp), ih (by simpa using h1) (fun i p hi hp => h (i + 1) p (by omega) (by simpa using hp))]; simp
theorem runFrom_skip1 {m k : Nat} {ps : List Pg} (h : freeN m (ps.drop k) = false) (hk : k < ps.length) : runFrom m k (ps.drop k) = runFrom m (k + 1) (ps.drop (k + 1)) := by
  rw [List.drop_eq_getElem_cons hk] at h ⊢
  rw [runFrom, h]; simp
theorem runFrom_hit {m k : Nat} {ps : List Pg} (h : freeN m (ps.drop k) = true) (hk : k < ps.length) : runFrom m k (ps.drop k) = some k := by
  rw [List.drop_eq_getElem_cons hk] at h ⊢
  rw [runFrom, h]; simp
/-- What 'freeRun' answers. -/
def runV (x : Option Nat) : Value := match x with
  | some i => .tuple #[.int .i64 i, .bool true]
  | none => .tuple #[.int .i64 0, .bool false]

end Go.Proofs.YtcnpckaacigbfaaGreat

/- Chapter 4 of the model: a slot that is taken. -/
namespace Go.Proofs.YtcnpckaacigbfaaGreat
open Go.RowKit

/-- The place of the slot that is taken next, or -1; the pages with it. -/
def slotAt (ps : List Pg) (c : Int) : Int := match slotFor ps c with
  | some (i, s) => (i : Int) * 16 + s * sizeW c
  | none => -1
def slotPut (ps : List Pg) (c : Int) : List Pg := match slotFor ps c with
  | some (i, s) => putSlot ps c i s
  | none => ps
theorem slotFor_gap {ps : List Pg} {c : Int} {x : Nat × Nat} (h : gapIn c 0 ps = some x) : slotFor ps c = some x := by unfold slotFor; rw [h]
theorem slotFor_free {ps : List Pg} {c : Int} (h : gapIn c 0 ps = none) : slotFor ps c = (freeIn 0 ps).map fun i => (i, 0) := by unfold slotFor; rw [h]

set_option maxRecDepth 100000 in
set_option maxHeartbeats 2000000 in
theorem l4Slot_calls {v : Value} {n : Nat} {c : Int} {ps : List Pg} {S : Nat → Prop} {w : World} (hT : Own KPage 55 w S v n ps) (hS : ShortP 17592186044416 ps) (hn : n ≤ 17592186044416) (h0 : 0 ≤ c) (h3 : c ≤ 3) :
    Calls Tryz.prog 162 #[v, .int .i64 c] w fun e w' => e = .returned (.int .i64 (slotAt ps c)) ∧ Own KPage 55 w' (fun k => S k ∨ w.heap.size ≤ k) v n (slotPut ps c) ∧ Turn S w w' := by
  have HL := Lib.hid hT.1
  have HS := Lib.hid hS
  have hsz := sizeW_small c
  obtain ⟨ao, cc, rfl, _, _, hLst⟩ := hT.shape
  obtain ⟨ib, hib, hb0, hb1, hb2⟩ := info_parts infoBool
  go_enter Tryz.func162, Tryz.ntmps162
  go_wp2_with fail
  go_loop [5, 6] (fun i _ => ∃ k : Nat, k ≤ n ∧ i = .int .i64 k ∧ Hid (gapIn c 0 ps = gapIn c k (ps.drop k))) (fun i _ => n - (intOf i).toNat)
  case atStart => exact ⟨0, Nat.zero_le _, rfl, rfl⟩
  case round =>
    obtain ⟨k, hk, rfl, HW⟩ := hrel
    by_cases hlt : k < n
    · obtain ⟨g, cap, p, a, l, c', F, he, g0, hgS, hp, ⟨q0, q1, q2, q3⟩, ⟨f0, f1, f2, f3⟩, ⟨hU, hF, hlc, hcm⟩, hset, hus⟩ := hT.pg_at hlt
      cases he
      have HP := Lib.hid hp
      have hl : l ≤ 17592186044416 := by have := HS.out.at_ hp; have := hU.1; omega
      have HLU := Lib.hid hU.1
      have HWd : Hid (gapIn c 0 ps = if p.kind = 1 ∧ p.cls = c ∧ 0 ≤ idxB false p.used 0 then some (k, (idxB false p.used 0).toNat) else gapIn c (k + 1) (ps.drop (k + 1))) := by
        have := HW.out; rw [drop_at hp, gapIn] at this; exact this
      clear hp hcm hset
      by_cases k1 : p.kind = 1
      · rw [k1] at q0
        have k1' := Lib.hid k1
        clear k1
        by_cases kc : p.cls = c
        · rw [kc] at q1
          have kc' := Lib.hid kc
          clear kc
          go_wp2_with fail
          go_loop [6] (fun q => ∃ j : Nat, j ≤ l ∧ q = .int .i64 j ∧ Hid (idxB false p.used 0 = idxB false (p.used.drop j) j)) (fun q => l - (intOf q).toNat)
          case atStart => exact ⟨0, Nat.zero_le _, rfl, rfl⟩
          case round =>
            obtain ⟨j, hj, rfl, HJ⟩ := hrel
            by_cases hjl : j < l
            · obtain ⟨g2, cap2, hv2, hg2S, hg2, hcl, hfr, hbst⟩ := hU.bool_at hjl
              cases hv2
              have hju : j < p.used.length := by rw [HLU.out]; exact hjl
              have HJd : Hid (idxB false p.used 0 = if p.used[j] = false then (j : Int) else idxB false (p.used.drop (j + 1)) (j + 1)) := by
                have := HJ.out; rw [drop_at (List.getElem?_eq_getElem hju), idxB] at this; exact this
              have hge : p.used.getD j false = p.used[j] := by simp [List.getD, hju]
              rw [hge] at hcl
              clear hge
              rcases hv : p.used[j] with _ | _
              · rw [hv] at hcl
                have HX : Hid (slotFor ps c = some (k, j)) := by
                  have h1 := HJd.out
                  rw [if_pos hv] at h1
                  have h2 := HWd.out
                  rw [if_pos ⟨k1'.out, kc'.out, by rw [h1]; omega⟩, h1, Int.toNat_natCast] at h2
                  exact slotFor_gap h2
                have H2 := Lib.hid (hus _ _ (hbst true).2 (hbst true).1)
                have H3 : Hid (slotPut ps c = ps.set k ⟨p.kind, p.cls, p.used.set j true, p.run⟩) := by
                  show slotPut ps c = _
                  unfold slotPut; rw [HX.out]; simp only [putSlot]; rw [HP.out]; simp only [useSlot, k1'.out]; rfl
                have H4 : Hid (slotAt ps c = (k : Int) * 16 + j * sizeW c) := by show slotAt ps c = _; unfold slotAt; rw [HX.out]
                have hb1 : (j : Int) * sizeW c ≤ 281474976710656 := by
                  have := Int.mul_le_mul (show (j : Int) ≤ 17592186044416 by omega) hsz.2 (by omega) (by omega)
                  omega
                have hb0' : 0 ≤ (j : Int) * sizeW c := Int.mul_nonneg (by omega) (by omega)
                clear hbst hus HJd hU hv
                go_wp2_with fail
                refine (l3Size_calls h0 h3).mono ?_
                rintro e w' ⟨rfl, rfl⟩
                go_wp2_with fail
                go_ret
                exact ⟨ret_int H4.out.symm, by rw [H3.out]; exact H2.out.1.mono (fun q hq _ => .inl hq), H2.out.2⟩
              · rw [hv] at hcl
                have HN : Hid (idxB false p.used 0 = idxB false (p.used.drop (j + 1)) (j + 1)) := by have := HJd.out; rw [if_neg (by rw [hv]; simp)] at this; exact this
                clear hbst hus HJd hU hv
                go_wp2_with fail
                go_round
                case rel => exact ⟨j + 1, by omega, by go_num, HN⟩
                case measure => simp [intOf]; omega
            · have HN : Hid (gapIn c 0 ps = gapIn c (k + 1) (ps.drop (k + 1))) := by
                have h1 := HJ.out
                rw [drop_end (by rw [HLU.out]; omega), idxB] at h1
                have h2 := HWd.out
                rw [if_neg (by rw [h1]; omega)] at h2
                exact h2
              clear hus hU
              go_wp2_with fail
              go_round
              case rel => exact ⟨k + 1, by omega, by go_num, HN⟩
              case measure => simp [intOf]; omega
        · have hq : (p.cls != c) = true := by simpa using kc
          have HN : Hid (gapIn c 0 ps = gapIn c (k + 1) (ps.drop (k + 1))) := by have := HWd.out; rw [if_neg (fun h => kc h.2.1)] at this; exact this
          clear hus hU kc
          go_wp2_with fail
          go_round
          case rel => exact ⟨k + 1, by omega, by go_num, HN⟩
          case measure => simp [intOf]; omega
      · have hq : (p.kind != 1) = true := by simpa using k1
        have HN : Hid (gapIn c 0 ps = gapIn c (k + 1) (ps.drop (k + 1))) := by have := HWd.out; rw [if_neg (fun h => k1 h.1)] at this; exact this
        clear hus hU k1
        go_wp2_with fail
        go_round
        case rel => exact ⟨k + 1, by omega, by go_num, HN⟩
        case measure => simp [intOf]; omega
    · have HX : Hid (slotFor ps c = (freeIn 0 ps).map fun i => (i, 0)) := by
        have := HW.out; rw [drop_end (by rw [HL.out]; omega), gapIn] at this; exact slotFor_free this
      clear HW
      go_wp2_with fail
      clear hlt hk
      go_loop [7] (fun i => ∃ k : Nat, k ≤ n ∧ i = .int .i64 k ∧ Hid (freeIn 0 ps = freeIn k (ps.drop k))) (fun i => n - (intOf i).toNat)
      case atStart => exact ⟨0, Nat.zero_le _, rfl, rfl⟩
      case round =>
        obtain ⟨k, hk, rfl, HW⟩ := hrel
        by_cases hlt : k < n
        · obtain ⟨g, cap, p, a, l, c', F, he, g0, hgS, hp, ⟨q0, q1, q2, q3⟩, ⟨f0, f1, f2, f3⟩, _, hset, _⟩ := hT.pg_at hlt
          cases he
          have HP := Lib.hid hp
          have HWd : Hid (freeIn 0 ps = if p.kind = 0 then some k else freeIn (k + 1) (ps.drop (k + 1))) := by
            have := HW.out; rw [drop_at hp, freeIn] at this; exact this
          clear hp
          by_cases k0 : p.kind = 0
          · have HY : Hid (slotFor ps c = some (k, 0)) := by show slotFor ps c = _; rw [HX.out, HWd.out, if_pos k0]; rfl
            have H3 : Hid (slotPut ps c = ps.set k ⟨1, c, (List.replicate (16 / sizeW c).toNat false).set 0 true, 0⟩) := by
              show slotPut ps c = _
              unfold slotPut; rw [HY.out]; simp only [putSlot]; rw [HP.out]; simp only [useSlot, if_pos k0]
            have H4 : Hid (slotAt ps c = (k : Int) * 16) := by show slotAt ps c = _; unfold slotAt; rw [HY.out]; simp
            rw [k0] at q0
            clear k0
            obtain ⟨z, hz⟩ : ∃ z : Nat, (16 : Int) / sizeW c = z := ⟨(16 / sizeW c).toNat, by rw [Int.toNat_of_nonneg (Int.ediv_nonneg (by omega) (by omega))]⟩
            have hz16 : z ≤ 16 := by have := Int.ediv_le_self (a := 16) (sizeW c) (by omega); omega
            have hz1 : 1 ≤ z := by
              rcases (show c = 0 ∨ c = 1 ∨ c = 2 ∨ c = 3 by omega) with e | e | e | e <;> rw [e] at hz <;> simp [sizeW] at hz <;> omega
            have HZ := Lib.hid hz
            clear hz
            go_wp2_with fail
            refine (l3Slots_calls h0 h3).mono ?_
            rintro e w' ⟨rfl, rfl⟩
            rw [HZ.out]
            go_wp2_with (
              at_make
              go_must (refine wpList_make_full _ rfl _ _ 53 rfl 0 4 ib (.bool false) 1 Tryz.underlying53 hib hb0 hb1 _ _ _ _ z rfl rfl rfl rfl (by rw [hb2]; omega) (by unfold maxLen; omega) (Nat.zero_le _) ?_)
              intro w1 hown hg
              have hb : Below w.heap.size w w1 := (Below.refl _ _).grown hg (Nat.le_refl _) (by simp)
              have hU : Own KBool 4 w1 (fun q => w.heap.size ≤ q) (.slice (some ⟨w.heap.size, 0, none⟩) z z) z (List.replicate z false) := Own.of_made (z := .bool false) (by simpa [KBool] using hown) (Nat.le_refl _) rfl rfl
              have HU := Lib.hid (And.intro hU hb)
              have e0 := (hb.cell (p := ⟨g, k * 4, none⟩) g0).trans q0
              have e1 := (hb.cell (p := ⟨g, k * 4 + 1, none⟩) g0).trans q1
              have e2 := (hb.cell (p := ⟨g, k * 4 + 2, none⟩) g0).trans q2
              have e3 := (hb.cell (p := ⟨g, k * 4 + 3, none⟩) g0).trans q3
              have d0 := (hb.frozen (p := ⟨g, k * 4, none⟩) g0).trans f0
              have d1 := (hb.frozen (p := ⟨g, k * 4 + 1, none⟩) g0).trans f1
              have d2 := (hb.frozen (p := ⟨g, k * 4 + 2, none⟩) g0).trans f2
              have d3 := (hb.frozen (p := ⟨g, k * 4 + 3, none⟩) g0).trans f3
              have hst := hset w1 ⟨1, c, List.replicate z false, 0⟩ (.slice (some ⟨w.heap.size, 0, none⟩) z z) z (fun q => w.heap.size ≤ q) (Turn.of_below hb) hU (fun q hq hlt _ => by omega)
              obtain ⟨g', cap', p', a', l', c2, F', he', g0', hgS', hp', ⟨z0, z1, z2, z3⟩, _, ⟨hU', hF', _, _⟩, _, hus'⟩ := hst.1.pg_at hlt
              cases he'
              have hp2 : p' = ⟨1, c, List.replicate z false, 0⟩ := by
                rw [List.getElem?_set_self (by have := (List.getElem?_eq_some_iff.1 HP.out).1; exact this)] at hp'
                injection hp' with hp'; exact hp'.symm
              subst hp2
              have hv3 := hst.2.2.symm.trans z2
              injection hv3 with hv3
              cases hv3
              obtain ⟨g2, cap2, hv2, hg2S, hg2, hcl, hfr, hbst⟩ := hU'.bool_at (j := 0) (by omega)
              cases hv2
              have H5 := Lib.hid (And.intro (hus' _ _ (hbst true).2 (hbst true).1) hst.2.1)
              generalize (List.replicate z false).getD 0 false = u0 at hcl
              have y2 := hst.2.2
              clear hst hus' hbst hp' hU' hF' hU hown hg z0 z1 z2 z3 hset)
            go_ret
            refine ⟨ret_int H4.out.symm, ?_, ?_⟩
            · rw [H3.out, HZ.out, Int.toNat_natCast]
              have := H5.out.1.1
              rw [List.set_set] at this
              exact this
            · exact H5.out.2.trans H5.out.1.2 (fun q hq hlt => hq.elim id (fun h => by omega))
          · have HN : Hid (freeIn 0 ps = freeIn (k + 1) (ps.drop (k + 1))) := by have := HWd.out; rw [if_neg k0] at this; exact this
            have hq : (p.kind == 0) = false := by simpa using k0
            clear hset k0
            go_wp2_with fail
            go_round
            case rel => exact ⟨k + 1, by omega, by go_num, HN⟩
            case measure => simp [intOf]; omega
        · have HY : Hid (slotFor ps c = none) := by
            have := HW.out; rw [drop_end (by rw [HL.out]; omega), freeIn] at this
            show slotFor ps c = none; rw [HX.out, this]; rfl
          have H3 : Hid (slotPut ps c = ps) := by show slotPut ps c = _; unfold slotPut; rw [HY.out]
          have H4 : Hid (slotAt ps c = -1) := by show slotAt ps c = _; unfold slotAt; rw [HY.out]
          have HO := Lib.hid hT
          clear hT
          go_wp2_with fail
          go_ret
          exact ⟨ret_int H4.out.symm, by rw [H3.out]; exact HO.out.mono (fun q hq _ => .inl hq), Turn.refl _ _⟩
end Go.Proofs.YtcnpckaacigbfaaGreat

/- Chapter 4 of the model: its exported functions that answer a code and a number. -/
namespace Go.Proofs.YtcnpckaacigbfaaGreat
open Go.RowKit

theorem findRun_eq (ps : List Pg) (m : Int) (hv : pagesFault ps = 0) (h : within 1 4 [m] = true) : findRun ps m = if runAt m.toNat ps < 0 then (7, 0) else (0, runAt m.toNat ps) := by
  unfold findRun runAt
  rw [if_pos hv, if_pos h]
  cases hr : runFrom m.toNat 0 ps with
  | none => simp
  | some i => simp only; rw [if_neg (by omega)]

end Go.Proofs.YtcnpckaacigbfaaGreat

/- Chapter 4 of the model: where a block begins, how great it is. -/
namespace Go.Proofs.YtcnpckaacigbfaaGreat
open Go.RowKit

theorem slot_small {p : Pg} {a : Nat} (h0 : 0 ≤ p.cls) (h3 : p.cls ≤ 3) (hl : (p.used.length : Int) = 16 / sizeW p.cls) : a % 16 / (sizeW p.cls).toNat < p.used.length := by
  rcases (show p.cls = 0 ∨ p.cls = 1 ∨ p.cls = 2 ∨ p.cls = 3 by omega) with e | e | e | e <;> rw [e] at hl ⊢ <;> simp [sizeW] at hl ⊢ <;> omega
theorem slot_int {c : Int} {a : Nat} (h0 : 0 < sizeW c) : (a : Int) % 16 / sizeW c = ((a % 16 / (sizeW c).toNat : Nat) : Int) := by
  obtain ⟨z, hz⟩ : ∃ z : Nat, sizeW c = z := ⟨(sizeW c).toNat, by omega⟩
  rw [hz, Int.toNat_natCast]; push_cast; rfl

theorem ret_two {a b c d : Int} (h1 : a = c) (h2 : b = d) : Ending.returned (.tuple #[.int .i64 a, .int .i64 b]) = .returned (.tuple #[.int .i64 c, .int .i64 d]) := by rw [h1, h2]
theorem headOf_self {ps : List Pg} {k : Nat} {p : Pg} (h : ps[k]? = some p) (h3 : p.kind ≠ 3) : headOf ps k = k := by
  cases k with
  | zero => rfl
  | succ k => unfold headOf; rw [h]; simp [h3]
theorem headOf_back {ps : List Pg} {k : Nat} {p : Pg} (h : ps[k + 1]? = some p) (h3 : p.kind = 3) : headOf ps (k + 1) = headOf ps k := by
  conv => lhs; unfold headOf
  rw [h]; simp [h3]

set_option maxRecDepth 100000 in
set_option maxHeartbeats 1000000 in
theorem l4Start_calls {ao : Option Addr} {n cc : Nat} {at_ : Int} {ps : List Pg} {S : Nat → Prop} {w : World} (hT : Lst KPage w S ao n ps) (hv : pagesFault ps = 0) :
    Calls Tryz.prog 124 #[.slice ao n cc, .int .i64 at_] w fun e w' => e = .returned (.tuple #[.int .i64 (blockStart ps at_).2, .int .i64 (blockStart ps at_).1]) ∧ w = w' := by
  have HL := Lib.hid hT.1
  have HV := Lib.hid hv
  have hn : n ≤ 40 := by have := (pagesFault_ok hv).1; have := hT.1; omega
  rcases hw : within 0 ((n : Int) * 16 - 1) [at_] with _ | _
  · have HR : Hid (blockStart ps at_ = (3, 0)) := by show _ = _; unfold blockStart; rw [held_no hv (by rw [HL.out]; exact hw)]
    have HW := Lib.hid hw
    clear hw hv
    go_enter Tryz.func124, Tryz.ntmps124
    go_wp2_with fail
    refine l1In_calls.mono ?_
    rw [HW.out]
    rintro e w2 ⟨rfl, rfl⟩
    go_wp2_with fail
    go_ret2
    exact ⟨ret_two (by rw [HR.out]) (by rw [HR.out]), rfl⟩
  have hw1 := within_range hw
  obtain ⟨a, ha⟩ : ∃ a : Nat, at_ = a := ⟨at_.toNat, by omega⟩
  subst ha
  have hal : a < n * 16 := by omega
  have HW := Lib.hid hw
  obtain ⟨i, hi⟩ : ∃ i, i = a / 16 := ⟨_, rfl⟩
  have hin : i < n := by omega
  obtain ⟨b, off, p, ad, l, c, rfl, d0, hp, e0, e1, e2, e3, hlc, hcm, hu⟩ := hT.pg_at hin
  have HP := Lib.hid hp
  have hpa : ps[a / 16]? = some p := by rw [← hi]; exact hp
  have hal' : a < ps.length * 16 := by rw [HL.out]; exact hal
  have hx1 : ((a : Int) / 16).toNat = i := by omega
  have hx2 : (a : Int) / 16 = (i : Int) := by omega
  have HI := Lib.hid hi
  rcases pageFault_kind (ok_page hv hp) with k0 | k1 | k2 | k3
  · have HR : Hid (blockStart ps a = (4, 0)) := by show _ = _; unfold blockStart; rw [held_free hv hal' hpa k0]
    rw [k0] at e0
    clear hw hv hw1 hp hpa hal' k0 hi
    go_enter Tryz.func124, Tryz.ntmps124
    go_wp2_with fail
    refine l1In_calls.mono ?_
    rw [HW.out]
    rintro e w2 ⟨rfl, rfl⟩
    go_wp2_with fail
    go_ret2
    exact ⟨ret_two (by rw [HR.out]) (by rw [HR.out]), rfl⟩
  · have hk := pageFault_ok (ok_page hv hp)
    obtain ⟨_, h0, h3, _, hl, _⟩ : p.kind = 1 ∧ 0 ≤ p.cls ∧ p.cls ≤ 3 ∧ p.run = 0 ∧ (p.used.length : Int) = 16 / sizeW p.cls ∧ anyB p.used = true := by
      rcases hk with h | h | h
      · exact h
      · omega
      · omega
    have hsz := sizeW_small p.cls
    have hsl := slot_small (a := a) h0 h3 hl
    have hsi := slot_int (c := p.cls) (a := a) (by omega)
    have hH := held_slot hv hal' hpa k1
    obtain ⟨s, hs⟩ : ∃ s, s = a % 16 / (sizeW p.cls).toNat := ⟨_, rfl⟩
    rw [← hs] at hsl hsi hH
    rw [← hi] at hH
    have hll : l = p.used.length := by have := hu.1; omega
    have hs16 : s ≤ 15 := by rw [hs]; have := Nat.div_le_self (a % 16) (sizeW p.cls).toNat; omega
    rw [← hll] at hsl
    obtain ⟨b2, o2, rfl, hb2, hcl⟩ := hu.bool_at hsl
    obtain ⟨u0, hgx⟩ : ∃ u0, p.used[s]? = some u0 := ⟨_, List.getElem?_eq_getElem (by omega)⟩
    rw [List.getD_eq_getElem?_getD, hgx] at hcl
    simp only [Option.getD_some] at hcl
    rw [k1] at e0
    have hsb : 0 ≤ (s : Int) * sizeW p.cls ∧ (s : Int) * sizeW p.cls ≤ 120 := by
      have := Int.mul_le_mul (show (s : Int) ≤ 15 by omega) hsz.2 (by omega) (by omega)
      exact ⟨Int.mul_nonneg (by omega) (by omega), by omega⟩
    have HSI := Lib.hid hsi
    have HH := Lib.hid hH
    have HGX := Lib.hid hgx
    have HLL := Lib.hid hll
    obtain ⟨hsb0, hsb1⟩ := hsb
    clear hk hl hsi hH hgx hll hs hw hv hw1 hp hpa hal' k1 hi hu
    rcases u0 with _ | _
    · have HR : Hid (blockStart ps a = (4, 0)) := by
        show _ = _; unfold blockStart; rw [HH.out, HGX.out]; rfl
      go_enter Tryz.func124, Tryz.ntmps124
      go_wp2_with fail
      refine l1In_calls.mono ?_
      rw [HW.out]
      rintro e w2 ⟨rfl, rfl⟩
      go_wp2_with fail
      refine (l3Size_calls h0 h3).mono ?_
      rintro e w2 ⟨rfl, rfl⟩
      have hne : (sizeW p.cls == 0) = false := by simp; omega
      have hx := HSI.out
      go_wp2_with fail
      go_ret2
      exact ⟨ret_two (by rw [HR.out]) (by rw [HR.out]), rfl⟩
    · have HR : Hid (blockStart ps a = (0, (i : Int) * 16 + s * sizeW p.cls)) := by
        show _ = _; unfold blockStart; rw [HH.out, HGX.out]; rfl
      go_enter Tryz.func124, Tryz.ntmps124
      go_wp2_with fail
      refine l1In_calls.mono ?_
      rw [HW.out]
      rintro e w2 ⟨rfl, rfl⟩
      go_wp2_with fail
      refine (l3Size_calls h0 h3).mono ?_
      rintro e w2 ⟨rfl, rfl⟩
      have hne : (sizeW p.cls == 0) = false := by simp; omega
      have hx := HSI.out
      go_wp2_with fail
      refine (l3Size_calls h0 h3).mono ?_
      rintro e w2 ⟨rfl, rfl⟩
      go_wp2_with fail
      go_ret2
      exact ⟨ret_two (by rw [HR.out]) (by rw [HR.out]), rfl⟩
  · obtain ⟨q, hq1, hq2, hq3⟩ := held_run hv hal' hpa (.inl k2)
    have HR : Hid (blockStart ps a = (0, (headOf ps i : Int) * 16)) := by show _ = _; unfold blockStart; rw [hq3, ← hi]; rfl
    have hhi := headOf_le ps i
    rw [k2] at e0
    clear hw hv hw1 hp hpa hal' k2 hi hq1 hq2 hq3 e1 e2 e3 hu
    go_enter Tryz.func124, Tryz.ntmps124
    go_wp2_with fail
    refine l1In_calls.mono ?_
    rw [HW.out]
    rintro e w2 ⟨rfl, rfl⟩
    go_wp2_with fail
    clear e0
    go_loop [6] (fun x => ∃ m : Nat, m ≤ i ∧ x = .int .i64 m ∧ Hid (headOf ps m = headOf ps i)) (fun x => (intOf x).toNat)
    case atStart => exact ⟨i, Nat.le_refl _, rfl, rfl⟩
    case round =>
      obtain ⟨m, hm, rfl, HM⟩ := hrel
      obtain ⟨b', off', p', ad', l', c', he, d0', hp', e0', _⟩ := hT.pg_at (j := m) (by omega)
      cases he
      by_cases m3 : p'.kind = 3
      · obtain ⟨g, q, hg, _⟩ := head_of_rest HV.out hp' m3
        obtain ⟨m', rfl⟩ : ∃ m', m = m' + 1 := ⟨m - 1, by omega⟩
        have HN : Hid (headOf ps m' = headOf ps i) := by show _ = _; rw [← HM.out, headOf_back hp' m3]
        rw [m3] at e0'
        clear hp' m3 hg
        go_wp2_with fail
        go_round
        case rel => exact ⟨m', by omega, by go_num, HN⟩
        case measure => simp [intOf]
      · have HN : Hid (headOf ps i = m) := by show _ = _; rw [← HM.out, headOf_self hp' m3]
        have hq : (p'.kind == 3) = false := by simpa using m3
        clear hp' m3
        go_wp2_with fail
        go_ret2
        exact ⟨ret_two (by rw [HR.out, HN.out]) (by rw [HR.out]), rfl⟩
  · obtain ⟨q, hq1, hq2, hq3⟩ := held_run hv hal' hpa (.inr k3)
    have HR : Hid (blockStart ps a = (0, (headOf ps i : Int) * 16)) := by show _ = _; unfold blockStart; rw [hq3, ← hi]; rfl
    have hhi := headOf_le ps i
    rw [k3] at e0
    clear hw hv hw1 hp hpa hal' k3 hi hq1 hq2 hq3 e1 e2 e3 hu
    go_enter Tryz.func124, Tryz.ntmps124
    go_wp2_with fail
    refine l1In_calls.mono ?_
    rw [HW.out]
    rintro e w2 ⟨rfl, rfl⟩
    go_wp2_with fail
    clear e0
    go_loop [6] (fun x => ∃ m : Nat, m ≤ i ∧ x = .int .i64 m ∧ Hid (headOf ps m = headOf ps i)) (fun x => (intOf x).toNat)
    case atStart => exact ⟨i, Nat.le_refl _, rfl, rfl⟩
    case round =>
      obtain ⟨m, hm, rfl, HM⟩ := hrel
      obtain ⟨b', off', p', ad', l', c', he, d0', hp', e0', _⟩ := hT.pg_at (j := m) (by omega)
      cases he
      by_cases m3 : p'.kind = 3
      · obtain ⟨g, q, hg, _⟩ := head_of_rest HV.out hp' m3
        obtain ⟨m', rfl⟩ : ∃ m', m = m' + 1 := ⟨m - 1, by omega⟩
        have HN : Hid (headOf ps m' = headOf ps i) := by show _ = _; rw [← HM.out, headOf_back hp' m3]
        rw [m3] at e0'
        clear hp' m3 hg
        go_wp2_with fail
        go_round
        case rel => exact ⟨m', by omega, by go_num, HN⟩
        case measure => simp [intOf]
      · have HN : Hid (headOf ps i = m) := by show _ = _; rw [← HM.out, headOf_self hp' m3]
        have hq : (p'.kind == 3) = false := by simpa using m3
        clear hp' m3
        go_wp2_with fail
        go_ret2
        exact ⟨ret_two (by rw [HR.out, HN.out]) (by rw [HR.out]), rfl⟩

/-- How many words a block has that begins in this page. -/
def sizeIn (p : Pg) : Int := if p.kind = 1 then sizeW p.cls else p.run * 16
set_option maxHeartbeats 400000 in
theorem l4Size_calls {ao : Option Addr} {n cc st : Nat} {ps : List Pg} {p : Pg} {S : Nat → Prop} {w : World} (hT : Lst KPage w S ao n ps) (hn : n ≤ 40) (hs : st < n * 16) (hp : ps[st / 16]? = some p) (hpf : pageFault p = 0) :
    Calls Tryz.prog 80 #[.slice ao n cc, .int .i64 st] w fun e w' => e = .returned (.int .i64 (sizeIn p)) ∧ w = w' := by
  obtain ⟨i, hi⟩ : ∃ i, i = st / 16 := ⟨_, rfl⟩
  have hin : i < n := by omega
  obtain ⟨b, off, p', ad, l, c, rfl, d0, hp', e0, e1, e2, e3, hlc, hcm, hu⟩ := hT.pg_at hin
  obtain rfl : p = p' := by rw [← hi, hp'] at hp; injection hp with hp; exact hp.symm
  have hx1 : ((st : Int) / 16).toNat = i := by omega
  have hk := pageFault_ok hpf
  clear hp hp' hi hu
  by_cases h1 : p.kind = 1
  · have HF := Lib.hid (show sizeIn p = sizeW p.cls from if_pos h1)
    have h03 : 0 ≤ p.cls ∧ p.cls ≤ 3 := by omega
    rw [h1] at e0
    clear h1 hk
    go_enter Tryz.func80, Tryz.ntmps80
    go_wp2_with fail
    refine (l3Size_calls h03.1 h03.2).mono ?_
    rintro e w2 ⟨rfl, rfl⟩
    go_wp2_with fail
    go_ret
    exact ⟨ret_int HF.out.symm, rfl⟩
  · have HF := Lib.hid (show sizeIn p = p.run * 16 from if_neg h1)
    have hr0 : 0 ≤ p.run := by omega
    have hr4 : p.run ≤ 4 := by omega
    have hq : (p.kind == 1) = false := by simpa using h1
    clear h1 hk
    go_enter Tryz.func80, Tryz.ntmps80
    go_wp2_with fail
    go_ret
    exact ⟨ret_int HF.out.symm, rfl⟩

theorem blockStart_fault {ps : List Pg} {a : Int} (h : pagesFault ps ≠ 0) : blockStart ps a = (pagesFault ps, 0) := by unfold blockStart heldAt; rw [if_neg h]
theorem blockSize_fault {ps : List Pg} {a : Int} (h : (blockStart ps a).1 ≠ 0) : blockSize ps a = ((blockStart ps a).1, (blockStart ps a).2) := by
  unfold blockSize blockStart at *
  split <;> simp_all
/-- Where no code is told, something is held. -/
theorem blockStart_held {ps : List Pg} {a : Int} (h : (blockStart ps a).1 = 0) : ∃ b, heldAt ps a = (0, some b) ∧ pagesFault ps = 0 ∧ (blockStart ps a).2 = b.start := by
  have hv : pagesFault ps = 0 := by
    rcases Int.lt_trichotomy (pagesFault ps) 0 with h1 | h1 | h1
    · rw [blockStart_fault (by omega)] at h; exact h
    · exact h1
    · rw [blockStart_fault (by omega)] at h; exact h
  unfold blockStart at *
  rcases hh : heldAt ps a with ⟨c, b⟩
  rw [hh] at h
  cases b with
  | none => have := held_code hv hh; simp at h; omega
  | some b => exact ⟨b, by rw [(held_info hv hh).1], hv, rfl⟩

set_option maxHeartbeats 400000 in
theorem sBlockStart_calls {ao : Option Addr} {n cc : Nat} {at_ : Int} {ps : List Pg} {S : Nat → Prop} {w : World} (hT : Lst KPage w S ao n ps) (hS : ShortP 17592186044416 ps) (hn : n ≤ 17592186044416) :
    Calls Tryz.prog 79 #[.slice ao n cc, .int .i64 at_] w (Pair w (blockStart ps at_)) := by
  by_cases hv : pagesFault ps = 0
  rotate_left
  · have HR := Lib.hid (blockStart_fault (a := at_) hv)
    have hq : (pagesFault ps != 0) = true := by simpa using hv
    clear hv
    go_enter Tryz.func79, Tryz.ntmps79
    go_wp2_with fail
    refine (sPagesFault_calls (hT.alloc _) hS hn).mono ?_
    rintro e w1 ⟨rfl, hb1⟩
    have hres := Row.new hb1
    have hb := below_past hb1
    go_wp2_with (refine wpList_store_row rfl 45 _ _ rfl (w.heap.size) _ rfl rfl _ _ hres (by kernel_rfl) (by rfl) (by simp [Value.oneCell']) ?_)
    refine bodyPost_ret (results_cell_row rfl _ _ (w.heap.size) _ _ _ _ rfl (setRow_heap _ _ _ _ _ _ hres) Tryz.underlying45 rfl (by kernel_rfl)) rfl ?_
    exact pair_done hb (Nat.le_refl _) _ HR.out
  have HV := Lib.hid hv
  clear hv
  go_enter Tryz.func79, Tryz.ntmps79
  go_wp2_with fail
  refine (sPagesFault_calls (hT.alloc _) hS hn).mono ?_
  rintro e w1 ⟨rfl, hb1⟩
  rw [HV.out]
  have hres := Row.new hb1
  have hb := below_past hb1
  go_wp2_with fail
  refine (l4Start_calls ((hT.alloc _).below hb1) HV.out).mono ?_
  rintro e w2 ⟨rfl, rfl⟩
  go_wp2_with (refine wpList_store_row rfl 45 _ _ rfl (w.heap.size) _ rfl rfl _ _ hres (by kernel_rfl) (by rfl) (by simp [Value.oneCell']) ?_)
  refine bodyPost_ret (results_cell_row rfl _ _ (w.heap.size) _ _ _ _ rfl (setRow_heap _ _ _ _ _ _ hres) Tryz.underlying45 rfl (by kernel_rfl)) rfl ?_
  exact pair_done hb (Nat.le_refl _) _ rfl

set_option maxHeartbeats 400000 in
theorem sBlockSize_calls {ao : Option Addr} {n cc : Nat} {at_ : Int} {ps : List Pg} {S : Nat → Prop} {w : World} (hT : Lst KPage w S ao n ps) (hS : ShortP 17592186044416 ps) (hn : n ≤ 17592186044416) :
    Calls Tryz.prog 25 #[.slice ao n cc, .int .i64 at_] w (Pair w (blockSize ps at_)) := by
  by_cases hv : (blockStart ps at_).1 = 0
  rotate_left
  · have HR := Lib.hid (blockSize_fault hv)
    have hq : ((blockStart ps at_).1 != 0) = true := by simpa using hv
    clear hv
    go_enter Tryz.func25, Tryz.ntmps25
    go_wp2_with fail
    refine (sBlockStart_calls (hT.alloc _) hS hn).mono ?_
    rintro e w1 ⟨rfl, hb1⟩
    have hres := Row.new hb1
    have hb := below_past hb1
    have hlt := hres.lt
    have hres2 := (heap_alloc_old w1 (.cells #[.int .i64 (blockStart ps at_).1, .int .i64 (blockStart ps at_).2] 45) hlt).trans hres
    go_wp2_with (refine wpList_store_row rfl 45 _ _ rfl (w.heap.size) _ rfl rfl _ _ hres2 (by kernel_rfl) (by rfl) (by simp [Value.oneCell']) ?_)
    refine bodyPost_ret (results_cell_row rfl _ _ (w.heap.size) _ _ _ _ rfl (setRow_heap _ _ _ _ _ _ hres2) Tryz.underlying45 rfl (by kernel_rfl)) rfl ?_
    exact pair_done (hb.alloc hb.size _) (Nat.le_refl _) _ HR.out
  obtain ⟨b, hh, hpf, hbs⟩ := blockStart_held hv
  have hlp := (pagesFault_ok hpf).1
  have hn40 : n ≤ 40 := by have := hT.1; omega
  obtain ⟨_, ha0, hal, hi⟩ := held_info hpf hh
  have hk : ∃ (st : Nat) (p : Pg), b.start = st ∧ st < n * 16 ∧ ps[st / 16]? = some p ∧ pageFault p = 0 ∧ sizeIn p = b.size := by
    rcases hi with ⟨i, k, s, p, rfl, hp, h1, h2, h0, h3, hu, hl, _⟩ | ⟨i, p, rfl, hp, h2, _⟩
    · have hil := (List.getElem?_eq_some_iff.1 hp).1
      have hsl := (List.getElem?_eq_some_iff.1 hu).1
      have hsz := sizeW_slots h0 h3
      have hs1 := sizeW_small k
      have hs16 : (s : Int) * sizeW k + sizeW k ≤ 16 := by
        have := Int.mul_le_mul_of_nonneg_right (show (s : Int) + 1 ≤ 16 / sizeW k by omega) (show 0 ≤ sizeW k by omega)
        rw [Int.add_mul, Int.one_mul, Int.mul_comm (16 / sizeW k)] at this; omega
      have hs0 : 0 ≤ (s : Int) * sizeW k := Int.mul_nonneg (by omega) (by omega)
      have hl' := hT.1
      refine ⟨(Blk.slot i k s).start.toNat, p, ?_, ?_, ?_, ok_page hpf hp, ?_⟩
      · simp only [Blk.start]; omega
      · simp only [Blk.start]; omega
      · rw [show (Blk.slot i k s).start.toNat / 16 = i by simp only [Blk.start]; omega]; exact hp
      · simp [sizeIn, h1, h2, Blk.size]
    · have hil := (List.getElem?_eq_some_iff.1 hp).1
      have hl' := hT.1
      refine ⟨i * 16, p, by simp [Blk.start], by omega, by rw [Nat.mul_div_cancel _ (by omega)]; exact hp, ok_page hpf hp, by simp [sizeIn, h2, Blk.size]⟩
  obtain ⟨st, p, hst, hs1, hp, hpf2, hsi⟩ := hk
  have HR : Hid (blockSize ps at_ = (0, sizeIn p)) := by show _ = _; unfold blockSize; rw [hh, hsi]
  have HE := Lib.hid (hbs.trans hst)
  have HV := Lib.hid hv
  clear hv hh hpf hbs hlp hi hst hsi ha0 hal
  go_enter Tryz.func25, Tryz.ntmps25
  go_wp2_with fail
  refine (sBlockStart_calls (hT.alloc _) hS hn).mono ?_
  rintro e w1 ⟨rfl, hb1⟩
  rw [HV.out, HE.out]
  have hres := Row.new hb1
  have hb := below_past hb1
  have hlt := hres.lt
  have hres2 := (heap_alloc_old w1 (.cells #[.int .i64 0, .int .i64 st] 45) hlt).trans hres
  go_wp2_with fail
  refine (l4Size_calls (((hT.alloc _).below hb1).alloc _) hn40 hs1 hp hpf2).mono ?_
  rintro e w2 ⟨rfl, rfl⟩
  go_wp2_with (refine wpList_store_row rfl 45 _ _ rfl (w.heap.size) _ rfl rfl _ _ hres2 (by kernel_rfl) (by rfl) (by simp [Value.oneCell']) ?_)
  refine bodyPost_ret (results_cell_row rfl _ _ (w.heap.size) _ _ _ _ rfl (setRow_heap _ _ _ _ _ _ hres2) Tryz.underlying45 rfl (by kernel_rfl)) rfl ?_
  exact pair_done (hb.alloc hb.size _) (Nat.le_refl _) _ HR.out
end Go.Proofs.YtcnpckaacigbfaaGreat

/- Chapter 4 of the program: its exported functions that answer a code and a number. -/
namespace Go.Proofs.YtcnpckaacigbfaaGreat
open Go.RowKit

/-- Where the first run is, or no one. -/
theorem findRun_by {ps : List Pg} {m : Int} (hv : pagesFault ps = 0) (h : within 1 4 [m] = true) {k : Nat} (hk : m = k) : findRun ps m = match runFrom k 0 ps with | some i => (0, (i : Int)) | none => (7, 0) := by
  unfold findRun
  rw [if_pos hv, if_pos h, hk, Int.toNat_natCast]
  cases runFrom k 0 ps <;> rfl
/-- What is held at a place of right pages, by its head. -/
theorem blockAt_head {ps : List Pg} {a : Nat} {p : Pg} (h : ps[headOf ps (a / 16)]? = some p) : blockAt ps a = if p.kind = 2 then some (.run (headOf ps (a / 16)) p.run)
    else if p.kind = 1 then (if p.used[a % 16 / (sizeW p.cls).toNat]? = some true then some (.slot (headOf ps (a / 16)) p.cls (a % 16 / (sizeW p.cls).toNat)) else none) else none := by
  unfold blockAt; rw [h]

set_option maxRecDepth 100000 in
set_option maxHeartbeats 2000000 in
theorem blockAt_calls {ao : Option Addr} {n cc a : Nat} {ps : List Pg} {S : Nat → Prop} {w : World} (hT : Lst KPage w S ao n ps) (hv : pagesFault ps = 0) (ha : a < n * 16) :
    Calls Tryz.prog 76 #[.slice ao n cc, .int .i64 a] w fun e w' => e = .returned (blkO (blockAt ps a)) ∧ Below w.heap.size w w' := by
  have HL := Lib.hid hT.1
  have HV := Lib.hid hv
  have hn : n ≤ 40 := by have := (pagesFault_ok hv).1; have := hT.1; omega
  obtain ⟨i, hi⟩ : ∃ i, i = a / 16 := ⟨_, rfl⟩
  have hin : i < n := by omega
  have hx2 : (a : Int) / 16 = (i : Int) := by omega
  have hhi := headOf_le ps i
  obtain ⟨p, hp⟩ : ∃ p, ps[headOf ps i]? = some p := ⟨_, List.getElem?_eq_getElem (by have := HL.out; omega)⟩
  have HP := Lib.hid hp
  have HBA := Lib.hid (blockAt_head (a := a) (by rw [← hi]; exact hp))
  rw [← hi] at HBA
  have hpf := ok_page hv hp
  have h3 : p.kind ≠ 3 := by
    intro h3
    obtain ⟨g, q, hg, _, _, _, hh⟩ := head_of_rest hv hp h3
    have hle := headOf_le ps (headOf ps i)
    have hx := List.getElem?_eq_getElem (l := ps) (i := i) (by have := HL.out; omega)
    by_cases k3 : (ps[i]'(by have := HL.out; omega)).kind = 3
    · obtain ⟨g', q', _, hg', hq', _, hh'⟩ := head_of_rest hv hx k3
      rw [hh', hg'] at hp; injection hp with hp; rw [← hp] at h3; omega
    · rw [headOf_self hx k3, hx] at hp; injection hp with hp; rw [← hp] at h3; exact k3 h3
  have H3 := Lib.hid h3
  have HPF := Lib.hid hpf
  clear hi hp h3 hpf hv
  go_enter Tryz.func76, Tryz.ntmps76
  go_wp2_with fail
  go_loopw [5] (fun x wr => ∃ m : Nat, m ≤ i ∧ x = .int .i64 m ∧ Hid (headOf ps m = headOf ps i) ∧ Below w.heap.size w wr) (fun x _ => (intOf x).toNat)
  case atStart => exact ⟨i, Nat.le_refl _, rfl, rfl, Below.refl _ _⟩
  case round =>
    obtain ⟨m, hm, rfl, HM, hbw⟩ := hrel
    obtain ⟨b, off, p', ad', l, c, rfl, d0, hp', e0, e1, e2, e3, hlc, hcm, hu⟩ := (hT.below hbw).pg_at (j := m) (by omega)
    have hB := Lib.hid (fun o => hbw.alloc hbw.size o)
    by_cases m3 : p'.kind = 3
    · obtain ⟨g, q, hg, _⟩ := head_of_rest HV.out hp' m3
      obtain ⟨m', rfl⟩ : ∃ m', m = m' + 1 := ⟨m - 1, by omega⟩
      have HN : Hid (headOf ps m' = headOf ps i) := by show _ = _; rw [← HM.out, headOf_back hp' m3]
      rw [m3] at e0
      clear hp' m3 hg
      go_wp2_with fail
      go_roundw
      case rel => exact ⟨m', by omega, by go_num, HN, hbw⟩
      case measure => simp [intOf]
    · have HN : Hid (headOf ps i = m) := by show _ = _; rw [← HM.out, headOf_self hp' m3]
      obtain rfl : p = p' := by have := HP.out; rw [HN.out, hp'] at this; injection this with this; exact this.symm
      have q3 : (p.kind == 3) = false := by simpa using m3
      have hb2 : Hid (blockAt ps a = if p.kind = 2 then some (.run m p.run) else if p.kind = 1 then (if p.used[a % 16 / (sizeW p.cls).toNat]? = some true then some (.slot m p.cls (a % 16 / (sizeW p.cls).toNat)) else none) else none) := by
        have := HBA.out; rw [HN.out] at this; exact this
      clear hp' m3
      by_cases k2 : p.kind = 2
      · have HF : Hid (blkO (blockAt ps a) = .iface 149 (.agg #[.int .i64 m, .int .i64 p.run])) := by show _ = _; rw [hb2.out, if_pos k2]; rfl
        rw [k2] at e0
        clear k2 q3
        go_wp2_with fail
        go_ret
        exact ⟨ret_val HF.out.symm, hB.out _⟩
      by_cases k1 : p.kind = 1
      · have hk := pageFault_ok HPF.out
        obtain ⟨h0, h3, hl⟩ : 0 ≤ p.cls ∧ p.cls ≤ 3 ∧ (p.used.length : Int) = 16 / sizeW p.cls := by
          rcases hk with h | h | h
          · exact ⟨h.2.1, h.2.2.1, h.2.2.2.2.1⟩
          · omega
          · omega
        have hsz := sizeW_small p.cls
        have hsl := slot_small (a := a) h0 h3 hl
        have hsi := slot_int (c := p.cls) (a := a) (by omega)
        obtain ⟨s, hs⟩ : ∃ s, s = a % 16 / (sizeW p.cls).toNat := ⟨_, rfl⟩
        have HB3 : Hid (blockAt ps a = if p.used[s]? = some true then some (.slot m p.cls s) else none) := by
          have := hb2.out; rw [if_neg k2, if_pos k1, ← hs] at this; exact this
        rw [← hs] at hsl hsi
        have hll : l = p.used.length := by have := hu.1; omega
        rw [← hll] at hsl
        obtain ⟨b2, o2, rfl, hbl2, hcl⟩ := hu.bool_at hsl
        obtain ⟨u0, hgx⟩ : ∃ u0, p.used[s]? = some u0 := ⟨_, List.getElem?_eq_getElem (by omega)⟩
        rw [List.getD_eq_getElem?_getD, hgx] at hcl
        simp only [Option.getD_some] at hcl
        rw [k1] at e0
        have HSI := Lib.hid hsi
        have HGX := Lib.hid hgx
        have hs16 : s ≤ 15 := by rw [hs]; have := Nat.div_le_self (a % 16) (sizeW p.cls).toNat; omega
        clear hk hl hsi hgx hll hs hu k1 k2 q3 HBA
        rcases u0 with _ | _
        · have HF : Hid (blkO (blockAt ps a) = .nilIface) := by show _ = _; rw [HB3.out, HGX.out]; rfl
          go_wp2_with fail
          refine (wordsOfClass_calls h0 h3).mono ?_
          rintro e w2 ⟨rfl, rfl⟩
          have hne : (sizeW p.cls == 0) = false := by simp; omega
          have hx := HSI.out
          go_wp2_with fail
          go_ret
          exact ⟨ret_val HF.out.symm, hB.out _⟩
        · have HF : Hid (blkO (blockAt ps a) = .iface 152 (.agg #[.int .i64 m, .int .i64 p.cls, .int .i64 s])) := by show _ = _; rw [HB3.out, HGX.out]; rfl
          go_wp2_with fail
          refine (wordsOfClass_calls h0 h3).mono ?_
          rintro e w2 ⟨rfl, rfl⟩
          have hne : (sizeW p.cls == 0) = false := by simp; omega
          have hx := HSI.out
          go_wp2_with fail
          go_ret
          exact ⟨ret_val HF.out.symm, hB.out _⟩
      · have HF : Hid (blkO (blockAt ps a) = .nilIface) := by show _ = _; rw [hb2.out, if_neg k2, if_neg k1]; rfl
        have q1 : (p.kind == 1) = false := by simpa using k1
        have q2 : (p.kind == 2) = false := by simpa using k2
        clear k1 k2
        go_wp2_with fail
        go_ret
        exact ⟨ret_val HF.out.symm, hB.out _⟩

/-- What 'heldAt' answers. -/
def heldV (x : Int × Option Blk) : Value := .tuple #[blkO x.2, .int .i64 x.1]
set_option maxHeartbeats 2000000 in
theorem heldAt_calls {ao : Option Addr} {n cc : Nat} {at_ : Int} {ps : List Pg} {S : Nat → Prop} {w : World} (hT : Lst KPage w S ao n ps) (hS : ShortP 17592186044416 ps) (hn : n ≤ cc) (hc : cc ≤ 9223372036854775807) (hn4 : n ≤ 17592186044416) :
    Calls Tryz.prog 130 #[.slice ao n cc, .int .i64 at_] w fun e w' => e = .returned (heldV (heldAt ps at_)) ∧ Below w.heap.size w w' := by
  have HL := Lib.hid hT.1
  by_cases hv : pagesFault ps = 0
  rotate_left
  · have HR := Lib.hid (show heldAt ps at_ = (pagesFault ps, none) by unfold heldAt; rw [if_neg hv])
    have hq : (pagesFault ps != 0) = true := by simpa using hv
    clear hv
    go_enter Tryz.func130, Tryz.ntmps130
    go_wp2_with fail
    refine (pagesFault_calls hT hS (by omega)).mono ?_
    rintro e w1 ⟨rfl, hb1⟩
    go_wp2_with fail
    go_ret2
    exact ⟨ret_val (by rw [HR.out]; rfl), hb1⟩
  have HV := Lib.hid hv
  have hn40 : n ≤ 40 := by have := (pagesFault_ok hv).1; have := hT.1; omega
  rcases hw : within 0 ((n : Int) * 16 - 1) [at_] with _ | _
  · have HR := Lib.hid (show heldAt ps at_ = (3, none) from held_no hv (by rw [HL.out]; exact hw))
    have HW := Lib.hid hw
    clear hv hw
    go_enter Tryz.func130, Tryz.ntmps130
    go_wp2_with fail
    refine (pagesFault_calls hT hS (by omega)).mono ?_
    rw [HV.out]
    rintro e w1 ⟨rfl, hb1⟩
    go_wp2_with fail
    refine (allWithin_calls (Ints.one (by simp)) (by omega)).mono ?_
    rw [HW.out]
    rintro e w2 ⟨rfl, rfl⟩
    go_wp2_with fail
    go_ret2
    exact ⟨ret_val (by rw [HR.out]; rfl), hb1.alloc hb1.size _⟩
  have hwr := within_range hw
  obtain ⟨a, ha⟩ : ∃ a : Nat, at_ = a := ⟨at_.toNat, by omega⟩
  subst ha
  have han : a < n * 16 := by omega
  have HR := Lib.hid (show heldAt ps a = match blockAt ps a with | some b => (0, some b) | none => (4, none) by
    unfold heldAt; rw [if_pos hv, HL.out, if_pos hw, Int.toNat_natCast]; cases blockAt ps a <;> rfl)
  have HW := Lib.hid hw
  clear hv hw hwr
  rcases hx : blockAt ps a with _ | b
  · have HR2 : Hid (heldAt ps a = (4, none)) := by show _ = _; rw [HR.out, hx]
    go_enter Tryz.func130, Tryz.ntmps130
    go_wp2_with fail
    refine (pagesFault_calls hT hS (by omega)).mono ?_
    rw [HV.out]
    rintro e w1 ⟨rfl, hb1⟩
    go_wp2_with fail
    refine (allWithin_calls (Ints.one (by simp)) (by omega)).mono ?_
    rw [HW.out]
    rintro e w2 ⟨rfl, rfl⟩
    go_wp2_with fail
    refine (blockAt_calls ((hT.below hb1).alloc _) HV.out han).mono ?_
    rw [hx]
    rintro e w3 ⟨rfl, hb3⟩
    have hb4 := below_box hb1 hb3
    clear hb3
    simp only [blkO]
    go_wp2_with fail
    go_ret2
    exact ⟨ret_val (by rw [HR2.out]; rfl), hb4⟩
  · have HR2 : Hid (heldAt ps a = (0, some b)) := by show _ = _; rw [HR.out, hx]
    rcases b with ⟨i, c, s⟩ | ⟨i, m⟩
    · skip
      go_enter Tryz.func130, Tryz.ntmps130
      go_wp2_with fail
      refine (pagesFault_calls hT hS (by omega)).mono ?_
      rw [HV.out]
      rintro e w1 ⟨rfl, hb1⟩
      go_wp2_with fail
      refine (allWithin_calls (Ints.one (by simp)) (by omega)).mono ?_
      rw [HW.out]
      rintro e w2 ⟨rfl, rfl⟩
      go_wp2_with fail
      refine (blockAt_calls ((hT.below hb1).alloc _) HV.out han).mono ?_
      rw [hx]
      rintro e w3 ⟨rfl, hb3⟩
      have hb4 := below_box hb1 hb3
      clear hb3
      simp only [blkO, blkV]
      go_wp2_with fail
      go_ret2
      exact ⟨ret_val (by rw [HR2.out]; rfl), hb4⟩
    · skip
      go_enter Tryz.func130, Tryz.ntmps130
      go_wp2_with fail
      refine (pagesFault_calls hT hS (by omega)).mono ?_
      rw [HV.out]
      rintro e w1 ⟨rfl, hb1⟩
      go_wp2_with fail
      refine (allWithin_calls (Ints.one (by simp)) (by omega)).mono ?_
      rw [HW.out]
      rintro e w2 ⟨rfl, rfl⟩
      go_wp2_with fail
      refine (blockAt_calls ((hT.below hb1).alloc _) HV.out han).mono ?_
      rw [hx]
      rintro e w3 ⟨rfl, hb3⟩
      have hb4 := below_box hb1 hb3
      clear hb3
      simp only [blkO, blkV]
      go_wp2_with fail
      go_ret2
      exact ⟨ret_val (by rw [HR2.out]; rfl), hb4⟩
end Go.Proofs.YtcnpckaacigbfaaGreat

/- Chapter 4 of the program: where a block begins, how great it is. -/
namespace Go.Proofs.YtcnpckaacigbfaaGreat
open Go.RowKit

/-- What is held has a place and a size of small numbers. -/
theorem held_slot_small {ps : List Pg} {a : Int} {c k : Int} {i s : Nat} (hv : pagesFault ps = 0) (h : heldAt ps a = (c, some (.slot i k s))) : 0 ≤ k ∧ k ≤ 3 ∧ (i : Int) ≤ 40 ∧ (s : Int) ≤ 15 := by
  obtain ⟨_, _, _, hi⟩ := held_info hv h
  rcases hi with ⟨i', k', s', p, he, hp, h1, h2, h0, h3, hu, hl, _, _, rfl⟩ | ⟨i', p, he, _⟩
  · injection he with e1 e2 e3
    subst e1 e2 e3
    have hil := (List.getElem?_eq_some_iff.1 hp).1
    have := (pagesFault_ok hv).1
    have := Nat.div_le_self (a.toNat % 16) (sizeW k).toNat
    exact ⟨h0, h3, by omega, by omega⟩
  · cases he
theorem held_run_small {ps : List Pg} {a : Int} {c m : Int} {i : Nat} (hv : pagesFault ps = 0) (h : heldAt ps a = (c, some (.run i m))) : 1 ≤ m ∧ m ≤ 4 ∧ (i : Int) + m ≤ ps.length ∧ ps.length ≤ 40 ∧ ∃ p, ps[i]? = some p ∧ p.kind = 2 ∧ p.run = m := by
  obtain ⟨_, _, _, hi⟩ := held_info hv h
  rcases hi with ⟨i', k', s', p, he, _⟩ | ⟨i', p, he, hp, h2, _⟩
  · cases he
  · injection he with e1 e2
    subst e1 e2
    have hr := ok_run hv hp h2
    have hf := run_fits hv hp h2
    exact ⟨hr.1, hr.2, hf, (pagesFault_ok hv).1, p, hp, h2, rfl⟩

set_option maxHeartbeats 2000000 in
theorem blockStart_calls {ao : Option Addr} {n cc : Nat} {at_ : Int} {ps : List Pg} {S : Nat → Prop} {w : World} (hT : Lst KPage w S ao n ps) (hS : ShortP 17592186044416 ps) (hn : n ≤ cc) (hc : cc ≤ 9223372036854775807) (hn4 : n ≤ 17592186044416) :
    Calls Tryz.prog 82 #[.slice ao n cc, .int .i64 at_] w (Pair w (blockStart ps at_)) := by
  rcases hh : heldAt ps at_ with ⟨c, b⟩
  rcases b with _ | b
  · have HR : Hid (blockStart ps at_ = (c, 0)) := by show _ = _; unfold blockStart; rw [hh]
    have hq : (c != 0) = true := by
      by_cases hv : pagesFault ps = 0
      · have := held_code hv hh; simp; omega
      · unfold heldAt at hh; rw [if_neg hv] at hh; injection hh with h1 _; simp; omega
    go_enter Tryz.func82, Tryz.ntmps82
    go_wp2_with fail
    refine (heldAt_calls (hT.alloc _) hS hn hc hn4).mono ?_
    rw [hh]
    rintro e w1 ⟨rfl, hb1⟩
    have hres := Row.new hb1
    have hb := below_past hb1
    clear hb1
    simp only [heldV, blkO, blkV]
    go_wp2_with (refine wpList_store_row rfl 45 _ _ rfl (w.heap.size) _ rfl rfl _ _ hres (by kernel_rfl) (by rfl) (by simp [Value.oneCell']) ?_)
    refine bodyPost_ret (results_cell_row rfl _ _ (w.heap.size) _ _ _ _ rfl (setRow_heap _ _ _ _ _ _ hres) Tryz.underlying45 rfl (by kernel_rfl)) rfl ?_
    exact pair_done hb (Nat.le_refl _) _ HR.out
  · by_cases hv : pagesFault ps = 0
    rotate_left
    · unfold heldAt at hh; rw [if_neg hv] at hh; cases hh
    have hc0 := (held_info hv hh).1
    subst hc0
    rcases b with ⟨i, k, s⟩ | ⟨i, m⟩
    · obtain ⟨h0, h3, hi, hs⟩ := held_slot_small hv hh
      have HR : Hid (blockStart ps at_ = (0, (i : Int) * 16 + s * sizeW k)) := by show _ = _; unfold blockStart; rw [hh]; rfl
      clear hv
      go_enter Tryz.func82, Tryz.ntmps82
      go_wp2_with fail
      refine (heldAt_calls (hT.alloc _) hS hn hc hn4).mono ?_
      rw [hh]
      rintro e w1 ⟨rfl, hb1⟩
      have hres := Row.new hb1
      have hb := below_past hb1
      clear hb1
      simp only [heldV, blkO, blkV]
      go_wp2_with fail
      refine (slotStart_calls h0 h3 (by omega) hi (by omega) hs).mono ?_
      rintro e w2 ⟨rfl, hb2⟩
      have hres2 := Row.below hres hb2
      have hb3 := hb.trans (hb2.mono hb.size)
      clear hb2
      go_wp2_with (refine wpList_store_row rfl 45 _ _ rfl (w.heap.size) _ rfl rfl _ _ hres2 (by kernel_rfl) (by rfl) (by simp [Value.oneCell']) ?_)
      refine bodyPost_ret (results_cell_row rfl _ _ (w.heap.size) _ _ _ _ rfl (setRow_heap _ _ _ _ _ _ hres2) Tryz.underlying45 rfl (by kernel_rfl)) rfl ?_
      exact pair_done hb3 (Nat.le_refl _) _ HR.out
    · obtain ⟨hm1, hm4, him, hl40, _⟩ := held_run_small hv hh
      have HR : Hid (blockStart ps at_ = (0, (i : Int) * 16)) := by show _ = _; unfold blockStart; rw [hh]; rfl
      clear hv
      go_enter Tryz.func82, Tryz.ntmps82
      go_wp2_with fail
      refine (heldAt_calls (hT.alloc _) hS hn hc hn4).mono ?_
      rw [hh]
      rintro e w1 ⟨rfl, hb1⟩
      have hres := Row.new hb1
      have hb := below_past hb1
      clear hb1
      simp only [heldV, blkO, blkV]
      go_wp2_with fail
      refine (runStart_calls (by omega) (by omega)).mono ?_
      rintro e w2 ⟨rfl, hb2⟩
      have hres2 := Row.below hres hb2
      have hb3 := hb.trans (hb2.mono hb.size)
      clear hb2
      go_wp2_with (refine wpList_store_row rfl 45 _ _ rfl (w.heap.size) _ rfl rfl _ _ hres2 (by kernel_rfl) (by rfl) (by simp [Value.oneCell']) ?_)
      refine bodyPost_ret (results_cell_row rfl _ _ (w.heap.size) _ _ _ _ rfl (setRow_heap _ _ _ _ _ _ hres2) Tryz.underlying45 rfl (by kernel_rfl)) rfl ?_
      exact pair_done hb3 (Nat.le_refl _) _ HR.out

end Go.Proofs.YtcnpckaacigbfaaGreat

/- Chapter 4 of the model: its exported functions that answer pages; pages compared. -/
namespace Go.Proofs.YtcnpckaacigbfaaGreat
open Go.RowKit

theorem pages_done {w w1 : World} {r : Int × List Pg × Int} {x z : Int} {ps : List Pg} {g n : Nat} {v : Value} (hb : Below w.heap.size w w1) (hg : w.heap.size ≤ g) (hv : Own KPage 55 w1 (fun k => g < k) v n ps) (cs : Array Value) (h : r = (x, ps, z)) :
    RetsPages w r (.returned (.agg #[.int .i64 x, v, .int .i64 z])) (w1.setRow g cs) := by
  subst h
  exact ⟨v, n, rfl, (hv.turn (Turn.setRow w1 g cs) (fun k hk _ e => by have : k = g := e; omega)).mono (fun k hk _ => by omega), below_setRow hb hg cs⟩

theorem findSlot_eq {ps : List Pg} {c : Int} (hv : pagesFault ps = 0) (h : within 0 3 [c] = true) : findSlot ps c = if slotAt ps c < 0 then (7, [], 0) else (0, slotPut ps c, slotAt ps c) := by
  unfold findSlot slotAt slotPut
  rw [if_pos hv, if_pos h]
  have hs := sizeW_small c
  cases hr : slotFor ps c with
  | none => simp
  | some x =>
    have : 0 ≤ (x.2 : Int) * sizeW c := Int.mul_nonneg (by omega) (by omega)
    simp only; rw [if_neg (by omega)]
theorem freeN_drop : ∀ {m j : Nat} {ps : List Pg}, j ≤ m → (∀ i p, i < j → ps[i]? = some p → p.kind = 0) → j ≤ ps.length → freeN m ps = freeN (m - j) (ps.drop j)
  | m, 0, ps, _, _, _ => by simp
  | 0, j + 1, ps, h, _, _ => by omega
  | m + 1, j + 1, [], _, _, h => by simp at h
  | m + 1, j + 1, q :: r, h1, h2, h3 => by
    have h0 := h2 0 q (by omega) (by simp)
    rw [freeN, h0, List.drop_succ_cons, Nat.add_sub_add_right, ← freeN_drop (m := m) (j := j) (ps := r) (by omega) (fun i p hi hp => h2 (i + 1) p (by omega) (by simpa using hp)) (by simpa using h3)]
    simp
theorem dropBlock_fault {ps : List Pg} {a : Int} (h : (blockStart ps a).1 ≠ 0) : dropBlock ps a = ((blockStart ps a).1, [], 0) := by
  unfold dropBlock blockStart at *
  split <;> simp_all
/-- What is dropped where a block begins. -/
theorem dropAt_blk {ps : List Pg} {a : Nat} {c : Int} {b : Blk} (hv : pagesFault ps = 0) (h : heldAt ps a = (c, some b)) (hs : b.start = a) : dropAt ps a = dropBlk ps b ∧ ∃ p, ps[a / 16]? = some p ∧
    ((p.kind = 1 ∧ 0 ≤ p.cls ∧ p.cls ≤ 3 ∧ (p.used.length : Int) = 16 / sizeW p.cls) ∨ ((p.kind == 1) = false ∧ ∃ m : Nat, p.run = m ∧ a / 16 + m ≤ ps.length)) := by
  obtain ⟨_, _, _, hi⟩ := held_info hv h
  rw [Int.toNat_natCast] at hi
  rcases hi with ⟨i, k, s, p, rfl, hp, h1, h2, h0, h3, hu, hl, _, rfl, rfl⟩ | ⟨i, p, rfl, hp, h2, _⟩
  · subst h2
    refine ⟨?_, p, hp, .inl ⟨h1, h0, h3, hl⟩⟩
    unfold dropAt dropBlk
    simp only [hp, h1, if_true]
  · have hi : a / 16 = i := by simp only [Blk.start] at hs; omega
    have hr := ok_run hv hp h2
    have hf := run_fits hv hp h2
    refine ⟨?_, p, by rw [hi]; exact hp, .inr ⟨by simp [h2], p.run.toNat, by omega, by omega⟩⟩
    unfold dropAt dropBlk
    rw [hi, hp]; simp only; rw [if_neg (by omega)]

end Go.Proofs.YtcnpckaacigbfaaGreat

/- Chapter 4 of the program: a block that is taken. -/
namespace Go.Proofs.YtcnpckaacigbfaaGreat
open Go.RowKit

theorem as_ss (v : Value) (w : World) : (Instr.typeAssert (.iface 152 v) 98 152 true).run Tryz.prog w = .ok (.tuple #[v, .bool true]) w := by kernel_rfl
theorem as_rr (v : Value) (w : World) : (Instr.typeAssert (.iface 149 v) 98 149 true).run Tryz.prog w = .ok (.tuple #[v, .bool true]) w := by kernel_rfl
theorem as_rs (v : Value) (w : World) : (Instr.typeAssert (.iface 149 v) 98 152 true).run Tryz.prog w = .ok (.tuple #[.agg #[.int .i64 0, .int .i64 0, .int .i64 0], .bool false]) w := by kernel_rfl

theorem keep1 {W a b : World} {p : Addr} {x : Value} (h : a.cell? p = some x ∧ Below W.heap.size W a) (hb : Below a.heap.size a b) : b.cell? p = some x ∧ Below W.heap.size W b :=
  ⟨(hb.cell (World.block_lt_of_cell? _ _ h.1)).trans h.1, h.2.trans (hb.mono h.2.size)⟩
theorem keep1_set {W a : World} {p q : Addr} {x v : Value} (h : a.cell? p = some x ∧ Below W.heap.size W a) (hx : q.block ≠ p.block) (hg : W.heap.size ≤ q.block) : (a.setCell q v).cell? p = some x ∧ Below W.heap.size W (a.setCell q v) :=
  ⟨(World.cell?_setCell_other _ _ _ _ (fun e => hx (by rw [e]))).trans h.1, h.2.setCell hg _⟩
theorem keep1_drew {W a : World} {p : Addr} {x : Value} (h : a.cell? p = some x ∧ Below W.heap.size W a) : a.drew.cell? p = some x ∧ Below W.heap.size W a.drew := ⟨h.1, h.2.drew⟩
end Go.Proofs.YtcnpckaacigbfaaGreat

/- Chapter 4 of the program: a block that is given back. -/
namespace Go.Proofs.YtcnpckaacigbfaaGreat
open Go.RowKit

set_option maxRecDepth 100000 in
set_option maxHeartbeats 4000000 in
theorem withoutSlot_calls {a : Option Addr} {n cc i s : Nat} {c : Int} {p : Pg} {ps : List Pg} {S : Nat → Prop} {w : World} (hT : Lst KPage w S a n ps) (hS : ShortP 16 ps) (hn : n ≤ 40) (hp : ps[i]? = some p) (hk : p.kind = 1) (hc0 : 0 ≤ c) (hc3 : c ≤ 3) (hs : s < p.used.length) :
    Calls Tryz.prog 141 #[.slice a n cc, .iface 152 (.agg #[.int .i64 i, .int .i64 c, .int .i64 s])] w fun e w' => ∃ v, e = .returned v ∧ Own KPage 55 w' (fun k => w.heap.size ≤ k) v n (dropBlk ps (.slot i c s)) ∧ Below w.heap.size w w' := by
  have HL := Lib.hid hT.1
  have HP := Lib.hid hp
  have HK := Lib.hid hk
  have hin : i < n := by have := (List.getElem?_eq_some_iff.1 hp).1; have := hT.1; omega
  have hs15 : s ≤ 15 := by have := hS.at_ hp; omega
  clear hp hk
  have qs := as_ss
  have qr := as_rr
  have qrs := as_rs
  go_enter Tryz.func141, Tryz.ntmps141
  go_wp2_with fail
  refine (copyPages_calls hT (fun q hq => by have := hS q hq; omega) (by omega)).mono ?_
  rintro e w1 ⟨v, rfl, hown, hb1⟩
  have hb := hb1
  clear hb1
  obtain ⟨g, cap, p', a0, l, c0, F, rfl, g0, hgS, hp', ⟨q0, q1, q2, q3⟩, ⟨f0, f1, f2, f3⟩, ⟨hU, hF, hlc, hcm⟩, hset, hus⟩ := hown.pg_at (j := i) hin
  obtain rfl : p = p' := by have := HP.out; rw [hp'] at this; injection this with this; exact this.symm
  have hll : l = p.used.length := by have := hU.1; omega
  rw [HK.out] at q0
  have hsl : s < l := by omega
  have hl16 : l ≤ 16 := by have := hS.at_ HP.out; omega
  have HLL := Lib.hid hll
  clear hll
  obtain ⟨o, ho⟩ : ∃ o, o = Obj.cells #[.int .i64 i, .int .i64 c, .int .i64 s] 152 := ⟨_, rfl⟩
  have hbox : Row (w1.alloc o) w1.heap.size 152 #[.int .i64 i, .int .i64 c, .int .i64 s] := by rw [ho]; exact heap_alloc_new _ _
  have x2 : (w1.alloc o).cell? ⟨w1.heap.size, 2, none⟩ = some (.int .i64 s) := by rw [hbox.cell]; rfl
  have kA : Below w1.heap.size w1 (w1.alloc o) := (Below.refl _ _).alloc (Nat.le_refl _) o
  have r2 := (kA.cell (p := ⟨g, i * 4 + 2, none⟩) g0).trans q2
  obtain ⟨g2, cap2, hv2, hg2S, hg2, hcl, hfr, hbst⟩ := hU.bool_at hsl
  cases hv2
  obtain ⟨hO1, hT1⟩ := hbst false
  have hg2' := hF g2 hg2S
  have hg2g : g2 ≠ g := hg2'.2.1
  have hg2x : g2 ≠ w1.heap.size := by omega
  have hcl2 := (kA.cell (p := ⟨g2, s, none⟩) hg2).trans hcl
  have hfr2 := (kA.frozen (p := ⟨g2, s, none⟩) hg2).trans hfr
  have kA2 : Below (w1.setCell ⟨g2, s, none⟩ (.bool false)).heap.size (w1.setCell ⟨g2, s, none⟩ (.bool false)) ((w1.setCell ⟨g2, s, none⟩ (.bool false)).alloc o) := (Below.refl _ _).alloc (Nat.le_refl _) o
  have y2 : ((w1.setCell ⟨g2, s, none⟩ (.bool false)).alloc o).cell? ⟨g, i * 4 + 2, none⟩ = some (.slice (some ⟨g2, 0, none⟩) l c0) := (kA2.cell (p := ⟨g, i * 4 + 2, none⟩) (by simpa using g0)).trans ((World.cell?_setCell_other _ _ _ _ (fun e => hg2g (by injection e))).trans q2)
  have hbox2 : Row ((w1.setCell ⟨g2, s, none⟩ (.bool false)).alloc o) w1.heap.size 152 #[.int .i64 i, .int .i64 c, .int .i64 s] := by
    have h1 := heap_alloc_new (w1.setCell ⟨g2, s, none⟩ (.bool false)) o
    rw [World.size_setCell, ho] at h1; rw [ho]; exact h1
  have y5 : ((w1.setCell ⟨g2, s, none⟩ (.bool false)).alloc o).cell? ⟨w1.heap.size, 2, none⟩ = some (.int .i64 s) := by rw [hbox2.cell]; rfl
  have hN := hus _ _ hT1 hO1
  have hPut : Hid (dropBlk ps (.slot i c s) = ps.set i (freeSlot p s)) := by
    show _ = _; unfold dropBlk; simp only [HP.out]
  have hbA : Below w.heap.size w ((w1.setCell ⟨g2, s, none⟩ (.bool false)).alloc o) := (hT1.below hb hb.size (fun k hk => (hF _ hk).1)).alloc (by simpa using hb.size) o
  have HN := Lib.hid (And.intro (hN.1.alloc o) (And.intro (hO1.alloc o) hbA))
  generalize p.used.getD s false = u0 at hcl2
  clear hset hus hbst hown hU hO1 hT1 hN hbA hF hcl hfr
  subst ho
  go_wp2_with fail
  go_region_held3 (fun w' => w'.cell? ⟨g, i * 4 + 2, none⟩ = some (.slice (some ⟨g2, 0, none⟩) l c0) ∧ w'.cell? ⟨w1.heap.size, 2, none⟩ = some (.int .i64 s)) (first | assumption | exact ⟨r2, x2⟩ | exact ⟨y2, y5⟩)
    (fail)
  go_wp2_with fail
  have hLU : Lst KBool ((w1.setCell ⟨g2, s, none⟩ (.bool false)).alloc (.cells #[.int .i64 i, .int .i64 c, .int .i64 s] 152)).drew F (some ⟨g2, 0, none⟩) l (p.used.set s false) := HN.out.2.1.lst.2.2.2
  rcases ha : anyB (p.used.set s false) with _ | _
  · refine (containsB_calls hLU (by omega)).mono ?_
    rw [ha]
    rintro e w4 ⟨rfl, rfl⟩
    obtain ⟨g', cap', p2, a2, l2, c2, F2, he2, g02, hgS2, hp2, ⟨z0, z1, z2, z3⟩, ⟨e0, e1, e2, e3⟩, _, hset2, _⟩ := HN.out.1.pg_at (j := i) hin
    cases he2
    have HS2 := Lib.hid hset2
    clear hset2 hp2
    have hR : Hid (dropBlk ps (.slot i c s) = (ps.set i ⟨p.kind, p.cls, p.used.set s false, p.run⟩).set i Pg.free) := by
      show _ = _; rw [hPut.out, freeSlot, if_neg (by rw [ha]; simp), List.set_set]
    go_wp2_with fail
    go_ret
    obtain ⟨hA, hB, _⟩ := HS2.out ((w1.setCell ⟨g2, s, none⟩ (.bool false)).alloc (.cells #[.int .i64 i, .int .i64 c, .int .i64 s] 152)) Pg.free (.slice none 0 0) 0 (fun _ => False) (Turn.refl _ _) Own.nil (fun _ h => h.elim)
    have gl : g < (w1.setCell ⟨g2, s, none⟩ (.bool false)).heap.size := by simpa using g0
    rw [World.setCell_alloc_past _ g (i * 4) _ gl, World.setCell_alloc_past _ g (i * 4 + 1) _ (by simpa using gl), World.setCell_alloc_past _ g (i * 4 + 2) _ (by simpa using gl), World.setCell_alloc_past _ g (i * 4 + 3) _ (by simpa using gl)] at hA hB
    exact ⟨_, rfl, by rw [hR.out]; exact hA.mono (fun k hk _ => hk.elim id False.elim), (hB.below HN.out.2.2 HN.out.2.2.size (fun k hk => hk)).drew⟩
  · refine (containsB_calls hLU (by omega)).mono ?_
    rw [ha]
    rintro e w4 ⟨rfl, rfl⟩
    have hR : Hid (dropBlk ps (.slot i c s) = ps.set i ⟨p.kind, p.cls, p.used.set s false, p.run⟩) := by
      show _ = _; rw [hPut.out, freeSlot, if_pos ha]
    go_wp2_with fail
    go_ret
    exact ⟨_, rfl, by rw [hR.out]; exact HN.out.1, HN.out.2.2.drew⟩

set_option maxRecDepth 100000 in
set_option maxHeartbeats 2000000 in
theorem withoutRun_calls {a : Option Addr} {n cc i m : Nat} {ps : List Pg} {S : Nat → Prop} {w : World} (hT : Lst KPage w S a n ps) (hS : ShortP 16 ps) (hn : n ≤ 40) (hm : i + m ≤ n) :
    Calls Tryz.prog 141 #[.slice a n cc, .iface 149 (.agg #[.int .i64 i, .int .i64 m])] w fun e w' => ∃ v, e = .returned v ∧ Own KPage 55 w' (fun k => w.heap.size ≤ k) v n (setMany ps i Pg.free m) ∧ Below w.heap.size w w' := by
  have HL := Lib.hid hT.1
  have qr := as_rr
  have qrs := as_rs
  go_enter Tryz.func141, Tryz.ntmps141
  go_wp2_with fail
  refine (copyPages_calls hT (fun q hq => by have := hS q hq; omega) (by omega)).mono ?_
  rintro e w1 ⟨v, rfl, hown, hb⟩
  obtain ⟨vo, vc, rfl, _, _, _⟩ := hown.shape
  have ho1 := hown.here
  have hbs := hb.size
  have HI := Lib.hid (And.intro (ho1.alloc (.cells #[.int .i64 i, .int .i64 m] 149)) (hb.alloc hb.size (.cells #[.int .i64 i, .int .i64 m] 149)))
  have hbox := heap_alloc_new w1 (.cells #[.int .i64 i, .int .i64 m] 149)
  have HX := Lib.hid hbox
  clear hown ho1 hbox
  go_wp2_with fail
  go_loopw [9, 41] (fun _ x wr => ∃ k : Nat, k ≤ m ∧ x = .int .i64 k ∧ Own KPage 55 wr (fun q => w.heap.size ≤ q ∧ q < w1.heap.size) (.slice vo n vc) n (setMany ps i Pg.free k) ∧ Row wr w1.heap.size 149 #[.int .i64 i, .int .i64 m] ∧ Below w.heap.size w wr) (fun _ x _ => m - (intOf x).toNat)
  case atStart => exact ⟨0, Nat.zero_le _, rfl, HI.out.1.mono (fun q hq _ => by simpa using hq), HX.out, HI.out.2⟩
  case round =>
    obtain ⟨k, hk, rfl, hO, hB, hbw⟩ := hrel
    have x0 : wr.cell? ⟨w1.heap.size, 0, none⟩ = some (.int .i64 i) := by rw [hB.cell]; rfl
    have x1 : wr.cell? ⟨w1.heap.size, 1, none⟩ = some (.int .i64 m) := by rw [hB.cell]; rfl
    by_cases hlt : k < m
    · obtain ⟨g, cap, p, a', l, c', F, he, g0, hgS, hp, ⟨q0, q1, q2, q3⟩, ⟨f0, f1, f2, f3⟩, _, hset, _⟩ := hO.pg_at (j := i + k) (by omega)
      cases he
      have hN : ((i : Int) + (k : Int)).toNat = i + k := by omega
      have hst := hset wr Pg.free (.slice none 0 0) 0 (fun _ => False) (Turn.refl _ _) Own.nil (fun _ h => h.elim)
      have H2 := Lib.hid (And.intro (hst.1.mono (S' := fun q => w.heap.size ≤ q ∧ q < w1.heap.size) (fun q hq _ => hq.elim id False.elim)) (And.intro (hst.2.1.row hB (fun h => by omega)) (hst.2.1.below hbw (by have := hbw.size; omega) (fun q hq => by omega))))
      clear hset hst hO hp hB hbw
      go_wp2_with fail
      go_roundw
      case rel => exact ⟨k + 1, by omega, by go_num, H2.out.1, H2.out.2.1, H2.out.2.2⟩
      case measure => simp [intOf]; omega
    · have F : Hid (Own KPage 55 wr (fun q => w.heap.size ≤ q) (.slice vo n vc) n (setMany ps i Pg.free m) ∧ Below w.heap.size w wr) := by
        rw [show k = m by omega] at hO; exact ⟨hO.mono (fun q hq _ => hq.1), hbw⟩
      clear hO hB hbw
      go_wp2_with fail
      go_ret
      exact ⟨_, rfl, F.out.1, F.out.2⟩
end Go.Proofs.YtcnpckaacigbfaaGreat
