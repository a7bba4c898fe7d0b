/- Chapter 4 of the program: copies of pages. -/
import Derived.Test.YtkikjoalhohlgaaImpl4c
import Derived.Test.YtkikjoalhohlgaaSpec4c
import Derived.Test.YtkikjoalhohlgaaOwn4
import Derived.Lib.SliceRun
namespace Go.Proofs.Ytkikjoalhohlgaa
open Go.RowKit

/-- Plain cells of which nothing is said but what they are. -/
def KRaw (n : Nat) : Lay (List Value) where
  sz := n
  rd _ _ cs x := cs = x ∧ cs.length = n ∧ ∀ c ∈ cs, c.oneCell' = true
  own _ _ cs x := cs = x ∧ cs.length = n ∧ ∀ c ∈ cs, c.oneCell' = true
  rd_len h := h.2.1
  rd_turn h _ _ := h
  rd_mono h _ := h
  own_turn h _ _ := h
  own_mono h _ := h
  own_rd h := h
theorem flat_raw (n : Nat) : Flat (KRaw n) := fun _ _ _ _ _ _ h => h
theorem one_raw (n : Nat) : OneC (KRaw n) := fun _ _ _ _ h => h.2.2
theorem exists_list {α β : Type} {P : Nat → α → β → Prop} : ∀ {xs : List α}, (∀ j x, xs[j]? = some x → ∃ y, P j x y) → ∃ ys : List β, ys.length = xs.length ∧ ∀ j x, xs[j]? = some x → ∃ y, ys[j]? = some y ∧ P j x y
  | [], _ => ⟨[], rfl, fun j x h => by simp at h⟩
  | q :: r, h => by
    obtain ⟨y, hy⟩ := h 0 q (by simp)
    obtain ⟨ys, hl, hys⟩ := exists_list (P := fun j x y => P (j + 1) x y) (xs := r) (fun j x hj => h (j + 1) x (by simpa using hj))
    refine ⟨y :: ys, by simp [hl], fun j x hj => ?_⟩
    cases j with
    | zero => simp at hj; subst hj; exact ⟨y, by simp, hy⟩
    | succ j => obtain ⟨z, hz, hp⟩ := hys j x (by simpa using hj); exact ⟨z, by simpa using hz, hp⟩
theorem Lst.raw {α : Type} {K : Lay α} {w : World} {S : Nat → Prop} {ao : Option Addr} {n : Nat} {xs : List α} (h : Lst K w S ao n xs) (h1 : OneC K) :
    ∃ cks : List (List Value), Lst (KRaw K.sz) w S ao n cks ∧ ∀ (j : Nat) (x : α), xs[j]? = some x → ∃ cs, cks[j]? = some cs ∧ K.rd w S cs x := by
  have hl := h.1
  rcases Nat.eq_zero_or_pos n with rfl | h0
  · exact ⟨[], Lst.nil, fun j x hj => by have := (List.getElem?_eq_some_iff.1 hj).1; omega⟩
  · obtain ⟨b, off, rfl, hb, hs, hc⟩ := h.2 h0
    obtain ⟨cks, hcl, hck⟩ := exists_list (P := fun j x cs => cs.length = K.sz ∧ (∀ i, i < K.sz → w.cell? ⟨b, off + j * K.sz + i, none⟩ = cs[i]?) ∧ K.rd w S cs x) (xs := xs) hc
    refine ⟨cks, ⟨by omega, fun _ => ⟨b, off, rfl, hb, hs, fun j cs hj => ?_⟩⟩, fun j x hj => ?_⟩
    · have hjl := (List.getElem?_eq_some_iff.1 hj).1
      obtain ⟨cs', h2, h3, h4, h5⟩ := hck j (xs[j]'(by omega)) (List.getElem?_eq_getElem _)
      rw [hj] at h2; injection h2 with h2; subst h2
      exact ⟨cs, h3, h4, rfl, h3, h1 _ _ _ _ h5⟩
    · obtain ⟨cs', h2, h3, h4, h5⟩ := hck j x hj
      exact ⟨cs', h2, h5⟩
theorem Own.map {α β : Type} {K : Lay α} {K' : Lay β} {t : TypeId} {w : World} {S : Nat → Prop} {v : Value} {n : Nat} {xs : List α} {ys : List β} (h : Own K t w S v n xs) (hs : K'.sz = K.sz) (hl : ys.length = n)
    (hm : ∀ (w : World) (S : Nat → Prop) (cs : List Value) (j : Nat) (x : α) (y : β), xs[j]? = some x → ys[j]? = some y → K.own w S cs x → K'.own w S cs y) : Own K' t w S v n ys := by
  have hxl := h.1
  refine ⟨hl, ?_⟩
  rcases h.2 with h2 | ⟨g, cap, cur, F, hv, hg, hr, h1, h2, h3, hF, hD, hc⟩
  · exact .inl h2
  · refine .inr ⟨g, cap, cur, F, hv, hg, hr, h1, h2, by rw [hs]; exact h3, hF, hD, fun j y hj => ?_⟩
    have hjl := (List.getElem?_eq_some_iff.1 hj).1
    have hx : xs[j]? = some (xs[j]'(by omega)) := List.getElem?_eq_getElem _
    obtain ⟨cs, hcl, hcs, ho⟩ := hc j _ hx
    exact ⟨cs, by rw [hs]; exact hcl, by rw [hs]; exact hcs, hm _ _ _ _ _ _ hx hj ho⟩

theorem nil_none {α : Type} {K : Lay α} {w : World} {S : Nat → Prop} {n : Nat} {xs : List α} (h : Lst K w S none n xs) : n = 0 ∧ xs = [] := by
  have hn : n = 0 := by
    rcases Nat.eq_zero_or_pos n with h0 | h0
    · exact h0
    · obtain ⟨_, _, he, _⟩ := h.2 h0; cases he
  exact ⟨hn, List.eq_nil_of_length_eq_zero (by rw [h.1, hn])⟩

theorem cloneB_calls {a : Option Addr} {n c : Nat} {us : List Bool} {S : Nat → Prop} {w : World} (hu : Lst KBool w S a n us) (hn : n ≤ 17592186044416) :
    Calls Try.prog 103 #[.slice a n c] w fun e w' => ∃ v, e = .returned v ∧ Own KBool 4 w' (fun k => w.heap.size ≤ k) v n us ∧ Below w.heap.size w w' := by
  obtain ⟨ib, hib, hb0, hb1, hb2⟩ := info_parts infoBool
  have qT : ∀ (w : World) (a : Option Addr) (n c n' c' : Nat), (binOp .eql 43 (.slice a n c) (.slice none n' c')).run Try.prog w = .ok (.bool a.isNone) w := fun w a n c n' c' => Lib.run_eql_slice_nil w _ _ a n c n' c' Try.underlying43
  rcases a with _ | ad
  · obtain ⟨rfl, rfl⟩ := nil_none hu
    go_enter Try.func103, Try.ntmps103
    go_wp2_with fail
    go_ret
    exact ⟨_, rfl, Own.nil, Below.refl _ _⟩
  · have hE : Own KBool 4 (w.alloc (.cells #[] 4)) (fun q => q = w.heap.size) (.slice (some ⟨w.heap.size, 0, none⟩) 0 0) 0 [] := Own.empty (heap_alloc_new w (.cells #[] 4)) rfl
    go_enter Try.func103, Try.ntmps103
    go_wp2_with (
      at_builtin
      refine wpList_append_flat (K := KBool) rfl (.tmp 5) (.tmp 6) 43 rfl 4 ib (.bool false) 1 Try.underlying43 hib hb0 hb1 hb2 rfl (by decide) flat_bool one_bool (v := .slice (some ⟨w.heap.size, 0, none⟩) 0 0) (n := 0) (ao := some ad) (m := n) (c := c) rfl hE rfl (hu.alloc _) (by unfold maxLen; omega) (by omega) ?_
      intro v1 w1 ho1 ht1
      simp only [Nat.zero_add, List.nil_append] at ho1
      have H1 := Lib.hid (And.intro ho1 ht1)
      clear ho1 ht1)
    go_ret
    refine ⟨v1, rfl, H1.out.1.mono (fun k hk _ => by rcases hk with h | h <;> (try simp at h) <;> omega), H1.out.2.below ((Below.refl _ _).alloc (Nat.le_refl _) _) (by simp) (fun k hk => by omega)⟩

/-- What a copy of pages leaves that shares what they lead to. -/
def Shallow (w : World) (S : Nat → Prop) (n : Nat) (ps : List Pg) (e : Ending) (w' : World) : Prop :=
  ∃ v cks, e = .returned v ∧ Own (KRaw 4) 45 w' (fun k => w.heap.size ≤ k) v n cks ∧ (∀ (j : Nat) (p : Pg), ps[j]? = some p → ∃ cs, cks[j]? = some cs ∧ KPage.rd w S cs p) ∧ Below w.heap.size w w'
set_option maxRecDepth 100000 in
theorem cloneP_calls {a : Option Addr} {n c : Nat} {ps : List Pg} {S : Nat → Prop} {w : World} (hT : Lst KPage w S a n ps) (hn : n ≤ 1048576) :
    Calls Try.prog 102 #[.slice a n c] w (Shallow w S n ps) := by
  obtain ⟨ip, hip, hp0, hp1, hp2⟩ := info_parts infoPage
  have qT : ∀ (w : World) (a : Option Addr) (n c n' c' : Nat), (binOp .eql 24 (.slice a n c) (.slice none n' c')).run Try.prog w = .ok (.bool a.isNone) w := fun w a n c n' c' => Lib.run_eql_slice_nil w _ _ a n c n' c' Try.underlying24
  obtain ⟨cks, hR, hrd⟩ := hT.raw one_page
  have HR := Lib.hid hrd
  clear hrd
  rcases a with _ | ad
  · obtain ⟨rfl, rfl⟩ := nil_none hT
    go_enter Try.func102, Try.ntmps102
    go_wp2_with fail
    go_ret
    exact ⟨_, [], rfl, Own.nil, fun j p hj => by simp at hj, Below.refl _ _⟩
  · have hE : Own (KRaw 4) 45 (w.alloc (.cells #[] 45)) (fun q => q = w.heap.size) (.slice (some ⟨w.heap.size, 0, none⟩) 0 0) 0 [] := Own.empty (heap_alloc_new w (.cells #[] 45)) rfl
    have hR2 : Lst (KRaw 4) w S (some ad) n cks := hR
    clear hR
    go_enter Try.func102, Try.ntmps102
    go_wp2_with (
      at_builtin
      refine wpList_append_flat (K := KRaw 4) rfl (.tmp 5) (.tmp 6) 24 rfl 45 ip (.agg #[.int .i64 0, .int .i64 0, .slice none 0 0, .int .i64 0]) 48 Try.underlying24 hip hp0 hp1 hp2 rfl (by decide) (flat_raw 4) (one_raw 4) (v := .slice (some ⟨w.heap.size, 0, none⟩) 0 0) (n := 0) (ao := some ad) (m := n) (c := c) rfl hE rfl (hR2.alloc _) (by unfold maxLen; omega) (by omega) ?_
      intro v1 w1 ho1 ht1
      simp only [Nat.zero_add, List.nil_append] at ho1
      have H1 := Lib.hid (And.intro ho1 ht1)
      clear ho1 ht1)
    go_ret
    exact ⟨v1, cks, rfl, H1.out.1.mono (fun k hk _ => by rcases hk with h | h <;> (try simp at h) <;> omega), HR.out, H1.out.2.below ((Below.refl _ _).alloc (Nat.le_refl _) _) (by simp) (fun k hk => by omega)⟩

/-- Of the pages the first k are copied whole, of the others the cells alone. -/
def KMix : Lay (Pg ⊕ List Value) := KEither KPage (KRaw 4) rfl
def mixTo (ps : List Pg) (cks : List (List Value)) (k : Nat) : List (Pg ⊕ List Value) := (ps.take k).map .inl ++ (cks.drop k).map .inr
theorem length_mixTo {ps : List Pg} {cks : List (List Value)} {k : Nat} (h : cks.length = ps.length) (hk : k ≤ ps.length) : (mixTo ps cks k).length = ps.length := by simp [mixTo]; omega
theorem mixTo_at {ps : List Pg} {cks : List (List Value)} {k : Nat} {cs : List Value} (hk : k ≤ ps.length) (h : cks[k]? = some cs) : (mixTo ps cks k)[k]? = some (.inr cs) := by
  unfold mixTo
  rw [List.getElem?_append_right (by simp; omega)]
  simp only [List.length_map, List.length_take, Nat.min_eq_left hk, Nat.sub_self, List.getElem?_map, List.getElem?_drop, Nat.add_zero, h]; rfl
theorem mixTo_step {ps : List Pg} {cks : List (List Value)} {k : Nat} {p : Pg} (h : ps[k]? = some p) (hc : k < cks.length) : (mixTo ps cks k).set k (.inl p) = mixTo ps cks (k + 1) := by
  obtain ⟨hk, rfl⟩ := List.getElem?_eq_some_iff.1 h
  unfold mixTo
  have hl : ((ps.take k).map (Sum.inl (β := List Value))).length = k := by simp; omega
  rw [List.set_append_right _ _ (by omega), hl, Nat.sub_self, List.drop_eq_getElem_cons hc, List.map_cons, List.set_cons_zero, List.take_succ_eq_append_getElem hk, List.map_append, List.append_assoc]
  rfl

set_option maxRecDepth 100000 in
set_option maxHeartbeats 2000000 in
theorem copyPages_calls {a : Option Addr} {n c : Nat} {ps : List Pg} {S : Nat → Prop} {w : World} (hT : Lst KPage w S a n ps) (hS : ShortP 17592186044416 ps) (hn : n ≤ 1048576) :
    Calls Try.prog 95 #[.slice a n c] w fun e w' => ∃ v, e = .returned v ∧ Own KPage 45 w' (fun k => w.heap.size ≤ k) v n ps ∧ Below w.heap.size w w' := by
  have HL := Lib.hid hT.1
  have HS := Lib.hid hS
  go_enter Try.func95, Try.ntmps95
  go_wp2_with fail
  refine (cloneP_calls hT hn).mono ?_
  rintro e w1 ⟨v, cks, rfl, hown, hrd, hb1⟩
  have HR := Lib.hid hrd
  have HC := Lib.hid hown.1
  have hM : Own KMix 45 w1 (fun k => w.heap.size ≤ k) v n (mixTo ps cks 0) :=
    hown.map rfl (by rw [length_mixTo (by rw [hown.1, HL.out]) (Nat.zero_le _), HL.out]) (fun w S cs j x y hx hy ho => by
      simp only [mixTo, List.take_zero, List.map_nil, List.nil_append, List.drop_zero, List.getElem?_map, hx, Option.map_some, Option.some.injEq] at hy
      subst hy; exact ho)
  obtain ⟨vo, vc, rfl, _, _, _⟩ := hown.shape
  clear hown hrd
  go_wp2_with fail
  go_loopw [4, 9] (fun _ i wr => ∃ k : Nat, k ≤ n ∧ i = .int .i64 k ∧ Own KMix 45 wr (fun k => w.heap.size ≤ k) (.slice vo n vc) n (mixTo ps cks k) ∧ Below w.heap.size w wr) (fun _ i _ => n - (intOf i).toNat)
  case atStart => exact ⟨0, Nat.zero_le _, rfl, hM, hb1⟩
  case round =>
    clear hM hb1
    obtain ⟨k, hk, rfl, hO, hbw⟩ := hrel
    by_cases hlt : k < n
    · obtain ⟨p, hp⟩ : ∃ p, ps[k]? = some p := ⟨_, List.getElem?_eq_getElem (by rw [HL.out]; exact hlt)⟩
      obtain ⟨cs, hcs, hrd⟩ := HR.out k p hp
      obtain ⟨a0, l, c0, rfl, hlc, hcm, hu⟩ := KPage_rd hrd
      obtain ⟨g, cap, cs', F, x, he, hgS, hx, hcl, hu0, ho0, hF, hst⟩ := hO.here.focus hlt
      cases he
      rw [mixTo_at (by rw [HL.out]; exact hk) hcs] at hx
      injection hx with hx; subst hx
      obtain rfl : cs' = [.int .i64 p.kind, .int .i64 p.cls, .slice a0 l c0, .int .i64 p.run] := ho0.1
      rw [show KMix.sz = 4 from rfl] at hu0 hst hcl
      obtain ⟨c0', c1, c2, c3, hcs', g0, q0, q1, q2, q3, f0, f1, f2, f3⟩ := hu0.cells4 hcl
      injection hcs' with e0 hcs'; injection hcs' with e1 hcs'; injection hcs' with e2 hcs'; injection hcs' with e3
      subst e0 e1 e2 e3
      have hl : l ≤ 17592186044416 := by have := HS.out.at_ hp; have := hu.1; omega
      have hu2 := hu.below hbw
      have HP := Lib.hid hp
      have HST := Lib.hid hst
      have HU := Lib.hid hu0
      clear hp hcs hrd hu hcm hst hu0 hF
      go_wp2_with fail
      refine (cloneB_calls hu2 hl).mono ?_
      rintro e w2 ⟨v2, rfl, hown2, hb2⟩
      obtain ⟨vo2, vc2, rfl, _, _, _⟩ := hown2.shape
      have r2 := (hb2.cell (p := ⟨g, k * 4 + 2, none⟩) g0).trans q2
      have d2 := (hb2.frozen (p := ⟨g, k * 4 + 2, none⟩) g0).trans f2
      have U1 := (HU.out.turn (T := fun _ => False) (Turn.of_below hb2) (fun h => h)).set (i := 2) (u := .slice vo2 l vc2) (by simp)
      have T1 : Turn (fun k => k = g) wr (w2.setCell ⟨g, k * 4 + 2, none⟩ (.slice vo2 l vc2)) := (Turn.of_below hb2).trans (Turn.set w2 ⟨g, k * 4 + 2, none⟩ (.slice vo2 l vc2)) (fun _ h _ => h)
      have ho2 := hown2.turn (Turn.set w2 ⟨g, k * 4 + 2, none⟩ (.slice vo2 l vc2)) (fun q hq _ e => by have e' : q = g := e; omega)
      have hO2 := HST.out _ (fun q => wr.heap.size ≤ q) _ (.inl p) rfl (T1.mono (fun q hq _ => .inr hq)) U1 (KPage_own_mk ho2) (fun q hq => .inr (by omega))
      rw [mixTo_step HP.out (by rw [HC.out]; exact hlt)] at hO2
      have H2 := Lib.hid (And.intro (hO2.mono (S' := fun q => w.heap.size ≤ q) (fun q hq _ => hq.elim (fun h => h.1) (fun h => Nat.le_trans hbw.size h))) (T1.below hbw hbw.size (fun q hq => by have := hgS.1; omega)))
      clear hO2 ho2 T1 U1 hown2 hb2 hO hbw hu2
      go_wp2_with fail
      go_roundw
      case rel => exact ⟨k + 1, by omega, by go_num, H2.out.1, H2.out.2⟩
      case measure => simp [intOf]; omega
    · have hkn : k = n := by omega
      have F : Hid (Own KPage 45 wr (fun q => w.heap.size ≤ q) (.slice vo n vc) n ps ∧ Below w.heap.size w wr) := by
        refine ⟨hO.map rfl HL.out (fun w S cs j x y hx hy ho => ?_), hbw⟩
        have hj := (List.getElem?_eq_some_iff.1 hy).1
        have hx2 : (mixTo ps cks k)[j]? = some (.inl y) := by
          unfold mixTo
          rw [List.getElem?_append_left (by simp; rw [hkn]; have := HL.out; omega), List.getElem?_map, List.getElem?_take, if_pos (by have := HL.out; omega), hy]; rfl
        rw [hx2] at hx; injection hx with hx; subst hx
        exact ho
      clear hO hbw
      go_wp2_with fail
      go_ret
      exact ⟨_, rfl, F.out.1, F.out.2⟩
end Go.Proofs.Ytkikjoalhohlgaa
