/- Joined texts (Impl5i, View6, Right6, Plain6, Step6, Do6): steps of the proofs of chapter 5's laws. -/
import Derived.Deep.RegionHeld3
import Derived.Test.YthpamclljdcjpaaGreatDoorM8
import Derived.Test.YthpamclljdcjpaaGreatDoorM9
set_option linter.unusedVariables false
set_option linter.unusedSimpArgs false
/- Chapter 5 of the program: a heap drained. -/
namespace Go.Proofs.YthpamclljdcjpaaGreatDoor
open Go.RowKit

/-- Three cells, and all that was there, are kept. -/
theorem keepH {W a b : World} {p q r : Addr} {x y z : Value} (h : a.cell? p = some x ∧ a.cell? q = some y ∧ a.cell? r = some z ∧ Below W.heap.size W a) (hb : Below a.heap.size a b) :
    b.cell? p = some x ∧ b.cell? q = some y ∧ b.cell? r = some z ∧ Below W.heap.size W b := by
  obtain ⟨h1, h2, h3, h4⟩ := h
  exact ⟨(hb.cell (World.block_lt_of_cell? _ _ h1)).trans h1, (hb.cell (World.block_lt_of_cell? _ _ h2)).trans h2, (hb.cell (World.block_lt_of_cell? _ _ h3)).trans h3, h4.trans (hb.mono h4.size)⟩

/-- Of these magazines the first k are empty. -/
def mixM (ms : List (List Int)) (k : Nat) : List (Option (List Int)) := List.replicate k none ++ (ms.drop k).map some
theorem mixM_at {ms : List (List Int)} {k : Nat} {m : List Int} (h : ms[k]? = some m) : (mixM ms k)[k]? = some (some m) := by
  unfold mixM
  rw [List.getElem?_append_right (by simp), List.length_replicate, Nat.sub_self, List.getElem?_map, List.getElem?_drop, Nat.add_zero, h]; rfl
theorem mixM_step {ms : List (List Int)} {k : Nat} {m : List Int} (h : ms[k]? = some m) : (mixM ms k).set k none = mixM ms (k + 1) := by
  unfold mixM
  rw [List.set_append_right _ _ (by simp), List.length_replicate, Nat.sub_self, drop_at h, List.map_cons, List.set_cons_zero, List.replicate_succ', List.append_assoc]; rfl
theorem mixM_full {ms : List (List Int)} {n : Nat} (h : ms.length = n) : mixM ms n = List.replicate n none := by
  unfold mixM
  rw [List.drop_of_length_le (by omega)]; simp

/-- What is owned while a heap is drained: pages, magazines. -/
structure DrSt (V w : World) (vp : Value) (pn : Nat) (ps : List Pg) (vm : Value) (mn : Nat) (os : List (Option (List Int))) : Prop where
  ex : ∃ Sp Sm : Nat → Prop, Own KPage 137 w Sp vp pn ps ∧ Own KPMO 124 w Sm vm mn os ∧ (∀ q, Sp q → V.heap.size ≤ q) ∧ (∀ q, Sm q → V.heap.size ≤ q) ∧ (∀ q, Sp q → ¬ Sm q) ∧ Below V.heap.size V w
theorem DrSt.take {V w : World} {vp vm : Value} {pn mn k : Nat} {ps : List Pg} {ms : List (List Int)} {m : List Int} (h : DrSt V w vp pn ps vm mn (mixM ms k)) (hk : k < mn) (hm : ms[k]? = some m) :
    ∃ g cap b a l c, vm = .slice (some ⟨g, 0, none⟩) mn cap ∧ g < w.heap.size ∧ w.cell? ⟨g, k, none⟩ = some (.pointer (some ⟨b, 0, none⟩)) ∧ Row w b 196 #[.slice a l c] ∧ l ≤ c ∧ c ≤ maxLen ∧
      ∀ w', Row w' b 196 #[.slice none 0 0] → Turn (fun q => q = b) w w' → DrSt V w' vp pn ps vm mn (mixM ms (k + 1)) ∧ Lst KInt w' (fun _ => True) a l m := by
  obtain ⟨Sp, Sm, h1, h2, d1, d2, d3, hb⟩ := h.ex
  obtain ⟨g, cap, cs, F, x, rfl, hgS, hx, hcl, hu0, ho0, hF, hst⟩ := h2.here.focus hk
  rw [mixM_at hm] at hx
  injection hx with hx; subst hx
  obtain ⟨b, row, S', rfl, hFb, hrow, hown, hS'⟩ := ho0
  obtain ⟨row⟩ := row
  obtain ⟨v, n, hv, ho⟩ := hown
  have hv' : row = [v] := hv
  subst hv'
  obtain ⟨a, c, rfl, hlc, hcm, hL⟩ := ho.shape
  obtain ⟨c1, c2, _⟩ := hu0.cell
  have c3 := c2 0 (by simp)
  rw [show KPMO.sz = 1 from rfl, Nat.mul_one] at c3 hu0 hst
  refine ⟨g, cap, b, a, n, c, rfl, c1, by simpa using c3, hrow, hlc, hcm, fun w' hr' ht => ⟨?_, (hL.turn ht (fun q hq _ e => (hS' q hq).2 e)).mono (fun _ _ _ => trivial)⟩⟩
  have hbg : ¬ b = g := fun e => (hF b hFb).2.1 e
  have hnew := hst w' F [.pointer (some ⟨b, 0, none⟩)] none rfl (ht.mono (fun q hq _ => .inl (by rw [show q = b from hq]; exact hFb))) (hu0.turn ht (fun e => hbg e.symm)) ⟨b, _, fun _ => False, rfl, hFb, hr', rfl, fun _ h => h.elim⟩ (fun q hq => .inl hq)
  rw [mixM_step hm] at hnew
  have hbS := (hF b hFb).1.1
  refine ⟨Sp, Sm, h1.turn ht (fun q hq _ e => d3 q hq (by rw [show q = b from e]; exact hbS)), hnew.mono (fun q hq _ => hq.elim (fun h => h.1) (fun h => (hF q h).1.1)), d1, d2, d3, ht.below hb hb.size (fun q hq => by rw [show q = b from hq]; exact d2 b hbS)⟩
theorem KPM_some {w : World} {S : Nat → Prop} {cs : List Value} {m : List Int} (h : KPM.own w S cs m) : KPMO.own w S cs (some m) := h
/-- One step: the next place that is kept is dropped. -/
theorem drain_step {h : Hp} (hf : heapFault h = 0) {k j : Nat} {m : List Int} {a : Int} (hm : h.mags[k]? = some m) (ha : m[j]? = some a) :
    pagesFault (dropAll h.pages ((h.mags.take k).flatten ++ m.take j)) = 0 ∧ dropBlock (dropAll h.pages ((h.mags.take k).flatten ++ m.take j)) a = (0, dropAll h.pages ((h.mags.take k).flatten ++ m.take (j + 1)), a) := by
  have hv := (heapFault_ok hf).1
  have hk := kept_ok hf
  have e1 : h.kept = ((h.mags.take k).flatten ++ m.take j) ++ (a :: (m.drop (j + 1) ++ (h.mags.drop (k + 1)).flatten)) := by
    have h1 : h.mags.flatten = (h.mags.take k).flatten ++ (h.mags.drop k).flatten := by rw [← List.flatten_append, List.take_append_drop]
    have h2 : m = m.take j ++ m.drop j := (List.take_append_drop j m).symm
    unfold Hp.kept
    rw [h1, drop_at hm, List.flatten_cons, List.append_assoc]
    congr 1
    rw [← List.cons_append, ← drop_at ha, ← List.append_assoc, ← h2]
  rw [e1] at hk
  obtain ⟨h1, h2⟩ := keptAfter _ _ _ hv hk
  obtain ⟨h3, h4, _⟩ := h2.step h1
  refine ⟨h1, ?_⟩
  rw [h4, List.take_add_one, ha, Option.toList_some, ← List.append_assoc, dropAll_snoc]

theorem run_field_PR1 (u : World) (x v y : Value) : (Instr.field 55 (.agg #[x, v, y]) 1).run Tryz.prog u = .ok v u := by
  simp [Instr.field, run_underlying Tryz.underlying55, part, isAgg, run_underlying Tryz.underlying24, asAgg]

set_option maxRecDepth 100000 in
set_option maxHeartbeats 4000000 in
theorem drained_calls {pa wa ma : Option Addr} {pn pc wn wk mn mc : Nat} {h : Hp} {S : Nat → Prop} {w : World} (hk : HpK w S pa pn pc wa wn wk ma mn mc h) (hf : heapFault h = 0) :
    Calls Tryz.prog 160 #[.agg #[.slice pa pn pc, .slice wa wn wk, .slice ma mn mc]] w (MakesHeap w (drainHp h)) := by
  have HK := Lib.hid hk
  have HF := Lib.hid hf
  have HP := Lib.hid hk.r.pg.1
  have HM := Lib.hid hk.r.mg.1
  obtain ⟨n1, n2, n3, n4, n5⟩ := hk.small
  have hmn : mn ≤ 8 := by have := (mags_small hf).1; have := HM.out; omega
  clear hk hf
  go_enter Tryz.func160, Tryz.ntmps160
  go_upto_region 1 with (fail)
  obtain ⟨V, hV⟩ : ∃ V, V = (w.alloc (.cells #[.slice pa pn pc, .slice wa wn wk, .slice ma mn mc] 28)).alloc (.cells #[.slice none 0 0, .slice none 0 0, .slice none 0 0] 28) := ⟨_, rfl⟩
  rw [← hV]
  have hB0 : Below w.heap.size w V := by rw [hV]; exact ((Below.refl _ _).alloc (Nat.le_refl _) _).alloc (by simp) _
  have R0 : Row V w.heap.size 28 #[.slice pa pn pc, .slice wa wn wk, .slice ma mn mc] := by
    rw [hV]; exact Row.below (heap_alloc_new w _) ((Below.refl _ _).alloc (Nat.le_refl _) _)
  have R1 : Row V (w.heap.size + 1) 28 #[.slice none 0 0, .slice none 0 0, .slice none 0 0] := by
    rw [hV]
    have := heap_alloc_new (w.alloc (.cells #[.slice pa pn pc, .slice wa wn wk, .slice ma mn mc] 28)) (.cells #[.slice none 0 0, .slice none 0 0, .slice none 0 0] 28)
    simpa [Row] using this
  have HVs := Lib.hid (show V.heap.size = w.heap.size + 2 by rw [hV]; simp)
  have HB0 := Lib.hid hB0
  have HR0 := Lib.hid R0
  have HR1 := Lib.hid R1
  have q0 := R0.cell 0
  have q1 := R0.cell 1
  have q2 := R0.cell 2
  have kB := Below.refl V.heap.size V
  simp at q0 q1 q2
  clear hV hB0 R0 R1
  go_region_held3 (fun w' => w'.cell? ⟨w.heap.size, 0, none⟩ = some (.slice pa pn pc) ∧ w'.cell? ⟨w.heap.size, 1, none⟩ = some (.slice wa wn wk) ∧ w'.cell? ⟨w.heap.size, 2, none⟩ = some (.slice ma mn mc) ∧ Below V.heap.size V w') (first | with_reducible assumption | with_reducible exact ⟨q0, q1, q2, kB.drew⟩ | exact ⟨q0, q1, q2, kB.drew⟩)
  (first
    | (go_at_call 130; obtain ⟨y0, y1, y2, kb⟩ := ‹_ ∧ _ ∧ _ ∧ Below _ _ _›; refine (copyPages_calls ((HK.out.r.pg.below HB0.out).below kb) HK.out.short n1).mono ?_; rintro e wP ⟨vP, rfl, oP, bP⟩; have hS' := keepH ⟨y0, y1, y2, kb⟩ bP)
    | (go_at_call 78; obtain ⟨y0, y1, y2, kb⟩ := ‹_ ∧ _ ∧ _ ∧ Below _ _ _›; refine (magazinesOf_calls ((HK.out.r.mg.below HB0.out).below kb) HK.out.s.k n3).mono ?_; rintro e wM ⟨vM, rfl, oM, bM⟩; have hS'' := keepH ⟨y0, y1, y2, kb⟩ bM))
  obtain ⟨_, _, _, kbM⟩ := hS''
  obtain ⟨_, _, _, kbP⟩ := hS'
  have HD0 : Hid (DrSt V wM vP pn (dropAll h.pages ((h.mags.take 0).flatten ++ [])) vM mn (mixM h.mags 0)) := by
    refine ⟨fun q => V.heap.size ≤ q ∧ q < wP.heap.size, fun q => wP.heap.size ≤ q, (oP.here.mono (fun q hq hl => ⟨hq.1, hl⟩)).below bM, oM.map rfl (by simp [mixM]; exact HM.out) (fun w S cs j x y hx hy ho => ?_), fun q hq => hq.1, fun q hq => Nat.le_trans kbP.size hq, fun q hq hq2 => by omega, kbM⟩
    simp only [mixM, List.replicate_zero, List.nil_append, List.drop_zero, List.getElem?_map, hx, Option.map_some, Option.some.injEq] at hy
    subst hy
    exact KPM_some ho
  obtain ⟨po, pk, rfl, _, _, _⟩ := oP.shape
  obtain ⟨mo, mk, rfl, hmk1, hmk2, _⟩ := oM.shape
  clear oP oM bP bM kbM kbP q0 q1 q2 kB
  go_wp2_with fail
  go_loopw [3, 6, 8, 16] (fun vp _ _ i wr => ∃ k : Nat, k ≤ mn ∧ i = .int .i64 k ∧ DrSt V wr vp pn (dropAll h.pages ((h.mags.take k).flatten ++ [])) (.slice mo mn mk) mn (mixM h.mags k)) (fun _ _ _ i _ => mn - (intOf i).toNat)
  case atStart => exact ⟨0, Nat.zero_le _, rfl, HD0.out⟩
  case round =>
    clear HD0
    obtain ⟨k, hk, rfl, HD⟩ := hrel
    obtain ⟨Sp0, Sm0, hp0, _⟩ := HD.ex
    obtain ⟨vo0, vk0, rfl, _, _, _⟩ := hp0.shape
    clear hp0
    by_cases hlt : k < mn
    · obtain ⟨m, hm⟩ : ∃ m, h.mags[k]? = some m := ⟨_, List.getElem?_eq_getElem (by have := HM.out; omega)⟩
      obtain ⟨g, cap, b, a, l, c, hv, hg, hcell, hrow, hlc, hcm, hup⟩ := HD.take hlt hm
      obtain ⟨rfl, rfl⟩ : mo = some ⟨g, 0, none⟩ ∧ mk = cap := by injection hv with h1 _ h3; exact ⟨h1, h3⟩
      have HMm := Lib.hid hm
      have HU := Lib.hid hup
      clear hv hup hm HD
      go_wp2_with fail
      refine (takeAll_calls hrow).mono ?_
      rintro e w2 ⟨rfl, hr2, ht2⟩
      obtain ⟨HD2, hL2⟩ := HU.out w2 hr2 ht2
      obtain ⟨Sp, Sm, h1, h2, d1, d2, d3, hb⟩ := HD2.ex
      have H1 := Lib.hid h1.here
      have H2 := Lib.hid h2.here
      have HDs := Lib.hid (And.intro d1 (And.intro d2 (And.intro d3 hb)))
      have HLm := Lib.hid hL2.1
      have hl20 : l ≤ 1048576 := by have := HK.out.s.k.at_ HMm.out; have := HLm.out; omega
      clear HU hr2 ht2 HD2 h1 h2 d1 d2 d3 hb hrow hcell
      have hO0 : Own KPage 137 w2 (fun q => (Sp q ∧ q < w2.heap.size) ∨ w2.heap.size ≤ q) (.slice vo0 pn vk0) pn (dropAll h.pages ((h.mags.take k).flatten ++ m.take 0)) := H1.out.mono (fun q hq _ => .inl hq)
      go_wp2_with fail
      go_loopw [3, 8, 23] (fun vp _ i wr => ∃ j : Nat, j ≤ l ∧ i = .int .i64 j ∧ Own KPage 137 wr (fun q => (Sp q ∧ q < w2.heap.size) ∨ w2.heap.size ≤ q) vp pn (dropAll h.pages ((h.mags.take k).flatten ++ m.take j)) ∧ Below w2.heap.size w2 wr) (fun _ _ i _ => l - (intOf i).toNat)
      case atStart => exact ⟨0, Nat.zero_le _, rfl, hO0, Below.refl _ _⟩
      case round =>
        clear hO0
        obtain ⟨j, hj, rfl, hO, hbw⟩ := hrel
        obtain ⟨vo, vk, rfl, hvk1, hvk2, hLp⟩ := hO.shape
        by_cases hjl : j < l
        · obtain ⟨b0, o0, rfl, d0, e0⟩ := (hL2.ints.below hbw).at_ hjl
          obtain ⟨x, hx⟩ : ∃ x, m[j]? = some x := ⟨_, List.getElem?_eq_getElem (by have := HLm.out; omega)⟩
          have hgx : m.getD j 0 = x := by rw [List.getD_eq_getElem?_getD, hx]; rfl
          rw [hgx] at e0
          obtain ⟨s1, s2⟩ := drain_step HF.out HMm.out hx
          have HS2 := Lib.hid s2
          have hsh : Hid (ShortP 17592186044416 (dropAll h.pages ((h.mags.take k).flatten ++ m.take j))) := fun p hp => Nat.le_trans (pagesFault_short s1 p hp) (by decide)
          have hlen3 := Lib.hid (length_dropAll ((h.mags.take k).flatten ++ m.take (j + 1)) h.pages)
          have hvk3 : vk ≤ 9223372036854775807 := Nat.le_trans hvk2 (by decide)
          have hf1 := run_field_PR1
          clear hx hgx s1 s2 hO
          go_wp2_with fail
          refine (dropBlock_calls hLp hsh.out hvk1 hvk3 (by omega)).mono ?_
          rw [HS2.out]
          rintro e w3 ⟨v3, n3, rfl, ho3, hb3⟩
          have hn3 : pn = n3 := (ho3.1.symm.trans (hlen3.out.trans HP.out)).symm
          subst hn3
          have hbs := hbw.size
          have H3 := Lib.hid (And.intro (ho3.mono (S' := fun q => (Sp q ∧ q < w2.heap.size) ∨ w2.heap.size ≤ q) (fun q hq _ => .inr (Nat.le_trans hbw.size hq))) (hbw.trans (hb3.mono hbw.size)))
          clear ho3 hb3 hLp hbw
          go_wp2_with fail
          go_roundw
          case rel => exact ⟨j + 1, by omega, by go_num, H3.out.1, H3.out.2⟩
          case measure => simp [intOf]; omega
        · have HN : Hid (DrSt V wr (.slice vo pn vk) pn (dropAll h.pages ((h.mags.take (k + 1)).flatten ++ [])) (.slice (some ⟨g, 0, none⟩) mn mk) mn (mixM h.mags (k + 1))) := by
            rw [show m.take j = m from List.take_of_length_le (by have := HLm.out; omega), ← flatten_snoc HMm.out, ← List.append_nil (h.mags.take (k + 1)).flatten] at hO
            refine ⟨_, fun q => Sm q ∧ q < w2.heap.size, hO, H2.out.below hbw, ?_, fun q hq => HDs.out.2.1 q hq.1, ?_, HDs.out.2.2.2.trans (hbw.mono HDs.out.2.2.2.size)⟩
            · rintro q (hq | hq)
              · exact HDs.out.1 q hq.1
              · exact Nat.le_trans HDs.out.2.2.2.size hq
            · rintro q (hq | hq) hq2
              · exact HDs.out.2.2.1 q hq.1 hq2.1
              · omega
          clear hO hLp hbw
          go_wp2_with fail
          go_roundw
          case rel => exact ⟨k + 1, by omega, by go_num, HN.out⟩
          case measure => simp [intOf]; omega
    · have hkn : k = mn := by omega
      have hdr : dropAll h.pages ((h.mags.take k).flatten ++ []) = dropAll h.pages h.kept := by
        rw [List.take_of_length_le (by have := HM.out; omega), List.append_nil]; rfl
      have hmx : mixM h.mags k = List.replicate mn none := by rw [hkn]; exact mixM_full HM.out
      rw [hdr, hmx] at HD
      obtain ⟨Sp, Sm, h1, h2, d1, d2, d3, hb⟩ := HD.ex
      obtain ⟨vo, vk, hvv, hvk1, hvk2, hLp⟩ := h1.shape
      cases hvv
      have H1 := Lib.hid h1.here
      have H2 := Lib.hid h2.lst.2.2.2
      have HDs := Lib.hid (And.intro d1 hb)
      have R5 := HR0.out.below hb
      have HR5 := Lib.hid (HR1.out.below hb)
      have q1 := R5.cell 1
      have ql := R5.lt
      simp at q1
      have HLen := Lib.hid (show h.words.length = (dropAll h.pages h.kept).length * 16 by rw [length_dropAll]; exact (heapFault_ok HF.out).2.1)
      have HL40 := Lib.hid (show (dropAll h.pages h.kept).length ≤ 40 by rw [length_dropAll]; exact (pagesFault_ok (heapFault_ok HF.out).1).1)
      clear HD h1 h2 d1 d2 d3 hdr hmx
      go_wp2_with fail
      refine (wordsFor_calls hLp ((HK.out.r.wd.below HB0.out).below hb) HLen.out HL40.out).mono ?_
      rintro e w6 ⟨v6, rfl, ho6, hb6⟩
      have H6 := Lib.hid ho6.here
      have HB6 := Lib.hid (HDs.out.2.trans (hb6.mono HDs.out.2.size))
      have HP6 := Lib.hid (H1.out.below hb6)
      have HM6 := Lib.hid (H2.out.below hb6)
      have HR6 := Lib.hid (HR5.out.below hb6)
      have hs6 := hb6.size
      obtain ⟨wo6, wk6, rfl, _, _, _⟩ := ho6.shape
      clear ho6 hb6 R5 q1 ql hLp hb
      go_wp2_with fail
      refine (listsOf_calls HM6.out n3).mono ?_
      rintro e w7 ⟨v7, rfl, ho7, hb7⟩
      have hres := HR6.out.below hb7
      have hB7 := HB6.out.trans (hb7.mono HB6.out.size)
      have HW7 := Lib.hid (H6.out.below hb7)
      have HP7 := Lib.hid (HP6.out.below hb7)
      have HM7 := Lib.hid ho7
      have hs7 := hb7.size
      obtain ⟨mo7, mk7, rfl, _, _, _⟩ := ho7.shape
      clear ho7 hb7
      go_wp2_with (refine wpList_store_row rfl 28 _ _ rfl (w.heap.size + 1) _ rfl rfl _ _ hres (by kernel_rfl) (by rfl) (by simp [Value.oneCell']) ?_)
      refine bodyPost_ret (results_cell_row rfl _ _ (w.heap.size + 1) _ _ _ _ rfl (setRow_heap _ _ _ _ _ _ hres) Tryz.underlying28 rfl (by kernel_rfl)) rfl ?_
      have hV2 := HVs.out
      have hBw : Below w.heap.size w w7 := HB0.out.trans (hB7.mono (by omega))
      refine ⟨_, pn, _, wn, _, mn, rfl, HpO.mk3 (A := fun q => Sp q ∧ q < wr.heap.size) (B := fun q => wr.heap.size ≤ q ∧ q < w6.heap.size) (C := fun q => w6.heap.size ≤ q) (HP7.out.turn (Turn.setRow _ _ _) ?_) (HW7.out.turn (Turn.setRow _ _ _) ?_) ?_ ?_ ?_ ?_ ?_ ?_ ?_, below_setRow hBw (by omega) _⟩
      · intro q hq _ e
        have := HDs.out.1 q hq.1
        have e' : q = w.heap.size + 1 := e
        omega
      · intro q hq _ e
        have := HDs.out.2.size
        have e' : q = w.heap.size + 1 := e
        omega
      · have := HM7.out.turn (Turn.setRow w7 (w.heap.size + 1) #[.slice vo0 pn vk0, .slice wo6 wn wk6, .slice mo7 mn mk7]) (fun q hq _ e => by
          have := HDs.out.2.size
          have e' : q = w.heap.size + 1 := e
          omega)
        simp only [drainHp]
        rw [HM.out]
        exact this
      · intro q hq
        have := HDs.out.1 q hq.1
        omega
      · intro q hq
        have := HDs.out.2.size
        omega
      · intro q hq
        have := HDs.out.2.size
        omega
      · intro q hq hq2; omega
      · intro q hq hq2; omega
      · intro q hq hq2; omega
end Go.Proofs.YthpamclljdcjpaaGreatDoor

/- Chapter 6, plain facts: pages seen place by place, when blocks are taken and dropped. -/
namespace Go.Proofs.YthpamclljdcjpaaGreatDoor
open Go.RowKit

/-- What is held at any place was held; a page behind it is not free. -/
theorem held_page {ps : List Pg} (hv : pagesFault ps = 0) {x : Int} {b : Blk} (h : heldAt ps x = (0, some b)) : 0 ≤ x ∧ x < ps.length * 16 ∧ ∀ p, ps[x.toNat / 16]? = some p → p.kind ≠ 0 := by
  obtain ⟨_, h0, h1, _⟩ := held_info hv h
  refine ⟨h0, h1, fun p hp hk => ?_⟩
  obtain ⟨x, rfl⟩ := Int.eq_ofNat_of_zero_le h0
  rw [Int.toNat_natCast] at hp
  rw [held_free hv (by omega) hp hk] at h
  simp at h
/-- A place in a block holds it. -/
theorem held_fill {ps : List Pg} (hv : pagesFault ps = 0) {a x : Int} {b : Blk} (h : heldAt ps a = (0, some b)) (h1 : b.start ≤ x) (h2 : x < b.start + b.size) : heldAt ps x = (0, some b) := by
  cases b with
  | slot i c s =>
    obtain ⟨_, ha0, ha, hi, hs, c0, c3, p, hp, p1, p2, pr, hu, hl⟩ := held_slot_info hv h
    have hsl : s < p.used.length := (List.getElem?_eq_some_iff.1 hu).1
    have hil : i < ps.length := (List.getElem?_eq_some_iff.1 hp).1
    simp only [Blk.start, Blk.size] at h1 h2
    have hsz := sizeW_small c
    have hx0 : 0 ≤ x := by
      have : 0 ≤ (s : Int) * sizeW c := Int.mul_nonneg (by omega) (by omega)
      omega
    obtain ⟨x, rfl⟩ := Int.eq_ofNat_of_zero_le hx0
    have hxi : x / 16 = i ∧ x % 16 / (sizeW c).toNat = s := by
      rcases (show c = 0 ∨ c = 1 ∨ c = 2 ∨ c = 3 by omega) with rfl | rfl | rfl | rfl <;> simp [sizeW] at h1 h2 hl ⊢ <;> omega
    rw [held_slot hv (a := x) (p := p) (by omega) (by rw [hxi.1]; exact hp) p1, p2, hxi.1, hxi.2, if_pos hu]
  | run i n =>
    obtain ⟨_, ha0, ha, hb⟩ := held_info hv h
    rcases hb with ⟨i', k, s, p, hb, _⟩ | ⟨i', p, hb, hp, p2, hi⟩
    · cases hb
    · cases hb
      simp only [Blk.start, Blk.size] at h1 h2
      have hx0 : 0 ≤ x := by omega
      obtain ⟨x, rfl⟩ := Int.eq_ofNat_of_zero_le hx0
      exact held_in_run hv hp p2 (by omega) (by rw [Int.add_mul]; exact h2)
/-- A page is free just where nothing is held at its places. -/
theorem page_free_iff {ps : List Pg} (hv : pagesFault ps = 0) {k : Nat} {p : Pg} (hp : ps[k]? = some p) : p.kind = 0 ↔ ∀ j : Nat, j < 16 → heldAt ps ((k * 16 + j : Nat) : Int) = (4, none) := by
  have hlt := (List.getElem?_eq_some_iff.1 hp).1
  have hat : ∀ j, j < 16 → ps[(k * 16 + j) / 16]? = some p := fun j hj => by rw [show (k * 16 + j) / 16 = k by omega]; exact hp
  constructor
  · intro h0 j hj
    exact held_free hv (by omega) (hat j hj) h0
  · intro h
    rcases pageFault_ok (ok_page hv hp) with ⟨k1, c0, c3, _, hl, hu⟩ | ⟨k2, _⟩ | ⟨k3, _⟩
    · exfalso
      obtain ⟨s, hs⟩ := anyB_iff.1 hu
      have hsl : s < p.used.length := (List.getElem?_eq_some_iff.1 hs).1
      obtain ⟨j, hj, hjs⟩ : ∃ j, j < 16 ∧ j / (sizeW p.cls).toNat = s := by
        refine ⟨s * (sizeW p.cls).toNat, ?_, ?_⟩ <;>
          rcases (show p.cls = 0 ∨ p.cls = 1 ∨ p.cls = 2 ∨ p.cls = 3 by omega) with e | e | e | e <;> rw [e] at hl ⊢ <;> simp [sizeW] at hl ⊢ <;> omega
      have := h j hj
      rw [held_slot hv (by omega) (hat j hj) k1, show (k * 16 + j) % 16 = j by omega, hjs, if_pos hs] at this
      simp at this
    · exfalso
      obtain ⟨q, _, _, hq⟩ := held_run hv (a := k * 16 + 0) (by omega) (hat 0 (by omega)) (.inl k2)
      have := h 0 (by omega)
      rw [hq] at this
      simp at this
    · rcases k3 with k0 | k3
      · exact k0
      · exfalso
        obtain ⟨q, _, _, hq⟩ := held_run hv (a := k * 16 + 0) (by omega) (hat 0 (by omega)) (.inr k3)
        have := h 0 (by omega)
        rw [hq] at this
        simp at this
theorem held_dropped_run {ps : List Pg} (hv : pagesFault ps = 0) {a : Int} {i : Nat} {n : Int} (h : heldAt ps a = (0, some (.run i n))) (hq : pagesFault (dropBlk ps (.run i n)) = 0) (x : Int) :
    heldAt (dropBlk ps (.run i n)) x = if heldAt ps x = (0, some (.run i n)) then (4, none) else heldAt ps x := by
  obtain ⟨_, ha0, ha, hb⟩ := held_info hv h
  rcases hb with ⟨i', k, s, p, hb, _⟩ | ⟨i', p, hb, hp, p2, hi⟩
  · cases hb
  cases hb
  have hr := ok_run hv hp p2
  have hf := run_fits hv hp p2
  have hlen : (dropBlk ps (.run i p.run)).length = ps.length := length_setMany _ _ _ _
  have hat : ∀ j, j < ps.length → (dropBlk ps (.run i p.run))[j]? = if i ≤ j ∧ j < i + p.run.toNat then some Pg.free else ps[j]? := fun j hj => setMany_at _ _ _ _ _ hj
  rcases held_range (ps := ps) hv (a := x) with ⟨hx0, hx1⟩ | hno
  · obtain ⟨x, rfl⟩ := Int.eq_ofNat_of_zero_le hx0
    have hk : x / 16 < ps.length := by omega
    have hx := List.getElem?_eq_getElem hk
    by_cases hin : i ≤ x / 16 ∧ x / 16 < i + p.run.toNat
    · rw [held_in_run hv hp p2 (a := x) (by omega) (by rw [Int.add_mul]; omega), if_pos rfl]
      exact held_free hq (by rw [hlen]; omega) (p := Pg.free) (by rw [hat _ hk, if_pos hin]) rfl
    · have hqx : (dropBlk ps (.run i p.run))[x / 16]? = some ps[x / 16] := by rw [hat _ hk, if_neg hin]; exact hx
      have hl2 : x < (dropBlk ps (.run i p.run)).length * 16 := by rw [hlen]; omega
      rcases pageFault_kind (ok_page hv hx) with k0 | k1 | k23
      · rw [held_free hq hl2 hqx k0, held_free hv (by omega) hx k0]; simp
      · rw [held_slot hq hl2 hqx k1, held_slot hv (by omega) hx k1]
        by_cases hu : (ps[x / 16]).used[x % 16 / (sizeW (ps[x / 16]).cls).toNat]? = some true
        · rw [if_pos hu]; simp
        · rw [if_neg hu]; simp
      · obtain ⟨q, hq1, hq2, hq3⟩ := held_run hv (a := x) (by omega) hx k23
        have hg : (x / 16 : Nat) - (headOf ps (x / 16) : Int) ≤ q.run - 1 := by
          rcases k23 with k2 | k3
          · have e := headOf_self hx (by omega)
            rw [e] at hq1
            rw [hx] at hq1; cases hq1
            have := ok_run hv hx k2
            rw [e]; omega
          · obtain ⟨g, q', _, hg, hg2, hg3, hg4⟩ := head_of_rest hv hx k3
            rw [hg4] at hq1 ⊢
            rw [hg] at hq1; cases hq1
            omega
        have hle := headOf_le ps (x / 16)
        have hgn : ¬ (i ≤ headOf ps (x / 16) ∧ headOf ps (x / 16) < i + p.run.toNat) := by
          rintro ⟨g1, g2⟩
          rcases Nat.eq_or_lt_of_le g1 with e | g1
          · rw [← e, hp] at hq1; cases hq1
            exact hin ⟨by omega, by omega⟩
          · obtain ⟨_, _, h3⟩ := run_whole hv hp p2 (p.run - 1).toNat (by omega)
            have := h3 _ _ g1 (by omega) hq1
            omega
        have hgq : (dropBlk ps (.run i p.run))[headOf ps (x / 16)]? = some q := by rw [hat _ (by omega), if_neg hgn]; exact hq1
        have hh := headOf_run hq hgq hq2 (x / 16 - headOf ps (x / 16)) (by omega)
        rw [show headOf ps (x / 16) + (x / 16 - headOf ps (x / 16)) = x / 16 by omega] at hh
        obtain ⟨q', hr1, hr2, hr3⟩ := held_run hq (a := x) hl2 hqx k23
        rw [hh] at hr1 hr3
        rw [hgq] at hr1; cases hr1
        rw [hr3, hq3, if_neg]
        intro e
        simp only [Prod.mk.injEq, Option.some.injEq, Blk.run.injEq, true_and] at e
        exact hgn ⟨by omega, by omega⟩
  · rw [hno]
    rcases held_range (ps := dropBlk ps (.run i p.run)) hq (a := x) with ⟨hx0, hx1⟩ | hno2
    · rw [hlen] at hx1
      have : within 0 ((ps.length : Int) * 16 - 1) [x] = true := within_yes1 hx0 (by omega)
      unfold heldAt at hno
      rw [if_pos hv, if_pos this] at hno
      cases hb : blockAt ps x.toNat with
      | none => rw [hb] at hno; simp at hno
      | some b => rw [hb] at hno; simp at hno
    · rw [hno2]; simp
/-- A block that is dropped is held nowhere, all else is. -/
theorem drop_view {ps : List Pg} (hv : pagesFault ps = 0) {a : Int} {b : Blk} (h : heldAt ps a = (0, some b)) (he : b.start = a) (x : Int) :
    heldAt (dropBlk ps b) x = if heldAt ps x = (0, some b) then (4, none) else heldAt ps x := by
  obtain ⟨hq, _⟩ := dropped hv h he
  cases b with
  | slot i c s => exact held_dropped hv h hq x
  | run i n => exact held_dropped_run hv h hq x
/-- Pages in which one block more is held. -/
structure Took (ps qs : List Pg) (b : Blk) : Prop where
  ok : pagesFault qs = 0
  len : qs.length = ps.length
  at_ : heldAt qs b.start = (0, some b)
  view : ∀ x, heldAt ps x = if heldAt qs x = (0, some b) then (4, none) else heldAt qs x
theorem Took.keep {ps qs : List Pg} {b : Blk} (h : Took ps qs b) {x : Int} {d : Blk} (hx : heldAt ps x = (0, some d)) : heldAt qs x = (0, some d) := by
  have := h.view x
  rw [hx] at this
  by_cases e : heldAt qs x = (0, some b)
  · rw [if_pos e] at this; simp at this
  · rw [if_neg e] at this; exact this.symm
theorem Took.was {ps qs : List Pg} {b : Blk} (h : Took ps qs b) {x : Int} {d : Blk} (hx : heldAt qs x = (0, some d)) (hd : d ≠ b) : heldAt ps x = (0, some d) := by
  rw [h.view x, if_neg (by rw [hx]; simpa using hd)]; exact hx
theorem Took.new {ps qs : List Pg} {b : Blk} (h : Took ps qs b) {x : Int} (hx : heldAt qs x = (0, some b)) : heldAt ps x = (4, none) := by
  rw [h.view x, if_pos hx]
theorem Took.free {ps qs : List Pg} {b : Blk} (hv : pagesFault ps = 0) (h : Took ps qs b) {k : Nat} {q : Pg} (hq : qs[k]? = some q) (h0 : q.kind = 0) : ∃ p, ps[k]? = some p ∧ p.kind = 0 := by
  have hk := (List.getElem?_eq_some_iff.1 hq).1
  have hx := List.getElem?_eq_getElem (l := ps) (i := k) (by rw [← h.len]; exact hk)
  refine ⟨_, hx, (page_free_iff hv hx).2 fun j hj => ?_⟩
  have h1 := (page_free_iff h.ok hq).1 h0 j hj
  rw [h.view, h1]; simp
theorem took_slot {ps : List Pg} (hv : pagesFault ps = 0) {c : Int} (h0 : 0 ≤ c) (h3 : c ≤ 3) {i s : Nat} (hf : slotFor ps c = some (i, s)) : Took ps (putSlot ps c i s) (.slot i c s) := by
  obtain ⟨a, h1, h2, h4, h5, h6, h7⟩ := slot_taken hv h0 h3 hf
  have hd := drop_view h4 h5 h6
  rw [h7] at hd
  refine ⟨h4, ?_, by rw [h6]; exact h5, hd⟩
  unfold putSlot; split <;> simp
theorem took_run {ps : List Pg} (hv : pagesFault ps = 0) {i n : Nat} (h1 : 1 ≤ n) (h4 : n ≤ 4) (hf : runFrom n 0 ps = some i) : Took ps (putRun ps i n) (.run i n) ∧ i + n ≤ ps.length := by
  obtain ⟨_, hfr⟩ := runFrom_in hf
  rw [Nat.sub_zero] at hfr
  have hl : i + n ≤ ps.length := by
    have key : ∀ (n : Nat) (qs : List Pg), freeN n qs = true → n ≤ qs.length := by
      intro n
      induction n with
      | zero => intro qs _; omega
      | succ n ih =>
        intro qs hq
        cases qs with
        | nil => simp [freeN] at hq
        | cons q r => rw [freeN] at hq; simp only [Bool.and_eq_true] at hq; have := ih r hq.2; simp; omega
    have := key n _ hfr
    rw [List.length_drop] at this; omega
  obtain ⟨t1, t2, t3, t4⟩ := run_taken hv h1 h4 hfr hl
  have h5 : heldAt (putRun ps i n) (Blk.start (.run i n)) = (0, some (.run i n)) := by
    have := t3 0 (by omega)
    simpa [Blk.start] using this
  have hd := drop_view t1 h5 rfl
  rw [t4] at hd
  exact ⟨⟨t1, length_putRun ps i n, h5, hd⟩, hl⟩
end Go.Proofs.YthpamclljdcjpaaGreatDoor

/- Chapter 6, plain facts: what a right heap is, place by place; it stays one when it is turned by parts. -/
namespace Go.Proofs.YthpamclljdcjpaaGreatDoor
open Go.RowKit

/-- A right heap, place by place. -/
structure Right (h : Hp) : Prop where
  pg : pagesFault h.pages = 0
  len : h.words.length = h.pages.length * 16
  cnt : magCount h.mags.length = true
  val : ∀ v ∈ h.words, -1000000000 ≤ v ∧ v ≤ 1000000000
  mag : ∀ (j : Nat) (m : List Int), h.mags[j]? = some m → m.length ≤ 2 ∧ ∀ a ∈ m, isSlotAt h.pages ((j % 4 : Nat) : Int) a = true
  nd : h.kept.Nodup
  zero : ∀ (k : Nat) (p : Pg), h.pages[k]? = some p → p.kind = 0 → ∀ j, j < 16 → h.words[k * 16 + j]? = some 0
theorem magFault_of {ps : List Pg} {c : Int} {m : List Int} (h1 : m.length ≤ 2) (h2 : ∀ a ∈ m, isSlotAt ps c a = true) : magFault ps c m = 0 := by
  unfold magFault
  rw [if_neg (by omega), if_pos (List.all_eq_true.2 h2)]
theorem magsFault_of {ps : List Pg} : ∀ {ms : List (List Int)} {k : Nat}, (∀ (j : Nat) (m : List Int), ms[j]? = some m → magFault ps (((k + j) % 4 : Nat) : Int) m = 0) → magsFault ps k ms = 0
  | [], _, _ => rfl
  | m :: r, k, h => by
    unfold magsFault
    rw [if_pos (by simpa using h 0 m rfl)]
    exact magsFault_of fun j m hj => by rw [show k + 1 + j = k + (j + 1) by omega]; exact h (j + 1) m (by simpa using hj)
theorem freeZero_iff {ws : List Int} : ∀ {ps : List Pg} {k : Nat}, freeZero ws k ps = true ↔ ∀ (j : Nat) (p : Pg), ps[j]? = some p → p.kind = 0 → frameOf ws (k + j) = List.replicate 16 0
  | [], k => by simp [freeZero]
  | p :: r, k => by
    unfold freeZero
    rw [Bool.and_eq_true, freeZero_iff (ps := r)]
    constructor
    · rintro ⟨h1, h2⟩ j q hq h0
      cases j with
      | zero =>
        simp at hq; subst hq
        simpa [h0] using h1
      | succ j => rw [show k + (j + 1) = k + 1 + j by omega]; exact h2 j q (by simpa using hq) h0
    · intro h
      refine ⟨?_, fun j q hq h0 => ?_⟩
      · by_cases h0 : p.kind = 0
        · have := h 0 p rfl h0
          simp [h0]
          simpa using this
        · simp [h0]
      · rw [show k + 1 + j = k + (j + 1) by omega]; exact h (j + 1) q (by simpa using hq) h0
theorem frame_zero_iff {ws : List Int} {k : Nat} (h : (k + 1) * 16 ≤ ws.length) : frameOf ws k = List.replicate 16 0 ↔ ∀ j, j < 16 → ws[k * 16 + j]? = some 0 := by
  unfold frameOf
  constructor
  · intro e j hj
    have : ((ws.drop (k * 16)).take 16)[j]? = some 0 := by rw [e, List.getElem?_replicate, if_pos hj]
    rw [List.getElem?_take, if_pos hj, List.getElem?_drop] at this
    exact this
  · intro e
    refine List.ext_getElem? fun j => ?_
    rw [List.getElem?_take, List.getElem?_replicate]
    by_cases hj : j < 16
    · rw [if_pos hj, if_pos hj, List.getElem?_drop]; exact e j hj
    · rw [if_neg hj, if_neg hj]
theorem right_of {h : Hp} (hf : heapFault h = 0) : Right h := by
  obtain ⟨h1, h2, h3, h4, h5, h6, h7⟩ := heapFault_ok hf
  refine ⟨h1, h2, h3, fun v hv => by simpa [within] using (List.all_eq_true.1 h4) v hv, fun j m hj => ?_, by simpa [alike] using h6, fun k p hp h0 => ?_⟩
  · have := magsFault_at _ h5 hj
    rw [Nat.zero_add] at this
    exact magFault_ok this
  · have := freeZero_iff.1 h7 k p hp h0
    rw [Nat.zero_add] at this
    have hk := (List.getElem?_eq_some_iff.1 hp).1
    exact (frame_zero_iff (by omega)).1 this
theorem Right.ok {h : Hp} (hr : Right h) : heapFault h = 0 := by
  refine heapFault_of hr.pg hr.len hr.cnt (List.all_eq_true.2 fun v hv => by simpa using hr.val v hv) (magsFault_of fun j m hj => ?_) (by simpa [alike] using hr.nd) (freeZero_iff.2 fun k p hp h0 => ?_)
  · rw [Nat.zero_add]; exact magFault_of (hr.mag j m hj).1 (hr.mag j m hj).2
  · have hk := (List.getElem?_eq_some_iff.1 hp).1
    have hl := hr.len
    rw [Nat.zero_add, frame_zero_iff (by omega)]
    exact hr.zero k p hp h0
theorem right_iff {h : Hp} : heapFault h = 0 ↔ Right h := ⟨right_of, Right.ok⟩
theorem Right.kept_slot {h : Hp} (hr : Right h) {a : Int} (ha : a ∈ h.kept) : ∃ (c : Int) (i s : Nat), heldAt h.pages a = (0, some (.slot i c s)) ∧ (Blk.slot i c s).start = a := by
  obtain ⟨m, hm, ham⟩ := List.mem_flatten.1 ha
  obtain ⟨j, hj, rfl⟩ := List.getElem_of_mem hm
  obtain ⟨i, s, h1, h2⟩ := (isSlotAt_iff hr.pg).1 ((hr.mag j _ (List.getElem?_eq_getElem hj)).2 a ham)
  exact ⟨_, i, s, h1, h2⟩

/-- Pages in which one block more is held. -/
theorem Right.took {h : Hp} (hr : Right h) {qs : List Pg} {b : Blk} (ht : Took h.pages qs b) : Right ⟨qs, h.words, h.mags⟩ where
  pg := ht.ok
  len := by show h.words.length = qs.length * 16; rw [ht.len]; exact hr.len
  cnt := hr.cnt
  val := hr.val
  mag j m hj := by
    obtain ⟨h1, h2⟩ := hr.mag j m hj
    refine ⟨h1, fun a ha => ?_⟩
    obtain ⟨i, s, h3, h4⟩ := (isSlotAt_iff hr.pg).1 (h2 a ha)
    exact (isSlotAt_iff ht.ok).2 ⟨i, s, ht.keep h3, h4⟩
  nd := hr.nd
  zero k p hp h0 := by
    obtain ⟨q, hq, hq0⟩ := ht.free hr.pg hp h0
    exact hr.zero k q hq hq0

def Hp.setMag (h : Hp) (j : Nat) (m : List Int) : Hp := ⟨h.pages, h.words, h.mags.set j m⟩
theorem kept_split {h : Hp} {j : Nat} {m : List Int} (hj : h.mags[j]? = some m) : ∃ A B : List Int, h.kept = A ++ (m ++ B) ∧ ∀ m', (h.setMag j m').kept = A ++ (m' ++ B) := by
  have hlt := (List.getElem?_eq_some_iff.1 hj).1
  have he : h.mags[j] = m := by rw [List.getElem?_eq_getElem hlt] at hj; exact Option.some.inj hj
  refine ⟨(h.mags.take j).flatten, (h.mags.drop (j + 1)).flatten, ?_, fun m' => ?_⟩
  · have : h.mags = h.mags.take j ++ m :: h.mags.drop (j + 1) := by
      conv => lhs; rw [← List.take_append_drop j h.mags]
      rw [← List.getElem_cons_drop hlt, he]
    unfold Hp.kept
    conv => lhs; rw [this]
    rw [List.flatten_append, List.flatten_cons]
  · show (h.mags.set j m').flatten = _
    rw [List.set_eq_take_append_cons_drop, if_pos hlt, List.flatten_append, List.flatten_cons]
theorem Right.pop {h : Hp} (hr : Right h) {j : Nat} {m : List Int} {a : Int} (hj : h.mags[j]? = some (m ++ [a])) : Right (h.setMag j m) ∧ ∀ x, x ∈ (h.setMag j m).kept ↔ x ∈ h.kept ∧ x ≠ a := by
  obtain ⟨A, B, e1, e2⟩ := kept_split hj
  have hnd := hr.nd
  rw [e1] at hnd
  have e2 := e2 m
  have hn : (A ++ (m ++ B)).Nodup := by
    refine List.Nodup.sublist ?_ hnd
    exact List.Sublist.append (List.Sublist.refl _) (List.Sublist.append (List.sublist_append_left _ _) (List.Sublist.refl _))
  have ha : a ∉ A ++ (m ++ B) := by
    intro hx
    have h1 : (A ++ (m ++ [a] ++ B)).count a ≤ 1 := List.nodup_iff_count.1 hnd a
    have h2 : 1 ≤ (A ++ (m ++ B)).count a := List.count_pos_iff.2 hx
    simp only [List.count_append, List.count_cons, List.count_nil] at h1 h2
    simp at h1
    omega
  refine ⟨⟨hr.pg, hr.len, by show magCount (h.mags.set j m).length = true; rw [List.length_set]; exact hr.cnt, hr.val, fun k q hk => ?_, by rw [e2]; exact hn, hr.zero⟩, fun x => ?_⟩
  · by_cases e : j = k
    · subst e
      have hlt := (List.getElem?_eq_some_iff.1 hj).1
      have hk : (h.mags.set j m)[j]? = some q := hk
      rw [List.getElem?_set_self hlt] at hk
      cases hk
      obtain ⟨h1, h2⟩ := hr.mag j _ hj
      refine ⟨by simp at h1; omega, fun x hx => h2 x (by simp [hx])⟩
    · have hk : (h.mags.set j m)[k]? = some q := hk
      rw [List.getElem?_set_ne e] at hk
      exact hr.mag k q hk
  · rw [e2, e1]
    constructor
    · intro hx
      refine ⟨?_, fun e => ha (e ▸ hx)⟩
      simp only [List.mem_append] at hx ⊢
      rcases hx with h | h | h
      · exact .inl h
      · exact .inr (.inl (.inl h))
      · exact .inr (.inr h)
    · rintro ⟨hx, hne⟩
      simp only [List.mem_append, List.mem_singleton] at hx ⊢
      rcases hx with h | (h | h) | h
      · exact .inl h
      · exact .inr (.inl h)
      · exact absurd h hne
      · exact .inr (.inr h)
theorem Right.push {h : Hp} (hr : Right h) {j : Nat} {m : List Int} {a : Int} (hj : h.mags[j]? = some m) (hm : m.length < 2) (hs : isSlotAt h.pages ((j % 4 : Nat) : Int) a = true) (hn : a ∉ h.kept) : Right (h.setMag j (m ++ [a])) ∧ ∀ x, x ∈ (h.setMag j (m ++ [a])).kept ↔ x ∈ h.kept ∨ x = a := by
  obtain ⟨A, B, e1, e2⟩ := kept_split hj
  have e2 := e2 (m ++ [a])
  have hnd := hr.nd
  rw [e1] at hnd hn
  have hn2 : (A ++ (m ++ [a] ++ B)).Nodup := by
    refine List.nodup_iff_count.2 fun x => ?_
    have h1 := List.nodup_iff_count.1 hnd x
    simp only [List.count_append, List.count_cons, List.count_nil] at h1 ⊢
    by_cases e : a = x
    · subst e
      have h0 := List.count_eq_zero.2 hn
      simp only [List.count_append] at h0
      simp; omega
    · have : (a == x) = false := by simpa using e
      simp [this]; omega
  refine ⟨⟨hr.pg, hr.len, by show magCount (h.mags.set j (m ++ [a])).length = true; rw [List.length_set]; exact hr.cnt, hr.val, fun k q hk => ?_, by rw [e2]; exact hn2, hr.zero⟩, fun x => ?_⟩
  · by_cases e : j = k
    · subst e
      have hlt := (List.getElem?_eq_some_iff.1 hj).1
      have hk : (h.mags.set j (m ++ [a]))[j]? = some q := hk
      rw [List.getElem?_set_self hlt] at hk
      cases hk
      obtain ⟨h1, h2⟩ := hr.mag j _ hj
      refine ⟨by simp; omega, fun x hx => ?_⟩
      rcases List.mem_append.1 hx with hx | hx
      · exact h2 x hx
      · rw [List.mem_singleton.1 hx]; exact hs
    · have hk : (h.mags.set j (m ++ [a]))[k]? = some q := hk
      rw [List.getElem?_set_ne e] at hk
      exact hr.mag k q hk
  · rw [e2, e1]
    simp only [List.mem_append, List.mem_singleton]
    constructor
    · rintro (h | (h | h) | h) <;> simp [h]
    · rintro ((h | h | h) | h) <;> simp [h]
/-- Other words, which are zero in free pages. -/
theorem Right.put {h : Hp} (hr : Right h) {ws : List Int} (hl : ws.length = h.words.length) (hv : ∀ v ∈ ws, -1000000000 ≤ v ∧ v ≤ 1000000000) (hz : ∀ (k : Nat) (p : Pg), h.pages[k]? = some p → p.kind = 0 → ∀ j, j < 16 → ws[k * 16 + j]? = some 0) : Right ⟨h.pages, ws, h.mags⟩ :=
  ⟨hr.pg, hl.trans hr.len, hr.cnt, hv, hr.mag, hr.nd, hz⟩
/-- Words that differ only where something is held. -/
theorem Right.put_held {h : Hp} (hr : Right h) {ws : List Int} (hl : ws.length = h.words.length) (hv : ∀ v ∈ ws, -1000000000 ≤ v ∧ v ≤ 1000000000) (hz : ∀ x : Nat, ws[x]? ≠ h.words[x]? → ∃ b, heldAt h.pages x = (0, some b)) : Right ⟨h.pages, ws, h.mags⟩ := by
  refine hr.put hl hv fun k p hp h0 j hj => ?_
  by_cases e : ws[k * 16 + j]? = h.words[k * 16 + j]?
  · rw [e]; exact hr.zero k p hp h0 j hj
  · obtain ⟨b, hb⟩ := hz _ e
    rw [(page_free_iff hr.pg hp).1 h0 j hj] at hb
    simp at hb

def freeAt (ps : List Pg) (k : Nat) : Bool := match ps[k]? with
  | some p => decide (p.kind = 0)
  | none => false
theorem freeAt_iff {ps : List Pg} {k : Nat} : freeAt ps k = true ↔ ∃ p, ps[k]? = some p ∧ p.kind = 0 := by
  unfold freeAt
  cases h : ps[k]? with
  | none => simp
  | some p => simp
theorem sweepW_at : ∀ (ps : List Pg) (ws : List Int) (k : Nat), ws.length = (k + ps.length) * 16 → ∀ x : Nat, (sweepW ws k ps)[x]? = if k ≤ x / 16 ∧ freeAt ps (x / 16 - k) = true then some 0 else ws[x]?
  | [], ws, k, _, x => by simp [sweepW, freeAt]
  | p :: r, ws, k, h, x => by
    simp only [List.length_cons] at h
    have hput : ∀ x : Nat, (putFrame ws k (List.replicate 16 0))[x]? = if x / 16 = k then some 0 else ws[x]? := fun x => by
      unfold putFrame splice
      rw [List.length_replicate]
      try rw [List.append_assoc]
      by_cases h1 : x < k * 16
      · rw [List.getElem?_append_left (by rw [List.length_take]; omega), List.getElem?_take, if_pos h1, if_neg (by omega)]
      · rw [List.getElem?_append_right (by rw [List.length_take]; omega), List.length_take, Nat.min_eq_left (by omega)]
        by_cases h2 : x < k * 16 + 16
        · rw [List.getElem?_append_left (by rw [List.length_replicate]; omega), List.getElem?_replicate, if_pos (by omega), if_pos (by omega)]
        · rw [List.getElem?_append_right (by rw [List.length_replicate]; omega), List.length_replicate, List.getElem?_drop, if_neg (by omega)]
          congr 1; omega
    have hp : (if p.kind = 0 then putFrame ws k (List.replicate 16 0) else ws).length = ws.length := by
      split
      · exact length_putFrame (by rw [List.length_replicate]; omega)
      · rfl
    rw [sweepW, sweepW_at r _ (k + 1) (by rw [hp]; omega)]
    by_cases hx : x / 16 = k
    · rw [if_neg (by rintro ⟨h1, _⟩; omega)]
      have hf : freeAt (p :: r) (x / 16 - k) = decide (p.kind = 0) := by rw [hx, Nat.sub_self]; rfl
      rw [hf]
      by_cases h0 : p.kind = 0
      · rw [if_pos h0, hput, if_pos hx, if_pos ⟨by omega, by simpa using h0⟩]
      · rw [if_neg h0, if_neg (by simp [h0])]
    · have e : (if p.kind = 0 then putFrame ws k (List.replicate 16 0) else ws)[x]? = ws[x]? := by
        split
        · rw [hput, if_neg hx]
        · rfl
      rw [e]
      by_cases hk : k ≤ x / 16
      · have hf : freeAt (p :: r) (x / 16 - k) = freeAt r (x / 16 - (k + 1)) := by
          rw [show x / 16 - k = (x / 16 - (k + 1)) + 1 by omega]; rfl
        rw [hf]
        by_cases hc : freeAt r (x / 16 - (k + 1)) = true
        · rw [if_pos ⟨by omega, hc⟩, if_pos ⟨hk, hc⟩]
        · rw [if_neg (fun h => hc h.2), if_neg (fun h => hc h.2)]
      · rw [if_neg (fun h => hk (by omega)), if_neg (fun h => hk h.1)]
/-- Words swept: zero in free pages, else as they were. -/
theorem sweep_at {ps : List Pg} {ws : List Int} (h : ws.length = ps.length * 16) (x : Nat) : (sweepW ws 0 ps)[x]? = if freeAt ps (x / 16) = true then some 0 else ws[x]? := by
  rw [sweepW_at ps ws 0 (by omega)]
  simp
theorem sweep_val {ps : List Pg} {ws : List Int} (h : ws.length = ps.length * 16) (hv : ∀ v ∈ ws, -1000000000 ≤ v ∧ v ≤ (1000000000 : Int)) : ∀ v ∈ sweepW ws 0 ps, -1000000000 ≤ v ∧ v ≤ (1000000000 : Int) := by
  intro v hm
  obtain ⟨x, hx⟩ := List.getElem?_of_mem hm
  rw [sweep_at h] at hx
  split at hx
  · cases hx; omega
  · exact hv v (List.mem_of_getElem? hx)
/-- A block that is not kept at hand is dropped, and what became free is zero. -/
theorem Right.drop {h : Hp} (hr : Right h) {a : Int} {b : Blk} (hb : heldAt h.pages a = (0, some b)) (he : b.start = a) (hk : a ∉ h.kept) : Right ⟨dropBlk h.pages b, sweepW h.words 0 (dropBlk h.pages b), h.mags⟩ := by
  obtain ⟨d1, _, _, d4⟩ := dropped hr.pg hb he
  have hl : h.words.length = (dropBlk h.pages b).length * 16 := by rw [d4]; exact hr.len
  refine ⟨d1, ?_, hr.cnt, sweep_val hl hr.val, fun j m hj => ?_, hr.nd, fun k p hp h0 j hj => ?_⟩
  · show (sweepW h.words 0 (dropBlk h.pages b)).length = (dropBlk h.pages b).length * 16
    rw [length_sweepW _ _ _ (by omega)]; exact hl
  · obtain ⟨h1, h2⟩ := hr.mag j m hj
    refine ⟨h1, fun x hx => ?_⟩
    obtain ⟨i, s, h3, h4⟩ := (isSlotAt_iff hr.pg).1 (h2 x hx)
    refine (isSlotAt_iff d1).2 ⟨i, s, ?_, h4⟩
    show heldAt (dropBlk h.pages b) x = _
    rw [drop_view hr.pg hb he x, h3, if_neg]
    intro e
    simp only [Prod.mk.injEq, Option.some.injEq, true_and] at e
    refine hk ?_
    rw [← he, ← e, h4]
    exact List.mem_flatten.2 ⟨m, List.mem_of_getElem? hj, hx⟩
  · show (sweepW h.words 0 (dropBlk h.pages b))[k * 16 + j]? = some 0
    rw [sweep_at hl, if_pos (freeAt_iff.2 ⟨p, by rw [show (k * 16 + j) / 16 = k by omega]; exact hp, h0⟩)]
/-- What is held when all these were dropped. -/
theorem dropAll_view : ∀ (xs : List Int) (ps : List Pg), pagesFault ps = 0 → KeptOk ps xs → ∀ x, heldAt (dropAll ps xs) x = if (∃ a ∈ xs, heldAt ps x = heldAt ps a) then (4, none) else heldAt ps x
  | [], ps, _, _, x => by simp [dropAll]
  | a :: r, ps, hv, hk, x => by
    obtain ⟨h1, h2, h3⟩ := KeptOk.step hv hk
    obtain ⟨hn, ha⟩ := hk
    obtain ⟨c, hc⟩ := ha a (by simp)
    obtain ⟨d1, d2, d3, d4, d5⟩ := slot_dropped hv hc
    obtain ⟨i, s, hi, hs⟩ := (isSlotAt_iff hv).1 hc
    have hn' := List.nodup_cons.1 hn
    have hra : ∀ y ∈ r, heldAt ps y ≠ heldAt ps a ∧ heldAt (dropAt ps a.toNat) y = heldAt ps y ∧ ∃ d, heldAt ps y = (0, some d) := fun y hy => by
      obtain ⟨c', hc'⟩ := ha y (by simp [hy])
      obtain ⟨i', s', hi', hs'⟩ := (isSlotAt_iff hv).1 hc'
      have hne : heldAt ps y ≠ heldAt ps a := by
        rw [hi, hi']
        intro e
        simp only [Prod.mk.injEq, Option.some.injEq, true_and] at e
        rw [e, hs] at hs'
        exact hn'.1 (hs' ▸ hy)
      exact ⟨hne, by rw [d4, if_neg hne], _, hi'⟩
    rw [dropAll, dropAll_view r _ h1 h3 x, d4 x]
    by_cases e : heldAt ps x = heldAt ps a
    · simp only [if_pos e]
      refine Eq.trans (b := (4, none)) ?_ (if_pos ⟨a, by simp, e⟩).symm
      split <;> rfl
    · simp only [if_neg e]
      have : (∃ y ∈ r, heldAt ps x = heldAt (dropAt ps a.toNat) y) ↔ ∃ y ∈ a :: r, heldAt ps x = heldAt ps y := by
        constructor
        · rintro ⟨y, hy, hxy⟩
          rw [(hra y hy).2.1] at hxy
          exact ⟨y, by simp [hy], hxy⟩
        · rintro ⟨y, hy, hxy⟩
          rcases List.mem_cons.1 hy with rfl | hy
          · exact absurd hxy e
          · exact ⟨y, hy, by rw [(hra y hy).2.1]; exact hxy⟩
      by_cases hc : ∃ y ∈ r, heldAt ps x = heldAt (dropAt ps a.toNat) y
      · rw [if_pos hc, if_pos (this.1 hc)]
      · rw [if_neg hc, if_neg (fun h => hc (this.2 h))]
/-- What lives at a place: a block that is not kept at hand. -/
def Live (h : Hp) (x : Int) (b : Blk) : Prop := heldAt h.pages x = (0, some b) ∧ b.start ∉ h.kept
theorem kept_drained (h : Hp) : (drainHp h).kept = [] := by
  show (List.replicate h.mags.length ([] : List Int)).flatten = []
  simp
theorem Right.drained_at {h : Hp} (hr : Right h) {x : Int} {b : Blk} : heldAt (drainHp h).pages x = (0, some b) ↔ Live h x b := by
  have hv := dropAll_view h.kept h.pages hr.pg (kept_ok hr.ok) x
  show heldAt (dropAll h.pages h.kept) x = _ ↔ _
  rw [hv]
  unfold Live
  constructor
  · intro e
    split at e
    · simp at e
    · rename_i hn
      refine ⟨e, fun hm => hn ⟨b.start, hm, ?_⟩⟩
      rw [e]
      exact (block_range hr.pg e).2.2.2.2.symm
  · rintro ⟨e, hn⟩
    rw [if_neg, e]
    rintro ⟨a, ha, hxa⟩
    obtain ⟨c, i, s, h1, h2⟩ := hr.kept_slot ha
    rw [e, h1] at hxa
    simp only [Prod.mk.injEq, Option.some.injEq, true_and] at hxa
    exact hn (by rw [hxa, h2]; exact ha)
theorem Right.drain {h : Hp} (hr : Right h) : Right (drainHp h) := by
  have hk := kept_ok hr.ok
  have hp : pagesFault (drainHp h).pages = 0 := keptAll _ _ hr.pg hk
  have hpl : (drainHp h).pages.length = h.pages.length := length_dropAll _ _
  have hl : h.words.length = (dropAll h.pages h.kept).length * 16 := by rw [length_dropAll]; exact hr.len
  refine ⟨hp, ?_, ?_, sweep_val hl hr.val, fun j m hj => ?_, by rw [kept_drained]; exact List.nodup_nil, fun k p hp h0 j hj => ?_⟩
  · show (sweepW h.words 0 (dropAll h.pages h.kept)).length = (dropAll h.pages h.kept).length * 16
    rw [length_sweepW _ _ _ (by omega)]; exact hl
  · show magCount (List.replicate h.mags.length ([] : List Int)).length = true
    rw [List.length_replicate]; exact hr.cnt
  · have hj : (List.replicate h.mags.length ([] : List Int))[j]? = some m := hj
    rw [List.getElem?_replicate] at hj
    split at hj
    · cases hj; simp
    · simp at hj
  · show (sweepW h.words 0 (dropAll h.pages h.kept))[k * 16 + j]? = some 0
    rw [sweep_at hl, if_pos (freeAt_iff.2 ⟨p, by rw [show (k * 16 + j) / 16 = k by omega]; exact hp, h0⟩)]
end Go.Proofs.YthpamclljdcjpaaGreatDoor

/- Chapter 6: what its functions answer, in plain words. -/
namespace Go.Proofs.YthpamclljdcjpaaGreatDoor
open Go.RowKit

/-- What may be done, in plain words. -/
structure Opn where
  kind : Int
  at_ : Int
  n : Int
  value : Int
def Opn.needs (o : Opn) (a n v : Bool) : Bool := (a || decide (o.at_ = 0)) && (n || decide (o.n = 0)) && (v || decide (o.value = 0))
def Opn.form (o : Opn) : Bool :=
  if o.kind = 1 then o.needs false true false
  else if o.kind = 2 then o.needs false true false
  else if o.kind = 3 then o.needs true false false
  else if o.kind = 4 then o.needs true true false
  else if o.kind = 5 then o.needs true false false
  else if o.kind = 6 then o.needs true false true
  else if o.kind = 7 then o.needs true false false
  else if o.kind = 8 then o.needs false false false
  else false
def Opn.sized (o : Opn) : Bool := decide (o.kind = 1) || decide (o.kind = 2) || decide (o.kind = 4)
def opFault (o : Opn) : Int := if o.form = true then (if o.sized = true ∧ within 1 64 [o.n] = false ∨ within (-1000000000) 1000000000 [o.value] = false then 3 else 0) else 1
theorem opFault_ok {o : Opn} (h : opFault o = 0) : (1 ≤ o.kind ∧ o.kind ≤ 8) ∧ (o.kind = 1 ∨ o.kind = 2 ∨ o.kind = 4 → 1 ≤ o.n ∧ o.n ≤ 64) ∧ -1000000000 ≤ o.value ∧ o.value ≤ 1000000000 := by
  unfold opFault at h
  by_cases hf : o.form = true
  · rw [if_pos hf] at h
    by_cases hs : o.sized = true ∧ within 1 64 [o.n] = false ∨ within (-1000000000) 1000000000 [o.value] = false
    · rw [if_pos hs] at h; omega
    · have hk : 1 ≤ o.kind ∧ o.kind ≤ 8 := by
        unfold Opn.form at hf
        repeat' (split at hf)
        all_goals first | omega | (simp at hf)
      refine ⟨hk, fun hz => ?_, ?_⟩
      · refine within_range ?_
        cases hw : within 1 64 [o.n] with
        | true => rfl
        | false => exact absurd (.inl ⟨by unfold Opn.sized; rcases hz with e | e | e <;> simp [e], hw⟩) hs
      · refine within_range ?_
        cases hw : within (-1000000000) 1000000000 [o.value] with
        | true => rfl
        | false => exact absurd (.inr hw) hs
  · rw [if_neg hf] at h; omega

/-- The number of a processor's magazine of a class; that magazine. -/
def magNo (cpu c : Int) : Nat := (4 * cpu + c).toNat
def Hp.magOf (h : Hp) (cpu c : Int) : List Int := h.mags.getD (magNo cpu c) []
/-- A place for so many words, without draining. -/
def onceHp (h : Hp) (cpu n : Int) : Option (Int × Hp) :=
  if 8 < n then (match runFrom ((n + 15) / 16).toNat 0 h.pages with
    | some i => some ((i : Int) * 16, ⟨putRun h.pages i ((n + 15) / 16).toNat, h.words, h.mags⟩)
    | none => none)
  else match (h.magOf cpu (classW n)).getLast? with
    | some a => some (a, h.setMag (magNo cpu (classW n)) (h.magOf cpu (classW n)).dropLast)
    | none => match slotFor h.pages (classW n) with
      | some (i, s) => some ((i : Int) * 16 + s * sizeW (classW n), ⟨putSlot h.pages (classW n) i s, h.words, h.mags⟩)
      | none => none
def placeHp (h : Hp) (cpu n : Int) : Option (Int × Hp) := match onceHp h cpu n with
  | some x => some x
  | none => onceHp (drainHp h) cpu n
/-- What is held at a place that holds something. -/
def blkAt (ps : List Pg) (a : Int) : Blk := match heldAt ps a with
  | (_, some b) => b
  | (_, none) => .run 0 0
def dropHp (h : Hp) (b : Blk) : Hp := ⟨dropBlk h.pages b, sweepW h.words 0 (dropBlk h.pages b), h.mags⟩
def freeHp (h : Hp) (cpu : Int) : Blk → Hp
  | .slot i c s => if (h.magOf cpu c).length < 2 then h.setMag (magNo cpu c) (h.magOf cpu c ++ [(Blk.slot i c s).start]) else dropHp h (.slot i c s)
  | .run i n => dropHp h (.run i n)
/-- Words with these from a place on. -/
def Hp.putWords (h : Hp) (a : Int) (xs : List Int) : Hp := ⟨h.pages, splice h.words a.toNat xs, h.mags⟩
def wordsFrom (ws : List Int) (a n : Int) : List Int := (ws.drop a.toNat).take n.toNat
/-- A reply is a code and a value; with it the heap then. -/
def giveHp (h : Hp) (cpu n : Int) (clear : Bool) : (Int × Int) × Hp := match placeHp h cpu n with
  | some (a, g) => ((0, a), if clear = true then g.putWords a (List.replicate (blkAt g.pages a).size.toNat 0) else g)
  | none => ((7, 0), h)
def growHp (h : Hp) (cpu a n : Int) : (Int × Int) × Hp :=
  if n ≤ (blkAt h.pages a).size then ((0, a), h) else match placeHp h cpu n with
    | some (b, g) => ((0, b), freeHp (g.putWords b (wordsFrom g.words a (blkAt h.pages a).size)) cpu (blkAt h.pages a))
    | none => ((7, 0), h)
def atHp (h : Hp) (cpu : Int) (o : Opn) (s : Int) : (Int × Int) × Hp :=
  if o.kind = 5 then ((0, h.words.getD o.at_.toNat 0), h)
  else if o.kind = 6 then ((0, 0), ⟨h.pages, h.words.set o.at_.toNat o.value, h.mags⟩)
  else if s = o.at_ then
    (if o.kind = 3 then ((0, 0), freeHp h cpu (blkAt h.pages o.at_))
    else if o.kind = 7 then ((0, (blkAt h.pages o.at_).size), h)
    else growHp h cpu o.at_ o.n)
  else ((1, 0), h)
def rightHp (h : Hp) (cpu : Int) (o : Opn) : (Int × Int) × Hp :=
  if o.kind = 1 then giveHp h cpu o.n false
  else if o.kind = 2 then giveHp h cpu o.n true
  else if o.kind = 8 then ((0, (usedIn h.pages : Int)), h)
  else if (liveIn h o.at_).1 = 0 then atHp h cpu o (liveIn h o.at_).2 else (((liveIn h o.at_).1, 0), h)
def doHp (h : Hp) (cpu : Int) (o : Opn) : (Int × Int) × Hp := if opFault o = 0 then rightHp h cpu o else ((opFault o, 0), h)
def isCpu (h : Hp) (cpu : Int) : Bool := within 0 ((h.mags.length / 4 : Nat) - 1 : Int) [cpu]
def doHeap (h : Hp) (cpu : Int) (o : Opn) : Int × (Int × Int) × Hp := if heapFault h = 0 then (if isCpu h cpu = true then (0, doHp h cpu o) else (3, (0, 0), Hp.zero)) else (heapFault h, (0, 0), Hp.zero)
/-- Requests one behind the other: a code, the replies, the heap at the end. -/
def runFromHp (h : Hp) : List (Int × Opn) → Int × List (Int × Int) × Hp
  | [] => (0, [], h)
  | (cpu, o) :: r => if isCpu h cpu = true then (match runFromHp (doHp h cpu o).2 r with
      | (c, rs, g) => if c = 0 then (0, (doHp h cpu o).1 :: rs, g) else (c, [], Hp.zero))
    else (3, [], Hp.zero)
def runHeap (h : Hp) (list : List (Int × Opn)) : Int × List (Int × Int) × Hp :=
  if heapFault h = 0 then (if 300 < list.length then (2, [], Hp.zero) else runFromHp h list) else (heapFault h, [], Hp.zero)
def isPlaced (h : Hp) (n : Int) : Bool := decide (heapFault h = 0) && within 1 64 [n] && (placeHp h 0 n).isSome
end Go.Proofs.YthpamclljdcjpaaGreatDoor

/- Chapter 6, plain facts: what a place that is given and a block that is freed do to a right heap. -/
namespace Go.Proofs.YthpamclljdcjpaaGreatDoor
open Go.RowKit

theorem isCpu_iff {h : Hp} {cpu : Int} (hc : isCpu h cpu = true) : 0 ≤ cpu ∧ 4 * cpu + 4 ≤ h.mags.length := by
  have := within_range hc
  omega
theorem blkAt_of {ps : List Pg} {a : Int} {b : Blk} (h : heldAt ps a = (0, some b)) : blkAt ps a = b := by unfold blkAt; rw [h]
theorem held_start {ps : List Pg} (hv : pagesFault ps = 0) {x : Int} {b : Blk} (h : heldAt ps x = (0, some b)) : heldAt ps b.start = (0, some b) := (block_range hv h).2.2.2.2
/-- A block that lives holds its own beginning. -/
theorem Live.start {h : Hp} (hr : Right h) {x : Int} {b : Blk} (hl : Live h x b) : Live h b.start b := ⟨held_start hr.pg hl.1, hl.2⟩
theorem Live.fill {h : Hp} (hr : Right h) {a x : Int} {b : Blk} (hl : Live h a b) (h1 : b.start ≤ x) (h2 : x < b.start + b.size) : Live h x b := ⟨held_fill hr.pg hl.1 h1 h2, hl.2⟩
theorem Live.range {h : Hp} (hr : Right h) {x : Int} {b : Blk} (hl : Live h x b) : 0 ≤ b.start ∧ b.start ≤ x ∧ x < b.start + b.size ∧ b.start + b.size ≤ h.words.length := by
  obtain ⟨h1, h2, h3, h4, _⟩ := block_range hr.pg hl.1
  have := hr.len
  refine ⟨h1, h2, h3, ?_⟩
  rw [this]; push_cast; exact h4
theorem Live.one {h : Hp} {x : Int} {b d : Blk} (h1 : Live h x b) (h2 : Live h x d) : b = d := by
  have := h1.1.symm.trans h2.1
  simpa using this
/-- A block more lives: at this place, in none that lived, and all that lived do. -/
structure Gave (h g : Hp) (b : Blk) : Prop where
  live : Live g b.start b
  fresh : ∀ x, heldAt g.pages x = (0, some b) → ∀ d, ¬ Live h x d
  keep : ∀ x d, Live h x d → Live g x d
  was : ∀ x d, Live g x d → d ≠ b → Live h x d
theorem magOf_at {h : Hp} {cpu c : Int} (h0 : 0 ≤ cpu) (h1 : 4 * cpu + 4 ≤ h.mags.length) (c0 : 0 ≤ c) (c3 : c ≤ 3) : magNo cpu c < h.mags.length ∧ h.mags[magNo cpu c]? = some (h.magOf cpu c) ∧ ((magNo cpu c % 4 : Nat) : Int) = c := by
  have hk : magNo cpu c < h.mags.length := by unfold magNo; omega
  refine ⟨hk, ?_, by unfold magNo; omega⟩
  unfold Hp.magOf
  rw [List.getElem?_eq_getElem hk]; simp [List.getD, hk]
theorem gave_took {h : Hp} (hr : Right h) {qs : List Pg} {b : Blk} (ht : Took h.pages qs b) : Gave h ⟨qs, h.words, h.mags⟩ b where
  live := ⟨ht.at_, fun hm => by
    obtain ⟨c, i, s, h1, _⟩ := hr.kept_slot hm
    have := ht.new ht.at_
    rw [h1] at this; simp at this⟩
  fresh x hx d hd := by
    have := ht.new hx
    rw [hd.1] at this; simp at this
  keep x d hd := ⟨ht.keep hd.1, hd.2⟩
  was x d hd hne := ⟨ht.was hd.1 hne, hd.2⟩
theorem onceHp_ok {h g : Hp} {cpu n a : Int} (hr : Right h) (h0 : 0 ≤ cpu) (h1 : 4 * cpu + 4 ≤ h.mags.length) (n1 : 1 ≤ n) (n2 : n ≤ 64) (e : onceHp h cpu n = some (a, g)) :
    Right g ∧ g.words = h.words ∧ g.mags.length = h.mags.length ∧ g.pages.length = h.pages.length ∧ ∃ b, b.start = a ∧ n ≤ b.size ∧ Gave h g b := by
  unfold onceHp at e
  by_cases hn : 8 < n
  · rw [if_pos hn] at e
    cases hf : runFrom ((n + 15) / 16).toNat 0 h.pages with
    | none => rw [hf] at e; simp at e
    | some i =>
      rw [hf] at e
      simp only [Option.some.injEq, Prod.mk.injEq] at e
      obtain ⟨rfl, rfl⟩ := e
      obtain ⟨ht, _⟩ := took_run hr.pg (i := i) (n := ((n + 15) / 16).toNat) (by omega) (by omega) hf
      exact ⟨hr.took ht, rfl, rfl, ht.len, _, rfl, by simp only [Blk.size]; omega, gave_took hr ht⟩
  · rw [if_neg hn] at e
    obtain ⟨c0, c3⟩ := classW_small n
    obtain ⟨hk, hm, h4⟩ := magOf_at (h := h) h0 h1 c0 c3
    have hsz := classW_holds (s := n) (by omega)
    cases hl : (h.magOf cpu (classW n)).getLast? with
    | some a' =>
      rw [hl] at e
      simp only [Option.some.injEq, Prod.mk.injEq] at e
      obtain ⟨rfl, rfl⟩ := e
      have hsplit : h.magOf cpu (classW n) = (h.magOf cpu (classW n)).dropLast ++ [a'] := by
        obtain ⟨ys, hy⟩ := List.getLast?_eq_some_iff.1 hl
        rw [hy]; simp
      rw [hsplit] at hm
      obtain ⟨p1, p2⟩ := hr.pop hm
      have hs := (hr.mag _ _ hm).2 a' (by simp)
      rw [h4] at hs
      obtain ⟨i, s, hi, hst⟩ := (isSlotAt_iff hr.pg).1 hs
      have hak : a' ∈ h.kept := List.mem_flatten.2 ⟨_, List.mem_of_getElem? hm, by simp⟩
      refine ⟨p1, rfl, by show (h.mags.set _ _).length = _; rw [List.length_set], rfl, _, hst, hsz, ⟨?_, fun x hx d hd => ?_, fun x d hd => ?_, fun x d hd hne => ?_⟩⟩
      · exact ⟨by rw [hst]; exact hi, fun hm' => ((p2 _).1 hm').2 hst⟩
      · have hdb : d = .slot i (classW n) s := by
          have := hd.1.symm.trans hx
          simpa using this
        exact hd.2 (by rw [hdb, hst]; exact hak)
      · exact ⟨hd.1, fun hm' => hd.2 ((p2 _).1 hm').1⟩
      · refine ⟨hd.1, fun hm' => hd.2 ((p2 _).2 ⟨hm', fun hda => hne ?_⟩)⟩
        have hd2 := held_start hr.pg (show heldAt h.pages x = _ from hd.1)
        rw [hda, hi] at hd2
        simpa using hd2.symm
    | none =>
      rw [hl] at e
      simp only at e
      cases hf : slotFor h.pages (classW n) with
      | none => rw [hf] at e; simp at e
      | some y =>
        obtain ⟨i, s⟩ := y
        rw [hf] at e
        simp only [Option.some.injEq, Prod.mk.injEq] at e
        obtain ⟨rfl, rfl⟩ := e
        have ht := took_slot hr.pg c0 c3 hf
        exact ⟨hr.took ht, rfl, rfl, ht.len, .slot i (classW n) s, rfl, hsz, gave_took hr ht⟩
theorem live_drained {h : Hp} (hr : Right h) {x : Int} {b : Blk} : Live (drainHp h) x b ↔ Live h x b := by
  constructor
  · intro hl; exact hr.drained_at.1 hl.1
  · intro hl; exact ⟨hr.drained_at.2 hl, by rw [kept_drained]; simp⟩
theorem drained_words {h : Hp} (hr : Right h) {x : Nat} {b : Blk} (hl : Live h x b) : (drainHp h).words[x]? = h.words[x]? := by
  have hlen : h.words.length = (dropAll h.pages h.kept).length * 16 := by rw [length_dropAll]; exact hr.len
  show (sweepW h.words 0 (dropAll h.pages h.kept))[x]? = _
  rw [sweep_at hlen, if_neg]
  intro hf
  obtain ⟨p, hp, h0⟩ := freeAt_iff.1 hf
  exact (held_page hr.drain.pg (hr.drained_at.2 hl)).2.2 p (by rw [Int.toNat_natCast]; exact hp) h0
theorem placeHp_ok {h g : Hp} {cpu n a : Int} (hr : Right h) (h0 : 0 ≤ cpu) (h1 : 4 * cpu + 4 ≤ h.mags.length) (n1 : 1 ≤ n) (n2 : n ≤ 64) (e : placeHp h cpu n = some (a, g)) :
    Right g ∧ g.mags.length = h.mags.length ∧ g.pages.length = h.pages.length ∧ (∀ (x : Nat) (d : Blk), Live h x d → g.words[x]? = h.words[x]?) ∧ ∃ b, b.start = a ∧ n ≤ b.size ∧ Gave h g b := by
  unfold placeHp at e
  cases ho : onceHp h cpu n with
  | some y =>
    rw [ho] at e
    simp only [Option.some.injEq] at e
    subst e
    obtain ⟨p1, p2, p3, p4, p5⟩ := onceHp_ok hr h0 h1 n1 n2 ho
    exact ⟨p1, p3, p4, fun x d _ => by rw [p2], p5⟩
  | none =>
    rw [ho] at e
    simp only at e
    have hm : (drainHp h).mags.length = h.mags.length := by show (List.replicate h.mags.length ([] : List Int)).length = _; rw [List.length_replicate]
    obtain ⟨p1, p2, p3, p4, b, hb1, hb2, hb3⟩ := onceHp_ok hr.drain h0 (by rw [hm]; exact h1) n1 n2 e
    refine ⟨p1, p3.trans hm, p4.trans (length_dropAll _ _), fun x d hd => by rw [p2]; exact drained_words hr hd, b, hb1, hb2, ⟨hb3.live, fun x hx d hd => hb3.fresh x hx d ((live_drained hr).2 hd), fun x d hd => hb3.keep x d ((live_drained hr).2 hd), fun x d hd hne => (live_drained hr).1 (hb3.was x d hd hne)⟩⟩
/-- Words that differ only in a block that is held leave a right heap right. -/
theorem Right.putWords {h : Hp} (hr : Right h) {b : Blk} (hb : heldAt h.pages b.start = (0, some b)) {xs : List Int} (hl : (xs.length : Int) ≤ b.size) (hv : ∀ v ∈ xs, -1000000000 ≤ v ∧ v ≤ (1000000000 : Int)) :
    Right (h.putWords b.start xs) ∧ (∀ x : Nat, (h.putWords b.start xs).words[x]? = if b.start ≤ x ∧ (x : Int) < b.start + xs.length then xs[x - b.start.toNat]? else h.words[x]?) ∧ (h.putWords b.start xs).words.length = h.words.length := by
  obtain ⟨r1, r2, r3, r4, _⟩ := block_range hr.pg hb
  have hlen := hr.len
  have hat : ∀ x : Nat, (splice h.words b.start.toNat xs)[x]? = if b.start ≤ x ∧ (x : Int) < b.start + xs.length then xs[x - b.start.toNat]? else h.words[x]? := fun x => by
    unfold splice
    by_cases h1 : x < b.start.toNat
    · rw [if_neg (by omega), List.getElem?_append_left (by rw [List.length_take]; omega), List.getElem?_take, if_pos h1]
    · rw [List.getElem?_append_right (by rw [List.length_take]; omega), List.length_take, Nat.min_eq_left (by omega)]
      by_cases h2 : x < b.start.toNat + xs.length
      · rw [if_pos (by omega), List.getElem?_append_left (by omega)]
      · rw [if_neg (by omega), List.getElem?_append_right (by omega), List.getElem?_drop]
        congr 1; omega
  have hsl : (splice h.words b.start.toNat xs).length = h.words.length := length_splice _ _ _ (by omega)
  refine ⟨hr.put_held hsl (fun v hm => ?_) (fun x hx => ?_), hat, hsl⟩
  · obtain ⟨x, hx⟩ := List.getElem?_of_mem hm
    rw [hat] at hx
    split at hx
    · exact hv v (List.mem_of_getElem? hx)
    · exact hr.val v (List.mem_of_getElem? hx)
  · rw [hat] at hx
    split at hx
    · exact ⟨b, held_fill hr.pg hb (by omega) (by omega)⟩
    · exact absurd rfl hx
theorem live_putWords {h : Hp} {a x : Int} {xs : List Int} {b : Blk} : Live (h.putWords a xs) x b ↔ Live h x b := Iff.rfl
/-- A block that lived is freed: all else lives on. -/
theorem freeHp_ok {h : Hp} {cpu : Int} {b : Blk} (hr : Right h) (h0 : 0 ≤ cpu) (h1 : 4 * cpu + 4 ≤ h.mags.length) (hb : Live h b.start b) :
    Right (freeHp h cpu b) ∧ (freeHp h cpu b).mags.length = h.mags.length ∧ (freeHp h cpu b).pages.length = h.pages.length ∧ (∀ x d, Live (freeHp h cpu b) x d ↔ Live h x d ∧ d ≠ b) ∧ ∀ (x : Nat) (d : Blk), Live h x d → d ≠ b → (freeHp h cpu b).words[x]? = h.words[x]? := by
  have hdrop : Right (dropHp h b) ∧ (dropHp h b).mags.length = h.mags.length ∧ (dropHp h b).pages.length = h.pages.length ∧ (∀ x d, Live (dropHp h b) x d ↔ Live h x d ∧ d ≠ b) ∧ ∀ (x : Nat) (d : Blk), Live h x d → d ≠ b → (dropHp h b).words[x]? = h.words[x]? := by
    have hrd := hr.drop hb.1 rfl hb.2
    have hview := drop_view hr.pg hb.1 rfl
    have hl := (dropped hr.pg hb.1 rfl).2.2.2
    have hlive : ∀ x d, Live (dropHp h b) x d ↔ Live h x d ∧ d ≠ b := fun x d => by
      constructor
      · intro hd
        have h2 : heldAt (dropBlk h.pages b) x = (0, some d) := hd.1
        rw [hview] at h2
        split at h2
        · simp at h2
        · rename_i hne
          exact ⟨⟨h2, hd.2⟩, fun e => hne (by rw [h2, e])⟩
      · rintro ⟨hd, hne⟩
        refine ⟨?_, hd.2⟩
        show heldAt (dropBlk h.pages b) x = _
        rw [hview, if_neg (by rw [hd.1]; simpa using hne)]; exact hd.1
    refine ⟨hrd, rfl, hl, hlive, fun x d hd hne => ?_⟩
    show (sweepW h.words 0 (dropBlk h.pages b))[x]? = _
    rw [sweep_at (by rw [hl]; exact hr.len), if_neg]
    intro hf
    obtain ⟨p, hp, hp0⟩ := freeAt_iff.1 hf
    exact (held_page hrd.pg ((hlive x d).2 ⟨hd, hne⟩).1).2.2 p (by rw [Int.toNat_natCast]; exact hp) hp0
  cases b with
  | run i n => exact hdrop
  | slot i c s =>
    have hfe : freeHp h cpu (.slot i c s) = if (h.magOf cpu c).length < 2 then h.setMag (magNo cpu c) (h.magOf cpu c ++ [(Blk.slot i c s).start]) else dropHp h (.slot i c s) := rfl
    rw [hfe]
    by_cases hm : (h.magOf cpu c).length < 2
    · rw [if_pos hm]
      obtain ⟨_, _, _, _, _, c0, c3, _⟩ := held_slot_info hr.pg hb.1
      obtain ⟨hk, hj, h4⟩ := magOf_at (h := h) h0 h1 c0 c3
      obtain ⟨p1, p2⟩ := hr.push hj hm (a := (Blk.slot i c s).start) (by rw [h4]; exact (isSlotAt_iff hr.pg).2 ⟨i, s, hb.1, rfl⟩) hb.2
      refine ⟨p1, by show (h.mags.set _ _).length = _; rw [List.length_set], rfl, fun x d => ?_, fun x d _ _ => rfl⟩
      constructor
      · intro hd
        refine ⟨⟨hd.1, fun hm' => hd.2 ((p2 _).2 (.inl hm'))⟩, fun e => hd.2 ((p2 _).2 (.inr (by rw [e])))⟩
      · rintro ⟨hd, hne⟩
        refine ⟨hd.1, fun hm' => ?_⟩
        rcases (p2 _).1 hm' with h5 | h5
        · exact hd.2 h5
        · have h6 := held_start hr.pg hd.1
          rw [h5, hb.1] at h6
          exact hne (by simpa using h6.symm)
    · rw [if_neg hm]; exact hdrop
end Go.Proofs.YthpamclljdcjpaaGreatDoor

/- Chapter 6, plain facts: a heap stays a right one, whatever is done; what is answered, and what lives then. -/
namespace Go.Proofs.YthpamclljdcjpaaGreatDoor
open Go.RowKit

/-- Where a place lives, in words of what lives. -/
theorem liveIn_live {h : Hp} {x : Int} {b : Blk} (hl : Live h x b) : liveIn h x = (0, b.start) := by
  have hk : hasIn h.kept b.start = false := by
    unfold hasIn
    simpa using hl.2
  unfold liveIn
  rw [show blockStart h.pages x = (0, b.start) by unfold blockStart; rw [hl.1]]
  simp [hk]
theorem liveIn_zero {h : Hp} (hr : Right h) {x s : Int} (h0 : liveIn h x = (0, s)) : ∃ b, Live h x b ∧ b.start = s := by
  unfold liveIn blockStart at h0
  cases hh : heldAt h.pages x with
  | mk c o =>
    cases o with
    | none =>
      rw [hh] at h0
      rcases held_code hr.pg hh with rfl | rfl <;> simp at h0
    | some b =>
      have hc := (held_info hr.pg hh).1
      subst hc
      rw [hh] at h0
      simp only [if_true] at h0
      split at h0
      · simp at h0
      · rename_i hk
        simp only [Prod.mk.injEq, true_and] at h0
        exact ⟨b, ⟨hh, by unfold hasIn at hk; simpa using hk⟩, h0⟩
theorem liveIn_code {h : Hp} (hr : Right h) {x : Int} : (liveIn h x).1 = 0 ∨ liveIn h x = (3, 0) ∨ liveIn h x = (4, 0) := by
  unfold liveIn blockStart
  cases hh : heldAt h.pages x with
  | mk c o =>
    cases o with
    | none => rcases held_code hr.pg hh with rfl | rfl <;> simp
    | some b =>
      by_cases hk : hasIn h.kept b.start = true
      · simp [hk]
      · simp [hk]
theorem liveIn_none {h : Hp} (hr : Right h) {x : Int} (hx : 0 ≤ x ∧ x < h.words.length) (hn : ∀ b, ¬ Live h x b) : liveIn h x = (4, 0) := by
  unfold liveIn blockStart
  have hx' : 0 ≤ x ∧ x < h.pages.length * 16 := by have := hr.len; omega
  cases hh : heldAt h.pages x with
  | mk c o =>
    cases o with
    | none =>
      rcases held_code hr.pg hh with rfl | rfl
      · unfold heldAt at hh
        rw [if_pos hr.pg, if_pos (within_yes1 hx'.1 (by omega))] at hh
        split at hh <;> simp at hh
      · simp
    | some b =>
      have hc := (held_info hr.pg hh).1
      subst hc
      have hk : hasIn h.kept b.start = true := by
        cases hk : hasIn h.kept b.start with
        | true => rfl
        | false => exact absurd ⟨hh, by unfold hasIn at hk; simpa using hk⟩ (hn b)
      simp [hk]
/-- A heap that may be turned: its lists keep their lengths. -/
structure Turned (h g : Hp) : Prop where
  right : Right g
  mags : g.mags.length = h.mags.length
  pages : g.pages.length = h.pages.length
theorem Turned.refl {h : Hp} (hr : Right h) : Turned h h := ⟨hr, rfl, rfl⟩
theorem Turned.words {h g : Hp} (hr : Right h) (ht : Turned h g) : g.words.length = h.words.length := by rw [ht.right.len, hr.len, ht.pages]
theorem zeros_val (n : Nat) : ∀ v ∈ List.replicate n (0 : Int), -1000000000 ≤ v ∧ v ≤ (1000000000 : Int) := by
  intro v hv
  rw [List.eq_of_mem_replicate hv]; omega
theorem blk_size_pos (b : Blk) (h : ∃ ps x, pagesFault ps = 0 ∧ heldAt ps x = (0, some b)) : 1 ≤ b.size := by
  obtain ⟨ps, x, hv, hx⟩ := h
  have := block_range hv hx
  omega
/-- What giving does: refused, or a block more, which is zero where that was asked for. -/
theorem giveHp_ok {h : Hp} {cpu n : Int} {clear : Bool} (hr : Right h) (h0 : 0 ≤ cpu) (h1 : 4 * cpu + 4 ≤ h.mags.length) (n1 : 1 ≤ n) (n2 : n ≤ 64) :
    Turned h (giveHp h cpu n clear).2 ∧ ((placeHp h cpu n = none ∧ giveHp h cpu n clear = ((7, 0), h)) ∨ ∃ (a : Int) (b : Blk), (giveHp h cpu n clear).1 = (0, a) ∧ b.start = a ∧ n ≤ b.size ∧ Gave h (giveHp h cpu n clear).2 b ∧
      (∀ (x : Nat) (d : Blk), Live h x d → (giveHp h cpu n clear).2.words[x]? = h.words[x]?) ∧ (clear = true → ∀ x : Nat, heldAt (giveHp h cpu n clear).2.pages x = (0, some b) → (giveHp h cpu n clear).2.words[x]? = some 0)) := by
  unfold giveHp
  cases hp : placeHp h cpu n with
  | none => exact ⟨Turned.refl hr, .inl ⟨rfl, rfl⟩⟩
  | some y =>
    obtain ⟨a, g⟩ := y
    simp only
    obtain ⟨p1, p3, p4, p5, b, rfl, hb2, hb3⟩ := placeHp_ok hr h0 h1 n1 n2 hp
    have hbk : blkAt g.pages b.start = b := blkAt_of hb3.live.1
    have hb0 := blk_size_pos b ⟨_, _, p1.pg, hb3.live.1⟩
    cases clear with
    | false =>
      simp only [Bool.false_eq_true, if_false]
      exact ⟨⟨p1, p3, p4⟩, .inr ⟨_, b, rfl, rfl, hb2, hb3, p5, fun h => by simp at h⟩⟩
    | true =>
      simp only [if_true, hbk]
      obtain ⟨q1, q2, q3⟩ := p1.putWords hb3.live.1 (xs := List.replicate b.size.toNat 0) (by rw [List.length_replicate]; omega) (zeros_val _)
      refine ⟨⟨q1, p3, p4⟩, .inr ⟨_, b, rfl, rfl, hb2, ⟨hb3.live, hb3.fresh, hb3.keep, hb3.was⟩, fun x d hd => ?_, fun _ x hx => ?_⟩⟩
      · rw [q2, if_neg]
        · exact p5 x d hd
        · rintro ⟨h5, h6⟩
          rw [List.length_replicate] at h6
          exact hb3.fresh x (held_fill p1.pg hb3.live.1 h5 (by omega)) d hd
      · have := block_range p1.pg (show heldAt g.pages x = _ from hx)
        rw [q2, if_pos ⟨this.2.1, by rw [List.length_replicate]; omega⟩, List.getElem?_replicate, if_pos (by omega)]
theorem mem_wordsFrom {ws : List Int} {a n v : Int} (h : v ∈ wordsFrom ws a n) : v ∈ ws := List.mem_of_mem_drop (List.mem_of_mem_take h)
theorem length_wordsFrom_le (ws : List Int) {a n : Int} (hn : 0 ≤ n) : ((wordsFrom ws a n).length : Int) ≤ n := by unfold wordsFrom; rw [List.length_take]; omega
/-- What making a block greater does. -/
theorem growHp_ok {h : Hp} {cpu n : Int} {b : Blk} (hr : Right h) (h0 : 0 ≤ cpu) (h1 : 4 * cpu + 4 ≤ h.mags.length) (n1 : 1 ≤ n) (n2 : n ≤ 64) (hb : Live h b.start b) :
    Turned h (growHp h cpu b.start n).2 ∧ ((growHp h cpu b.start n).1 = (7, 0) ∧ (growHp h cpu b.start n).2 = h ∨ ∃ d : Blk, (growHp h cpu b.start n).1 = (0, d.start) ∧ n ≤ d.size ∧ Live (growHp h cpu b.start n).2 d.start d) := by
  unfold growHp
  rw [blkAt_of hb.1]
  by_cases hn : n ≤ b.size
  · rw [if_pos hn]
    exact ⟨Turned.refl hr, .inr ⟨b, rfl, hn, hb⟩⟩
  · rw [if_neg hn]
    cases hp : placeHp h cpu n with
    | none => exact ⟨Turned.refl hr, .inl ⟨rfl, rfl⟩⟩
    | some y =>
      obtain ⟨a, g⟩ := y
      simp only
      obtain ⟨p1, p3, p4, p5, d, rfl, hd2, hd3⟩ := placeHp_ok hr h0 h1 n1 n2 hp
      have hb0 := blk_size_pos b ⟨_, _, hr.pg, hb.1⟩
      obtain ⟨q1, q2, q3⟩ := p1.putWords hd3.live.1 (xs := wordsFrom g.words b.start b.size) (Int.le_trans (length_wordsFrom_le _ (by omega)) (by omega)) (fun v hv => p1.val v (mem_wordsFrom hv))
      obtain ⟨r1, r2, r3, r4, r5⟩ := freeHp_ok (cpu := cpu) q1 h0 (by show 4 * cpu + 4 ≤ (g.mags.length : Int); rw [p3]; exact h1) (b := b) (hd3.keep _ _ hb)
      refine ⟨⟨r1, r2.trans p3, r3.trans p4⟩, .inr ⟨d, rfl, hd2, (r4 _ _).2 ⟨hd3.live, fun e => ?_⟩⟩⟩
      subst e
      exact hd3.fresh _ hd3.live.1 _ hb
theorem doHp_turned {h : Hp} {cpu : Int} {o : Opn} (hr : Right h) (h0 : 0 ≤ cpu) (h1 : 4 * cpu + 4 ≤ h.mags.length) : Turned h (doHp h cpu o).2 ∧ ((doHp h cpu o).1.1 ≠ 0 → (doHp h cpu o).1.2 = 0 ∧ (doHp h cpu o).2 = h ∧ ((doHp h cpu o).1.1 = 1 ∨ (doHp h cpu o).1.1 = 3 ∨ (doHp h cpu o).1.1 = 4 ∨ (doHp h cpu o).1.1 = 7)) := by
  unfold doHp
  by_cases hf : opFault o = 0
  · rw [if_pos hf]
    obtain ⟨hk, hs, hv⟩ := opFault_ok hf
    unfold rightHp
    by_cases k1 : o.kind = 1
    · rw [if_pos k1]
      obtain ⟨g1, g2⟩ := giveHp_ok (clear := false) hr h0 h1 (hs (.inl k1)).1 (hs (.inl k1)).2
      refine ⟨g1, fun hc => ?_⟩
      rcases g2 with ⟨_, e⟩ | ⟨a, b, e, _⟩
      · rw [e]; simp
      · rw [e] at hc; simp at hc
    · rw [if_neg k1]
      by_cases k2 : o.kind = 2
      · rw [if_pos k2]
        obtain ⟨g1, g2⟩ := giveHp_ok (clear := true) hr h0 h1 (hs (.inr (.inl k2))).1 (hs (.inr (.inl k2))).2
        refine ⟨g1, fun hc => ?_⟩
        rcases g2 with ⟨_, e⟩ | ⟨a, b, e, _⟩
        · rw [e]; simp
        · rw [e] at hc; simp at hc
      · rw [if_neg k2]
        by_cases k8 : o.kind = 8
        · rw [if_pos k8]; exact ⟨Turned.refl hr, fun hc => by simp at hc⟩
        · rw [if_neg k8]
          by_cases hl : (liveIn h o.at_).1 = 0
          · rw [if_pos hl]
            obtain ⟨b, hb, hbs⟩ := liveIn_zero hr (x := o.at_) (s := (liveIn h o.at_).2) (by rw [← hl])
            unfold atHp
            by_cases k5 : o.kind = 5
            · rw [if_pos k5]; exact ⟨Turned.refl hr, fun hc => by simp at hc⟩
            · rw [if_neg k5]
              by_cases k6 : o.kind = 6
              · rw [if_pos k6]
                refine ⟨⟨hr.put_held (by rw [List.length_set]) (fun v hm => ?_) (fun x hx => ?_), rfl, rfl⟩, fun hc => by simp at hc⟩
                · rcases List.mem_or_eq_of_mem_set hm with hm | rfl
                  · exact hr.val v hm
                  · exact hv
                · by_cases e : o.at_.toNat = x
                  · have h5 := (held_page hr.pg hb.1).1
                    exact ⟨b, by rw [show ((x : Nat) : Int) = o.at_ by omega]; exact hb.1⟩
                  · rw [List.getElem?_set_ne e] at hx; exact absurd rfl hx
              · rw [if_neg k6]
                by_cases e : (liveIn h o.at_).2 = o.at_
                · rw [if_pos e]
                  have hb' : b.start = o.at_ := hbs.trans e
                  rw [blkAt_of hb.1]
                  by_cases k3 : o.kind = 3
                  · rw [if_pos k3]
                    obtain ⟨r1, r2, r3, _⟩ := freeHp_ok (cpu := cpu) hr h0 h1 (hb.start hr)
                    exact ⟨⟨r1, r2, r3⟩, fun hc => by simp at hc⟩
                  · rw [if_neg k3]
                    by_cases k7 : o.kind = 7
                    · rw [if_pos k7]; exact ⟨Turned.refl hr, fun hc => by simp at hc⟩
                    · rw [if_neg k7]
                      have k4 : o.kind = 4 := by omega
                      have hs4 := hs (.inr (.inr k4))
                      obtain ⟨g1, g2⟩ := growHp_ok hr h0 h1 hs4.1 hs4.2 (hb.start hr)
                      rw [← hb']
                      refine ⟨g1, fun hc => ?_⟩
                      rcases g2 with ⟨e1, e2⟩ | ⟨d, e, _⟩
                      · rw [e1, e2]; simp
                      · rw [e] at hc; simp at hc
                · rw [if_neg e]; exact ⟨Turned.refl hr, fun _ => by simp⟩
          · rw [if_neg hl]
            refine ⟨Turned.refl hr, fun _ => ?_⟩
            rcases liveIn_code hr (x := o.at_) with e | e | e
            · exact absurd e hl
            · rw [e]; simp
            · rw [e]; simp
  · rw [if_neg hf]
    refine ⟨Turned.refl hr, fun _ => ⟨rfl, rfl, ?_⟩⟩
    have hc : opFault o = 0 ∨ opFault o = 1 ∨ opFault o = 3 := by
      unfold opFault
      split
      · split <;> simp
      · simp
    rcases hc with e | e | e
    · exact absurd e hf
    · exact .inl e
    · exact .inr (.inl e)
end Go.Proofs.YthpamclljdcjpaaGreatDoor
