/- The draws of chapter 4: pages in which some was taken and dropped. -/
import Derived.Test.YtkikjoalhohlgaaRough4
import Derived.Test.YtkikjoalhohlgaaSrc2
import Derived.Test.YtkikjoalhohlgaaApp2
import Derived.IntWalk
import Derived.Deep.RegionLaw
import Derived.Deep.RegionHeld3
namespace Go.Proofs.Ytkikjoalhohlgaa
open Go.RowKit

theorem l4Drop_calls {v : Value} {n st : Nat} {ps : List Pg} {S : Nat → Prop} {w : World} (hT : Own KPage 45 w S v n ps) (hn : n ≤ 17592186044416) (hst : st < 16 * n) (hR : Rough ps) :
    Calls Try.prog 78 #[v, .int .i64 st] w fun e w' => e = .returned (.tuple #[]) ∧ Own KPage 45 w' S v n (dropAt ps st) ∧ Turn S w w' := by
  have hl := hT.1
  have hk : st / 16 < ps.length := by omega
  have hp := List.getElem?_eq_getElem hk
  obtain ⟨_, h1, h2⟩ := hR _ _ hp
  by_cases hk1 : (ps[st / 16]).kind = 1
  · obtain ⟨c0, c3, hu⟩ := h1 hk1
    exact l4Drop_slab hT hn hst hp hk1 c0 c3 hu
  · obtain ⟨m, hr, hm⟩ := h2 hk1
    exact l4Drop_run hT hn hst hp (by simp [hk1]) hr (by omega)

/-- What draws of pages leave: pages of the call's own, the source further. -/
def DrawnPages (w : World) (p k : Nat) (m : Nat) (Q : List Pg → Prop) (e : Ending) (w' : World) : Prop :=
  ∃ v n ps k', e = .returned v ∧ Own KPage 45 w' (fun j => w.heap.size ≤ j) v n ps ∧ 1 ≤ n ∧ n ≤ m ∧ Q ps ∧ Src w' p k' ∧ k' ≤ k + 200 ∧ w.grownBy w' (some p)

/-- The same, the row full. -/
def DrawnMade (w : World) (p k : Nat) (m : Nat) (Q : List Pg → Prop) (e : Ending) (w' : World) : Prop :=
  ∃ g n ps k', e = .returned (.slice (some ⟨g, 0, none⟩) n n) ∧ Own KPage 45 w' (fun j => w.heap.size ≤ j) (.slice (some ⟨g, 0, none⟩) n n) n ps ∧ 1 ≤ n ∧ n ≤ m ∧ Q ps ∧ Src w' p k' ∧ k' ≤ k + 150 ∧ w.grownBy w' (some p)

/-- The source is kept where later blocks alone turn. -/
theorem Src.turn {w w' : World} {p k : Nat} {T : Nat → Prop} (h : Src w p k) (ht : Turn T w w') (hd : ∀ j, T j → p < j) : Src w' p k := by
  obtain ⟨ao, n, c, bs, h1, h2, h3, h4⟩ := h
  refine ⟨ao, n, c, bs, ht.row h1 (fun hx => by have := hd _ hx; omega), ⟨h2.1, fun h0 => ?_⟩, h3, h4⟩
  obtain ⟨b, off, rfl, hlt, hc⟩ := h2.2 h0
  have hb := h4 _ rfl h0
  refine ⟨b, off, rfl, Nat.lt_of_lt_of_le hlt ht.size, fun j hj => ?_⟩
  rw [World.cell?_of_block (w := w) (a := ⟨b, off + j, none⟩) (ht.block b hlt (fun hx => by have := hd _ hx; simp at hb; omega))]
  exact hc j hj
theorem Turn.of_some {w w' : World} {p : Nat} (h : w.grownBy w' (some p)) : Turn (fun j => j = p) w w' := ⟨h.os, h.tape, h.output, h.size, fun k hk hn => h.block k hk (by simp; omega)⟩
theorem grown_turn {w w1 w2 : World} {p : Nat} {T : Nat → Prop} (h : w.grownBy w1 (some p)) (ht : Turn T w1 w2) (hd : ∀ j, T j → w.heap.size ≤ j) : w.grownBy w2 (some p) :=
  ⟨ht.os.trans h.os, ht.tape.trans h.tape, ht.output.trans h.output, Nat.le_trans h.size ht.size, fun i hi hne => (ht.block i (Nat.lt_of_lt_of_le hi h.size) (fun hx => by have := hd _ hx; omega)).trans (h.block i hi hne)⟩

/-- Pages and places while they are drawn. -/
def Drawing (w : World) (p : Nat) (v : Value) (n : Nat) (vs : Value) (m k : Nat) (W : World) : Prop :=
  ∃ ps xs, ∃ SP SS : Nat → Prop, Own KPage 45 W SP v n ps ∧ Own KInt 2 W SS vs m xs ∧ (∀ j, SP j → w.heap.size ≤ j) ∧ (∀ j, SS j → w.heap.size ≤ j ∧ ¬ SP j) ∧
    Rough ps ∧ (∀ x ∈ xs, ∃ st : Nat, x = st ∧ st < 16 * n) ∧ Src W p k ∧ w.grownBy W (some p) ∧ p < w.heap.size
section
variable {w W W' : World} {p n m k : Nat} {v vs : Value}
theorem Drawing.drawn (h : Drawing w p v n vs m k W) (hs : Src W' p (k + 1)) (hg : W.grownBy W' (some p)) : Drawing w p v n vs m (k + 1) W' := by
  obtain ⟨ps, xs, SP, SS, h1, h2, h3, h4, h5, h6, h7, h8, h9⟩ := h
  have T := Turn.of_some hg
  exact ⟨ps, xs, SP, SS, h1.turn T (fun j hj _ e => by have := h3 j hj; omega), h2.turn T (fun j hj _ e => by have := (h4 j hj).1; omega), h3, h4, h5, h6, hs, grown_trans h8 hg, h9⟩
theorem Drawing.src (h : Drawing w p v n vs m k W) : Src W p k := by obtain ⟨_, _, _, _, _, _, _, _, _, _, h7, _⟩ := h; exact h7
theorem Drawing.alloc (h : Drawing w p v n vs m k W) (o : Obj) : Drawing w p v n vs m k (W.alloc o) := by
  obtain ⟨ps, xs, SP, SS, h1, h2, h3, h4, h5, h6, h7, h8, h9⟩ := h
  exact ⟨ps, xs, SP, SS, h1.alloc o, h2.alloc o, h3, h4, h5, h6, h7.below ((Below.refl _ _).alloc (Nat.le_refl _) _), grown_trans h8 (World.grownBy_alloc _ _ (some p)), h9⟩
/-- The pages turn. -/
theorem Drawing.pages (h : Drawing w p v n vs m k W) : ∃ ps, ∃ SP : Nat → Prop, Own KPage 45 W SP v n ps ∧ Rough ps ∧
    ∀ W' ps', Own KPage 45 W' (fun j => SP j ∨ W.heap.size ≤ j) v n ps' → Turn SP W W' → Rough ps' → Drawing w p v n vs m k W' := by
  obtain ⟨ps, xs, SP, SS, h1, h2, h3, h4, h5, h6, h7, h8, h9⟩ := h
  refine ⟨ps, SP, h1, h5, fun W' ps' ho ht hr => ⟨ps', xs, _, _, ho, h2.here.turn ht (fun j hj _ hx => (h4 j hj.1).2 hx), ?_, ?_, hr, h6, h7.turn ht (fun j hj => by have := h3 j hj; omega), grown_turn h8 ht h3, h9⟩⟩
  · rintro j (hj | hj)
    · exact h3 j hj
    · have := h8.size; omega
  · rintro j ⟨hj, hlt⟩
    refine ⟨(h4 j hj).1, fun hx => ?_⟩
    rcases hx with hx | hx
    · exact (h4 j hj).2 hx
    · omega
/-- The places turn. -/
theorem Drawing.starts (h : Drawing w p v n vs m k W) : ∃ xs, ∃ SS : Nat → Prop, Own KInt 2 W SS vs m xs ∧ (∀ x ∈ xs, ∃ st : Nat, x = st ∧ st < 16 * n) ∧
    ∀ W' vs' m' xs', Own KInt 2 W' (fun j => SS j ∨ W.heap.size ≤ j) vs' m' xs' → Turn SS W W' → (∀ x ∈ xs', ∃ st : Nat, x = st ∧ st < 16 * n) → Drawing w p v n vs' m' k W' := by
  obtain ⟨ps, xs, SP, SS, h1, h2, h3, h4, h5, h6, h7, h8, h9⟩ := h
  refine ⟨xs, SS, h2, h6, fun W' vs' m' xs' ho ht hr => ⟨ps, xs', _, _, h1.here.turn ht (fun j hj _ hx => (h4 j hx).2 hj.1), ho, fun j hj => h3 j hj.1, ?_, h5, hr, h7.turn ht (fun j hj => by have := (h4 j hj).1; omega), grown_turn h8 ht (fun j hj => (h4 j hj).1), h9⟩⟩
  rintro j (hj | hj)
  · exact ⟨(h4 j hj).1, fun hx => (h4 j hj).2 hx.1⟩
  · refine ⟨by have := h8.size; omega, fun hx => ?_⟩
    omega
end

/-- One place more. -/
theorem Drawing.push {w W : World} {p n m k st : Nat} {v vs : Value} (h : Drawing w p v n vs m k W) (hst : st < 16 * n) (o : Obj) : ∃ xs, ∃ SS : Nat → Prop, Own KInt 2 (W.alloc o) SS vs m xs ∧
    ∀ W' vs', Own KInt 2 W' (fun j => SS j ∨ (W.alloc o).heap.size ≤ j) vs' (m + 1) (xs ++ [(st : Int)]) → Turn SS (W.alloc o) W' → Drawing w p v n vs' (m + 1) k W' := by
  obtain ⟨xs, SS, h1, h2, h3⟩ := (h.alloc o).starts
  refine ⟨xs, SS, h1, fun W' vs' ho ht => h3 W' vs' (m + 1) _ ho ht fun x hx => ?_⟩
  rcases List.mem_append.1 hx with hx | hx
  · exact h2 x hx
  · simp at hx; exact ⟨st, hx, hst⟩

theorem sub_places {xs : List Int} {n : Nat} (h : ∀ x ∈ xs, ∃ st : Nat, x = st ∧ st < 16 * n) (y : Nat) : ∀ x ∈ ([] : List Int) ++ xs.take y ++ xs.drop (y + 1), ∃ st : Nat, x = st ∧ st < 16 * n := fun x hx => by
  rcases List.mem_append.1 hx with hx | hx
  · exact h x (List.mem_of_mem_take (by simpa using hx))
  · exact h x (List.mem_of_mem_drop hx)

set_option maxRecDepth 100000 in
set_option maxHeartbeats 2000000 in
theorem l4Draw_calls {p k : Nat} {w : World} (hs : Src w p k) (hk : k ≤ 1000000) :
    Calls Try.prog 70 #[.pointer (some ⟨p, 0, none⟩)] w (DrawnMade w p k 10 Rough) := by
  have hinfo : (Try.prog.info? 45).map (fun i => (i.zero, i.size, i.bytes)) = some (some (.agg #[.int .i64 0, .int .i64 0, .slice none 0 0, .int .i64 0]), 4, 48) := by kernel_rfl
  obtain ⟨i0, hi, hz0, hz1, hz2⟩ := info_parts hinfo
  obtain ⟨i6, hi6, hy0, hy1, hy2⟩ := info_parts info64
  have HP := Lib.hid hs.lt
  go_enter Try.func70, Try.ntmps70
  go_wp2_with fail
  refine (pick_calls (hs.below ((Below.refl _ _).alloc (Nat.le_refl _) _)) (by omega) (Ints.lit (n := 4) (xs := [1, 3, 6, 10]) (by simp) rfl) (by omega) (by omega) (by have := HP.out; simp; omega)).mono ?_
  rintro e w1 ⟨r, rfl, hr, hs1, hg1⟩
  have hr1 : 1 ≤ r ∧ r ≤ 10 := by simp at hr; omega
  obtain ⟨n, rfl⟩ : ∃ n : Nat, r = n := ⟨r.toNat, by omega⟩
  have G := grown_trans (World.grownBy_alloc w _ (some p)) hg1
  clear hr hg1
  go_wp2_with (
    at_make
    go_must (refine wpList_make_full _ rfl _ _ 24 rfl w1.heap.size 45 i0 (.agg #[.int .i64 0, .int .i64 0, .slice none 0 0, .int .i64 0]) 4 Try.underlying24 hi hz0 hz1 _ _ _ _ n rfl rfl rfl rfl (by rw [hz2]; omega) (by unfold maxLen; omega) (Nat.le_refl _) ?_)
    intro w2 hown hg2
    have hO : Own KPage 45 w2 (fun j => w1.heap.size = j) (.slice (some ⟨w1.heap.size, 0, none⟩) n n) n (List.replicate n Pg.free) := Own.of_made (K := KPage) (z := .agg #[.int .i64 0, .int .i64 0, .slice none 0 0, .int .i64 0]) hown rfl rfl (KPage_own_mk (p := Pg.free) Own.nil)
    have S2 : Src w2 p (k + 1) := hs1.below ((Below.refl _ _).grown hg2 (Nat.le_refl _) (by simp))
    have G2 : w.grownBy w2 (some p) := grown_trans G ⟨hg2.os, hg2.tape, hg2.output, hg2.size, fun i hi _ => hg2.block i hi (by simp)⟩
    have hz2' := hg2.size
    have hs2 : w1.heap.size < w2.heap.size := (hO.lst.2.2.2.lt (by omega)).elim fun b ⟨off, hb, hlt, he⟩ => by have := he; omega
    have hG1 := G.size
    have HD := Lib.hid (show Drawing w p (.slice (some ⟨w1.heap.size, 0, none⟩) n n) n (.slice (some ⟨w2.heap.size, 0, none⟩) 0 0) 0 (k + 1) (w2.alloc (.cells #[] 2)) from
      ⟨_, [], _, (fun j => j = w2.heap.size), hO.alloc _, Own.empty (heap_alloc_new w2 _) rfl, (fun j hj => by omega), (fun j hj => ⟨by omega, by omega⟩), Rough.free n, (fun x hx => by simp at hx), S2.below ((Below.refl _ _).alloc (Nat.le_refl _) _), grown_trans G2 (World.grownBy_alloc _ _ (some p)), HP.out⟩)
    have HN := Lib.hid (show 1 ≤ n ∧ n ≤ 10 by omega)
    clear hO S2 G2 hown hg2 hs1 G)
  refine (next_calls HD.out.src (by omega)).mono ?_
  rintro e w3 ⟨r, rfl, r0, r1, _, S3, hg3⟩
  obtain ⟨i, rfl⟩ : ∃ i : Nat, r = i := ⟨r.toNat, by omega⟩
  have hi30 : i ≤ 29 := by have := r1 (by omega); omega
  have HD3 := Lib.hid (HD.out.drawn S3 hg3)
  clear S3 hg3 r0 r1 HD
  go_wp2_with fail
  go_loopw [4, 5] (fun vs t wr => ∃ i m k' : Nat, i ≤ 29 ∧ t = .int .i64 i ∧ m + i ≤ 30 ∧ k' + 3 * i ≤ k + 100 ∧ Drawing w p (.slice (some ⟨w1.heap.size, 0, none⟩) n n) n vs m k' wr) (fun _ t _ => (intOf t).toNat)
  case atStart => exact ⟨i, 0, k + 1 + 1, hi30, rfl, by omega, by omega, HD3.out⟩
  case round =>
    clear HD3 hi30
    obtain ⟨q, m, k1, hi29, rfl, hm, hk1, hD⟩ := hrel
    have HD := Lib.hid hD
    clear hD
    by_cases hlt : 0 < q
    · have hlt' : (0 : Int) < (q : Int) := by omega
      go_wp2_with fail
      refine (next_calls HD.out.src (by omega)).mono ?_
      rintro e w4 ⟨x, rfl, x0, x1, _, S4, hg4⟩
      have HD4 := Lib.hid (HD.out.drawn S4 hg4)
      clear S4 hg4 x1 HD
      by_cases e0 : x = 0
      · subst e0
        go_wp2_with fail
        refine (next_calls HD4.out.src (by omega)).mono ?_
        rintro e w5 ⟨y, rfl, y0, y1, _, S5, hg5⟩
        obtain ⟨z, hz⟩ : ∃ z : Nat, (1 : Int) + y = z := ⟨(1 + y).toNat, by omega⟩
        have hz3 : 1 ≤ z ∧ z ≤ 3 := by have := y1 (by omega); omega
        obtain ⟨ps, SP, hO, hR, hup⟩ := (HD4.out.drawn S5 hg5).pages
        have HU := Lib.hid hup
        have HD5 := Lib.hid (HD4.out.drawn S5 hg5)
        clear S5 hg5 y1 HD4 hup
        go_wp2_with fail
        refine (l4Run_calls hO.lst.2.2.2 (by omega) (by omega) (by omega)).mono ?_
        rintro e w' ⟨rfl, rfl⟩
        rcases runAt_in (m := z) (ps := ps) (by omega) with hr | ⟨j, hr, hjn⟩
        · generalize runAt z ps = R at hr ⊢
          have hr' : ¬ (0 : Int) ≤ R := by omega
          go_wp2_with fail
          go_roundw
          case rel => exact ⟨q - 1, m, k1 + 1 + 1, by omega, by go_num, by omega, by omega, HD5.out⟩
          case measure => simp [intOf]; omega
        · rw [hr]
          have hj0 : (0 : Int) ≤ (j : Int) := by omega
          clear hr HD5
          have hj10 : j + z ≤ n := by have := hO.1; omega
          go_wp2_with fail
          refine (l4Take_calls hO (by omega) (by omega) hj10).mono ?_
          rintro e w6 ⟨rfl, hO6, hT6⟩
          have HD6 := Lib.hid (HU.out w6 _ (hO6.mono (fun j hj _ => .inl hj)) hT6 (hR.run hjn))
          clear HU hO6 hT6 hO hR
          obtain ⟨xs, SS, hX, hpush⟩ := HD6.out.push (st := j * 16) (by omega) (.cells (([(j : Int) * 16] : List Int).map (Value.int .i64)).toArray 2)
          have HPU := Lib.hid hpush
          clear hpush HD6
          go_wp2_with (
            at_builtin
            go_must (refine wpList_append_flat (K := KInt) (S' := fun _ => True) rfl (.tmp 48) (.tmp 51) 105 rfl 2 i6 (.int .i64 0) 8 Try.underlying105 hi6 hy0 hy1 hy2 rfl (by decide) flat_int one_int (v := u4) (n := m) (ys := [(j : Int) * 16]) (ao := some ⟨w6.heap.size, 0, none⟩) (m := 1) (c := 1) rfl hX rfl (Ints.lst (Ints.lit rfl rfl)) (by unfold maxLen; omega) (by omega) ?_)
            intro v7 w7 hO7 hT7
            have HD7 := Lib.hid (HPU.out w7 v7 (by first | exact hO7 | simpa using hO7) hT7)
            clear hO7 hT7 HPU hX)
          go_roundw
          case rel => exact ⟨q - 1, m + 1, k1 + 1 + 1, by omega, by go_num, by omega, by omega, HD7.out⟩
          case measure => simp [intOf]; omega
      · by_cases e1 : x = 1
        · subst e1
          obtain ⟨xs, SS, hX, hxs, hup⟩ := HD4.out.starts
          obtain ⟨sa, sc, rfl, hmc, hcm, hXl⟩ := hX.shape
          clear hX hxs hup hXl
          by_cases hm0 : 0 < m
          · have hm0' : (0 : Int) < (m : Int) := by omega
            go_wp2_with fail
            refine (next_calls HD4.out.src (by omega)).mono ?_
            rintro e w5 ⟨y, rfl, y0, y1, _, S5, hg5⟩
            obtain ⟨y, rfl⟩ : ∃ y' : Nat, y = y' := ⟨y.toNat, by omega⟩
            have hy : y < m := by have := y1 (by omega); omega
            have HD5 := Lib.hid (HD4.out.drawn S5 hg5)
            clear S5 hg5 y1 HD4
            obtain ⟨xs, SS, hX, hxs, hup⟩ := HD5.out.starts
            obtain ⟨b, off, rfl, hb, hc⟩ := hX.lst.2.2.2.ints.at_ hy
            obtain ⟨st, hst, hst16⟩ := hxs _ (List.getElem_mem (show y < xs.length by rw [hX.1]; exact hy))
            have hsx : xs.getD y 0 = st := by rw [List.getD_eq_getElem?_getD, List.getElem?_eq_getElem (by rw [hX.1]; exact hy)]; exact hst
            have hc' : w5.cell? ⟨b, off + y, none⟩ = some (.int .i64 st) := by rw [← hsx]; exact hc
            clear hc hsx hst hxs hup hX
            obtain ⟨ps, SP, hO, hR, hup⟩ := HD5.out.pages
            have HU := Lib.hid hup
            clear hup HD5
            go_wp2_with fail
            refine (l4Drop_calls hO (by omega) (by have := hO.1; omega) hR).mono ?_
            rintro e w6 ⟨rfl, hO6, hT6⟩
            have HD6 := Lib.hid (HU.out w6 _ (hO6.mono (fun j hj _ => .inl hj)) hT6 (hR.drop st))
            clear HU hO6 hT6 hO hR
            obtain ⟨xs, SS, hX, hxs, hup⟩ := HD6.out.starts
            have HU := Lib.hid hup
            have HX := Lib.hid hX
            have HXS := Lib.hid hxs
            have HE := Lib.hid (Own.empty (K := KInt) (t := 2) (S := fun j => j = w6.heap.size) (heap_alloc_new w6 (.cells #[] 2)) rfl)
            clear hup hX hxs hc'
            have q1 : IntKind.i64.wrap ((y : Int) + 1) = (y : Int) + 1 := IntWalk.i64_in _ (by unfold maxLen at hcm; omega)
            have q2 : (0 : Int) ≤ (y : Int) + 1 := by omega
            have q3 : ((y : Int) + 1).toNat = y + 1 := by omega
            have q4 : (y : Int) + 1 ≤ (m : Int) := by omega
            have q6 : (y : Int) ≤ (sc : Int) := by omega
            have HT1 : Hid (Lst KInt w6 (fun _ => True) (some ⟨b, off, none⟩) y (xs.take y)) := Lib.hid (by have := (HX.out.lst.2.2.2.part (i := 0) (m := y) (by omega)).mono (S' := fun _ => True) (fun _ _ _ => trivial); simpa using this)
            by_cases hcap : sc = y + 1
            · subst hcap
              obtain rfl : m = y + 1 := by omega
              have q7 : (y : Int) ≤ (y : Int) + 1 := by omega
              have HT2 : Hid (Lst KInt w6 (fun _ => True) (some ⟨b, off, none⟩) 0 (xs.drop (y + 1))) := Lib.hid (by rw [List.drop_eq_nil_of_le (by have := HX.out.1; omega)]; exact Lst.nil)
              go_wp2_with fail
              go_region_law (first
                | (refine step_append_flat (K := KInt) (S' := fun _ => True) rfl (.tmp 68) (.tmp 71) 105 (by rfl) 2 i6 (.int .i64 0) 8 Try.underlying105 hi6 hy0 hy1 hy2 rfl (by decide) flat_int one_int (v := .slice (some ⟨w6.heap.size, 0, none⟩) 0 0) (n := 0) (m := y) (c := (y + 1)) (xs := []) (ys := xs.take y) (ao := some ⟨b, off, none⟩) (by rfl) HE.out.drew (by rfl) (HT1.out.alloc _).drew (by unfold maxLen; omega) (by omega) ?_; intro v7 w7 hO7 hT7; have HA := Lib.hid hO7; have HB := Lib.hid (Turn.below ((Below.refl _ _).alloc (Nat.le_refl _) _) (Turn.undrew hT7) (by simp) (fun j hj => by omega) : Below w6.heap.size w6 w7); have hv7 := Lib.hid hO7.shape; clear hO7 hT7)
                | (refine step_append_flat (K := KInt) (S' := fun _ => True) rfl (.tmp 72) (.tmp 76) 105 (by rfl) 2 i6 (.int .i64 0) 8 Try.underlying105 hi6 hy0 hy1 hy2 rfl (by decide) flat_int one_int (v := v7) (n := 0 + y) (m := 0) (c := 0) (xs := [] ++ xs.take y) (ys := xs.drop (y + 1)) (ao := some ⟨b, off, none⟩) (by rfl) HA.out (by rfl) (HT2.out.below HB.out) (by unfold maxLen; omega) (by omega) ?_; intro v8 w8 hO8 hT8; have HD8 := Lib.hid (HU.out w8 v8 _ _ (hO8.mono (fun j hj _ => .inr (by have := HB.out.size; have := hj; simp at this; omega))) (Turn.of_below (Turn.below HB.out hT8 HB.out.size (fun j hj => by have := hj; simp at this; omega))) (sub_places HXS.out y)); clear hO8 hT8))
              all_goals
                clear HA HB hv7
                go_wp2_with fail
                go_roundw
                case rel => exact ⟨q - 1, _, k1 + 1 + 1, by omega, by go_num, by omega, by omega, HD8.out⟩
                case measure => simp [intOf]; omega
            · have HT2 : Hid (Lst KInt w6 (fun _ => True) (some ⟨b, off + (y + 1), none⟩) (m - (y + 1)) (xs.drop (y + 1))) := Lib.hid (by have := (HX.out.lst.2.2.2.part (i := y + 1) (m := m - (y + 1)) (by omega)).mono (S' := fun _ => True) (fun _ _ _ => trivial); rw [List.take_of_length_le (by rw [List.length_drop, HX.out.1]; exact Nat.le_refl _)] at this; simpa [KInt] using this)
              go_wp2_with fail
              go_region_law (first
                | (refine step_append_flat (K := KInt) (S' := fun _ => True) rfl (.tmp 68) (.tmp 71) 105 (by rfl) 2 i6 (.int .i64 0) 8 Try.underlying105 hi6 hy0 hy1 hy2 rfl (by decide) flat_int one_int (v := .slice (some ⟨w6.heap.size, 0, none⟩) 0 0) (n := 0) (m := y) (c := sc) (xs := []) (ys := xs.take y) (ao := some ⟨b, off, none⟩) (by rfl) HE.out.drew (by rfl) (HT1.out.alloc _).drew (by unfold maxLen; omega) (by omega) ?_; intro v7 w7 hO7 hT7; have HA := Lib.hid hO7; have HB := Lib.hid (Turn.below ((Below.refl _ _).alloc (Nat.le_refl _) _) (Turn.undrew hT7) (by simp) (fun j hj => by omega) : Below w6.heap.size w6 w7); have hv7 := Lib.hid hO7.shape; clear hO7 hT7)
                | (refine step_append_flat (K := KInt) (S' := fun _ => True) rfl (.tmp 72) (.tmp 76) 105 (by rfl) 2 i6 (.int .i64 0) 8 Try.underlying105 hi6 hy0 hy1 hy2 rfl (by decide) flat_int one_int (v := v7) (n := 0 + y) (m := m - (y + 1)) (c := sc - (y + 1)) (xs := [] ++ xs.take y) (ys := xs.drop (y + 1)) (ao := some ⟨b, off + (y + 1), none⟩) (by rfl) HA.out (by rfl) (HT2.out.below HB.out) (by unfold maxLen; omega) (by omega) ?_; intro v8 w8 hO8 hT8; have HD8 := Lib.hid (HU.out w8 v8 _ _ (hO8.mono (fun j hj _ => .inr (by have := HB.out.size; have := hj; simp at this; omega))) (Turn.of_below (Turn.below HB.out hT8 HB.out.size (fun j hj => by have := hj; simp at this; omega))) (sub_places HXS.out y)); clear hO8 hT8))
              all_goals
                clear HA HB hv7
                go_wp2_with fail
                go_roundw
                case rel => exact ⟨q - 1, _, k1 + 1 + 1, by omega, by go_num, by omega, by omega, HD8.out⟩
                case measure => simp [intOf]; omega
          · obtain rfl : m = 0 := by omega
            go_wp2_with fail
            go_roundw
            case rel => exact ⟨q - 1, 0, k1 + 1, by omega, by go_num, by omega, by omega, HD4.out⟩
            case measure => simp [intOf]; omega
        · have e0' : (x == 0) = false := by simpa using e0
          have e1' : (x == 1) = false := by simpa using e1
          clear x0
          go_wp2_with fail
          refine (next_calls HD4.out.src (by omega)).mono ?_
          rintro e w5 ⟨y, rfl, y0, y1, _, S5, hg5⟩
          have y3 : y ≤ 3 := by have := y1 (by omega); omega
          have HD5 := Lib.hid (HD4.out.drawn S5 hg5)
          clear S5 hg5 y1 HD4
          go_wp2_with fail
          obtain ⟨ps, SP, hO, hR, hup⟩ := HD5.out.pages
          refine (l4Slot_calls hO (fun p hp => Nat.le_trans (hR.short p hp) (by omega)) (by omega) y0 y3).mono ?_
          rintro e w6 ⟨rfl, hO6, hT6⟩
          have HD6 := Lib.hid (hup w6 _ hO6 hT6 (hR.slotPut y0 y3))
          rcases slotAt_in hR y0 y3 with hr | ⟨st, hr, hst⟩
          · generalize slotAt ps y = R at hr ⊢
            have hr' : ¬ (0 : Int) ≤ R := by omega
            clear hup hO hR hO6 hT6 HD5
            go_wp2_with fail
            go_roundw
            case rel => exact ⟨q - 1, m, k1 + 1 + 1, by omega, by go_num, by omega, by omega, HD6.out⟩
            case measure => simp [intOf]; omega
          · rw [hr]
            have hj0 : (0 : Int) ≤ (st : Int) := by omega
            have hst10 : st < 16 * n := by have := hO.1; omega
            clear hr hup hO hR hO6 hT6 HD5 hst
            obtain ⟨xs, SS, hX, hpush⟩ := HD6.out.push (st := st) (by omega) (.cells (([(st : Int)] : List Int).map (Value.int .i64)).toArray 2)
            have HPU := Lib.hid hpush
            clear hpush HD6
            go_wp2_with (
              at_builtin
              go_must (refine wpList_append_flat (K := KInt) (S' := fun _ => True) rfl (.tmp 30) (.tmp 32) 105 rfl 2 i6 (.int .i64 0) 8 Try.underlying105 hi6 hy0 hy1 hy2 rfl (by decide) flat_int one_int (v := u4) (n := m) (ys := [(st : Int)]) (ao := some ⟨w6.heap.size, 0, none⟩) (m := 1) (c := 1) rfl hX rfl (Ints.lst (Ints.lit rfl rfl)) (by unfold maxLen; omega) (by omega) ?_)
              intro v7 w7 hO7 hT7
              have HD7 := Lib.hid (HPU.out w7 v7 (by first | exact hO7 | simpa using hO7) hT7)
              clear hO7 hT7 HPU hX)
            go_roundw
            case rel => exact ⟨q - 1, m + 1, k1 + 1 + 1, by omega, by go_num, by omega, by omega, HD7.out⟩
            case measure => simp [intOf]; omega
    · have hlt' : ¬ (0 : Int) < (q : Int) := by omega
      obtain rfl : q = 0 := by omega
      obtain ⟨ps, SP, hO, hR, hup⟩ := HD.out.pages
      have F : Hid (DrawnMade w p k 10 Rough (.returned (.slice (some ⟨w1.heap.size, 0, none⟩) n n)) wr) := by
        obtain ⟨ps, xs, SP, SS, h1, h2, h3, h4, h5, h6, h7, h8, h9⟩ := HD.out
        exact ⟨_, n, ps, k1, rfl, h1.mono (fun j hj _ => h3 j hj), HN.out.1, HN.out.2, h5, h7, by omega, h8⟩
      clear hO hR hup HD
      go_wp2_with fail
      go_ret
      exact F.out
end Go.Proofs.Ytkikjoalhohlgaa
