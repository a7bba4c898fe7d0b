/- Joined texts (Draw4, Spec5h, Spec5i, Spec5j, Heap6, Spec6, Spec6b, Spec6c, Spec6m, Law6m): steps of the proofs of chapter 5's laws. -/
import Derived.IntWalk
import Derived.Deep.RegionLaw
import Derived.Deep.RegionHeld3
import Derived.Test.YthpamclljdcjpaaGreatDoorM4
import Derived.Test.YthpamclljdcjpaaGreatDoorM6
import Derived.Test.YthpamclljdcjpaaGreatDoorM8
import Derived.Test.YthpamclljdcjpaaGreatDoorM10
import Derived.Test.YthpamclljdcjpaaGreatDoorM12
set_option linter.unusedVariables false
set_option linter.unusedSimpArgs false
/- The draws of chapter 4: pages in which some was taken and dropped. -/
namespace Go.Proofs.YthpamclljdcjpaaGreatDoor
open Go.RowKit

theorem l4Drop_calls {v : Value} {n st : Nat} {ps : List Pg} {S : Nat → Prop} {w : World} (hT : Own KPage 137 w S v n ps) (hn : n ≤ 17592186044416) (hst : st < 16 * n) (hR : Rough ps) :
    Calls Tryz.prog 163 #[v, .int .i64 st] w fun e w' => e = .returned (.tuple #[]) ∧ Own KPage 137 w' S v n (dropAt ps st) ∧ Turn S w w' := by
  have hl := hT.1
  have hk : st / 16 < ps.length := by omega
  have hp := List.getElem?_eq_getElem hk
  obtain ⟨_, h1, h2⟩ := hR _ _ hp
  by_cases hk1 : (ps[st / 16]).kind = 1
  · obtain ⟨c0, c3, hu⟩ := h1 hk1
    exact l4Drop_slab hT hn hst hp hk1 c0 c3 hu
  · obtain ⟨m, hr, hm⟩ := h2 hk1
    exact l4Drop_run hT hn hst hp (by simp [hk1]) hr (by omega)

/-- What draws of pages leave: pages of the call's own, the source further. -/
def DrawnPages (w : World) (p k : Nat) (m : Nat) (Q : List Pg → Prop) (e : Ending) (w' : World) : Prop :=
  ∃ v n ps k', e = .returned v ∧ Own KPage 137 w' (fun j => w.heap.size ≤ j) v n ps ∧ 1 ≤ n ∧ n ≤ m ∧ Q ps ∧ Src w' p k' ∧ k' ≤ k + 200 ∧ w.grownBy w' (some p)

/-- The same, the row full. -/
def DrawnMade (w : World) (p k : Nat) (m : Nat) (Q : List Pg → Prop) (e : Ending) (w' : World) : Prop :=
  ∃ g n ps k', e = .returned (.slice (some ⟨g, 0, none⟩) n n) ∧ Own KPage 137 w' (fun j => w.heap.size ≤ j) (.slice (some ⟨g, 0, none⟩) n n) n ps ∧ 1 ≤ n ∧ n ≤ m ∧ Q ps ∧ Src w' p k' ∧ k' ≤ k + 150 ∧ w.grownBy w' (some p)

/-- The source is kept where later blocks alone turn. -/
theorem Src.turn {w w' : World} {p k : Nat} {T : Nat → Prop} (h : Src w p k) (ht : Turn T w w') (hd : ∀ j, T j → p < j) : Src w' p k := by
  obtain ⟨ao, n, c, bs, h1, h2, h3, h4⟩ := h
  refine ⟨ao, n, c, bs, ht.row h1 (fun hx => by have := hd _ hx; omega), ⟨h2.1, fun h0 => ?_⟩, h3, h4⟩
  obtain ⟨b, off, rfl, hlt, hc⟩ := h2.2 h0
  have hb := h4 _ rfl h0
  refine ⟨b, off, rfl, Nat.lt_of_lt_of_le hlt ht.size, fun j hj => ?_⟩
  rw [World.cell?_of_block (w := w) (a := ⟨b, off + j, none⟩) (ht.block b hlt (fun hx => by have := hd _ hx; simp at hb; omega))]
  exact hc j hj
theorem Turn.of_some {w w' : World} {p : Nat} (h : w.grownBy w' (some p)) : Turn (fun j => j = p) w w' := ⟨h.os, h.tape, h.output, h.size, fun k hk hn => h.block k hk (by simp; omega)⟩
theorem grown_turn {w w1 w2 : World} {p : Nat} {T : Nat → Prop} (h : w.grownBy w1 (some p)) (ht : Turn T w1 w2) (hd : ∀ j, T j → w.heap.size ≤ j) : w.grownBy w2 (some p) :=
  ⟨ht.os.trans h.os, ht.tape.trans h.tape, ht.output.trans h.output, Nat.le_trans h.size ht.size, fun i hi hne => (ht.block i (Nat.lt_of_lt_of_le hi h.size) (fun hx => by have := hd _ hx; omega)).trans (h.block i hi hne)⟩

/-- Pages and places while they are drawn. -/
def Drawing (w : World) (p : Nat) (v : Value) (n : Nat) (vs : Value) (m k : Nat) (W : World) : Prop :=
  ∃ ps xs, ∃ SP SS : Nat → Prop, Own KPage 137 W SP v n ps ∧ Own KInt 2 W SS vs m xs ∧ (∀ j, SP j → w.heap.size ≤ j) ∧ (∀ j, SS j → w.heap.size ≤ j ∧ ¬ SP j) ∧
    Rough ps ∧ (∀ x ∈ xs, ∃ st : Nat, x = st ∧ st < 16 * n) ∧ Src W p k ∧ w.grownBy W (some p) ∧ p < w.heap.size
section
variable {w W W' : World} {p n m k : Nat} {v vs : Value}
theorem Drawing.drawn (h : Drawing w p v n vs m k W) (hs : Src W' p (k + 1)) (hg : W.grownBy W' (some p)) : Drawing w p v n vs m (k + 1) W' := by
  obtain ⟨ps, xs, SP, SS, h1, h2, h3, h4, h5, h6, h7, h8, h9⟩ := h
  have T := Turn.of_some hg
  exact ⟨ps, xs, SP, SS, h1.turn T (fun j hj _ e => by have := h3 j hj; omega), h2.turn T (fun j hj _ e => by have := (h4 j hj).1; omega), h3, h4, h5, h6, hs, grown_trans h8 hg, h9⟩
theorem Drawing.src (h : Drawing w p v n vs m k W) : Src W p k := by obtain ⟨_, _, _, _, _, _, _, _, _, _, h7, _⟩ := h; exact h7
theorem Drawing.alloc (h : Drawing w p v n vs m k W) (o : Obj) : Drawing w p v n vs m k (W.alloc o) := by
  obtain ⟨ps, xs, SP, SS, h1, h2, h3, h4, h5, h6, h7, h8, h9⟩ := h
  exact ⟨ps, xs, SP, SS, h1.alloc o, h2.alloc o, h3, h4, h5, h6, h7.below ((Below.refl _ _).alloc (Nat.le_refl _) _), grown_trans h8 (World.grownBy_alloc _ _ (some p)), h9⟩
/-- The pages turn. -/
theorem Drawing.pages (h : Drawing w p v n vs m k W) : ∃ ps, ∃ SP : Nat → Prop, Own KPage 137 W SP v n ps ∧ Rough ps ∧
    ∀ W' ps', Own KPage 137 W' (fun j => SP j ∨ W.heap.size ≤ j) v n ps' → Turn SP W W' → Rough ps' → Drawing w p v n vs m k W' := by
  obtain ⟨ps, xs, SP, SS, h1, h2, h3, h4, h5, h6, h7, h8, h9⟩ := h
  refine ⟨ps, SP, h1, h5, fun W' ps' ho ht hr => ⟨ps', xs, _, _, ho, h2.here.turn ht (fun j hj _ hx => (h4 j hj.1).2 hx), ?_, ?_, hr, h6, h7.turn ht (fun j hj => by have := h3 j hj; omega), grown_turn h8 ht h3, h9⟩⟩
  · rintro j (hj | hj)
    · exact h3 j hj
    · have := h8.size; omega
  · rintro j ⟨hj, hlt⟩
    refine ⟨(h4 j hj).1, fun hx => ?_⟩
    rcases hx with hx | hx
    · exact (h4 j hj).2 hx
    · omega
/-- The places turn. -/
theorem Drawing.starts (h : Drawing w p v n vs m k W) : ∃ xs, ∃ SS : Nat → Prop, Own KInt 2 W SS vs m xs ∧ (∀ x ∈ xs, ∃ st : Nat, x = st ∧ st < 16 * n) ∧
    ∀ W' vs' m' xs', Own KInt 2 W' (fun j => SS j ∨ W.heap.size ≤ j) vs' m' xs' → Turn SS W W' → (∀ x ∈ xs', ∃ st : Nat, x = st ∧ st < 16 * n) → Drawing w p v n vs' m' k W' := by
  obtain ⟨ps, xs, SP, SS, h1, h2, h3, h4, h5, h6, h7, h8, h9⟩ := h
  refine ⟨xs, SS, h2, h6, fun W' vs' m' xs' ho ht hr => ⟨ps, xs', _, _, h1.here.turn ht (fun j hj _ hx => (h4 j hx).2 hj.1), ho, fun j hj => h3 j hj.1, ?_, h5, hr, h7.turn ht (fun j hj => by have := (h4 j hj).1; omega), grown_turn h8 ht (fun j hj => (h4 j hj).1), h9⟩⟩
  rintro j (hj | hj)
  · exact ⟨(h4 j hj).1, fun hx => (h4 j hj).2 hx.1⟩
  · refine ⟨by have := h8.size; omega, fun hx => ?_⟩
    omega
end

/-- One place more. -/
theorem Drawing.push {w W : World} {p n m k st : Nat} {v vs : Value} (h : Drawing w p v n vs m k W) (hst : st < 16 * n) (o : Obj) : ∃ xs, ∃ SS : Nat → Prop, Own KInt 2 (W.alloc o) SS vs m xs ∧
    ∀ W' vs', Own KInt 2 W' (fun j => SS j ∨ (W.alloc o).heap.size ≤ j) vs' (m + 1) (xs ++ [(st : Int)]) → Turn SS (W.alloc o) W' → Drawing w p v n vs' (m + 1) k W' := by
  obtain ⟨xs, SS, h1, h2, h3⟩ := (h.alloc o).starts
  refine ⟨xs, SS, h1, fun W' vs' ho ht => h3 W' vs' (m + 1) _ ho ht fun x hx => ?_⟩
  rcases List.mem_append.1 hx with hx | hx
  · exact h2 x hx
  · simp at hx; exact ⟨st, hx, hst⟩

theorem sub_places {xs : List Int} {n : Nat} (h : ∀ x ∈ xs, ∃ st : Nat, x = st ∧ st < 16 * n) (y : Nat) : ∀ x ∈ ([] : List Int) ++ xs.take y ++ xs.drop (y + 1), ∃ st : Nat, x = st ∧ st < 16 * n := fun x hx => by
  rcases List.mem_append.1 hx with hx | hx
  · exact h x (List.mem_of_mem_take (by simpa using hx))
  · exact h x (List.mem_of_mem_drop hx)

set_option maxRecDepth 100000 in
set_option maxHeartbeats 2000000 in
theorem l4Draw_calls {p k : Nat} {w : World} (hs : Src w p k) (hk : k ≤ 1000000) :
    Calls Tryz.prog 174 #[.pointer (some ⟨p, 0, none⟩)] w (DrawnMade w p k 10 Rough) := by
  have hinfo : (Tryz.prog.info? 137).map (fun i => (i.zero, i.size, i.bytes)) = some (some (.agg #[.int .i64 0, .int .i64 0, .slice none 0 0, .int .i64 0]), 4, 48) := by kernel_rfl
  obtain ⟨i0, hi, hz0, hz1, hz2⟩ := info_parts hinfo
  obtain ⟨i6, hi6, hy0, hy1, hy2⟩ := info_parts info64
  have HP := Lib.hid hs.lt
  go_enter Tryz.func174, Tryz.ntmps174
  go_wp2_with fail
  refine (pick_calls (hs.below ((Below.refl _ _).alloc (Nat.le_refl _) _)) (by omega) (Ints.lit (n := 4) (xs := [1, 3, 6, 10]) (by simp) rfl) (by omega) (by omega) (by have := HP.out; simp; omega)).mono ?_
  rintro e w1 ⟨r, rfl, hr, hs1, hg1⟩
  have hr1 : 1 ≤ r ∧ r ≤ 10 := by simp at hr; omega
  obtain ⟨n, rfl⟩ : ∃ n : Nat, r = n := ⟨r.toNat, by omega⟩
  have G := grown_trans (World.grownBy_alloc w _ (some p)) hg1
  clear hr hg1
  go_wp2_with (
    at_make
    go_must (refine wpList_make_full _ rfl _ _ 24 rfl w1.heap.size 137 i0 (.agg #[.int .i64 0, .int .i64 0, .slice none 0 0, .int .i64 0]) 4 Tryz.underlying24 hi hz0 hz1 _ _ _ _ n rfl rfl rfl rfl (by rw [hz2]; omega) (by unfold maxLen; omega) (Nat.le_refl _) ?_)
    intro w2 hown hg2
    have hO : Own KPage 137 w2 (fun j => w1.heap.size = j) (.slice (some ⟨w1.heap.size, 0, none⟩) n n) n (List.replicate n Pg.free) := Own.of_made (K := KPage) (z := .agg #[.int .i64 0, .int .i64 0, .slice none 0 0, .int .i64 0]) hown rfl rfl (KPage_own_mk (p := Pg.free) Own.nil)
    have S2 : Src w2 p (k + 1) := hs1.below ((Below.refl _ _).grown hg2 (Nat.le_refl _) (by simp))
    have G2 : w.grownBy w2 (some p) := grown_trans G ⟨hg2.os, hg2.tape, hg2.output, hg2.size, fun i hi _ => hg2.block i hi (by simp)⟩
    have hz2' := hg2.size
    have hs2 : w1.heap.size < w2.heap.size := (hO.lst.2.2.2.lt (by omega)).elim fun b ⟨off, hb, hlt, he⟩ => by have := he; omega
    have hG1 := G.size
    have HD := Lib.hid (show Drawing w p (.slice (some ⟨w1.heap.size, 0, none⟩) n n) n (.slice (some ⟨w2.heap.size, 0, none⟩) 0 0) 0 (k + 1) (w2.alloc (.cells #[] 2)) from
      ⟨_, [], _, (fun j => j = w2.heap.size), hO.alloc _, Own.empty (heap_alloc_new w2 _) rfl, (fun j hj => by omega), (fun j hj => ⟨by omega, by omega⟩), Rough.free n, (fun x hx => by simp at hx), S2.below ((Below.refl _ _).alloc (Nat.le_refl _) _), grown_trans G2 (World.grownBy_alloc _ _ (some p)), HP.out⟩)
    have HN := Lib.hid (show 1 ≤ n ∧ n ≤ 10 by omega)
    clear hO S2 G2 hown hg2 hs1 G)
  refine (next_calls HD.out.src (by omega)).mono ?_
  rintro e w3 ⟨r, rfl, r0, r1, _, S3, hg3⟩
  obtain ⟨i, rfl⟩ : ∃ i : Nat, r = i := ⟨r.toNat, by omega⟩
  have hi30 : i ≤ 29 := by have := r1 (by omega); omega
  have HD3 := Lib.hid (HD.out.drawn S3 hg3)
  clear S3 hg3 r0 r1 HD
  go_wp2_with fail
  go_loopw [4, 5] (fun vs t wr => ∃ i m k' : Nat, i ≤ 29 ∧ t = .int .i64 i ∧ m + i ≤ 30 ∧ k' + 3 * i ≤ k + 100 ∧ Drawing w p (.slice (some ⟨w1.heap.size, 0, none⟩) n n) n vs m k' wr) (fun _ t _ => (intOf t).toNat)
  case atStart => exact ⟨i, 0, k + 1 + 1, hi30, rfl, by omega, by omega, HD3.out⟩
  case round =>
    clear HD3 hi30
    obtain ⟨q, m, k1, hi29, rfl, hm, hk1, hD⟩ := hrel
    have HD := Lib.hid hD
    clear hD
    by_cases hlt : 0 < q
    · have hlt' : (0 : Int) < (q : Int) := by omega
      go_wp2_with fail
      refine (next_calls HD.out.src (by omega)).mono ?_
      rintro e w4 ⟨x, rfl, x0, x1, _, S4, hg4⟩
      have HD4 := Lib.hid (HD.out.drawn S4 hg4)
      clear S4 hg4 x1 HD
      by_cases e0 : x = 0
      · subst e0
        go_wp2_with fail
        refine (next_calls HD4.out.src (by omega)).mono ?_
        rintro e w5 ⟨y, rfl, y0, y1, _, S5, hg5⟩
        obtain ⟨z, hz⟩ : ∃ z : Nat, (1 : Int) + y = z := ⟨(1 + y).toNat, by omega⟩
        have hz3 : 1 ≤ z ∧ z ≤ 3 := by have := y1 (by omega); omega
        obtain ⟨ps, SP, hO, hR, hup⟩ := (HD4.out.drawn S5 hg5).pages
        have HU := Lib.hid hup
        have HD5 := Lib.hid (HD4.out.drawn S5 hg5)
        clear S5 hg5 y1 HD4 hup
        go_wp2_with fail
        refine (l4Run_calls hO.lst.2.2.2 (by omega) (by omega) (by omega)).mono ?_
        rintro e w' ⟨rfl, rfl⟩
        rcases runAt_in (m := z) (ps := ps) (by omega) with hr | ⟨j, hr, hjn⟩
        · generalize runAt z ps = R at hr ⊢
          have hr' : ¬ (0 : Int) ≤ R := by omega
          go_wp2_with fail
          go_roundw
          case rel => exact ⟨q - 1, m, k1 + 1 + 1, by omega, by go_num, by omega, by omega, HD5.out⟩
          case measure => simp [intOf]; omega
        · rw [hr]
          have hj0 : (0 : Int) ≤ (j : Int) := by omega
          clear hr HD5
          have hj10 : j + z ≤ n := by have := hO.1; omega
          go_wp2_with fail
          refine (l4Take_calls hO (by omega) (by omega) hj10).mono ?_
          rintro e w6 ⟨rfl, hO6, hT6⟩
          have HD6 := Lib.hid (HU.out w6 _ (hO6.mono (fun j hj _ => .inl hj)) hT6 (hR.run hjn))
          clear HU hO6 hT6 hO hR
          obtain ⟨xs, SS, hX, hpush⟩ := HD6.out.push (st := j * 16) (by omega) (.cells (([(j : Int) * 16] : List Int).map (Value.int .i64)).toArray 2)
          have HPU := Lib.hid hpush
          clear hpush HD6
          go_wp2_with (
            at_builtin
            go_must (refine wpList_append_flat (K := KInt) (S' := fun _ => True) rfl (.tmp 48) (.tmp 51) 25 rfl 2 i6 (.int .i64 0) 8 Tryz.underlying25 hi6 hy0 hy1 hy2 rfl (by decide) flat_int one_int (v := u4) (n := m) (ys := [(j : Int) * 16]) (ao := some ⟨w6.heap.size, 0, none⟩) (m := 1) (c := 1) rfl hX rfl (Ints.lst (Ints.lit rfl rfl)) (by unfold maxLen; omega) (by omega) ?_)
            intro v7 w7 hO7 hT7
            have HD7 := Lib.hid (HPU.out w7 v7 (by first | exact hO7 | simpa using hO7) hT7)
            clear hO7 hT7 HPU hX)
          go_roundw
          case rel => exact ⟨q - 1, m + 1, k1 + 1 + 1, by omega, by go_num, by omega, by omega, HD7.out⟩
          case measure => simp [intOf]; omega
      · by_cases e1 : x = 1
        · subst e1
          obtain ⟨xs, SS, hX, hxs, hup⟩ := HD4.out.starts
          obtain ⟨sa, sc, rfl, hmc, hcm, hXl⟩ := hX.shape
          clear hX hxs hup hXl
          by_cases hm0 : 0 < m
          · have hm0' : (0 : Int) < (m : Int) := by omega
            go_wp2_with fail
            refine (next_calls HD4.out.src (by omega)).mono ?_
            rintro e w5 ⟨y, rfl, y0, y1, _, S5, hg5⟩
            obtain ⟨y, rfl⟩ : ∃ y' : Nat, y = y' := ⟨y.toNat, by omega⟩
            have hy : y < m := by have := y1 (by omega); omega
            have HD5 := Lib.hid (HD4.out.drawn S5 hg5)
            clear S5 hg5 y1 HD4
            obtain ⟨xs, SS, hX, hxs, hup⟩ := HD5.out.starts
            obtain ⟨b, off, rfl, hb, hc⟩ := hX.lst.2.2.2.ints.at_ hy
            obtain ⟨st, hst, hst16⟩ := hxs _ (List.getElem_mem (show y < xs.length by rw [hX.1]; exact hy))
            have hsx : xs.getD y 0 = st := by rw [List.getD_eq_getElem?_getD, List.getElem?_eq_getElem (by rw [hX.1]; exact hy)]; exact hst
            have hc' : w5.cell? ⟨b, off + y, none⟩ = some (.int .i64 st) := by rw [← hsx]; exact hc
            clear hc hsx hst hxs hup hX
            obtain ⟨ps, SP, hO, hR, hup⟩ := HD5.out.pages
            have HU := Lib.hid hup
            clear hup HD5
            go_wp2_with fail
            refine (l4Drop_calls hO (by omega) (by have := hO.1; omega) hR).mono ?_
            rintro e w6 ⟨rfl, hO6, hT6⟩
            have HD6 := Lib.hid (HU.out w6 _ (hO6.mono (fun j hj _ => .inl hj)) hT6 (hR.drop st))
            clear HU hO6 hT6 hO hR
            obtain ⟨xs, SS, hX, hxs, hup⟩ := HD6.out.starts
            have HU := Lib.hid hup
            have HX := Lib.hid hX
            have HXS := Lib.hid hxs
            have HE := Lib.hid (Own.empty (K := KInt) (t := 2) (S := fun j => j = w6.heap.size) (heap_alloc_new w6 (.cells #[] 2)) rfl)
            clear hup hX hxs hc'
            have q1 : IntKind.i64.wrap ((y : Int) + 1) = (y : Int) + 1 := IntWalk.i64_in _ (by unfold maxLen at hcm; omega)
            have q2 : (0 : Int) ≤ (y : Int) + 1 := by omega
            have q3 : ((y : Int) + 1).toNat = y + 1 := by omega
            have q4 : (y : Int) + 1 ≤ (m : Int) := by omega
            have q6 : (y : Int) ≤ (sc : Int) := by omega
            have HT1 : Hid (Lst KInt w6 (fun _ => True) (some ⟨b, off, none⟩) y (xs.take y)) := Lib.hid (by have := (HX.out.lst.2.2.2.part (i := 0) (m := y) (by omega)).mono (S' := fun _ => True) (fun _ _ _ => trivial); simpa using this)
            by_cases hcap : sc = y + 1
            · subst hcap
              obtain rfl : m = y + 1 := by omega
              have q7 : (y : Int) ≤ (y : Int) + 1 := by omega
              have HT2 : Hid (Lst KInt w6 (fun _ => True) (some ⟨b, off, none⟩) 0 (xs.drop (y + 1))) := Lib.hid (by rw [List.drop_eq_nil_of_le (by have := HX.out.1; omega)]; exact Lst.nil)
              go_wp2_with fail
              go_region_law (first
                | (refine step_append_flat (K := KInt) (S' := fun _ => True) rfl (.tmp 68) (.tmp 71) 25 (by rfl) 2 i6 (.int .i64 0) 8 Tryz.underlying25 hi6 hy0 hy1 hy2 rfl (by decide) flat_int one_int (v := .slice (some ⟨w6.heap.size, 0, none⟩) 0 0) (n := 0) (m := y) (c := (y + 1)) (xs := []) (ys := xs.take y) (ao := some ⟨b, off, none⟩) (by rfl) HE.out.drew (by rfl) (HT1.out.alloc _).drew (by unfold maxLen; omega) (by omega) ?_; intro v7 w7 hO7 hT7; have HA := Lib.hid hO7; have HB := Lib.hid (Turn.below ((Below.refl _ _).alloc (Nat.le_refl _) _) (Turn.undrew hT7) (by simp) (fun j hj => by omega) : Below w6.heap.size w6 w7); have hv7 := Lib.hid hO7.shape; clear hO7 hT7)
                | (refine step_append_flat (K := KInt) (S' := fun _ => True) rfl (.tmp 72) (.tmp 76) 25 (by rfl) 2 i6 (.int .i64 0) 8 Tryz.underlying25 hi6 hy0 hy1 hy2 rfl (by decide) flat_int one_int (v := v7) (n := 0 + y) (m := 0) (c := 0) (xs := [] ++ xs.take y) (ys := xs.drop (y + 1)) (ao := some ⟨b, off, none⟩) (by rfl) HA.out (by rfl) (HT2.out.below HB.out) (by unfold maxLen; omega) (by omega) ?_; intro v8 w8 hO8 hT8; have HD8 := Lib.hid (HU.out w8 v8 _ _ (hO8.mono (fun j hj _ => .inr (by have := HB.out.size; have := hj; simp at this; omega))) (Turn.of_below (Turn.below HB.out hT8 HB.out.size (fun j hj => by have := hj; simp at this; omega))) (sub_places HXS.out y)); clear hO8 hT8))
              all_goals
                clear HA HB hv7
                go_wp2_with fail
                go_roundw
                case rel => exact ⟨q - 1, _, k1 + 1 + 1, by omega, by go_num, by omega, by omega, HD8.out⟩
                case measure => simp [intOf]; omega
            · have HT2 : Hid (Lst KInt w6 (fun _ => True) (some ⟨b, off + (y + 1), none⟩) (m - (y + 1)) (xs.drop (y + 1))) := Lib.hid (by have := (HX.out.lst.2.2.2.part (i := y + 1) (m := m - (y + 1)) (by omega)).mono (S' := fun _ => True) (fun _ _ _ => trivial); rw [List.take_of_length_le (by rw [List.length_drop, HX.out.1]; exact Nat.le_refl _)] at this; simpa [KInt] using this)
              go_wp2_with fail
              go_region_law (first
                | (refine step_append_flat (K := KInt) (S' := fun _ => True) rfl (.tmp 68) (.tmp 71) 25 (by rfl) 2 i6 (.int .i64 0) 8 Tryz.underlying25 hi6 hy0 hy1 hy2 rfl (by decide) flat_int one_int (v := .slice (some ⟨w6.heap.size, 0, none⟩) 0 0) (n := 0) (m := y) (c := sc) (xs := []) (ys := xs.take y) (ao := some ⟨b, off, none⟩) (by rfl) HE.out.drew (by rfl) (HT1.out.alloc _).drew (by unfold maxLen; omega) (by omega) ?_; intro v7 w7 hO7 hT7; have HA := Lib.hid hO7; have HB := Lib.hid (Turn.below ((Below.refl _ _).alloc (Nat.le_refl _) _) (Turn.undrew hT7) (by simp) (fun j hj => by omega) : Below w6.heap.size w6 w7); have hv7 := Lib.hid hO7.shape; clear hO7 hT7)
                | (refine step_append_flat (K := KInt) (S' := fun _ => True) rfl (.tmp 72) (.tmp 76) 25 (by rfl) 2 i6 (.int .i64 0) 8 Tryz.underlying25 hi6 hy0 hy1 hy2 rfl (by decide) flat_int one_int (v := v7) (n := 0 + y) (m := m - (y + 1)) (c := sc - (y + 1)) (xs := [] ++ xs.take y) (ys := xs.drop (y + 1)) (ao := some ⟨b, off + (y + 1), none⟩) (by rfl) HA.out (by rfl) (HT2.out.below HB.out) (by unfold maxLen; omega) (by omega) ?_; intro v8 w8 hO8 hT8; have HD8 := Lib.hid (HU.out w8 v8 _ _ (hO8.mono (fun j hj _ => .inr (by have := HB.out.size; have := hj; simp at this; omega))) (Turn.of_below (Turn.below HB.out hT8 HB.out.size (fun j hj => by have := hj; simp at this; omega))) (sub_places HXS.out y)); clear hO8 hT8))
              all_goals
                clear HA HB hv7
                go_wp2_with fail
                go_roundw
                case rel => exact ⟨q - 1, _, k1 + 1 + 1, by omega, by go_num, by omega, by omega, HD8.out⟩
                case measure => simp [intOf]; omega
          · obtain rfl : m = 0 := by omega
            go_wp2_with fail
            go_roundw
            case rel => exact ⟨q - 1, 0, k1 + 1, by omega, by go_num, by omega, by omega, HD4.out⟩
            case measure => simp [intOf]; omega
        · have e0' : (x == 0) = false := by simpa using e0
          have e1' : (x == 1) = false := by simpa using e1
          clear x0
          go_wp2_with fail
          refine (next_calls HD4.out.src (by omega)).mono ?_
          rintro e w5 ⟨y, rfl, y0, y1, _, S5, hg5⟩
          have y3 : y ≤ 3 := by have := y1 (by omega); omega
          have HD5 := Lib.hid (HD4.out.drawn S5 hg5)
          clear S5 hg5 y1 HD4
          go_wp2_with fail
          obtain ⟨ps, SP, hO, hR, hup⟩ := HD5.out.pages
          refine (l4Slot_calls hO (fun p hp => Nat.le_trans (hR.short p hp) (by omega)) (by omega) y0 y3).mono ?_
          rintro e w6 ⟨rfl, hO6, hT6⟩
          have HD6 := Lib.hid (hup w6 _ hO6 hT6 (hR.slotPut y0 y3))
          rcases slotAt_in hR y0 y3 with hr | ⟨st, hr, hst⟩
          · generalize slotAt ps y = R at hr ⊢
            have hr' : ¬ (0 : Int) ≤ R := by omega
            clear hup hO hR hO6 hT6 HD5
            go_wp2_with fail
            go_roundw
            case rel => exact ⟨q - 1, m, k1 + 1 + 1, by omega, by go_num, by omega, by omega, HD6.out⟩
            case measure => simp [intOf]; omega
          · rw [hr]
            have hj0 : (0 : Int) ≤ (st : Int) := by omega
            have hst10 : st < 16 * n := by have := hO.1; omega
            clear hr hup hO hR hO6 hT6 HD5 hst
            obtain ⟨xs, SS, hX, hpush⟩ := HD6.out.push (st := st) (by omega) (.cells (([(st : Int)] : List Int).map (Value.int .i64)).toArray 2)
            have HPU := Lib.hid hpush
            clear hpush HD6
            go_wp2_with (
              at_builtin
              go_must (refine wpList_append_flat (K := KInt) (S' := fun _ => True) rfl (.tmp 30) (.tmp 32) 25 rfl 2 i6 (.int .i64 0) 8 Tryz.underlying25 hi6 hy0 hy1 hy2 rfl (by decide) flat_int one_int (v := u4) (n := m) (ys := [(st : Int)]) (ao := some ⟨w6.heap.size, 0, none⟩) (m := 1) (c := 1) rfl hX rfl (Ints.lst (Ints.lit rfl rfl)) (by unfold maxLen; omega) (by omega) ?_)
              intro v7 w7 hO7 hT7
              have HD7 := Lib.hid (HPU.out w7 v7 (by first | exact hO7 | simpa using hO7) hT7)
              clear hO7 hT7 HPU hX)
            go_roundw
            case rel => exact ⟨q - 1, m + 1, k1 + 1 + 1, by omega, by go_num, by omega, by omega, HD7.out⟩
            case measure => simp [intOf]; omega
    · have hlt' : ¬ (0 : Int) < (q : Int) := by omega
      obtain rfl : q = 0 := by omega
      obtain ⟨ps, SP, hO, hR, hup⟩ := HD.out.pages
      have F : Hid (DrawnMade w p k 10 Rough (.returned (.slice (some ⟨w1.heap.size, 0, none⟩) n n)) wr) := by
        obtain ⟨ps, xs, SP, SS, h1, h2, h3, h4, h5, h6, h7, h8, h9⟩ := HD.out
        exact ⟨_, n, ps, k1, rfl, h1.mono (fun j hj _ => h3 j hj), HN.out.1, HN.out.2, h5, h7, by omega, h8⟩
      clear hO hR hup HD
      go_wp2_with fail
      go_ret
      exact F.out
end Go.Proofs.YthpamclljdcjpaaGreatDoor

/- Chapter 5 of the model: what is kept at hand is dropped, free pages are swept. -/
namespace Go.Proofs.YthpamclljdcjpaaGreatDoor
open Go.RowKit

theorem rough_of {ps : List Pg} (hv : pagesFault ps = 0) : Rough ps := fun k p hp => by
  have hk := (List.getElem?_eq_some_iff.1 hp).1
  have hpf := ok_page hv hp
  refine ⟨pageFault_slots hpf, fun h1 => ?_, fun h1 => ?_⟩
  · rcases pageFault_ok hpf with h | h | h
    · exact ⟨h.2.1, h.2.2.1, h.2.2.2.2.1⟩
    · omega
    · omega
  · rcases pageFault_ok hpf with h | h | h
    · exact absurd h.1 h1
    · refine ⟨p.run.toNat, by omega, ?_⟩
      have := run_fits hv hp h.1
      omega
    · exact ⟨0, by omega, by omega⟩

theorem HpAt.mono {w : World} {S S' : Nat → Prop} {b : Nat} {h : Hp} (ha : HpAt w S b h) (hS : ∀ k, S k → k < w.heap.size → S' k) (hb : ¬ S' b) : HpAt w S' b h := by
  obtain ⟨vp, np, vw, nw, vm, nm, h1, h2⟩ := ha.ex
  exact ⟨⟨vp, np, vw, nw, vm, nm, h1, h2.mono hS⟩, hb⟩
theorem length_sweepW' : ∀ (ps : List Pg) (ws : List Int) (k : Nat), (k + ps.length) * 16 ≤ ws.length → (sweepW ws k ps).length = ws.length
  | [], _, _, _ => rfl
  | p :: r, ws, k, h => by
    simp only [List.length_cons] at h
    have hp : (if p.kind = 0 then putFrame ws k (List.replicate 16 0) else ws).length = ws.length := by
      split
      · exact length_putFrame (by rw [List.length_replicate]; omega)
      · rfl
    rw [sweepW, length_sweepW' r _ _ (by rw [hp]; omega), hp]
/-- Sixteen zeros, newly made. -/
theorem Ints.zeros16 {w : World} {g : Nat} {CW : Array Value} (hr : Row w g 2 CW) (hz : ZeroRow (Value.int .i64 0).cells.toList 16 CW) : Ints w (some ⟨g, 0, none⟩) 16 (List.replicate 16 0) :=
  (Own.of_zero (K := KInt) hr hz rfl rfl (by unfold maxLen; omega)).ints
/-- Its words, in focus. -/
theorem HpAt.wordsF {w : World} {S : Nat → Prop} {b : Nat} {h : Hp} (ha : HpAt w S b h) : ∃ pa np pc wa nw wc ma nm mc S2, Row w b 28 #[.slice pa np pc, .slice wa nw wc, .slice ma nm mc] ∧ Lst KPage w S pa np h.pages ∧ Own KInt 2 w S2 (.slice wa nw wc) nw h.words ∧ (∀ q, S2 q → S q ∧ q < w.heap.size) ∧
    ∀ w' xs, Own KInt 2 w' S2 (.slice wa nw wc) nw xs → Turn S2 w w' → HpAt w' S b ⟨h.pages, xs, h.mags⟩ := by
  obtain ⟨vp, np, vw, nw, vm, nm, h1, h2⟩ := ha.ex
  obtain ⟨S1, S2, S3, o1, o2, o3, d1, d2, d3, e1, e2, e3⟩ := h2.ex
  obtain ⟨pa, pc, rfl, _, _, hl1⟩ := o1.shape
  obtain ⟨wa, wc, rfl, _, _, _⟩ := o2.shape
  obtain ⟨ma, mc, rfl, _, _, _⟩ := o3.shape
  refine ⟨pa, np, pc, wa, nw, wc, ma, nm, mc, fun q => S2 q ∧ q < w.heap.size, h1, hl1.mono (fun q hq _ => d1 q hq), o2.here, fun q hq => ⟨d2 q hq.1, hq.2⟩, fun w' xs ho ht => ⟨⟨_, _, _, _, _, _, ht.row h1 (fun hq => ha.out (d2 _ hq.1)), HpO.mk3 (A := S1) (B := fun q => S2 q ∧ q < w.heap.size) (C := S3) (o1.turn ht (fun q hq _ h => e1 q hq h.1)) ho (o3.turn ht (fun q hq _ h => e3 q h.1 hq)) d1 (fun q hq => d2 q hq.1) d3 (fun q hq h => e1 q hq h.1) e2 (fun q hq h => e3 q hq.1 h)⟩, ha.out⟩⟩
/-- Its pages, in focus. -/
theorem HpAt.pagesF {w : World} {S : Nat → Prop} {b : Nat} {h : Hp} (ha : HpAt w S b h) : ∃ pa np pc wa nw wc ma nm mc S1, Row w b 28 #[.slice pa np pc, .slice wa nw wc, .slice ma nm mc] ∧ Own KPage 137 w S1 (.slice pa np pc) np h.pages ∧ (∀ q, S1 q → S q ∧ q < w.heap.size) ∧
    ∀ w' xs, Own KPage 137 w' S1 (.slice pa np pc) np xs → Turn S1 w w' → HpAt w' S b ⟨xs, h.words, h.mags⟩ := by
  obtain ⟨vp, np, vw, nw, vm, nm, h1, h2⟩ := ha.ex
  obtain ⟨S1, S2, S3, o1, o2, o3, d1, d2, d3, e1, e2, e3⟩ := h2.ex
  obtain ⟨pa, pc, rfl, _, _, hl1⟩ := o1.shape
  obtain ⟨wa, wc, rfl, _, _, _⟩ := o2.shape
  obtain ⟨ma, mc, rfl, _, _, _⟩ := o3.shape
  refine ⟨pa, np, pc, wa, nw, wc, ma, nm, mc, fun q => S1 q ∧ q < w.heap.size, h1, o1.here, fun q hq => ⟨d1 q hq.1, hq.2⟩, fun w' xs ho ht => ⟨⟨_, _, _, _, _, _, ht.row h1 (fun hq => ha.out (d1 _ hq.1)), HpO.mk3 (A := fun q => S1 q ∧ q < w.heap.size) (B := S2) (C := S3) ho (o2.turn ht (fun q hq _ h => e1 q h.1 hq)) (o3.turn ht (fun q hq _ h => e2 q h.1 hq)) (fun q hq => d1 q hq.1) d2 d3 (fun q hq h => e1 q hq.1 h) (fun q hq h => e2 q hq.1 h) e3⟩, ha.out⟩⟩

set_option maxRecDepth 100000 in
set_option maxHeartbeats 2000000 in
theorem l5Sweep_calls {b : Nat} {h : Hp} {S : Nat → Prop} {w : World} (ha : HpAt w S b h) (hl : h.words.length = h.pages.length * 16) (h40 : h.pages.length ≤ 40) :
    Calls Tryz.prog 164 #[.pointer (some ⟨b, 0, none⟩)] w fun e w' => e = .returned (.tuple #[]) ∧ HpAt w' S b ⟨h.pages, sweepW h.words 0 h.pages, h.mags⟩ ∧ Turn S w w' := by
  obtain ⟨i0, hi, hz0, hz1, hz2⟩ := info_parts info64
  obtain ⟨CW, hCW, hmk⟩ := make_eq (P := Tryz.prog) Tryz.underlying25 hi hz0 hz1 rfl 16 (by rw [hz2]; omega) (by omega)
  replace hmk : ∀ w : World, (Instr.makeSlice 25 (.int .i64 16) (.int .i64 16)).run Tryz.prog w = .ok (.slice (some ⟨w.heap.size, 0, none⟩) 16 16) (w.alloc (.cells CW 2)) := hmk
  have HCW := Lib.hid hCW
  have HL := Lib.hid hl
  clear hCW
  go_enter Tryz.func164, Tryz.ntmps164
  go_wp2_with fail
  go_loopw [2] (fun i wr => ∃ k : Nat, k ≤ h.pages.length ∧ i = .int .i64 k ∧ HpAt wr S b ⟨h.pages, sweepW h.words 0 (h.pages.take k), h.mags⟩ ∧ Turn S w wr) (fun i _ => h.pages.length - (intOf i).toNat)
  case atStart => exact ⟨0, Nat.zero_le _, rfl, by simpa [sweepW] using ha, Turn.refl _ _⟩
  case round =>
    obtain ⟨k, hk, rfl, hA, hT⟩ := hrel
    obtain ⟨pa, np, pc, wa, nw, wc, ma, nm, mc, S2, hR, hP, hW, hS2, hput⟩ := hA.wordsF
    have hnp : h.pages.length = np := hP.1
    have hnw := hW.1
    have HPut := Lib.hid hput
    have HT := Lib.hid hT
    have HA := Lib.hid hA
    have q0 := hR.cell 0
    have q1 := hR.cell 1
    have ql := hR.lt
    simp at q0 q1
    rw [hnp] at hk h40 ⊢
    have HNP := Lib.hid hnp
    clear hput hT hA hR hnp
    by_cases hlt : k < np
    · obtain ⟨b0, o0, p, a0, l0, c0, rfl, d0, hp, e0, e1, e2, e3, hlc0, hcm0, hu0⟩ := hP.pg_at hlt
      have HPk := Lib.hid hp
      have HSw := Lib.hid (sweepW_take (ws := h.words) hp)
      have hsl : (sweepW h.words 0 (h.pages.take k)).length = h.pages.length * 16 := by
        rw [length_sweepW' _ _ _ (by rw [HL.out, List.length_take]; have := HNP.out; omega)]; exact HL.out
      clear hp hcm0 hu0 e1 e2 e3
      by_cases h0 : p.kind = 0
      · have hnw2 : (sweepW h.words 0 (h.pages.take k)).length = nw := hnw
        have hf2 : (k + 1) * 16 ≤ nw := by have := HNP.out; omega
        have hn4 : nw ≤ 17592186044416 := by have := HNP.out; omega
        clear hnw2
        have hq : (p.kind == 0) = true := by simp [h0]
        have HW := Lib.hid hW
        have HS2 := Lib.hid hS2
        rw [if_pos h0] at HSw
        clear hW hS2 h0 hnw hsl
        go_wp2_with fail
        go_region_law (
          go_simp; go_at_call 210; refine (l1Write_calls (HW.out.drew.alloc _) hf2 (Ints.zeros16 (heap_alloc_new wr.drew (.cells CW 2)) HCW.out) (fun hq => Nat.lt_irrefl _ ((HS2.out _ hq).2)) hn4).mono ?_; rintro e w2 ⟨rfl, oW, tW⟩)
        all_goals
          have HN : Hid (HpAt w2 S b ⟨h.pages, sweepW h.words 0 (h.pages.take (k + 1)), h.mags⟩ ∧ Turn S w w2) := by
            have tt : Turn S2 wr w2 := ((Turn.of_below ((Below.refl _ wr).drew.alloc (Nat.le_refl _) _)).trans tW (fun _ h _ => h))
            refine ⟨?_, HT.out.trans (tt.mono (fun q hq _ => (HS2.out q hq).1)) (fun q hq _ => hq)⟩
            rw [HSw.out]
            exact HPut.out w2 _ oW tt
          clear oW tW
          go_wp2_with fail
          go_roundw
          case rel => exact ⟨k + 1, by omega, by go_num, HN.out.1, HN.out.2⟩
          case measure => simp [intOf]; omega
      · have hq : (p.kind == 0) = false := by simpa using h0
        have HN : Hid (HpAt wr S b ⟨h.pages, sweepW h.words 0 (h.pages.take (k + 1)), h.mags⟩) := by
          show HpAt _ _ _ _; rw [HSw.out, if_neg h0]; exact HA.out
        clear h0
        go_wp2_with fail
        go_roundw
        case rel => exact ⟨k + 1, by omega, by go_num, HN.out, HT.out⟩
        case measure => simp [intOf]; omega
    · have HF : Hid (HpAt wr S b ⟨h.pages, sweepW h.words 0 h.pages, h.mags⟩) := by
        have := HA.out
        rw [List.take_of_length_le (by have := HNP.out; omega)] at this
        exact this
      go_wp2_with fail
      go_end0
      exact ⟨rfl, HF.out, HT.out⟩
end Go.Proofs.YthpamclljdcjpaaGreatDoor

/- Chapter 5 of the model: a heap drained. -/
namespace Go.Proofs.YthpamclljdcjpaaGreatDoor
open Go.RowKit

theorem Lst.drew' {α : Type} {K : Lay α} {w : World} {S : Nat → Prop} {ao : Option Addr} {n : Nat} {xs : List α} (h : Lst K w S ao n xs) : Lst K w.drew S ao n xs := h.turn (T := fun _ => False) ((Turn.refl _ w).drewN 1) (fun _ _ _ h => h)
/-- Other magazines in a heap, newly made. -/
theorem HpAt.newMags {w : World} {S : Nat → Prop} {b nm : Nat} {h : Hp} {CM : Array Value} (ha : HpAt w (fun q => S q ∧ q < w.heap.size) b h) (hz : ZeroRow (Value.slice none 0 0).cells.toList nm CM) (hn : nm ≤ 8) :
    HpAt ((w.setCell ⟨b, 2, none⟩ (.slice (some ⟨w.heap.size, 0, none⟩) nm nm)).alloc (.cells CM 25)) (fun q => (S q ∧ q < w.heap.size) ∨ q = w.heap.size) b ⟨h.pages, h.words, List.replicate nm []⟩ ∧ Turn (fun q => q = b) w ((w.setCell ⟨b, 2, none⟩ (.slice (some ⟨w.heap.size, 0, none⟩) nm nm)).alloc (.cells CM 25)) := by
  obtain ⟨vp, np, vw, nw, vm, n3, h1, h2⟩ := ha.ex
  obtain ⟨S1, S2, S3, o1, o2, o3, d1, d2, d3, e1, e2, e3⟩ := h2.ex
  have hbl := h1.lt
  have tS := Turn.set w ⟨b, 2, none⟩ (.slice (some ⟨w.heap.size, 0, none⟩) nm nm)
  have tt : Turn (fun q => q = b) w ((w.setCell ⟨b, 2, none⟩ (.slice (some ⟨w.heap.size, 0, none⟩) nm nm)).alloc (.cells CM 25)) := tS.trans (Turn.alloc (fun q => q = b) _ _) (fun _ h _ => h)
  refine ⟨⟨⟨vp, np, vw, nw, .slice (some ⟨w.heap.size, 0, none⟩) nm nm, nm, ?_, HpO.mk3 (A := S1) (B := S2) (C := fun q => q = w.heap.size) (o1.turn tt (fun q hq _ e => ha.out (by rw [← show q = b from e]; exact d1 q hq))) (o2.turn tt (fun q hq _ e => ha.out (by rw [← show q = b from e]; exact d2 q hq))) ?_ (fun q hq => .inl (d1 q hq)) (fun q hq => .inl (d2 q hq)) (fun q hq => .inr hq) e1 (fun q hq e => ?_) (fun q hq e => ?_)⟩, ?_⟩, tt⟩
  · have := (h1.set (i := 2) (.slice (some ⟨w.heap.size, 0, none⟩) nm nm)).alloc (.cells CM 25)
    simpa using this
  · have h3 := heap_alloc_new (w.setCell ⟨b, 2, none⟩ (.slice (some ⟨w.heap.size, 0, none⟩) nm nm)) (.cells CM 25)
    rw [World.size_setCell] at h3
    exact (Own.of_zero (K := KMag) h3 hz rfl (KMag_own_mk Own.nil) (by unfold maxLen; omega))
  · have := (d1 q hq).2; omega
  · have := (d2 q hq).2; omega
  · rintro (hq | hq)
    · exact ha.out hq
    · omega

set_option maxRecDepth 100000 in
set_option maxHeartbeats 2000000 in
theorem l5Drain_calls {b : Nat} {h : Hp} {S : Nat → Prop} {w : World} (ha : HpAt w S b h) (hf : heapFault h = 0) :
    Calls Tryz.prog 98 #[.pointer (some ⟨b, 0, none⟩)] w fun e w' => e = .returned (.tuple #[]) ∧ HpAt w' (fun q => (S q ∧ q < w.heap.size) ∨ w.heap.size ≤ q) b (drainHp h) ∧ Turn (fun q => S q ∨ q = b) w w' := by
  obtain ⟨im, him, hm0, hm1, hm2⟩ := info_parts infoMg
  obtain ⟨vp, np, vw, nw, vm, nm, hR, hO⟩ := ha.ex
  obtain ⟨pa, pc, wa, wc, ma, mc, rfl, rfl, rfl, hrd⟩ := hO.shape
  have hnm8 : nm ≤ 8 := by have := (mags_small hf).1; have := hrd.mg.1; omega
  have hNM := Lib.hid hrd.mg.1
  have hSm := Lib.hid (mags_small hf).2.2.2
  obtain ⟨CM, hCM, hmk⟩ := make_eq (P := Tryz.prog) Tryz.underlying26 him hm0 hm1 rfl nm (by rw [hm2]; omega) (by omega)
  have HCM := Lib.hid hCM
  have HFk := Lib.hid hf
  have HA := Lib.hid ha
  have hbl := hR.lt
  have HRow := Lib.hid hR
  have HMg := Lib.hid hrd.mg
  clear hCM hR hO hrd ha hf him hm0 hm1 hm2
  go_enter Tryz.func98, Tryz.ntmps98
  go_wp2_with fail
  refine (l5All_calls HRow.out HMg.out (by omega) (by have := hSm.out; unfold Hp.kept at this; omega)).mono ?_
  rintro e w1 ⟨v1, t, rfl, hO1, hb1⟩
  obtain ⟨vo1, vc1, rfl, hv1, hv2, _⟩ := hO1.shape
  have HT1 := Lib.hid hO1.1
  have ht16 : t ≤ 16 := by have := hO1.1; have := hSm.out; unfold Hp.kept at this; omega
  have HO1 := Lib.hid hO1.here
  have HB1 := Lib.hid hb1
  have hA1 : HpAt w1 (fun q => S q ∧ q < w.heap.size) b ⟨dropAll h.pages (h.kept.take 0), h.words, h.mags⟩ := by
    have := (HA.out.mono (S' := fun q => S q ∧ q < w.heap.size) (fun q hq hl => ⟨hq, hl⟩) (fun hq => HA.out.out hq.1)).below hb1
    simpa [dropAll] using this
  have HA1 := Lib.hid hA1
  clear hA1 hb1 hO1 hv1 hv2
  go_wp2_with fail
  go_loopw [3] (fun i wr => ∃ k : Nat, k ≤ t ∧ i = .int .i64 k ∧ HpAt wr (fun q => S q ∧ q < w.heap.size) b ⟨dropAll h.pages (h.kept.take k), h.words, h.mags⟩ ∧ Turn (fun q => S q ∧ q < w.heap.size) w1 wr) (fun i _ => t - (intOf i).toNat)
  case atStart => exact ⟨0, Nat.zero_le _, rfl, HA1.out, Turn.refl _ _⟩
  case round =>
    clear HA1
    obtain ⟨k, hk, rfl, hA, hT⟩ := hrel
    have HT := Lib.hid hT
    by_cases hlt : k < t
    · obtain ⟨pa2, np2, pc2, wa2, nw2, wc2, ma2, nm2, mc2, S1, hR, hP, hS1, hput⟩ := hA.pagesF
      have hnp : (dropAll h.pages (h.kept.take k)).length = np2 := hP.1
      have hnp2 : h.pages.length = np2 := by rw [length_dropAll] at hnp; exact hnp
      have HPut := Lib.hid hput
      have q0 := hR.cell 0
      have ql := hR.lt
      simp at q0
      have hIa := (HO1.out.turn HT.out (fun q hq _ h => by have := hq.1; have := h.2; omega)).ints
      obtain ⟨ab, ao, rfl, ad, ac⟩ := hIa.at_ hlt
      have hkx : k < h.kept.length := by unfold Hp.kept; rw [HT1.out]; exact hlt
      have hkk := kept_ok HFk.out
      have hv0 := (heapFault_ok HFk.out).1
      have hsplit : h.kept = h.kept.take k ++ h.kept[k] :: h.kept.drop (k + 1) := by
        rw [← List.drop_eq_getElem_cons hkx, List.take_append_drop]
      have hka := keptAfter (h.kept.take k) (h.kept[k] :: h.kept.drop (k + 1)) h.pages hv0 (by rw [← hsplit]; exact hkk)
      have hpl := KeptOk.slot_place hv0 hkk (List.getElem_mem hkx)
      obtain ⟨st, hst⟩ := Int.eq_ofNat_of_zero_le hpl.1
      have hst2 : st < 16 * np2 := by have := hpl.2; omega
      have hx : h.mags.flatten.getD k 0 = (st : Int) := by
        have : h.kept[k] = h.mags.flatten.getD k 0 := by
          rw [List.getD_eq_getElem?_getD, List.getElem?_eq_getElem (by rw [HT1.out]; exact hlt)]; rfl
        rw [← this, hst]
      rw [hx] at ac
      have hRg := rough_of hka.1
      have hn40 : np2 ≤ 40 := by have := (pagesFault_ok hv0).1; omega
      have HN0 : Hid (dropAll h.pages (h.kept.take (k + 1)) = dropAt (dropAll h.pages (h.kept.take k)) st) := by
        show _ = _
        rw [List.take_succ_eq_append_getElem hkx, dropAll_snoc, hst]; rfl
      have HP := Lib.hid hP
      have HRg := Lib.hid hRg
      have HS1 := Lib.hid hS1
      clear hP hRg hx hst hpl hka hsplit hkk hv0 hIa hput hnp hnp2 hR hT hA hS1
      go_wp2_with fail
      go_region_law (
        go_simp; go_at_call 163; refine (l4Drop_calls HP.out.drew (by omega) hst2 HRg.out).mono ?_; rintro e w2 ⟨rfl, oP, tP⟩)
      all_goals
        have HN : Hid (HpAt w2 (fun q => S q ∧ q < w.heap.size) b ⟨dropAll h.pages (h.kept.take (k + 1)), h.words, h.mags⟩ ∧ Turn (fun q => S q ∧ q < w.heap.size) w1 w2) := by
          refine ⟨?_, HT.out.trans ((Turn.undrew tP).mono (fun q hq _ => (HS1.out q hq).1)) (fun q hq _ => hq)⟩
          rw [HN0.out]
          exact HPut.out w2 _ oP (Turn.undrew tP)
        clear oP tP
        go_wp2_with fail
        go_roundw
        case rel => exact ⟨k + 1, by omega, by go_num, HN.out.1, HN.out.2⟩
        case measure => simp [intOf]; omega
    · have hA2 : HpAt wr (fun q => S q ∧ q < w.heap.size) b ⟨dropAll h.pages h.kept, h.words, h.mags⟩ := by
        have := hA
        rw [List.take_of_length_le (by unfold Hp.kept; have := HT1.out; omega)] at this
        exact this
      obtain ⟨pa2, np2, pc2, wa2, nw2, wc2, ma2, nm2, mc2, S1, hR, hP, hS1, hput⟩ := hA2.pagesF
      obtain ⟨vp5, np5, vw5, nw5, vm5, nm5, hR5, hO5⟩ := hA2.ex
      obtain ⟨pa6, pc6, wa6, wc6, ma6, mc6, rfl, rfl, rfl, hrd6⟩ := hO5.shape
      obtain rfl : nm = nm5 := by have := hrd6.mg.1; have := hNM.out; simp only at *; omega
      have q2 := hR5.cell 2
      have qf := frozen_of_row _ _ 2 _ _ hR5
      have ql := hR5.lt
      simp at q2
      have hws : w.heap.size ≤ wr.heap.size := Nat.le_trans HB1.out.size HT.out.size
      have HNw := Lib.hid ((hA2.mono (S' := fun q => (S q ∧ q < w.heap.size) ∧ q < wr.heap.size) (fun q hq hl => ⟨hq, hl⟩) (fun hq => hA2.out hq.1)).newMags HCM.out hnm8)
      clear hA hA2 hR hP hS1 hput hR5 hO5 hrd6 hT
      go_wp2_with fail
      refine (l5Sweep_calls HNw.out.1 ?_ ?_).mono ?_
      · show h.words.length = (dropAll h.pages h.kept).length * 16
        rw [length_dropAll]; exact (heapFault_ok HFk.out).2.1
      · show (dropAll h.pages h.kept).length ≤ 40
        rw [length_dropAll]; exact (pagesFault_ok (heapFault_ok HFk.out).1).1
      rintro e w5 ⟨rfl, hA5, hT5⟩
      have HE : Hid (HpAt w5 (fun q => (S q ∧ q < w.heap.size) ∨ w.heap.size ≤ q) b (drainHp h) ∧ Turn (fun q => S q ∨ q = b) w w5) := by
        refine ⟨?_, ?_⟩
        · have e1 : drainHp h = ⟨dropAll h.pages h.kept, sweepW h.words 0 (dropAll h.pages h.kept), List.replicate nm []⟩ := by unfold drainHp; rw [hNM.out]
          rw [e1]
          exact hA5.mono (fun q hq _ => by
            rcases hq with hq | hq
            · exact .inl hq.1
            · exact .inr (by omega)) (fun hq => by
            rcases hq with hq | hq
            · exact HA.out.out hq.1
            · omega)
        · refine ((Turn.of_below (T := fun q => S q ∨ q = b) HB1.out).trans (HT.out.mono (U := fun q => S q ∨ q = b) (fun q hq _ => .inl hq.1)) (fun q hq _ => hq)).trans ((HNw.out.2.mono (U := fun q => q = b ∨ (S q ∧ q < w.heap.size) ∨ w.heap.size ≤ q) (fun q hq _ => .inl hq)).trans (hT5.mono (U := fun q => q = b ∨ (S q ∧ q < w.heap.size) ∨ w.heap.size ≤ q) (fun q hq _ => ?_)) (fun q hq _ => hq)) (fun q hq hl => ?_)
          · rcases hq with hq | hq
            · exact .inr (.inl hq.1)
            · exact .inr (.inr (by omega))
          · rcases hq with hq | hq | hq
            · exact .inr hq
            · exact .inl hq.1
            · omega
      clear hA5 hT5
      go_wp2_with fail
      go_end0
      exact ⟨rfl, HE.out.1, HE.out.2⟩
end Go.Proofs.YthpamclljdcjpaaGreatDoor

/- Chapter 5 of the model: heaps drained and resized. -/
namespace Go.Proofs.YthpamclljdcjpaaGreatDoor
open Go.RowKit

/-- A copy laid in a cell of its own. -/
theorem HpAt.boxed {w1 w2 : World} {h : Hp} {np nw nm : Nat} {vp vw vm : Value} (ho : HpO w2 (fun k => w1.heap.size ≤ k) vp np vw nw vm nm h) :
    HpAt (w2.alloc (.cells #[vp, vw, vm] 28)) (fun q => w1.heap.size ≤ q ∧ q < w2.heap.size) w2.heap.size h :=
  ⟨⟨_, _, _, _, _, _, heap_alloc_new _ _, (ho.mono (fun q hq hl => ⟨hq, hl⟩)).below ((Below.refl _ _).alloc (Nat.le_refl _) _)⟩, fun hq => by omega⟩

set_option maxRecDepth 100000 in
set_option maxHeartbeats 2000000 in
theorem sDrainHeap_calls {pa wa ma : Option Addr} {pn pc wn wk mn mc : Nat} {h : Hp} {S : Nat → Prop} {w : World} (hk : HpK w S pa pn pc wa wn wk ma mn mc h) :
    Calls Tryz.prog 28 #[.agg #[.slice pa pn pc, .slice wa wn wk, .slice ma mn mc]] w (RetsHeap w (drainHeap h)) := by
  have HK := Lib.hid hk
  obtain ⟨n1, n2, n3, n4, n5⟩ := hk.small
  clear hk
  obtain ⟨V, hV⟩ : ∃ V, V = (w.alloc (.cells #[.slice pa pn pc, .slice wa wn wk, .slice ma mn mc] 28)).alloc (.cells #[.int .i64 0, .slice none 0 0, .slice none 0 0, .slice none 0 0, .int .i64 0, .int .i64 0] 36) := ⟨_, rfl⟩
  have hB0 : Below w.heap.size w V := by rw [hV]; exact ((Below.refl _ _).alloc (Nat.le_refl _) _).alloc (by simp) _
  have HB0 := Lib.hid hB0
  clear hB0
  go_enter Tryz.func28, Tryz.ntmps28
  go_wp2_with fail
  rw [← hV]
  refine (sHeapFault_calls (HK.out.r.below HB0.out) HK.out.s).mono ?_
  rintro e w1 ⟨rfl, hb1⟩
  rw [hV] at hb1
  obtain ⟨R0, R1, B1, hs1⟩ := two_new hb1
  have HR0 : Hid (Row w1 w.heap.size 28 #[.slice pa pn pc, .slice wa wn wk, .slice ma mn mc]) := R0
  have HR1 : Hid (Row w1 (w.heap.size + 1) 36 #[.int .i64 0, .slice none 0 0, .slice none 0 0, .slice none 0 0, .int .i64 0, .int .i64 0]) := R1
  have HB1 := Lib.hid B1
  clear hb1 R1 B1 R0 hV
  by_cases hf : heapFault h = 0
  rotate_left
  · have HF : Hid (drainHeap h = (heapFault h, Hp.zero)) := by show _ = _; unfold drainHeap; rw [if_neg hf]
    have hq : (heapFault h != 0) = true := by simpa using hf
    clear hf
    have hres := HR1.out
    go_wp2_with (refine wpList_store_row rfl 36 _ _ rfl (w.heap.size + 1) _ rfl rfl _ _ hres (by kernel_rfl) (by rfl) (by simp [Value.oneCell']) ?_)
    refine bodyPost_ret (results_cell_row rfl _ _ (w.heap.size + 1) _ _ _ _ rfl (setRow_heap _ _ _ _ _ _ hres) Tryz.underlying36 rfl (by kernel_rfl)) rfl ?_
    exact heap_done HB1.out (by omega) HpO.zero _ HF.out
  have HF : Hid (drainHeap h = (0, drainHp h)) := by show _ = _; unfold drainHeap; rw [if_pos hf]
  have HFk := Lib.hid hf
  rw [hf]
  clear hf
  go_wp2_with fail
  refine (l5Copy_calls HR0.out (HK.out.below HB1.out)).mono ?_
  rintro e w2 ⟨vp, np, vw, nw, vm, nm, rfl, ho2, hb2⟩
  have HA := Lib.hid (HpAt.boxed ho2)
  have HB2 := Lib.hid hb2
  have HR2 := Lib.hid (HR1.out.below hb2)
  obtain ⟨pa', pc', wa', wc', ma', mc', rfl, rfl, rfl, _⟩ := ho2.shape
  clear ho2 hb2
  go_wp2_with fail
  refine (l5Drain_calls HA.out HFk.out).mono ?_
  rintro e w3 ⟨rfl, hA3, hT3⟩
  have hsz1 := HB2.out.size
  have hsz0 := HB1.out.size
  have hres := hT3.row (HR2.out.alloc (.cells #[.slice pa' np pc', .slice wa' nw wc', .slice ma' nm mc'] 28)) (fun hq => by rcases hq with hq | hq <;> omega)
  have HB3 : Hid (Below w.heap.size w w3) := hT3.below (HB1.out.trans ((HB2.out.alloc HB2.out.size _).mono hsz0)) (by simp; omega) (fun q hq => by rcases hq with hq | hq <;> omega)
  obtain ⟨vp6, np6, vw6, nw6, vm6, nm6, hR6, hO6⟩ := hA3.ex
  obtain ⟨pa6, pc6, wa6, wc6, ma6, mc6, rfl, rfl, rfl, _⟩ := hO6.shape
  have HO6 := Lib.hid (hO6.mono (S' := fun q => w.heap.size + 1 < q) (fun q hq _ => by
    rcases hq with hq | hq
    · omega
    · simp at hq; omega))
  have q0 := hR6.cell 0
  have q1 := hR6.cell 1
  have q2 := hR6.cell 2
  have ql := hR6.lt
  simp at q0 q1 q2
  clear hA3 hT3 hR6 hO6
  go_wp2_with (refine wpList_store_row rfl 36 _ _ rfl (w.heap.size + 1) _ rfl rfl _ _ hres (by kernel_rfl) (by rfl) (by simp [Value.oneCell']) ?_)
  refine bodyPost_ret (results_cell_row rfl _ _ (w.heap.size + 1) _ _ _ _ rfl (setRow_heap _ _ _ _ _ _ hres) Tryz.underlying36 rfl (by kernel_rfl)) rfl ?_
  exact heap_done HB3.out (by omega) HO6.out _ HF.out

theorem used_at {ps : List Pg} {n k : Nat} {p : Pg} (hk : n ≤ k) (hp : ps[k]? = some p) (h : p.kind ≠ 0) : anyUsed (ps.drop n) = true := by
  unfold anyUsed
  rw [List.any_eq_true]
  exact ⟨p, List.mem_of_getElem? (i := k - n) (by rw [List.getElem?_drop, show n + (k - n) = k by omega]; exact hp), by simpa using h⟩
theorem used_none {ps : List Pg} {n : Nat} (h : ∀ (k : Nat) (p : Pg), n ≤ k → ps[k]? = some p → p.kind = 0) : anyUsed (ps.drop n) = false := by
  unfold anyUsed
  rw [List.any_eq_false]
  intro p hp
  obtain ⟨j, hj⟩ := List.getElem?_of_mem hp
  rw [List.getElem?_drop] at hj
  simpa using h (n + j) p (by omega) hj
/-- Two of a heap's fields set. -/
theorem Row.set2 {w : World} {g : Nat} {t : TypeId} {a b c x y : Value} (h : Row w g t #[a, b, c]) : Row ((w.setCell ⟨g, 0, none⟩ x).setCell ⟨g, 1, none⟩ y) g t #[x, y, c] := by
  have := (h.set (i := 0) x).set (i := 1) y
  simpa using this
theorem Turn.set2 {w : World} {g : Nat} {x y : Value} : Turn (fun k => k = g) w ((w.setCell ⟨g, 0, none⟩ x).setCell ⟨g, 1, none⟩ y) :=
  (Turn.set w ⟨g, 0, none⟩ x).trans (Turn.set _ ⟨g, 1, none⟩ y) (fun _ h _ => h)

end Go.Proofs.YthpamclljdcjpaaGreatDoor

/- Chapter 6: a heap that is pointed at: one of its magazines in focus; what turning it does to memory. -/
namespace Go.Proofs.YthpamclljdcjpaaGreatDoor
open Go.RowKit

/-- A heap at a block is turned: its memory is of the elder one's, or new. -/
structure Does (w : World) (S : Nat → Prop) (b : Nat) (g : Hp) (w' : World) : Prop where
  at_ : HpAt w' (fun q => (S q ∧ q < w.heap.size) ∨ w.heap.size ≤ q) b g
  turn : Turn (fun q => S q ∨ q = b) w w'
theorem HpAt.lt {w : World} {S : Nat → Prop} {b : Nat} {h : Hp} (ha : HpAt w S b h) : b < w.heap.size := by
  obtain ⟨_, _, _, _, _, _, h1, _⟩ := ha.ex
  exact h1.lt
theorem Does.refl {w : World} {S : Nat → Prop} {b : Nat} {h : Hp} (ha : HpAt w S b h) : Does w S b h w :=
  ⟨ha.mono (fun q hq hl => .inl ⟨hq, hl⟩) (fun hq => by
    rcases hq with hq | hq
    · exact ha.out hq.1
    · have := ha.lt; omega), Turn.refl _ _⟩
theorem Does.trans {w w1 w2 : World} {S : Nat → Prop} {b : Nat} {g g' : Hp} (h1 : Does w S b g w1) (h2 : Does w1 (fun q => (S q ∧ q < w.heap.size) ∨ w.heap.size ≤ q) b g' w2) : Does w S b g' w2 := by
  have hs := h1.turn.size
  refine ⟨h2.at_.mono (fun q hq _ => ?_) (fun hq => ?_), h1.turn.trans h2.turn (fun q hq hl => ?_)⟩
  · rcases hq with hq | hq
    · exact hq.1
    · exact .inr (by omega)
  · exact h1.at_.out hq
  · rcases hq with (hq | hq) | hq
    · exact .inl hq.1
    · omega
    · exact .inr hq
theorem Does.below {w w1 w2 : World} {S : Nat → Prop} {b : Nat} {g : Hp} (h1 : Does w S b g w1) (hb : Below w1.heap.size w1 w2) : Does w S b g w2 :=
  ⟨h1.at_.below hb, h1.turn.trans (Turn.of_below (T := fun _ => False) hb) (fun _ h _ => h.elim)⟩
/-- Turned in its own memory alone. -/
theorem Does.same {w w' : World} {S : Nat → Prop} {b : Nat} {g : Hp} (hb : b < w.heap.size) (ha : HpAt w' S b g) (ht : Turn S w w') : Does w S b g w' := by
  have hs := ht.size
  refine ⟨ha.mono (fun q hq _ => ?_) (fun hq => ?_), ht.mono (fun q hq _ => .inl hq)⟩
  · by_cases hql : q < w.heap.size
    · exact .inl ⟨hq, hql⟩
    · exact .inr (by omega)
  · rcases hq with hq | hq
    · exact ha.out hq.1
    · omega
/-- From a state before: only new memory was laid meanwhile. -/
theorem Does.of_below {w w1 w2 : World} {S : Nat → Prop} {b : Nat} {g : Hp} (hb : Below w.heap.size w w1) (hbl : b < w.heap.size) (h : Does w1 (fun q => S q ∧ q < w.heap.size) b g w2) : Does w S b g w2 := by
  have hs := hb.size
  refine ⟨h.at_.mono (fun q hq _ => ?_) (fun hq => ?_), (Turn.of_below (T := fun q => S q ∨ q = b) hb).trans h.turn (fun q hq _ => hq.elim (fun h => .inl h.1) .inr)⟩
  · rcases hq with hq | hq
    · exact .inl hq.1
    · exact .inr (by omega)
  · rcases hq with hq | hq
    · exact h.at_.out (.inl ⟨hq, by omega⟩)
    · omega
/-- One of several lists in focus, to be replaced. -/
theorem Own.mag_put6 {w : World} {S : Nat → Prop} {v : Value} {n : Nat} {ms : List (List Int)} (h : Own KMag 25 w S v n ms) {j : Nat} (hj : j < n) :
    ∃ g cap m, v = .slice (some ⟨g, 0, none⟩) n cap ∧ S g ∧ g < w.heap.size ∧ ms[j]? = some m ∧ (∃ a l c, w.cell? ⟨g, j, none⟩ = some (.slice a l c)) ∧ w.frozen? ⟨g, j, none⟩ = false ∧
      ∀ (x : List Int) (y : Value) (l : Nat) (T : Nat → Prop), Own KInt 2 w T y l x → (∀ k, T k → k < w.heap.size → ¬ S k) → Own KMag 25 (w.setCell ⟨g, j, none⟩ y) (fun k => S k ∨ T k) v n (ms.set j x) := by
  obtain ⟨g, cap, cs, F, m, rfl, hg, hm, hcl, hu, ho, hF, hst⟩ := h.here.focus hj
  obtain ⟨y0, l0, rfl, hy0⟩ := ho
  obtain ⟨h1, h2, h3⟩ := hu.cell
  have h4 := h2 0 (by simp)
  rw [show KMag.sz = 1 from rfl, Nat.mul_one] at h4 hu hst
  simp only [Nat.add_zero, List.getElem?_cons_zero] at h4
  obtain ⟨a0, c0, rfl, _, _, _⟩ := hy0.shape
  refine ⟨g, cap, m, rfl, hg.1, h1, hm, ⟨a0, l0, c0, h4⟩, h3 _, fun x y l T hy hT => ?_⟩
  have hnT : ¬ T g := fun ht => hT g ht hg.2 hg.1
  have hy2 : Own KInt 2 (w.setCell ⟨g, j, none⟩ y) (fun k => T k ∧ k < w.heap.size) y l x := hy.here.turn (Turn.set w ⟨g, j, none⟩ y) (fun k hk _ e => hnT (by rw [← show k = g from e]; exact hk.1))
  have h5 := hst (w.setCell ⟨g, j, none⟩ y) (fun k => T k ∧ k < w.heap.size) [y] x rfl ((Turn.set w ⟨g, j, none⟩ y).mono (fun k hk _ => .inr hk)) (by have := hu.set (i := 0) (u := y) (by simp); simpa using this) (KMag_own_mk hy2) (fun k hk => .inr (fun hs => hT k hk.1 hk.2 hs.1.1))
  exact h5.mono (fun k hk _ => hk.elim (fun h => .inl h.1) (fun h => .inr h.1))

/-- One of its magazines in focus, to be replaced by a new one. -/
theorem HpAt.magF {w : World} {S : Nat → Prop} {b j : Nat} {h : Hp} (ha : HpAt w S b h) (hj : j < h.mags.length) : ∃ pa np pc wa nw wc g nm mc m a l c, Row w b 28 #[.slice pa np pc, .slice wa nw wc, .slice (some ⟨g, 0, none⟩) nm mc] ∧ j < nm ∧ HpR w S pa np pc wa nw wc (some ⟨g, 0, none⟩) nm mc h ∧
    g < w.heap.size ∧ S g ∧ h.mags[j]? = some m ∧ w.cell? ⟨g, j, none⟩ = some (.slice a l c) ∧ (∃ cur, Row w g 25 cur) ∧ l ≤ c ∧ c ≤ maxLen ∧ Ints w a l m ∧ (∀ y, Ints (w.setCell ⟨g, j, none⟩ y) a l m) ∧
    ∀ (x : List Int) (y : Value) (lx : Nat) (T : Nat → Prop), Own KInt 2 w T y lx x → (∀ k, T k → k < w.heap.size → ¬ S k ∧ k ≠ b) → HpAt (w.setCell ⟨g, j, none⟩ y) (fun k => (S k ∨ T k) ∧ k < w.heap.size) b (h.setMag j x) := by
  obtain ⟨vp, np, vw, nw, vm, nm, h1, h2⟩ := ha.ex
  obtain ⟨S1, S2, S3, o1, o2, o3, d1, d2, d3, e1, e2, e3⟩ := h2.ex
  have hR := h2.shape
  obtain ⟨pa, pc, wa, wc, ma, mc, rfl, rfl, rfl, hr⟩ := hR
  have hjn : j < nm := by have := o3.1; omega
  obtain ⟨g, cap, cs, F, m, hg0, hg, hm, hcl, hu, ho, hF, hst⟩ := o3.here.focus hjn
  cases hg0
  obtain ⟨y0, l0, rfl, hy0⟩ := ho
  obtain ⟨u1, u2, u3⟩ := hu.cell
  obtain ⟨_, cur, _, hrow, _⟩ := id hu
  have u4 := u2 0 (by simp)
  rw [show KMag.sz = 1 from rfl, Nat.mul_one] at u4
  simp only [Nat.add_zero, List.getElem?_cons_zero] at u4
  obtain ⟨a0, c0, rfl, hc1, hc2, _⟩ := hy0.shape
  refine ⟨pa, np, pc, wa, nw, wc, g, nm, mc, m, a0, l0, c0, h1, hjn, hr, u1, d3 _ hg.1, hm, u4, ⟨cur, hrow⟩, hc1, hc2, hy0.ints, fun y => (hy0.turn (Turn.set w ⟨g, j, none⟩ y) (fun k hk _ e => (hF k hk).2.1 e)).ints, fun x y lx T hy hT => ?_⟩
  obtain ⟨g', cap', m', hv', hg', hgl', hm', hcell', hfr', hput⟩ := Own.mag_put6 o3 hjn
  cases hv'
  have tt := Turn.set w ⟨g, j, none⟩ y
  have hT3 := hput x y lx T hy (fun k hk hl hs => (hT k hk hl).1 (d3 k hs))
  refine ⟨⟨_, _, _, _, _, _, tt.row h1 (fun e => ha.out (by rw [show b = g from e]; exact d3 _ hg.1)), HpO.mk3 (A := fun k => S1 k ∧ k < w.heap.size) (B := fun k => S2 k ∧ k < w.heap.size) (C := fun k => (S3 k ∨ T k) ∧ k < w.heap.size) (o1.here.turn tt (fun k hk _ e => e2 k hk.1 (by rw [show k = g from e]; exact hg.1))) (o2.here.turn tt (fun k hk _ e => e3 k hk.1 (by rw [show k = g from e]; exact hg.1))) (hT3.mono (fun k hk hl => ⟨hk, by simpa [World.setCell] using hl⟩)) (fun k hk => ⟨.inl (d1 k hk.1), hk.2⟩) (fun k hk => ⟨.inl (d2 k hk.1), hk.2⟩) (fun k hk => ⟨hk.1.elim (fun h => .inl (d3 k h)) .inr, hk.2⟩) (fun k hk hq => e1 k hk.1 hq.1) (fun k hk hq => ?_) (fun k hk hq => ?_)⟩, fun hq => ?_⟩
  · rcases hq.1 with h5 | h5
    · exact e2 k hk.1 h5
    · exact (hT k h5 hk.2).1 (d1 k hk.1)
  · rcases hq.1 with h5 | h5
    · exact e3 k hk.1 h5
    · exact (hT k h5 hk.2).1 (d2 k hk.1)
  · rcases hq.1 with h5 | h5
    · exact ha.out h5
    · exact (hT b h5 hq.2).2 rfl
/-- Its pages, in focus, to be turned where new memory may be laid. -/
theorem HpAt.pagesG {w : World} {S : Nat → Prop} {b : Nat} {h : Hp} (ha : HpAt w S b h) : ∃ pa np pc wa nw wc ma nm mc S1, Row w b 28 #[.slice pa np pc, .slice wa nw wc, .slice ma nm mc] ∧ HpR w S pa np pc wa nw wc ma nm mc h ∧ Own KPage 137 w S1 (.slice pa np pc) np h.pages ∧ (∀ q, S1 q → S q ∧ q < w.heap.size) ∧
    ∀ w' xs, Own KPage 137 w' (fun k => S1 k ∨ w.heap.size ≤ k) (.slice pa np pc) np xs → Turn S1 w w' → Does w S b ⟨xs, h.words, h.mags⟩ w' := by
  obtain ⟨vp, np, vw, nw, vm, nm, h1, h2⟩ := ha.ex
  obtain ⟨S1, S2, S3, o1, o2, o3, d1, d2, d3, e1, e2, e3⟩ := h2.ex
  have hR := h2.shape
  obtain ⟨pa, pc, wa, wc, ma, mc, rfl, rfl, rfl, hr⟩ := hR
  have hbl := h1.lt
  refine ⟨pa, np, pc, wa, nw, wc, ma, nm, mc, fun q => S1 q ∧ q < w.heap.size, h1, hr, o1.here, fun q hq => ⟨d1 q hq.1, hq.2⟩, fun w' xs ho ht => ⟨⟨⟨_, _, _, _, _, _, ht.row h1 (fun hq => ha.out (d1 _ hq.1)), HpO.mk3 (A := fun q => (S1 q ∧ q < w.heap.size) ∨ w.heap.size ≤ q) (B := fun q => S2 q ∧ q < w.heap.size) (C := fun q => S3 q ∧ q < w.heap.size) ho (o2.here.turn ht (fun q hq _ h => e1 q h.1 hq.1)) (o3.here.turn ht (fun q hq _ h => e2 q h.1 hq.1)) (fun q hq => hq.elim (fun h => .inl ⟨d1 q h.1, h.2⟩) .inr) (fun q hq => .inl ⟨d2 q hq.1, hq.2⟩) (fun q hq => .inl ⟨d3 q hq.1, hq.2⟩) (fun q hq hq2 => ?_) (fun q hq hq2 => ?_) (fun q hq hq2 => e3 q hq.1 hq2.1)⟩, fun hq => ?_⟩, ht.mono (fun q hq _ => .inl (d1 q hq.1))⟩⟩
  · rcases hq with h | h
    · exact e1 q h.1 hq2.1
    · have := hq2.2; omega
  · rcases hq with h | h
    · exact e2 q h.1 hq2.1
    · have := hq2.2; omega
  · rcases hq with h | h
    · exact ha.out h.1
    · omega
/-- The same, behind what lays new memory alone. -/
theorem HpAt.magG {w : World} {S : Nat → Prop} {b j : Nat} {h : Hp} (ha : HpAt w S b h) (hj : j < h.mags.length) : ∃ pa np pc wa nw wc g nm mc m a l c, Row w b 28 #[.slice pa np pc, .slice wa nw wc, .slice (some ⟨g, 0, none⟩) nm mc] ∧ j < nm ∧ HpR w S pa np pc wa nw wc (some ⟨g, 0, none⟩) nm mc h ∧
    g < w.heap.size ∧ S g ∧ h.mags[j]? = some m ∧ w.cell? ⟨g, j, none⟩ = some (.slice a l c) ∧ (∃ cur, Row w g 25 cur) ∧ l ≤ c ∧ c ≤ maxLen ∧ Ints w a l m ∧
    ∀ w1, Below w.heap.size w w1 → (∀ y, Ints (w1.setCell ⟨g, j, none⟩ y) a l m) ∧ ∀ (x : List Int) (y : Value) (lx : Nat) (T : Nat → Prop), Own KInt 2 w1 T y lx x → (∀ k, T k → w.heap.size ≤ k) → HpAt (w1.setCell ⟨g, j, none⟩ y) (fun k => (S k ∧ k < w.heap.size) ∨ T k) b (h.setMag j x) := by
  obtain ⟨pa, np, pc, wa, nw, wc, g, nm, mc, m, a, l, c, h1, h2, h3, h4, h5, h6, h7, h8, h9, h10, h11, _, _⟩ := ha.magF hj
  refine ⟨pa, np, pc, wa, nw, wc, g, nm, mc, m, a, l, c, h1, h2, h3, h4, h5, h6, h7, h8, h9, h10, h11, fun w1 hb => ?_⟩
  have hlt := ha.lt
  have ha1 : HpAt w1 (fun k => S k ∧ k < w.heap.size) b h := (ha.mono (S' := fun k => S k ∧ k < w.heap.size) (fun k hk hl => ⟨hk, hl⟩) (fun hq => ha.out hq.1)).below hb
  obtain ⟨pa', np', pc', wa', nw', wc', g', nm', mc', m', a', l', c', k1, k2, k3, k4, k5, k6, k7, k8, k9, k10, k11, k12, k13⟩ := ha1.magF hj
  have e1 := (h1.below hb).symm.trans k1
  simp only [Option.some.injEq, Obj.cells.injEq, Array.mk.injEq, List.cons.injEq, Value.slice.injEq, Addr.mk.injEq, and_true, true_and] at e1
  obtain ⟨_, _, rfl, rfl, rfl⟩ := e1
  have e2 := ((hb.cell (p := ⟨g, j, none⟩) h4).trans h7).symm.trans k7
  simp only [Option.some.injEq, Value.slice.injEq] at e2
  obtain ⟨rfl, rfl, rfl⟩ := e2
  have e3 := h6.symm.trans k6
  simp only [Option.some.injEq] at e3
  subst e3
  refine ⟨k12, fun x y lx T hy hT => (k13 x y lx T hy (fun k hk _ => ⟨fun hq => by have := hT k hk; have := hq.2; omega, fun e => by have := hT k hk; omega⟩)).mono (fun k hk _ => hk.1) (fun hq => ?_)⟩
  rcases hq with hq | hq
  · exact ha.out hq.1
  · have := hT b hq; omega
end Go.Proofs.YthpamclljdcjpaaGreatDoor

/- Chapter 6 of the model: a place for so many words. -/
namespace Go.Proofs.YthpamclljdcjpaaGreatDoor
open Go.RowKit

def onceOut (h : Hp) (cpu n : Int) : Int × Hp := match onceHp h cpu n with
  | some x => x
  | none => (-1, h)
def placeOut (h : Hp) (cpu n : Int) : Int × Hp := match placeHp h cpu n with
  | some x => x
  | none => (-1, drainHp h)
theorem onceOut_run {h : Hp} {cpu n : Int} (hn : 8 < n) : onceOut h cpu n = match runFrom ((n + 15) / 16).toNat 0 h.pages with
    | some i => ((i : Int) * 16, ⟨putRun h.pages i ((n + 15) / 16).toNat, h.words, h.mags⟩)
    | none => (-1, h) := by
  unfold onceOut onceHp
  rw [if_pos hn]
  cases runFrom ((n + 15) / 16).toNat 0 h.pages <;> rfl
theorem onceOut_mag {h : Hp} {cpu n a : Int} (hn : ¬ 8 < n) (ha : (h.magOf cpu (classW n)).getLast? = some a) : onceOut h cpu n = (a, h.setMag (magNo cpu (classW n)) (h.magOf cpu (classW n)).dropLast) := by
  unfold onceOut onceHp
  rw [if_neg hn, ha]
theorem onceOut_slot {h : Hp} {cpu n : Int} (hn : ¬ 8 < n) (ha : h.magOf cpu (classW n) = []) : onceOut h cpu n = (slotAt h.pages (classW n), ⟨slotPut h.pages (classW n), h.words, h.mags⟩) := by
  unfold onceOut onceHp
  rw [if_neg hn, ha]
  unfold slotAt slotPut
  cases slotFor h.pages (classW n) <;> rfl

set_option maxRecDepth 100000 in
set_option maxHeartbeats 2000000 in
theorem l6Once_run {b : Nat} {h : Hp} {cpu n : Int} {S : Nat → Prop} {w : World} (ha : HpAt w S b h) (hr : Right h) (n8 : 8 < n) (n64 : n ≤ 64) :
    Calls Tryz.prog 161 #[.pointer (some ⟨b, 0, none⟩), .int .i64 cpu, .int .i64 n] w fun e w' => e = .returned (.int .i64 (onceOut h cpu n).1) ∧ Does w S b (onceOut h cpu n).2 w' := by
  obtain ⟨pa, np, pc, wa, nw, wc, ma, nm, mc, S1, hR, hP, hS1, hput⟩ := ha.pagesF
  have hn40 : np ≤ 40 := by have := hP.1; have := (pagesFault_ok hr.pg).1; omega
  obtain ⟨m, hm⟩ : ∃ m : Nat, (n + 15) / 16 = m := ⟨((n + 15) / 16).toNat, by omega⟩
  have hm1 : 0 < m := by omega
  have hm4 : m ≤ 4 := by omega
  have HO := Lib.hid (onceOut_run (h := h) (cpu := cpu) n8)
  have hmt : ((n + 15) / 16).toNat = m := by omega
  rw [hmt] at HO
  have HM := Lib.hid hm
  have HA := Lib.hid ha
  have HP := Lib.hid hP
  have HPut := Lib.hid hput
  have HS1 := Lib.hid hS1
  obtain ⟨_, _, hPs, _, _, hLst⟩ := hP.shape
  cases hPs
  have HL := Lib.hid hLst
  have q0 := hR.cell 0
  have ql := hR.lt
  simp at q0
  clear hm hmt ha hP hput hLst hR hS1
  go_enter Tryz.func161, Tryz.ntmps161
  go_wp2_with fail
  refine (l3Pages_calls (by omega) n64).mono ?_
  rintro e w1 ⟨rfl, rfl⟩
  rw [HM.out]
  go_wp2_with fail
  refine (l4Run_calls HL.out (by omega) hm1 (by omega)).mono ?_
  rintro e w1 ⟨rfl, rfl⟩
  cases hf : runFrom m 0 h.pages with
  | none =>
    have HF : Hid (onceOut h cpu n = (-1, h)) := by show _ = _; rw [HO.out, hf]
    have hq : runAt m h.pages = -1 := by unfold runAt; rw [hf]
    rw [hq]
    clear hf hq
    go_wp2_with fail
    go_ret
    rw [HF.out]
    exact ⟨rfl, Does.refl HA.out⟩
  | some i =>
    have HF : Hid (onceOut h cpu n = ((i : Int) * 16, ⟨putRun h.pages i m, h.words, h.mags⟩)) := by show _ = _; rw [HO.out, hf]
    have hq : runAt m h.pages = i := by unfold runAt; rw [hf]
    have hil : i + m ≤ np := by have := (took_run hr.pg hm1 hm4 hf).2; have := HP.out.1; omega
    rw [hq]
    clear hf hq
    go_wp2_with fail
    refine (l4Take_calls HP.out (by omega) hm1 hil).mono ?_
    rintro e w2 ⟨rfl, hO, hT⟩
    have HN : Hid (HpAt w2 S b ⟨putRun h.pages i m, h.words, h.mags⟩) := HPut.out w2 _ hO hT
    have HT := Lib.hid hT
    clear hO hT
    go_wp2_with fail
    go_ret
    rw [HF.out]
    have hsz := HT.out.size
    exact ⟨rfl, ⟨HN.out.mono (fun q hq hl => by
      by_cases hql : q < w.heap.size
      · exact .inl ⟨hq, hql⟩
      · exact .inr (by omega)) (fun hq => by
      rcases hq with hq | hq
      · exact HA.out.out hq.1
      · omega), HT.out.mono (fun q hq _ => .inl (HS1.out q hq).1)⟩⟩
end Go.Proofs.YthpamclljdcjpaaGreatDoor

/- Chapter 6 of the model: a place out of a magazine, a slot. -/
namespace Go.Proofs.YthpamclljdcjpaaGreatDoor
open Go.RowKit

theorem keepO {W a b : World} {p : Addr} {x : Value} (h : a.cell? p = some x ∧ Below W.heap.size W a) (hb : Below a.heap.size a b) : b.cell? p = some x ∧ Below W.heap.size W b :=
  ⟨(hb.cell (World.block_lt_of_cell? _ _ h.1)).trans h.1, h.2.trans (hb.mono h.2.size)⟩
theorem Ints.dropLast {w : World} {ao : Option Addr} {n t : Nat} {xs : List Int} (h : Ints w ao n xs) (ht : t = n - 1) : Ints w ao t xs.dropLast := by
  have hl := h.1
  subst ht
  refine ⟨by rw [List.length_dropLast]; omega, fun hp => ?_⟩
  obtain ⟨b, o, e, hb, hc⟩ := h.2 (by omega)
  refine ⟨b, o, e, hb, fun k hk => ?_⟩
  have : xs.dropLast.getD k 0 = xs.getD k 0 := by
    rw [List.getD_eq_getElem?_getD, List.getD_eq_getElem?_getD, List.getElem?_dropLast, if_pos (by omega)]
  rw [this]
  exact hc k (by omega)
theorem cpu_small {h : Hp} {cpu : Int} (h1 : 4 * cpu + 4 ≤ h.mags.length) (h8 : h.mags.length ≤ 8) : cpu ≤ 2 := by omega
theorem mag_facts {cpu c : Int} {j nm : Nat} (h0 : 0 ≤ cpu) (h2 : cpu ≤ 2) (c0 : 0 ≤ c) (c3 : c ≤ 3) (e : 4 * cpu + c = (j : Int)) (hj : j < nm) : IntKind.i64.wrap (4 * cpu) = 4 * cpu ∧ IntKind.i64.wrap (4 * cpu + c) = (j : Int) ∧ wrap64 (4 * cpu) = 4 * cpu ∧ wrap64 (4 * cpu + c) = (j : Int) ∧ IntKind.i64.wrap (j : Int) = (j : Int) ∧ wrap64 (j : Int) = (j : Int) ∧ ((0 : Int) ≤ (j : Int) ∧ (j : Int) < (nm : Int)) :=
  ⟨IntWalk.i64_in _ (by omega), by rw [e]; exact IntWalk.i64_in _ (by omega), IntWalk.wrap64_in _ (by omega), by rw [e]; exact IntWalk.wrap64_in _ (by omega), IntWalk.i64_in _ (by omega), IntWalk.wrap64_in _ (by omega), by omega, by omega⟩
theorem pred_facts {l0 k0 t : Nat} (ht : t = l0 - 1) (h0 : 0 < l0) (h2 : l0 ≤ 2) (hk : l0 ≤ k0) : ((l0 : Int) - 1 = (t : Int)) ∧ t ≤ 2 ∧ IntKind.i64.wrap (t : Int) = (t : Int) ∧ wrap64 (t : Int) = (t : Int) ∧ ((0 : Int) ≤ (t : Int) ∧ (t : Int) ≤ (k0 : Int)) ∧ ((0 : Int) ≤ (t : Int) ∧ (t : Int) < (l0 : Int)) :=
  ⟨by omega, by omega, IntWalk.i64_in _ (by omega), IntWalk.wrap64_in _ (by omega), by omega, by omega⟩
set_option maxRecDepth 100000 in
set_option maxHeartbeats 2000000 in
theorem l6Once_mag {b : Nat} {h : Hp} {cpu n a : Int} {S : Nat → Prop} {w : World} (ha : HpAt w S b h) (hr : Right h) (h0 : 0 ≤ cpu) (h1 : 4 * cpu + 4 ≤ h.mags.length) (n8 : ¬ 8 < n) (hl : (h.magOf cpu (classW n)).getLast? = some a) :
    Calls Tryz.prog 161 #[.pointer (some ⟨b, 0, none⟩), .int .i64 cpu, .int .i64 n] w fun e w' => e = .returned (.int .i64 (onceOut h cpu n).1) ∧ Does w S b (onceOut h cpu n).2 w' := by
  obtain ⟨c0, c3⟩ := classW_small n
  obtain ⟨hk, hj, h4⟩ := magOf_at (h := h) h0 h1 c0 c3
  obtain ⟨hm8, _, _⟩ := mags_small hr.ok
  obtain ⟨pa, np, pc, wa, nw, wc, g, nm, mc, m, a0, l0, k0, hR, hjn, hrd, hg, hSg, hm, hcell, ⟨cur, hrow⟩, hlc, hcm, hI, hput⟩ := ha.magG hk
  have hmm : m = h.magOf cpu (classW n) := by rw [hj] at hm; exact (Option.some.inj hm).symm
  rw [← hmm] at hl
  have hml : m.length = l0 := hI.1
  have hm2 := (hr.mag _ _ hm).1
  have hl0 : 0 < l0 := by
    rcases Nat.eq_zero_or_pos l0 with e | e
    · have hnil : m = [] := List.length_eq_zero_iff.1 (by omega)
      rw [hnil] at hl; simp at hl
    · exact e
  obtain ⟨j, hjj⟩ : ∃ j, j = magNo cpu (classW n) := ⟨_, rfl⟩
  have hidx : 4 * cpu + classW n = (j : Int) := by rw [hjj]; unfold magNo; omega
  rw [← hjj] at hcell hput hm hjn
  obtain ⟨pb, po, rfl, hpl, hpc⟩ := hI.at_ (k := l0 - 1) (by omega)
  have hval : m.getD (l0 - 1) 0 = a := by
    obtain ⟨ys, hy⟩ := List.getLast?_eq_some_iff.1 hl
    have : l0 - 1 = ys.length := by rw [← hml, hy]; simp
    rw [hy, this]; simp
  have HO : Hid (onceOut h cpu n = (a, h.setMag j m.dropLast)) := by show _ = _; rw [onceOut_mag n8 (by rw [← hmm]; exact hl), ← hjj, ← hmm]
  have hlen : j < nm := hjn
  obtain ⟨t, ht⟩ : ∃ t, t = l0 - 1 := ⟨_, rfl⟩
  obtain ⟨hsub, ht2, hw1, hw2, hb1, hb2⟩ := pred_facts ht hl0 (by rw [← hml]; exact hm2) hlc
  have hav : m.getD t 0 = a := by rw [ht]; exact hval
  have hcl : w.cell? ⟨pb, po + t, none⟩ = some (.int .i64 a) := by rw [ht, ← hval]; exact hpc
  have HA := Lib.hid ha
  have HI := Lib.hid hI
  have HPut := Lib.hid hput
  have HTake : Hid (Ints w (some ⟨pb, po, none⟩) t m.dropLast) := hI.dropLast ht
  have q0 := hR.cell 2
  have ql := hR.lt
  simp at q0
  have hcpu : cpu ≤ 2 := cpu_small h1 hm8
  obtain ⟨hw3, hw4, hw5, hw6, hw7, hw8, hij⟩ := mag_facts h0 hcpu c0 c3 hidx hlen
  have ht9 : t ≤ 1099511627776 := Nat.le_trans ht2 (by decide)
  clear hpc hval ht hm8 h1 h4 hk hm2
  clear ha hR hI hput hml hjj hmm hl hj hm hrd
  go_enter Tryz.func161, Tryz.ntmps161
  go_wp2_with fail
  refine (l3Class_calls (by omega)).mono ?_
  rintro e w1 ⟨rfl, rfl⟩
  go_wp2_with fail
  have kB : Below w.heap.size w w.drew := (Below.refl w.heap.size w).drew
  go_region_law (go_simp; go_at_call 157; refine (l1Ints_calls (HTake.out.below kB).lst ht9).mono ?_; rintro e wI ⟨vI, rfl, oI, bI⟩; obtain ⟨xI, cI, rfl, _, _, _⟩ := oI.shape; have hbT : Below w.heap.size w wI := kB.trans bI; have z0 : wI.cell? ⟨b, 2, none⟩ = some (.slice (some ⟨g, 0, none⟩) nm mc) := (hbT.cell (p := ⟨b, 2, none⟩) ql).trans q0; have z1 : wI.cell? ⟨g, j, none⟩ = some (.slice (some ⟨pb, po, none⟩) l0 k0) := (hbT.cell (p := ⟨g, j, none⟩) hg).trans hcell; have z2 : wI.frozen? ⟨g, j, none⟩ = false := frozen_of_row _ _ j _ _ (hrow.below hbT))
  all_goals
    have hz := HPut.out wI hbT
    have y1 : (wI.setCell ⟨g, j, none⟩ (.slice xI t cI)).cell? ⟨pb, po + t, none⟩ = some (.int .i64 a) := by
      obtain ⟨b', o', e', _, hc'⟩ := (hz.1 (.slice xI t cI)).2 hl0
      cases e'
      rw [hc' t (by omega), ← hav]
    have HN := Lib.hid (hz.2 _ _ _ _ oI (fun k hk => by have := kB.size; omega))
    have HT : Hid (Turn (fun q => S q ∨ q = b) w (wI.setCell ⟨g, j, none⟩ (.slice xI t cI))) := (Turn.of_below (T := fun q => S q ∨ q = b) hbT).trans (Turn.set _ ⟨g, j, none⟩ _) (fun q hq _ => .inl (by rw [show q = g from hq]; exact hSg))
    have hs1 := hbT.size
    clear hz oI bI
    go_wp2_with fail
    go_ret
    rw [HO.out]
    refine ⟨rfl, ⟨HN.out.mono (fun q hq _ => ?_) (fun hq => ?_), HT.out⟩⟩
    · rcases hq with hq | hq
      · exact .inl hq
      · exact .inr (by have := kB.size; omega)
    · rcases hq with hq | hq
      · exact HA.out.out hq.1
      · omega

set_option maxRecDepth 100000 in
set_option maxHeartbeats 2000000 in
theorem l6Once_slot {b : Nat} {h : Hp} {cpu n : Int} {S : Nat → Prop} {w : World} (ha : HpAt w S b h) (hr : Right h) (h0 : 0 ≤ cpu) (h1 : 4 * cpu + 4 ≤ h.mags.length) (n8 : ¬ 8 < n) (hl : h.magOf cpu (classW n) = []) :
    Calls Tryz.prog 161 #[.pointer (some ⟨b, 0, none⟩), .int .i64 cpu, .int .i64 n] w fun e w' => e = .returned (.int .i64 (onceOut h cpu n).1) ∧ Does w S b (onceOut h cpu n).2 w' := by
  obtain ⟨c0, c3⟩ := classW_small n
  obtain ⟨hk, hj, h4⟩ := magOf_at (h := h) h0 h1 c0 c3
  obtain ⟨hm8, _, _⟩ := mags_small hr.ok
  obtain ⟨pa, np, pc, wa, nw, wc, ma, nm, mc, S1, hR, hrd, hP, hS1, hput⟩ := ha.pagesG
  have hn40 : np ≤ 40 := by have := hP.1; have := (pagesFault_ok hr.pg).1; omega
  have hjn : magNo cpu (classW n) < nm := by have := hrd.mg.1; omega
  obtain ⟨g, off, m, a0, l0, k0, rfl, hg, hm, hcell, _, _, hmi⟩ := hrd.mg.mag_at hjn
  have hmm : m = [] := by rw [hj] at hm; rw [← hl]; exact (Option.some.inj hm).symm
  have hml : l0 = 0 := by have := hmi.1; rw [hmm] at this; simpa using this.symm
  subst hml
  obtain ⟨j, hjj⟩ : ∃ j, j = magNo cpu (classW n) := ⟨_, rfl⟩
  have hidx : 4 * cpu + classW n = (j : Int) := by rw [hjj]; unfold magNo; omega
  rw [← hjj] at hcell hjn
  have HO := Lib.hid (onceOut_slot n8 hl)
  have hcpu := cpu_small h1 hm8
  have HSh := Lib.hid ((pagesFault_short hr.pg : ShortP 16 h.pages).more (M := 17592186044416) (by decide))
  have hn2 : np ≤ 17592186044416 := by omega
  have HP := Lib.hid hP
  have HPut := Lib.hid hput
  have q0 := hR.cell 0
  have q2 := hR.cell 2
  have ql := hR.lt
  simp at q0 q2
  clear ha hR hP hput hrd hm hmi hmm hl hj hjj hk h4 h1 hm8 hr hS1
  go_enter Tryz.func161, Tryz.ntmps161
  go_wp2_with fail
  refine (l3Class_calls (by omega)).mono ?_
  rintro e w1 ⟨rfl, rfl⟩
  go_wp2_with fail
  refine (l4Slot_calls HP.out HSh.out hn2 c0 c3).mono ?_
  rintro e w2 ⟨rfl, hO, hT⟩
  have HD := Lib.hid (HPut.out w2 _ hO hT)
  clear hO hT
  go_wp2_with fail
  go_ret
  rw [HO.out]
  exact ⟨rfl, HD.out⟩
theorem l6Once_calls {b : Nat} {h : Hp} {cpu n : Int} {S : Nat → Prop} {w : World} (ha : HpAt w S b h) (hr : Right h) (h0 : 0 ≤ cpu) (h1 : 4 * cpu + 4 ≤ h.mags.length) (n64 : n ≤ 64) :
    Calls Tryz.prog 161 #[.pointer (some ⟨b, 0, none⟩), .int .i64 cpu, .int .i64 n] w fun e w' => e = .returned (.int .i64 (onceOut h cpu n).1) ∧ Does w S b (onceOut h cpu n).2 w' := by
  by_cases n8 : 8 < n
  · exact l6Once_run ha hr n8 n64
  · cases hl : (h.magOf cpu (classW n)).getLast? with
    | none => exact l6Once_slot ha hr h0 h1 n8 (List.getLast?_eq_none_iff.1 hl)
    | some a => exact l6Once_mag ha hr h0 h1 n8 hl
end Go.Proofs.YthpamclljdcjpaaGreatDoor

/- Chapter 6 of the model: a place, draining where that is needed; a block freed. -/
namespace Go.Proofs.YthpamclljdcjpaaGreatDoor
open Go.RowKit

theorem onceHp_pos {h g : Hp} {cpu n a : Int} (hr : Right h) (h0 : 0 ≤ cpu) (h1 : 4 * cpu + 4 ≤ h.mags.length) (n1 : 1 ≤ n) (n64 : n ≤ 64) (e : onceHp h cpu n = some (a, g)) : 0 ≤ a := by
  obtain ⟨p1, _, _, _, b, rfl, _, hb⟩ := onceHp_ok hr h0 h1 n1 n64 e
  exact (block_range p1.pg hb.live.1).1
theorem placeOut_once {h g : Hp} {cpu n a : Int} (e : onceHp h cpu n = some (a, g)) : placeOut h cpu n = (a, g) := by unfold placeOut placeHp; rw [e]
theorem placeOut_drain {h : Hp} {cpu n : Int} (e : onceHp h cpu n = none) : placeOut h cpu n = onceOut (drainHp h) cpu n := by
  unfold placeOut placeHp onceOut
  rw [e]

set_option maxRecDepth 100000 in
set_option maxHeartbeats 2000000 in
theorem l6Place_calls {b : Nat} {h : Hp} {cpu n : Int} {S : Nat → Prop} {w : World} (ha : HpAt w S b h) (hr : Right h) (h0 : 0 ≤ cpu) (h1 : 4 * cpu + 4 ≤ h.mags.length) (n1 : 1 ≤ n) (n64 : n ≤ 64) :
    Calls Tryz.prog 95 #[.pointer (some ⟨b, 0, none⟩), .int .i64 cpu, .int .i64 n] w fun e w' => e = .returned (.int .i64 (placeOut h cpu n).1) ∧ Does w S b (placeOut h cpu n).2 w' := by
  have HR := Lib.hid hr
  have HA := Lib.hid ha
  have hm : ((drainHp h).mags.length : Int) = h.mags.length := by show ((List.replicate h.mags.length ([] : List Int)).length : Int) = _; rw [List.length_replicate]
  have H1 := Lib.hid h1
  have H2 : Hid (4 * cpu + 4 ≤ (drainHp h).mags.length) := by show 4 * cpu + 4 ≤ _; rw [hm]; exact h1
  cases hf : onceHp h cpu n with
  | some x =>
    obtain ⟨a, g⟩ := x
    have hp := onceHp_pos hr h0 h1 n1 n64 hf
    have HF := Lib.hid (placeOut_once hf)
    have HO : Hid (onceOut h cpu n = (a, g)) := by show _ = _; unfold onceOut; rw [hf]
    clear hr ha hm h1 hf
    go_enter Tryz.func95, Tryz.ntmps95
    go_wp2_with fail
    refine (l6Once_calls HA.out HR.out h0 H1.out n64).mono ?_
    rw [HO.out]
    rintro e w1 ⟨rfl, hd⟩
    have HD := Lib.hid hd
    clear hd
    have hge : a ≥ 0 := hp
    go_wp2_with fail
    go_ret
    rw [HF.out]
    exact ⟨rfl, HD.out⟩
  | none =>
    have HF := Lib.hid (placeOut_drain hf)
    have HO : Hid (onceOut h cpu n = (-1, h)) := by show _ = _; unfold onceOut; rw [hf]
    clear hr ha hm h1 hf
    go_enter Tryz.func95, Tryz.ntmps95
    go_wp2_with fail
    refine (l6Once_calls HA.out HR.out h0 H1.out n64).mono ?_
    rw [HO.out]
    rintro e w1 ⟨rfl, hd⟩
    have HD := Lib.hid hd
    clear hd
    go_wp2_with fail
    refine (l5Drain_calls HD.out.at_ HR.out.ok).mono ?_
    rintro e w2 ⟨rfl, hA2, hT2⟩
    have HD2 : Hid (Does w S b (drainHp h) w2) := HD.out.trans ⟨hA2, hT2⟩
    clear hA2 hT2
    go_wp2_with fail
    refine (l6Once_calls HD2.out.at_ HR.out.drain h0 H2.out n64).mono ?_
    rintro e w3 ⟨rfl, hd3⟩
    have HD3 := Lib.hid (HD2.out.trans hd3)
    clear hd3
    go_wp2_with fail
    go_ret
    rw [HF.out]
    exact ⟨rfl, HD3.out⟩
end Go.Proofs.YthpamclljdcjpaaGreatDoor

/- Chapter 6 of the model: whether there is a place. -/
namespace Go.Proofs.YthpamclljdcjpaaGreatDoor
open Go.RowKit

theorem placeOut_sign {h : Hp} {n : Int} (hr : Right h) (hl : 4 ≤ h.mags.length) (n1 : 1 ≤ n) (n2 : n ≤ 64) : decide (0 ≤ (placeOut h 0 n).1) = (placeHp h 0 n).isSome := by
  unfold placeOut
  rcases hp : placeHp h 0 n with _ | ⟨a, g⟩
  · simp
  · obtain ⟨p1, _, _, _, b, rfl, _, hb⟩ := placeHp_ok hr (by omega) (by omega) n1 n2 hp
    have := (block_range p1.pg hb.live.1).1
    simpa using this

set_option maxRecDepth 100000 in
set_option maxHeartbeats 4000000 in
theorem sIsPlaced_calls {pa wa ma : Option Addr} {pn pc wn wk mn mc : Nat} {n : Int} {h : Hp} {S : Nat → Prop} {w : World} (hk : HpK w S pa pn pc wa wn wk ma mn mc h) :
    Calls Tryz.prog 25 #[.agg #[.slice pa pn pc, .slice wa wn wk, .slice ma mn mc], .int .i64 n] w fun e w' => e = .returned (.bool (isPlaced h n)) ∧ Below w.heap.size w w' := by
  have HK := Lib.hid hk
  obtain ⟨V, hV⟩ : ∃ V, V = w.alloc (.cells #[.slice pa pn pc, .slice wa wn wk, .slice ma mn mc] 28) := ⟨_, rfl⟩
  have hBV : Below w.heap.size w V := by rw [hV]; exact (Below.refl _ _).alloc (Nat.le_refl _) _
  have R0 : Row V w.heap.size 28 #[.slice pa pn pc, .slice wa wn wk, .slice ma mn mc] := by rw [hV]; exact heap_alloc_new w _
  have HBV := Lib.hid hBV
  have HR0 := Lib.hid R0
  have q0 := R0.cell 0
  have q1 := R0.cell 1
  have q2 := R0.cell 2
  have ql := R0.lt
  simp at q0 q1 q2
  clear hk hBV R0
  go_enter Tryz.func25, Tryz.ntmps25
  go_upto_region 1 with (fail)
  rw [← hV]
  clear hV
  go_wp2_with fail
  refine (sHeapFault_calls (HK.out.r.below HBV.out) HK.out.s).mono ?_
  by_cases hf : heapFault h = 0
  · rw [hf]
    rintro e w1 ⟨rfl, b1⟩
    have HR := Lib.hid (right_of hf)
    have HF := Lib.hid hf
    have HB1 := Lib.hid (HBV.out.trans (b1.mono HBV.out.size))
    have HR1 := Lib.hid (HR0.out.below b1)
    clear b1 hf q0 q1 q2 ql
    rcases hw : within 1 64 [n] with _ | _
    · have HW := Lib.hid (show isPlaced h n = false by unfold isPlaced; rw [hw]; simp)
      have HWi := Lib.hid hw
      clear hw
      go_wp2_with fail
      refine (l1In_calls (v := n) (lo := 1) (hi := 64)).mono ?_
      rw [HWi.out]
      rintro e w2 ⟨rfl, rfl⟩
      go_wp2_with fail
      go_ret
      rw [HW.out]
      exact ⟨rfl, HB1.out⟩
    · have HWi := Lib.hid hw
      have HP := Lib.hid (show isPlaced h n = (placeHp h 0 n).isSome by unfold isPlaced; simp [hw, HF.out])
      obtain ⟨n1, n2⟩ := within_range hw
      clear hw
      go_wp2_with fail
      refine (l1In_calls (v := n) (lo := 1) (hi := 64)).mono ?_
      rw [HWi.out]
      rintro e w2 ⟨rfl, rfl⟩
      go_wp2_with fail
      refine (l5Copy_calls HR1.out (HK.out.below HB1.out)).mono ?_
      rintro e w3 ⟨vp, np, vw, nw, vm, nm, rfl, ho3, b3⟩
      have HAt := Lib.hid (HpAt.boxed ho3)
      have HB3 := Lib.hid ((HB1.out.trans (b3.mono HB1.out.size)).alloc (by have := HB1.out.size; have := b3.size; omega) (.cells #[vp, vw, vm] 28))
      obtain ⟨pa3, pc3, wa3, wc3, ma3, mc3, rfl, rfl, rfl, _⟩ := ho3.shape
      have hs3 := b3.size
      have hs1 := HB1.out.size
      have hl4 := (mags_small HF.out).2.1
      have HS := Lib.hid (placeOut_sign HR.out hl4 n1 n2)
      clear ho3 b3
      go_wp2_with fail
      refine (l6Place_calls (cpu := 0) HAt.out HR.out (by omega) (by omega) n1 n2).mono ?_
      obtain ⟨⟨x, g⟩, hx⟩ : ∃ x, placeOut h 0 n = x := ⟨_, rfl⟩
      rw [hx]
      rintro e w4 ⟨rfl, hd4⟩
      have HB4 := Lib.hid (hd4.turn.below HB3.out HB3.out.size (fun q hq => by
        rcases hq with hq | hq <;> omega))
      have HX := Lib.hid (show decide (0 ≤ x) = isPlaced h n by rw [HP.out, ← HS.out, hx])
      clear hd4 hx
      go_wp2_with fail
      go_ret
      exact ⟨by rw [← HX.out]; rfl, HB4.out⟩
  · have HW := Lib.hid (show isPlaced h n = false by unfold isPlaced; simp [hf])
    generalize heapFault h = p at hf
    have e1 : (p == 0) = false := by simpa using hf
    have e2 : (p != 0) = true := by simpa using hf
    rintro e w1 ⟨rfl, b1⟩
    have HB1 := Lib.hid (HBV.out.trans (b1.mono HBV.out.size))
    clear b1 hf
    go_wp2_with fail
    go_ret
    rw [HW.out]
    exact ⟨rfl, HB1.out⟩
end Go.Proofs.YthpamclljdcjpaaGreatDoor

/- The exact law of IsPlaced. -/
namespace Go.Proofs.YthpamclljdcjpaaGreatDoor
open Go.RowKit

theorem cell_alloc {w : World} {p : Addr} {v : Value} (h : w.cell? p = some v) (o : Obj) : (w.alloc o).cell? p = some v := by
  rw [World.cell?_alloc_lt _ _ _ (World.block_lt_of_cell? _ _ h)]; exact h

set_option maxHeartbeats 800000 in
set_option maxRecDepth 100000 in
theorem lawIsPlaced {pa wa ma : Option Addr} {pn pc wn wk mn mc : Nat} {h : Hp} {n : Int} {S : Nat → Prop} {w : World} {a2 : Addr} (hE : w.cell? ⟨2, 0, none⟩ = some (.iface 289 (.pointer (some a2)))) (hT : HpR w S pa pn pc wa wn wk ma mn mc h) :
    Calls Tryz.prog 9 #[.agg #[.slice pa pn pc, .slice wa wn wk, .slice ma mn mc], .int .i64 n] w fun e w' => e = .returned (.bool true) ∧ Below w.heap.size w w' := by
  have HE := Lib.hid hE
  have A0 := Lib.hid (InH.start hT)
  clear hE
  go_enter Tryz.func9, Tryz.ntmps9
  go_wp2_with fail
  refine (szHeap_calls A0.out.rd (by omega) (by omega)).mono ?_
  rintro e w1 ⟨rfl | ⟨r, rfl, r0, r1, hs⟩, hb1⟩
  · go_wp2_with fail
    go_ret
    exact ⟨rfl, (A0.out.below hb1).bel⟩
  have HS := Lib.hid hs
  have hr : ¬ (r < 0) := by omega
  have A1 := Lib.hid (A0.out.below hb1)
  have qla := A1.out.row.lt
  have q0a := A1.out.row.cell 0
  have q1a := A1.out.row.cell 1
  have q2a := A1.out.row.cell 2
  simp at q0a q1a q2a
  clear hs hb1 A0
  go_wp2_with fail
  refine (toHeap_calls A1.out.rd HS.out).mono ?_
  rintro e w2 hm
  obtain ⟨xa, xn, xc, ya, yn, yc, za, zn, zc, rfl, O2, hb2⟩ := hm.open_
  have A2 := Lib.hid (A1.out.below hb2)
  have X2 := Lib.hid O2.rd
  clear hb2 O2 A1 hm qla q0a q1a q2a
  go_wp2_with fail
  refine (sIsPlaced_calls (n := n) ⟨X2.out, HS.out⟩).mono ?_
  obtain ⟨p, hp⟩ : ∃ p, isPlaced h n = p := ⟨_, rfl⟩
  have HP := Lib.hid hp
  rw [hp]
  clear hp
  rintro e w3 ⟨rfl, hb3⟩
  have A3 := Lib.hid (A2.out.below hb3)
  clear hb3 X2 A2
  have hpp : (p != p) = false := by simp
  have qla := A3.out.row.lt
  have q0a := A3.out.row.cell 0
  have q1a := A3.out.row.cell 1
  have q2a := A3.out.row.cell 2
  simp at q0a q1a q2a
  go_wp2_with fail
  refine (toHeap_calls A3.out.rd HS.out).mono ?_
  rintro e w4 hm
  obtain ⟨xa, xn, xc, ya, yn, yc, za, zn, zc, rfl, O4, hb4⟩ := hm.open_
  have A4 := Lib.hid (A3.out.below hb4)
  have X4 := Lib.hid O4.rd
  clear hb4 O4 A3 hm qla q0a q1a q2a
  go_wp2_with fail
  refine (isPlaced_calls (n := n) (a2 := a2) ⟨X4.out.alloc _, HS.out⟩ (cell_alloc ((A4.out.bel.cell (p := ⟨2, 0, none⟩) (World.block_lt_of_cell? _ _ HE.out)).trans HE.out) _)).mono ?_
  rw [HP.out]
  rintro e w5 ⟨rfl, hb5⟩
  have RX := Lib.hid (Row.new hb5)
  have A5 := Lib.hid (A4.out.below (below_past hb5))
  have X5 := Lib.hid ((X4.out.alloc (.cells #[.slice xa xn xc, .slice ya yn yc, .slice za zn zc] 28)).below hb5)
  clear hb5 A4 X4
  have A6 := A5
  have X6 := X5
  have RX6 := RX
  clear A5 X5 RX
  have qla := A6.out.row.lt
  have q0a := A6.out.row.cell 0
  have q1a := A6.out.row.cell 1
  have q2a := A6.out.row.cell 2
  simp at q0a q1a q2a
  have qlx := RX6.out.lt
  have q0x := RX6.out.cell 0
  have q1x := RX6.out.cell 1
  have q2x := RX6.out.cell 2
  simp at q0x q1x q2x
  have kB := Below.refl w5.heap.size w5
  go_wp2_with fail
  go_region_held3 (fun w' => w'.cell? ⟨w4.heap.size, 0, none⟩ = some (.slice xa xn xc) ∧ w'.cell? ⟨w4.heap.size, 1, none⟩ = some (.slice ya yn yc) ∧ w'.cell? ⟨w4.heap.size, 2, none⟩ = some (.slice za zn zc) ∧ w'.cell? ⟨w.heap.size, 0, none⟩ = some (.slice pa pn pc) ∧ w'.cell? ⟨w.heap.size, 1, none⟩ = some (.slice wa wn wk) ∧ w'.cell? ⟨w.heap.size, 2, none⟩ = some (.slice ma mn mc) ∧ Below w5.heap.size w5 w') (first | assumption | exact ⟨q0x, q1x, q2x, q0a, q1a, q2a, kB.drew⟩)
    (first
      | (go_at_call 40; obtain ⟨y0, y1, y2, y3, y4, y5, kb⟩ := ‹_ ∧ _ ∧ _ ∧ _ ∧ _ ∧ _ ∧ Below _ _ _›; refine (toHeap_calls (A6.out.rd.below kb) HS.out).mono ?_; rintro e w7 hm; obtain ⟨fa, fn, fc, ga, gn, gc, ha, hn, hc, rfl, O7, hb7⟩ := hm.open_; have hS' := keepHH ⟨y0, y1, y2, y3, y4, y5, kb⟩ hb7)
      | (go_at_call 43; obtain ⟨y0, y1, y2, y3, y4, y5, kb⟩ := ‹_ ∧ _ ∧ _ ∧ _ ∧ _ ∧ _ ∧ Below _ _ _›; refine (eqHeap_calls (X6.out.below kb) O7.rd HS.out).mono ?_; rintro e w8 ⟨rfl, hb8⟩; have hS'' := keepHH ⟨y0, y1, y2, y3, y4, y5, kb⟩ hb8))
  have B8 := Lib.hid (A6.out.bel.trans (hS''.2.2.2.2.2.2.mono A6.out.bel.size))
  clear hS'' hS' kB
  go_wp2_with fail
  go_ret
  exact ⟨rfl, B8.out⟩
end Go.Proofs.YthpamclljdcjpaaGreatDoor
