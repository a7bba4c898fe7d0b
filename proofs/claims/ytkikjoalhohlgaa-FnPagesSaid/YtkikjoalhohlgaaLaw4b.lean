/- The exact laws of chapter 4 answer true at every argument and write nothing that was there: answers that are pages. -/
import Derived.Test.YtkikjoalhohlgaaLaw4
namespace Go.Proofs.Ytkikjoalhohlgaa
open Go.RowKit

theorem putSlot_short {ps : List Pg} {c : Int} {i s : Nat} (h : ShortP 16 ps) (h0 : 0 ≤ c) (h3 : c ≤ 3) : ShortP 16 (putSlot ps c i s) := by
  unfold putSlot
  cases hp : ps[i]? with
  | none => exact h
  | some p =>
    intro q hq
    rcases List.mem_or_eq_of_mem_set hq with h1 | h1
    · exact h q h1
    · rw [h1]
      unfold useSlot
      split
      · simp only [List.length_set, List.length_replicate]
        rcases (show c = 0 ∨ c = 1 ∨ c = 2 ∨ c = 3 by omega) with e | e | e | e <;> rw [e] <;> simp [sizeW]
      · simpa using h.at_ hp
theorem setMany_short {ps : List Pg} {i : Nat} {x : Pg} (h : ShortP 16 ps) (hx : x.used.length ≤ 16) : ∀ k, ShortP 16 (setMany ps i x k)
  | 0 => h
  | k + 1 => fun q hq => by
    rcases List.mem_or_eq_of_mem_set hq with h1 | h1
    · exact setMany_short h hx k q h1
    · rw [h1]; exact hx
theorem putRun_short {ps : List Pg} {i n : Nat} (h : ShortP 16 ps) : ShortP 16 (putRun ps i n) := fun q hq => by
  rcases List.mem_or_eq_of_mem_set hq with h1 | h1
  · exact setMany_short h (by simp [restPg]) n q h1
  · rw [h1]; simp [runPg]
theorem dropBlk_short {ps : List Pg} {b : Blk} (h : ShortP 16 ps) : ShortP 16 (dropBlk ps b) := by
  cases b with
  | slot i c s =>
    simp only [dropBlk]
    cases hp : ps[i]? with
    | none => exact h
    | some p =>
      intro q hq
      rcases List.mem_or_eq_of_mem_set hq with h1 | h1
      · exact h q h1
      · rw [h1]
        unfold freeSlot
        split
        · simpa using h.at_ hp
        · simp [Pg.free]
  | run i n => exact setMany_short h (by simp [Pg.free]) _
theorem length_putSlot (ps : List Pg) (c : Int) (i s : Nat) : (putSlot ps c i s).length = ps.length := by unfold putSlot; split <;> simp
theorem length_dropBlk (ps : List Pg) (b : Blk) : (dropBlk ps b).length = ps.length := by
  cases b with
  | slot i c s => unfold dropBlk; simp only; split <;> simp
  | run i n => exact length_setMany _ _ _ _
theorem findSlot_small (ps : List Pg) (c : Int) : (findSlot ps c).2.1.length ≤ 40 ∧ ShortP 16 (findSlot ps c).2.1 := by
  unfold findSlot
  by_cases hv : pagesFault ps = 0
  · rw [if_pos hv]
    rcases hw : within 0 3 [c] with _ | _
    · exact ⟨by simp, fun p hp => by simp at hp⟩
    · have hc := within_range hw
      simp only [if_true]
      rcases slotFor ps c with _ | ⟨i, s⟩
      · exact ⟨by simp, fun p hp => by simp at hp⟩
      · exact ⟨by simp only [length_putSlot]; exact (pagesFault_ok hv).1, putSlot_short (pagesFault_short hv) hc.1 hc.2⟩
  · rw [if_neg hv]; exact ⟨by simp, fun p hp => by simp at hp⟩
theorem takeRun_small (ps : List Pg) (a m : Int) : (takeRun ps a m).2.1.length ≤ 40 ∧ ShortP 16 (takeRun ps a m).2.1 := by
  unfold takeRun
  by_cases hv : pagesFault ps = 0
  · rw [if_pos hv]
    split
    · split
      · exact ⟨by simp only [putRun, List.length_set, length_setMany]; exact (pagesFault_ok hv).1, putRun_short (pagesFault_short hv)⟩
      · exact ⟨by simp, fun p hp => by simp at hp⟩
    · exact ⟨by simp, fun p hp => by simp at hp⟩
  · rw [if_neg hv]; exact ⟨by simp, fun p hp => by simp at hp⟩
theorem dropBlock_small (ps : List Pg) (a : Int) : (dropBlock ps a).2.1.length ≤ 40 ∧ ShortP 16 (dropBlock ps a).2.1 := by
  unfold dropBlock
  rcases hh : heldAt ps a with ⟨c, b⟩
  cases b with
  | none => exact ⟨by simp, fun p hp => by simp at hp⟩
  | some b =>
    have hv : pagesFault ps = 0 := by
      rcases Int.lt_trichotomy (pagesFault ps) 0 with h1 | h1 | h1
      · unfold heldAt at hh; rw [if_neg (by omega)] at hh; cases hh
      · exact h1
      · unfold heldAt at hh; rw [if_neg (by omega)] at hh; cases hh
    simp only
    split
    · exact ⟨by simp only [length_dropBlk]; exact (pagesFault_ok hv).1, dropBlk_short (pagesFault_short hv)⟩
    · exact ⟨by simp, fun p hp => by simp at hp⟩

/-- What the law of a function that answers pages has in its hands: two results in boxes, its own copy of the list, the list that came in. -/
def Hold (w W : World) (bw bg : Nat) (q z : Int) (vw vg vx : Value) (nr nx : Nat) (ao : Option Addr) (n : Nat) (ps rs xs gs : List Pg) : Prop :=
  Below w.heap.size w W ∧ Lst KPage W (fun k => k < w.heap.size) ao n ps ∧ Row W bw 28 #[.int .i64 q, vw, .int .i64 z] ∧ Row W bg 28 #[.int .i64 q, vg, .int .i64 z] ∧
  ∃ Sw Sx Sg : Nat → Prop, Own KPage 45 W Sw vw nr rs ∧ Own KPage 45 W Sx vx nx xs ∧ Own KPage 45 W Sg vg nr gs ∧
    (∀ k, Sx k → w.heap.size ≤ k ∧ k ≠ bw ∧ k ≠ bg ∧ ¬ Sw k ∧ ¬ Sg k) ∧ (∀ k, Sg k → w.heap.size ≤ k ∧ k ≠ bw ∧ k ≠ bg ∧ ¬ Sw k ∧ ¬ Sx k)
section
variable {w W W' : World} {bw bg : Nat} {q z : Int} {vw vg vx : Value} {nr nx : Nat} {ao : Option Addr} {n : Nat} {ps rs xs gs : List Pg}
theorem Hold.below (h : Hold w W bw bg q z vw vg vx nr nx ao n ps rs xs gs) (hb : Below W.heap.size W W') : Hold w W' bw bg q z vw vg vx nr nx ao n ps rs xs gs := by
  obtain ⟨h1, h2, h3, h4, Sw, Sx, Sg, h5, h6, h7, h8, h9⟩ := h
  exact ⟨h1.trans (hb.mono h1.size), h2.below hb, h3.below hb, h4.below hb, Sw, Sx, Sg, h5.below hb, h6.below hb, h7.below hb, h8, h9⟩
theorem Hold.cells (h : Hold w W bw bg q z vw vg vx nr nx ao n ps rs xs gs) : bw < W.heap.size ∧ bg < W.heap.size ∧
    W.cell? ⟨bw, 0, none⟩ = some (.int .i64 q) ∧ W.cell? ⟨bw, 1, none⟩ = some vw ∧ W.cell? ⟨bw, 2, none⟩ = some (.int .i64 z) ∧
    W.cell? ⟨bg, 0, none⟩ = some (.int .i64 q) ∧ W.cell? ⟨bg, 1, none⟩ = some vg ∧ W.cell? ⟨bg, 2, none⟩ = some (.int .i64 z) := by
  obtain ⟨_, _, h3, h4, _⟩ := h
  exact ⟨h3.lt, h4.lt, by rw [h3.cell]; rfl, by rw [h3.cell]; rfl, by rw [h3.cell]; rfl, by rw [h4.cell]; rfl, by rw [h4.cell]; rfl, by rw [h4.cell]; rfl⟩
theorem Hold.ownX (h : Hold w W bw bg q z vw vg vx nr nx ao n ps rs xs gs) : ∃ Sx, Own KPage 45 W Sx vx nx xs ∧ ∀ W' xs', Own KPage 45 W' Sx vx nx xs' → Turn Sx W W' → Hold w W' bw bg q z vw vg vx nr nx ao n ps rs xs' gs := by
  obtain ⟨h1, h2, h3, h4, Sw, Sx, Sg, h5, h6, h7, h8, h9⟩ := h
  refine ⟨Sx, h6, fun W' xs' ho ht => ⟨ht.below h1 h1.size (fun k hk => (h8 k hk).1), h2.turn ht (fun k hk _ hx => by have := (h8 k hx).1; omega), ht.row h3 (fun hx => (h8 _ hx).2.1 rfl), ht.row h4 (fun hx => (h8 _ hx).2.2.1 rfl), Sw, Sx, Sg, h5.turn ht (fun k hk _ hx => (h8 k hx).2.2.2.1 hk), ho, h7.turn ht (fun k hk _ hx => (h8 k hx).2.2.2.2 hk), h8, h9⟩⟩
theorem Hold.ownG (h : Hold w W bw bg q z vw vg vx nr nx ao n ps rs xs gs) : ∃ Sg, Own KPage 45 W Sg vg nr gs ∧ ∀ W' gs', Own KPage 45 W' Sg vg nr gs' → Turn Sg W W' → Hold w W' bw bg q z vw vg vx nr nx ao n ps rs xs gs' := by
  obtain ⟨h1, h2, h3, h4, Sw, Sx, Sg, h5, h6, h7, h8, h9⟩ := h
  refine ⟨Sg, h7, fun W' gs' ho ht => ⟨ht.below h1 h1.size (fun k hk => (h9 k hk).1), h2.turn ht (fun k hk _ hx => by have := (h9 k hx).1; omega), ht.row h3 (fun hx => (h9 _ hx).2.1 rfl), ht.row h4 (fun hx => (h9 _ hx).2.2.1 rfl), Sw, Sx, Sg, h5.turn ht (fun k hk _ hx => (h9 k hx).2.2.2.1 hk), h6.turn ht (fun k hk _ hx => (h9 k hx).2.2.2.2 hk), ho, h8, h9⟩⟩
theorem Hold.lstW {a : Option Addr} {c : Nat} (h : Hold w W bw bg q z (.slice a nr c) vg vx nr nx ao n ps rs xs gs) : ∃ S, Lst KPage W S a nr rs := by
  obtain ⟨_, _, _, _, Sw, Sx, Sg, h5, _⟩ := h; exact ⟨Sw, h5.lst.2.2.2⟩
theorem Hold.lstG {a : Option Addr} {c : Nat} (h : Hold w W bw bg q z vw (.slice a nr c) vx nr nx ao n ps rs xs gs) : ∃ S, Lst KPage W S a nr gs := by
  obtain ⟨_, _, _, _, Sw, Sx, Sg, _, _, h7, _⟩ := h; exact ⟨Sg, h7.lst.2.2.2⟩
theorem Hold.lstX {a : Option Addr} {c : Nat} (h : Hold w W bw bg q z vw vg (.slice a nx c) nr nx ao n ps rs xs gs) : ∃ S, Lst KPage W S a nx xs := by
  obtain ⟨_, _, _, _, Sw, Sx, Sg, _, h6, _⟩ := h; exact ⟨Sx, h6.lst.2.2.2⟩
end

set_option maxHeartbeats 8000000 in
set_option maxRecDepth 100000 in
theorem lawFindSlot {ao : Option Addr} {n cc : Nat} {c : Int} {ps : List Pg} {S : Nat → Prop} {w : World} (hT : Lst KPage w S ao n ps) (hn : n ≤ 9223372036854775807) :
    Calls Try.prog 7 #[.slice ao n cc, .int .i64 c] w fun e w' => e = .returned (.bool true) ∧ Below w.heap.size w w' := by
  go_enter Try.func7, Try.ntmps7
  go_wp2_with fail
  refine (szPgs_calls hT hn (by omega) (by omega)).mono ?_
  rintro e w1 ⟨rfl | ⟨r, rfl, r0, r1, hn1, hS1⟩, hb1⟩
  · go_wp2_with fail
    go_ret
    exact ⟨rfl, hb1⟩
  have HS1 := Lib.hid hS1
  have HS2 := Lib.hid (hS1.more (show 1048576 ≤ 17592186044416 by omega))
  have hr : ¬ (r < 0) := by omega
  have T1 := (hT.mono (S' := fun k => k < w.heap.size) (fun k _ hk => hk)).below hb1
  have B1 := hb1
  clear hS1 hb1
  go_wp2_with fail
  refine (toPgs_calls T1 HS2.out hn1).mono ?_
  rintro e w2 ⟨a2, rfl, O2, hb2⟩
  have B2 := B1.trans (hb2.mono B1.size)
  have T2 := T1.below hb2
  have X2 := O2.lst.2.2.2
  clear hb2 O2 T1 B1
  go_wp2_with fail
  refine (sFindSlot_calls X2 HS2.out (by omega)).mono ?_
  rintro e w3 ⟨v, n3, rfl, Ow, hb3⟩
  have B3 := B2.trans (hb3.mono B2.size)
  have T3 := T2.below hb3
  obtain ⟨vw, cw, rfl, _, _, _⟩ := Ow.shape
  clear hb3 X2 T2 B2
  obtain ⟨⟨q, rs, z⟩, hp⟩ : ∃ p, findSlot ps c = p := ⟨_, rfl⟩
  have HSM := Lib.hid (findSlot_small ps c)
  have HP := Lib.hid hp
  rw [hp] at Ow HSM ⊢
  clear hp
  have hn3 : n3 ≤ 40 := by have h1 : rs.length = n3 := Ow.1; have h2 : rs.length ≤ 40 := HSM.out.1; omega
  have HR1 : Hid (ShortP 1048576 rs) := HSM.out.2.more (by omega)
  have HR2 : Hid (ShortP 17592186044416 rs) := HSM.out.2.more (by omega)
  have Ow3 := Ow.here
  have HOw := Lib.hid Ow3
  have B3s := B3.size
  clear Ow Ow3
  go_wp2_with fail
  refine (toPgs_calls (T3.alloc _) HS2.out hn1).mono ?_
  rintro e w4 ⟨ax, rfl, Ox, hb4⟩
  have RW := Row.new hb4
  have B4 := B3.trans ((below_past hb4).mono B3.size)
  have T4 := (T3.alloc (.cells #[.int .i64 q, .slice vw n3 cw, .int .i64 z] 28)).below hb4
  have HOw4 := Lib.hid ((HOw.out.alloc (.cells #[.int .i64 q, .slice vw n3 cw, .int .i64 z] 28)).below hb4)
  have HOx := Lib.hid Ox.here
  have hs34 := hb4.size
  simp at hs34
  clear hb4 Ox T3 B3 HOw
  go_wp2_with fail
  refine (findSlot_calls HOx.out.lst.2.2.2 HS2.out (Nat.le_refl _) (by omega) (by omega)).mono ?_
  rintro e w5 ⟨v, n5, rfl, Og, hb5⟩
  obtain ⟨vg, cg, rfl, _, _, _⟩ := Og.shape
  rw [HP.out] at Og ⊢
  obtain rfl : n5 = n3 := by have h1 : rs.length = n5 := Og.1; have h2 : rs.length = n3 := HOw4.out.1; omega
  have hs45 := hb5.size
  have hlw : w3.heap.size < w4.heap.size := RW.lt
  have hw3 := B3s
  have H : Hold w (w5.alloc (.cells #[.int .i64 q, .slice vg n5 cg, .int .i64 z] 28)) w3.heap.size w5.heap.size q z (.slice vw n5 cw) (.slice vg n5 cg) (.slice ax n n) n5 n ao n ps rs ps rs := by
    refine ⟨(B4.trans (hb5.mono B4.size)).alloc (B4.trans (hb5.mono B4.size)).size _, (T4.below hb5).alloc _, row_alloc (RW.below hb5) _, heap_alloc_new w5 _, _, _, _, (HOw4.out.below hb5).alloc _, (HOx.out.below hb5).alloc _, Og.here.alloc _, ?_, ?_⟩
    · rintro k ⟨hk1, hk2⟩
      simp at hk1
      exact ⟨by omega, by omega, by omega, fun hh => by have := hh.2; omega, fun hh => by have := hh.1; omega⟩
    · rintro k ⟨hk1, hk2⟩
      exact ⟨by omega, by omega, by omega, fun hh => by have := hh.2; omega, fun hh => by have := hh.2; omega⟩
  have RW5 := RW.below hb5
  have lw := RW5.lt
  have v0 := RW5.cell 0
  have v1 := RW5.cell 1
  have v2 := RW5.cell 2
  simp at v0 v1 v2
  have HH := Lib.hid H
  clear H hb5 T4 B4 RW HOw4 HOx Og RW5
  obtain ⟨SW, LW⟩ := HH.out.lstW
  obtain ⟨SG, LG⟩ := HH.out.lstG
  go_wp2_with fail
  refine (eqPR_calls LG LW HR2.out (by omega)).mono ?_
  rintro e W1 ⟨rfl, hb6⟩
  have HH1 := Lib.hid (HH.out.below hb6)
  clear hb6 LW LG HH v0 v1 v2 lw
  go_wp2_with fail
  refine (toPgs_calls HH1.out.2.1 HS2.out hn1).mono ?_
  rintro e W2 ⟨a7, rfl, O7, hb7⟩
  have HH2 := Lib.hid (HH1.out.below hb7)
  have L7 := O7.lst.2.2.2
  clear hb7 O7 HH1
  obtain ⟨SX, LX⟩ := HH2.out.lstX
  go_wp2_with fail
  refine (eqPgs_calls LX L7 HS2.out hn1).mono ?_
  rintro e W3 ⟨rfl, hb8⟩
  have HH3 := Lib.hid (HH2.out.below hb8)
  clear hb8 L7 LX HH2
  obtain ⟨SX', OX, hX⟩ := HH3.out.ownX
  have HX := Lib.hid hX
  clear hX
  go_wp2_with fail
  refine (markPgs_calls OX HS1.out hn1 (by omega) (by omega)).mono ?_
  rintro e W4 ⟨rfl, OX2, tX⟩
  have HH4 := Lib.hid (HX.out W4 _ OX2 tX)
  have hk1 : ¬ (1 + (cntP ps : Int) < 0) := by omega
  clear OX OX2 tX HX HH3
  obtain ⟨lw, lg, u0, u1, u2, g0, g1, g2⟩ := HH4.out.cells
  obtain ⟨SW2, LW⟩ := HH4.out.lstW
  obtain ⟨SG2, LG⟩ := HH4.out.lstG
  go_wp2_with fail
  refine (eqPR_calls LG LW HR2.out (by omega)).mono ?_
  rintro e W5 ⟨rfl, hb9⟩
  have HH5 := Lib.hid (HH4.out.below hb9)
  clear hb9 LW LG HH4 lw lg u0 u1 u2 g0 g1 g2
  obtain ⟨lw, lg, u0, u1, u2, g0, g1, g2⟩ := HH5.out.cells
  obtain ⟨SG3, OG, hG⟩ := HH5.out.ownG
  have HG := Lib.hid hG
  clear hG
  go_wp2_with fail
  refine (markPR_calls OG HR1.out (by omega) (by omega) (by omega)).mono ?_
  rintro e W6 ⟨rfl, OG2, tG⟩
  have HH6 := Lib.hid (HG.out W6 _ OG2 tG)
  clear OG OG2 tG HG HH5 lw lg u0 u1 u2 g0 g1 g2
  obtain ⟨lw, lg, u0, u1, u2, g0, g1, g2⟩ := HH6.out.cells
  obtain ⟨SG4, LG⟩ := HH6.out.lstG
  have hk2 : ¬ (1 + (cntP rs : Int) < 0) := by omega
  have hk3 : (1 + (cntP rs : Int) != 1 + (cntP rs : Int)) = false := by simp
  go_wp2_with fail
  refine (heldPR_calls LG HR1.out (by omega) (by omega) (by omega)).mono ?_
  rintro e W7 ⟨rfl, hb10⟩
  have HH7 := Lib.hid (HH6.out.below hb10)
  clear hb10 LG HH6 lw lg u0 u1 u2 g0 g1 g2
  go_wp2_with fail
  refine (toPgs_calls HH7.out.2.1 HS2.out hn1).mono ?_
  rintro e W8 ⟨a8, rfl, O8, hb11⟩
  have HH8 := Lib.hid (HH7.out.below hb11)
  have L8 := O8.lst.2.2.2
  clear hb11 O8 HH7
  go_wp2_with fail
  refine (findSlot_calls L8 HS2.out (Nat.le_refl _) (by omega) (by omega)).mono ?_
  rintro e W9 ⟨v, n6, rfl, Oh, hb12⟩
  obtain ⟨vh, ch, rfl, _, _, _⟩ := Oh.shape
  have HH9 := Lib.hid (HH8.out.below hb12)
  rw [HP.out] at Oh ⊢
  obtain rfl : n6 = n5 := by
    have h1 : rs.length = n6 := Oh.1
    obtain ⟨_, hl⟩ := HH9.out.lstW
    have h2 := hl.1
    omega
  have LH := Oh.lst.2.2.2
  clear hb12 L8 Oh HH8
  have HH10 := Lib.hid (HH9.out.below ((Below.refl _ _).alloc (Nat.le_refl _) (.cells #[.int .i64 q, .slice vh n6 ch, .int .i64 z] 28)))
  obtain ⟨lw, lg, u0, u1, u2, g0, g1, g2⟩ := HH9.out.cells
  obtain ⟨SW5, LW⟩ := HH10.out.lstW
  go_wp2_with fail
  refine (eqPR_calls (LH.alloc _) LW HR2.out (by omega)).mono ?_
  rintro e W10 ⟨rfl, hb13⟩
  have HH11 := Lib.hid (HH10.out.below hb13)
  clear hb13 LW LH HH9 HH10 lw lg u0 u1 u2 g0 g1 g2
  obtain ⟨lw, lg, u0, u1, u2, g0, g1, g2⟩ := HH11.out.cells
  obtain ⟨SG6, LG⟩ := HH11.out.lstG
  go_wp2_with fail
  refine (heldPR_calls LG HR1.out (by omega) (by omega) (by omega)).mono ?_
  rintro e W11 ⟨rfl, hb14⟩
  have HH12 := Lib.hid (HH11.out.below hb14)
  clear hb14 LG HH11 lw lg u0 u1 u2 g0 g1 g2
  go_wp2_with fail
  go_ret
  exact ⟨rfl, HH12.out.1⟩

set_option maxHeartbeats 8000000 in
set_option maxRecDepth 100000 in
theorem lawTakeRun {ao : Option Addr} {n cc : Nat} {c d : Int} {ps : List Pg} {S : Nat → Prop} {w : World} (hT : Lst KPage w S ao n ps) (hn : n ≤ 9223372036854775807) :
    Calls Try.prog 9 #[.slice ao n cc, .int .i64 c, .int .i64 d] w fun e w' => e = .returned (.bool true) ∧ Below w.heap.size w w' := by
  go_enter Try.func9, Try.ntmps9
  go_wp2_with fail
  refine (szPgs_calls hT hn (by omega) (by omega)).mono ?_
  rintro e w1 ⟨rfl | ⟨r, rfl, r0, r1, hn1, hS1⟩, hb1⟩
  · go_wp2_with fail
    go_ret
    exact ⟨rfl, hb1⟩
  have HS1 := Lib.hid hS1
  have HS2 := Lib.hid (hS1.more (show 1048576 ≤ 17592186044416 by omega))
  have hr : ¬ (r < 0) := by omega
  have T1 := (hT.mono (S' := fun k => k < w.heap.size) (fun k _ hk => hk)).below hb1
  have B1 := hb1
  clear hS1 hb1
  go_wp2_with fail
  refine (toPgs_calls T1 HS2.out hn1).mono ?_
  rintro e w2 ⟨a2, rfl, O2, hb2⟩
  have B2 := B1.trans (hb2.mono B1.size)
  have T2 := T1.below hb2
  have X2 := O2.lst.2.2.2
  clear hb2 O2 T1 B1
  go_wp2_with fail
  refine (sTakeRun_calls X2 HS2.out (by omega)).mono ?_
  rintro e w3 ⟨v, n3, rfl, Ow, hb3⟩
  have B3 := B2.trans (hb3.mono B2.size)
  have T3 := T2.below hb3
  obtain ⟨vw, cw, rfl, _, _, _⟩ := Ow.shape
  clear hb3 X2 T2 B2
  obtain ⟨⟨q, rs, z⟩, hp⟩ : ∃ p, takeRun ps c d = p := ⟨_, rfl⟩
  have HSM := Lib.hid (takeRun_small ps c d)
  have HP := Lib.hid hp
  rw [hp] at Ow HSM ⊢
  clear hp
  have hn3 : n3 ≤ 40 := by have h1 : rs.length = n3 := Ow.1; have h2 : rs.length ≤ 40 := HSM.out.1; omega
  have HR1 : Hid (ShortP 1048576 rs) := HSM.out.2.more (by omega)
  have HR2 : Hid (ShortP 17592186044416 rs) := HSM.out.2.more (by omega)
  have Ow3 := Ow.here
  have HOw := Lib.hid Ow3
  have B3s := B3.size
  clear Ow Ow3
  go_wp2_with fail
  refine (toPgs_calls (T3.alloc _) HS2.out hn1).mono ?_
  rintro e w4 ⟨ax, rfl, Ox, hb4⟩
  have RW := Row.new hb4
  have B4 := B3.trans ((below_past hb4).mono B3.size)
  have T4 := (T3.alloc (.cells #[.int .i64 q, .slice vw n3 cw, .int .i64 z] 28)).below hb4
  have HOw4 := Lib.hid ((HOw.out.alloc (.cells #[.int .i64 q, .slice vw n3 cw, .int .i64 z] 28)).below hb4)
  have HOx := Lib.hid Ox.here
  have hs34 := hb4.size
  simp at hs34
  clear hb4 Ox T3 B3 HOw
  go_wp2_with fail
  refine (takeRun_calls HOx.out.lst.2.2.2 HS2.out (Nat.le_refl _) (by omega) (by omega)).mono ?_
  rintro e w5 ⟨v, n5, rfl, Og, hb5⟩
  obtain ⟨vg, cg, rfl, _, _, _⟩ := Og.shape
  rw [HP.out] at Og ⊢
  obtain rfl : n5 = n3 := by have h1 : rs.length = n5 := Og.1; have h2 : rs.length = n3 := HOw4.out.1; omega
  have hs45 := hb5.size
  have hlw : w3.heap.size < w4.heap.size := RW.lt
  have hw3 := B3s
  have H : Hold w (w5.alloc (.cells #[.int .i64 q, .slice vg n5 cg, .int .i64 z] 28)) w3.heap.size w5.heap.size q z (.slice vw n5 cw) (.slice vg n5 cg) (.slice ax n n) n5 n ao n ps rs ps rs := by
    refine ⟨(B4.trans (hb5.mono B4.size)).alloc (B4.trans (hb5.mono B4.size)).size _, (T4.below hb5).alloc _, row_alloc (RW.below hb5) _, heap_alloc_new w5 _, _, _, _, (HOw4.out.below hb5).alloc _, (HOx.out.below hb5).alloc _, Og.here.alloc _, ?_, ?_⟩
    · rintro k ⟨hk1, hk2⟩
      simp at hk1
      exact ⟨by omega, by omega, by omega, fun hh => by have := hh.2; omega, fun hh => by have := hh.1; omega⟩
    · rintro k ⟨hk1, hk2⟩
      exact ⟨by omega, by omega, by omega, fun hh => by have := hh.2; omega, fun hh => by have := hh.2; omega⟩
  have RW5 := RW.below hb5
  have lw := RW5.lt
  have v0 := RW5.cell 0
  have v1 := RW5.cell 1
  have v2 := RW5.cell 2
  simp at v0 v1 v2
  have HH := Lib.hid H
  clear H hb5 T4 B4 RW HOw4 HOx Og RW5
  obtain ⟨SW, LW⟩ := HH.out.lstW
  obtain ⟨SG, LG⟩ := HH.out.lstG
  go_wp2_with fail
  refine (eqPR_calls LG LW HR2.out (by omega)).mono ?_
  rintro e W1 ⟨rfl, hb6⟩
  have HH1 := Lib.hid (HH.out.below hb6)
  clear hb6 LW LG HH v0 v1 v2 lw
  go_wp2_with fail
  refine (toPgs_calls HH1.out.2.1 HS2.out hn1).mono ?_
  rintro e W2 ⟨a7, rfl, O7, hb7⟩
  have HH2 := Lib.hid (HH1.out.below hb7)
  have L7 := O7.lst.2.2.2
  clear hb7 O7 HH1
  obtain ⟨SX, LX⟩ := HH2.out.lstX
  go_wp2_with fail
  refine (eqPgs_calls LX L7 HS2.out hn1).mono ?_
  rintro e W3 ⟨rfl, hb8⟩
  have HH3 := Lib.hid (HH2.out.below hb8)
  clear hb8 L7 LX HH2
  obtain ⟨SX', OX, hX⟩ := HH3.out.ownX
  have HX := Lib.hid hX
  clear hX
  go_wp2_with fail
  refine (markPgs_calls OX HS1.out hn1 (by omega) (by omega)).mono ?_
  rintro e W4 ⟨rfl, OX2, tX⟩
  have HH4 := Lib.hid (HX.out W4 _ OX2 tX)
  have hk1 : ¬ (1 + (cntP ps : Int) < 0) := by omega
  clear OX OX2 tX HX HH3
  obtain ⟨lw, lg, u0, u1, u2, g0, g1, g2⟩ := HH4.out.cells
  obtain ⟨SW2, LW⟩ := HH4.out.lstW
  obtain ⟨SG2, LG⟩ := HH4.out.lstG
  go_wp2_with fail
  refine (eqPR_calls LG LW HR2.out (by omega)).mono ?_
  rintro e W5 ⟨rfl, hb9⟩
  have HH5 := Lib.hid (HH4.out.below hb9)
  clear hb9 LW LG HH4 lw lg u0 u1 u2 g0 g1 g2
  obtain ⟨lw, lg, u0, u1, u2, g0, g1, g2⟩ := HH5.out.cells
  obtain ⟨SG3, OG, hG⟩ := HH5.out.ownG
  have HG := Lib.hid hG
  clear hG
  go_wp2_with fail
  refine (markPR_calls OG HR1.out (by omega) (by omega) (by omega)).mono ?_
  rintro e W6 ⟨rfl, OG2, tG⟩
  have HH6 := Lib.hid (HG.out W6 _ OG2 tG)
  clear OG OG2 tG HG HH5 lw lg u0 u1 u2 g0 g1 g2
  obtain ⟨lw, lg, u0, u1, u2, g0, g1, g2⟩ := HH6.out.cells
  obtain ⟨SG4, LG⟩ := HH6.out.lstG
  have hk2 : ¬ (1 + (cntP rs : Int) < 0) := by omega
  have hk3 : (1 + (cntP rs : Int) != 1 + (cntP rs : Int)) = false := by simp
  go_wp2_with fail
  refine (heldPR_calls LG HR1.out (by omega) (by omega) (by omega)).mono ?_
  rintro e W7 ⟨rfl, hb10⟩
  have HH7 := Lib.hid (HH6.out.below hb10)
  clear hb10 LG HH6 lw lg u0 u1 u2 g0 g1 g2
  go_wp2_with fail
  refine (toPgs_calls HH7.out.2.1 HS2.out hn1).mono ?_
  rintro e W8 ⟨a8, rfl, O8, hb11⟩
  have HH8 := Lib.hid (HH7.out.below hb11)
  have L8 := O8.lst.2.2.2
  clear hb11 O8 HH7
  go_wp2_with fail
  refine (takeRun_calls L8 HS2.out (Nat.le_refl _) (by omega) (by omega)).mono ?_
  rintro e W9 ⟨v, n6, rfl, Oh, hb12⟩
  obtain ⟨vh, ch, rfl, _, _, _⟩ := Oh.shape
  have HH9 := Lib.hid (HH8.out.below hb12)
  rw [HP.out] at Oh ⊢
  obtain rfl : n6 = n5 := by
    have h1 : rs.length = n6 := Oh.1
    obtain ⟨_, hl⟩ := HH9.out.lstW
    have h2 := hl.1
    omega
  have LH := Oh.lst.2.2.2
  clear hb12 L8 Oh HH8
  have HH10 := Lib.hid (HH9.out.below ((Below.refl _ _).alloc (Nat.le_refl _) (.cells #[.int .i64 q, .slice vh n6 ch, .int .i64 z] 28)))
  obtain ⟨lw, lg, u0, u1, u2, g0, g1, g2⟩ := HH9.out.cells
  obtain ⟨SW5, LW⟩ := HH10.out.lstW
  go_wp2_with fail
  refine (eqPR_calls (LH.alloc _) LW HR2.out (by omega)).mono ?_
  rintro e W10 ⟨rfl, hb13⟩
  have HH11 := Lib.hid (HH10.out.below hb13)
  clear hb13 LW LH HH9 HH10 lw lg u0 u1 u2 g0 g1 g2
  obtain ⟨lw, lg, u0, u1, u2, g0, g1, g2⟩ := HH11.out.cells
  obtain ⟨SG6, LG⟩ := HH11.out.lstG
  go_wp2_with fail
  refine (heldPR_calls LG HR1.out (by omega) (by omega) (by omega)).mono ?_
  rintro e W11 ⟨rfl, hb14⟩
  have HH12 := Lib.hid (HH11.out.below hb14)
  clear hb14 LG HH11 lw lg u0 u1 u2 g0 g1 g2
  go_wp2_with fail
  go_ret
  exact ⟨rfl, HH12.out.1⟩

set_option maxHeartbeats 8000000 in
set_option maxRecDepth 100000 in
theorem lawDropBlock {ao : Option Addr} {n cc : Nat} {c : Int} {ps : List Pg} {S : Nat → Prop} {w : World} (hT : Lst KPage w S ao n ps) (hn : n ≤ 9223372036854775807) :
    Calls Try.prog 10 #[.slice ao n cc, .int .i64 c] w fun e w' => e = .returned (.bool true) ∧ Below w.heap.size w w' := by
  go_enter Try.func10, Try.ntmps10
  go_wp2_with fail
  refine (szPgs_calls hT hn (by omega) (by omega)).mono ?_
  rintro e w1 ⟨rfl | ⟨r, rfl, r0, r1, hn1, hS1⟩, hb1⟩
  · go_wp2_with fail
    go_ret
    exact ⟨rfl, hb1⟩
  have HS1 := Lib.hid hS1
  have HS2 := Lib.hid (hS1.more (show 1048576 ≤ 17592186044416 by omega))
  have hr : ¬ (r < 0) := by omega
  have T1 := (hT.mono (S' := fun k => k < w.heap.size) (fun k _ hk => hk)).below hb1
  have B1 := hb1
  clear hS1 hb1
  go_wp2_with fail
  refine (toPgs_calls T1 HS2.out hn1).mono ?_
  rintro e w2 ⟨a2, rfl, O2, hb2⟩
  have B2 := B1.trans (hb2.mono B1.size)
  have T2 := T1.below hb2
  have X2 := O2.lst.2.2.2
  clear hb2 O2 T1 B1
  go_wp2_with fail
  refine (sDropBlock_calls X2 HS2.out (by omega)).mono ?_
  rintro e w3 ⟨v, n3, rfl, Ow, hb3⟩
  have B3 := B2.trans (hb3.mono B2.size)
  have T3 := T2.below hb3
  obtain ⟨vw, cw, rfl, _, _, _⟩ := Ow.shape
  clear hb3 X2 T2 B2
  obtain ⟨⟨q, rs, z⟩, hp⟩ : ∃ p, dropBlock ps c = p := ⟨_, rfl⟩
  have HSM := Lib.hid (dropBlock_small ps c)
  have HP := Lib.hid hp
  rw [hp] at Ow HSM ⊢
  clear hp
  have hn3 : n3 ≤ 40 := by have h1 : rs.length = n3 := Ow.1; have h2 : rs.length ≤ 40 := HSM.out.1; omega
  have HR1 : Hid (ShortP 1048576 rs) := HSM.out.2.more (by omega)
  have HR2 : Hid (ShortP 17592186044416 rs) := HSM.out.2.more (by omega)
  have Ow3 := Ow.here
  have HOw := Lib.hid Ow3
  have B3s := B3.size
  clear Ow Ow3
  go_wp2_with fail
  refine (toPgs_calls (T3.alloc _) HS2.out hn1).mono ?_
  rintro e w4 ⟨ax, rfl, Ox, hb4⟩
  have RW := Row.new hb4
  have B4 := B3.trans ((below_past hb4).mono B3.size)
  have T4 := (T3.alloc (.cells #[.int .i64 q, .slice vw n3 cw, .int .i64 z] 28)).below hb4
  have HOw4 := Lib.hid ((HOw.out.alloc (.cells #[.int .i64 q, .slice vw n3 cw, .int .i64 z] 28)).below hb4)
  have HOx := Lib.hid Ox.here
  have hs34 := hb4.size
  simp at hs34
  clear hb4 Ox T3 B3 HOw
  go_wp2_with fail
  refine (dropBlock_calls HOx.out.lst.2.2.2 HS2.out (Nat.le_refl _) (by omega) (by omega)).mono ?_
  rintro e w5 ⟨v, n5, rfl, Og, hb5⟩
  obtain ⟨vg, cg, rfl, _, _, _⟩ := Og.shape
  rw [HP.out] at Og ⊢
  obtain rfl : n5 = n3 := by have h1 : rs.length = n5 := Og.1; have h2 : rs.length = n3 := HOw4.out.1; omega
  have hs45 := hb5.size
  have hlw : w3.heap.size < w4.heap.size := RW.lt
  have hw3 := B3s
  have H : Hold w (w5.alloc (.cells #[.int .i64 q, .slice vg n5 cg, .int .i64 z] 28)) w3.heap.size w5.heap.size q z (.slice vw n5 cw) (.slice vg n5 cg) (.slice ax n n) n5 n ao n ps rs ps rs := by
    refine ⟨(B4.trans (hb5.mono B4.size)).alloc (B4.trans (hb5.mono B4.size)).size _, (T4.below hb5).alloc _, row_alloc (RW.below hb5) _, heap_alloc_new w5 _, _, _, _, (HOw4.out.below hb5).alloc _, (HOx.out.below hb5).alloc _, Og.here.alloc _, ?_, ?_⟩
    · rintro k ⟨hk1, hk2⟩
      simp at hk1
      exact ⟨by omega, by omega, by omega, fun hh => by have := hh.2; omega, fun hh => by have := hh.1; omega⟩
    · rintro k ⟨hk1, hk2⟩
      exact ⟨by omega, by omega, by omega, fun hh => by have := hh.2; omega, fun hh => by have := hh.2; omega⟩
  have RW5 := RW.below hb5
  have lw := RW5.lt
  have v0 := RW5.cell 0
  have v1 := RW5.cell 1
  have v2 := RW5.cell 2
  simp at v0 v1 v2
  have HH := Lib.hid H
  clear H hb5 T4 B4 RW HOw4 HOx Og RW5
  obtain ⟨SW, LW⟩ := HH.out.lstW
  obtain ⟨SG, LG⟩ := HH.out.lstG
  go_wp2_with fail
  refine (eqPR_calls LG LW HR2.out (by omega)).mono ?_
  rintro e W1 ⟨rfl, hb6⟩
  have HH1 := Lib.hid (HH.out.below hb6)
  clear hb6 LW LG HH v0 v1 v2 lw
  go_wp2_with fail
  refine (toPgs_calls HH1.out.2.1 HS2.out hn1).mono ?_
  rintro e W2 ⟨a7, rfl, O7, hb7⟩
  have HH2 := Lib.hid (HH1.out.below hb7)
  have L7 := O7.lst.2.2.2
  clear hb7 O7 HH1
  obtain ⟨SX, LX⟩ := HH2.out.lstX
  go_wp2_with fail
  refine (eqPgs_calls LX L7 HS2.out hn1).mono ?_
  rintro e W3 ⟨rfl, hb8⟩
  have HH3 := Lib.hid (HH2.out.below hb8)
  clear hb8 L7 LX HH2
  obtain ⟨SX', OX, hX⟩ := HH3.out.ownX
  have HX := Lib.hid hX
  clear hX
  go_wp2_with fail
  refine (markPgs_calls OX HS1.out hn1 (by omega) (by omega)).mono ?_
  rintro e W4 ⟨rfl, OX2, tX⟩
  have HH4 := Lib.hid (HX.out W4 _ OX2 tX)
  have hk1 : ¬ (1 + (cntP ps : Int) < 0) := by omega
  clear OX OX2 tX HX HH3
  obtain ⟨lw, lg, u0, u1, u2, g0, g1, g2⟩ := HH4.out.cells
  obtain ⟨SW2, LW⟩ := HH4.out.lstW
  obtain ⟨SG2, LG⟩ := HH4.out.lstG
  go_wp2_with fail
  refine (eqPR_calls LG LW HR2.out (by omega)).mono ?_
  rintro e W5 ⟨rfl, hb9⟩
  have HH5 := Lib.hid (HH4.out.below hb9)
  clear hb9 LW LG HH4 lw lg u0 u1 u2 g0 g1 g2
  obtain ⟨lw, lg, u0, u1, u2, g0, g1, g2⟩ := HH5.out.cells
  obtain ⟨SG3, OG, hG⟩ := HH5.out.ownG
  have HG := Lib.hid hG
  clear hG
  go_wp2_with fail
  refine (markPR_calls OG HR1.out (by omega) (by omega) (by omega)).mono ?_
  rintro e W6 ⟨rfl, OG2, tG⟩
  have HH6 := Lib.hid (HG.out W6 _ OG2 tG)
  clear OG OG2 tG HG HH5 lw lg u0 u1 u2 g0 g1 g2
  obtain ⟨lw, lg, u0, u1, u2, g0, g1, g2⟩ := HH6.out.cells
  obtain ⟨SG4, LG⟩ := HH6.out.lstG
  have hk2 : ¬ (1 + (cntP rs : Int) < 0) := by omega
  have hk3 : (1 + (cntP rs : Int) != 1 + (cntP rs : Int)) = false := by simp
  go_wp2_with fail
  refine (heldPR_calls LG HR1.out (by omega) (by omega) (by omega)).mono ?_
  rintro e W7 ⟨rfl, hb10⟩
  have HH7 := Lib.hid (HH6.out.below hb10)
  clear hb10 LG HH6 lw lg u0 u1 u2 g0 g1 g2
  go_wp2_with fail
  refine (toPgs_calls HH7.out.2.1 HS2.out hn1).mono ?_
  rintro e W8 ⟨a8, rfl, O8, hb11⟩
  have HH8 := Lib.hid (HH7.out.below hb11)
  have L8 := O8.lst.2.2.2
  clear hb11 O8 HH7
  go_wp2_with fail
  refine (dropBlock_calls L8 HS2.out (Nat.le_refl _) (by omega) (by omega)).mono ?_
  rintro e W9 ⟨v, n6, rfl, Oh, hb12⟩
  obtain ⟨vh, ch, rfl, _, _, _⟩ := Oh.shape
  have HH9 := Lib.hid (HH8.out.below hb12)
  rw [HP.out] at Oh ⊢
  obtain rfl : n6 = n5 := by
    have h1 : rs.length = n6 := Oh.1
    obtain ⟨_, hl⟩ := HH9.out.lstW
    have h2 := hl.1
    omega
  have LH := Oh.lst.2.2.2
  clear hb12 L8 Oh HH8
  have HH10 := Lib.hid (HH9.out.below ((Below.refl _ _).alloc (Nat.le_refl _) (.cells #[.int .i64 q, .slice vh n6 ch, .int .i64 z] 28)))
  obtain ⟨lw, lg, u0, u1, u2, g0, g1, g2⟩ := HH9.out.cells
  obtain ⟨SW5, LW⟩ := HH10.out.lstW
  go_wp2_with fail
  refine (eqPR_calls (LH.alloc _) LW HR2.out (by omega)).mono ?_
  rintro e W10 ⟨rfl, hb13⟩
  have HH11 := Lib.hid (HH10.out.below hb13)
  clear hb13 LW LH HH9 HH10 lw lg u0 u1 u2 g0 g1 g2
  obtain ⟨lw, lg, u0, u1, u2, g0, g1, g2⟩ := HH11.out.cells
  obtain ⟨SG6, LG⟩ := HH11.out.lstG
  go_wp2_with fail
  refine (heldPR_calls LG HR1.out (by omega) (by omega) (by omega)).mono ?_
  rintro e W11 ⟨rfl, hb14⟩
  have HH12 := Lib.hid (HH11.out.below hb14)
  clear hb14 LG HH11 lw lg u0 u1 u2 g0 g1 g2
  go_wp2_with fail
  go_ret
  exact ⟨rfl, HH12.out.1⟩
end Go.Proofs.Ytkikjoalhohlgaa
