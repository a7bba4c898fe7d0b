/- The laws' helpers over configs: the copy. -/
import Derived.Test.YtmibekddapnaaaaHelp2
namespace Go.Proofs.Ytmibekddapnaaaa
open Go.RowKit

/-- Three new blocks, and what came behind them. -/
theorem three_new {w w1 : World} {o1 o2 o3 : Obj} (h : Below (((w.alloc o1).alloc o2).alloc o3).heap.size (((w.alloc o1).alloc o2).alloc o3) w1) :
    w1.heap[w.heap.size]? = some o1 ∧ w1.heap[w.heap.size + 1]? = some o2 ∧ w1.heap[w.heap.size + 2]? = some o3 ∧ Below w.heap.size w w1 ∧ w.heap.size + 3 ≤ w1.heap.size := by
  have hs := h.size
  simp at hs
  have h2 := below_past (w := (w.alloc o1).alloc o2) h
  obtain ⟨a, b, c, d⟩ := two_new h2
  refine ⟨a, b, ?_, c, by omega⟩
  rw [h.block _ (by simp)]
  have : w.heap.size + 2 = ((w.alloc o1).alloc o2).heap.size := by simp
  rw [this]; exact heap_alloc_new _ _

theorem grown_set (w : World) (a : Addr) (v : Value) : w.grownBy (w.setCell a v) (some a.block) :=
  ⟨rfl, rfl, rfl, by simp [World.setCell], fun i _ hne => heap_setCell_other w a i _ (fun e => hne (by simp [e]))⟩
theorem OwnI.set_ {w : World} {B n : Nat} {v : Value} {xs : List Int} (h : OwnI w B v n xs) {a : Addr} (ha : a.block < B) (u : Value) : OwnI (w.setCell a u) B v n xs := by
  obtain ⟨t, h⟩ := h
  refine ⟨t, h.kept (grown_set w a u) ?_⟩
  rcases hv : v.ownBlock with _ | k
  · exact .inl rfl
  · right
    have := (h.lt k hv).1
    intro e; injection e with e; omega

set_option maxHeartbeats 400000 in
theorem toTen_calls {a : Option Addr} {n c : Nat} {xs : List Int} {cpus : Int} {w : World} (ha : Ints w a n xs) (hx : n ≤ 17592186044416) :
    Calls Try.prog 59 #[.agg #[.slice a n c, .int .i64 cpus]] w fun e w' => ∃ v, e = .returned (.agg #[v, .int .i64 cpus]) ∧ OwnI w' w.heap.size v n xs ∧ Below w.heap.size w w' := by
  go_enter Try.func59, Try.ntmps59
  go_wp2_with fail
  refine (to_calls (((ha.alloc _).alloc _).alloc _) hx).mono ?_
  rintro e w1 ⟨v, rfl, hown, hb1⟩
  obtain ⟨h0, h1, h2, hb, hs⟩ := three_new hb1
  obtain ⟨vo, vc, rfl, hvc, _, _⟩ := hown.shape
  have r0 := Row.cell (w := w1) h0 0
  have r1 := Row.cell (w := w1) h0 1
  have q0 := Row.cell (w := w1) h2 0
  have q1 := Row.cell (w := w1) h2 1
  have f0 := frozen_of_row w1 (w.heap.size + 2) 0 _ _ h2
  have f1 := frozen_of_row w1 (w.heap.size + 2) 1 _ _ h2
  simp at r0 r1 q0 q1
  have HO := Lib.hid hown
  clear hb1 hown
  have hres := ((heap_setCell_other (w1.setCell ⟨w.heap.size + 1 + 1, 0, none⟩ (.slice vo n vc)) ⟨w.heap.size + 1 + 1, 1, none⟩ (w.heap.size + 1) (.int .i64 cpus) (by simp)).trans (heap_setCell_other w1 ⟨w.heap.size + 1 + 1, 0, none⟩ (w.heap.size + 1) (.slice vo n vc) (by simp))).trans h1
  go_wp2_with (refine wpList_store_row rfl 67 _ _ rfl (w.heap.size + 1) _ rfl rfl _ _ hres (by kernel_rfl) (by rfl) (by simp [Value.oneCell']) ?_)
  refine bodyPost_ret (results_cell_row rfl _ _ (w.heap.size + 1) _ _ _ _ rfl (setRow_heap _ _ _ _ _ _ hres) Try.underlying67 rfl (by kernel_rfl)) rfl ?_
  refine ⟨_, rfl, (((HO.out.base (B' := w.heap.size + 3) (by simp)).set_ (by simp) _).set_ (by simp) _).setRow (by omega) _ |>.base (by omega), ?_⟩
  exact below_setRow ((hb.setCell (by simp; omega) _).setCell (by simp; omega) _) (by omega) _

/-- Block g is a row of n tenants; the first k of them own their colours, each in blocks of its own. -/
def OwnTo (w : World) (g n k : Nat) (ts : List (List Int × Int)) : Prop :=
  ∃ (cur : Array Value) (Bs : Nat → Nat), w.heap[g]? = some (.cells cur 67 (0, 0)) ∧ cur.size = n * 2 ∧ g < Bs 0 ∧ (∀ j, j < k → Bs j ≤ Bs (j + 1)) ∧ Bs k ≤ w.heap.size ∧
    ∀ j, j < k → ∃ a m c, m ≤ c ∧ cur[j * 2]? = some (.slice a m c) ∧ cur[j * 2 + 1]? = some (.int .i64 (tenAt ts j).2) ∧ OwnIn w (Bs j) (Bs (j + 1)) (.slice a m c) m (tenAt ts j).1

theorem OwnTo.lt {w : World} {g n k : Nat} {ts : List (List Int × Int)} (h : OwnTo w g n k ts) : g < w.heap.size := by
  obtain ⟨cur, Bs, h, _⟩ := h
  exact (Array.getElem?_eq_some_iff.1 h).1
theorem OwnTo.below {w w' : World} {g n k : Nat} {ts : List (List Int × Int)} (h : OwnTo w g n k ts) (hb : Below w.heap.size w w') : OwnTo w' g n k ts := by
  obtain ⟨cur, Bs, h1, h2, h3, h4, h5, h6⟩ := h
  refine ⟨cur, Bs, (hb.block g (Array.getElem?_eq_some_iff.1 h1).1).trans h1, h2, h3, h4, Nat.le_trans h5 hb.size, fun j hj => ?_⟩
  obtain ⟨a, m, c, e0, e1, e2, e3⟩ := h6 j hj
  exact ⟨a, m, c, e0, e1, e2, e3.below hb⟩
theorem OwnTo.tens {w : World} {g n : Nat} {ts : List (List Int × Int)} (h : OwnTo w g n n ts) (hl : ts.length = n) : Tens w (some ⟨g, 0, none⟩) n ts := by
  obtain ⟨cur, Bs, h1, h2, h3, h4, h5, h6⟩ := h
  have hg := (Array.getElem?_eq_some_iff.1 h1).1
  refine ⟨hl, fun _ => ⟨g, 0, rfl, hg, fun j hj => ?_⟩⟩
  obtain ⟨a, m, c, e0, e1, e2, e3⟩ := h6 j hj
  refine ⟨hg, a, m, c, e0, ?_, ?_, e3.ints⟩
  · rw [Nat.zero_add, cell_of_row w g _ _ _ _ h1]; exact e1
  · rw [Nat.zero_add, cell_of_row w g _ _ _ _ h1]; exact e2

/-- Which cells of the row the next element has. -/
theorem OwnTo.cells {w : World} {g n k : Nat} {ts : List (List Int × Int)} (h : OwnTo w g n k ts) {i : Nat} (hi : i < n * 2) : (∃ u, w.cell? ⟨g, i, none⟩ = some u) ∧ w.frozen? ⟨g, i, none⟩ = false := by
  obtain ⟨cur, Bs, h1, h2, _⟩ := h
  refine ⟨⟨_, by rw [cell_of_row w g i _ _ _ h1]; exact Array.getElem?_eq_getElem (by omega)⟩, frozen_of_row w g i _ _ h1⟩

theorem OwnTo.step {wr w1 : World} {g n k m c : Nat} {a : Option Addr} {ts : List (List Int × Int)} (h : OwnTo wr g n k ts) (hk : k < n) (hb : Below wr.heap.size wr w1) (hv : OwnI w1 wr.heap.size (.slice a m c) m (tenAt ts k).1) (hm : m ≤ c) :
    OwnTo ((w1.setCell ⟨g, k * 2, none⟩ (.slice a m c)).setCell ⟨g, k * 2 + 1, none⟩ (.int .i64 (tenAt ts k).2)) g n (k + 1) ts := by
  have hlt := h.lt
  obtain ⟨cur, Bs, h1, h2, h3, h4, h5, h6⟩ := h.below hb
  have h5' : Bs k ≤ w1.heap.size := h5
  obtain ⟨cur0, Bs0, g1, g2, g3, g4, g5, g6⟩ := h
  have hs := hb.size
  refine ⟨(cur0.setIfInBounds (k * 2) (.slice a m c)).setIfInBounds (k * 2 + 1) (.int .i64 (tenAt ts k).2), fun j => if j ≤ k then Bs0 j else w1.heap.size, ?_, by simpa using g2, by simpa using g3, ?_, ?_, ?_⟩
  · have e1 := heap_setCell_same w1 g (k * 2) _ _ (.slice a m c) ((hb.block g hlt).trans g1)
    exact heap_setCell_same _ g (k * 2 + 1) _ _ (.int .i64 (tenAt ts k).2) e1
  · intro j hj
    dsimp only
    by_cases e : j = k
    · subst e; rw [if_pos (Nat.le_refl _), if_neg (by omega)]; omega
    · rw [if_pos (by omega), if_pos (by omega)]; exact g4 j (by omega)
  · dsimp only; rw [if_neg (by omega)]; simp
  · intro j hj
    by_cases e : j = k
    · subst e
      refine ⟨a, m, c, hm, ?_, ?_, ?_⟩
      · rw [Array.getElem?_setIfInBounds_ne (by omega), Array.getElem?_setIfInBounds_self_of_lt (by omega)]
      · rw [Array.getElem?_setIfInBounds_self_of_lt (by simp; omega)]
      · dsimp only
        rw [if_pos (Nat.le_refl _), if_neg (by omega)]
        have hB : g < Bs0 j := by
          clear h6 g6
          have : ∀ i, i ≤ j → g < Bs0 i := fun i => by
            induction i with
            | zero => intro _; exact g3
            | succ i ih => intro hi; exact Nat.lt_of_lt_of_le (ih (by omega)) (g4 i (by omega))
          exact this j (Nat.le_refl _)
        have h7 := hv.base (B' := Bs0 j) g5
        refine ⟨(h7.set_ hB _).set_ hB _, fun b hb' => ?_⟩
        obtain ⟨t, hv⟩ := hv
        have := (hv.lt b hb').2
        simpa using this
    · obtain ⟨a', m', c', e0, e1, e2, e3⟩ := g6 j (by omega)
      refine ⟨a', m', c', e0, ?_, ?_, ?_⟩
      · rw [Array.getElem?_setIfInBounds_ne (by omega), Array.getElem?_setIfInBounds_ne (by omega)]; exact e1
      · rw [Array.getElem?_setIfInBounds_ne (by omega), Array.getElem?_setIfInBounds_ne (by omega)]; exact e2
      · dsimp only
        rw [if_pos (by omega), if_pos (by omega)]
        have hB : g < Bs0 j := by
          have : ∀ i, i ≤ j → g < Bs0 i := fun i => by
            induction i with
            | zero => intro _; exact g3
            | succ i ih => intro hi; exact Nat.lt_of_lt_of_le (ih (by omega)) (g4 i (by omega))
          exact this j (Nat.le_refl _)
        have e4 := e3.below hb
        exact ⟨(e4.1.set_ hB _).set_ hB _, e4.2⟩

set_option maxHeartbeats 400000 in
theorem toTens_calls {ao : Option Addr} {n cc : Nat} {ts : List (List Int × Int)} {w : World} (hT : Tens w ao n ts) (hS : Short 17592186044416 ts) (hn : n ≤ 1048576) :
    Calls Try.prog 48 #[.slice ao n cc] w fun e w' => e = .returned (.slice (some ⟨w.heap.size, 0, none⟩) n n) ∧ OwnTo w' w.heap.size n n ts ∧ Below w.heap.size w w' := by
  have hinfo : (Try.prog.info? 67).map (fun i => (i.zero, i.size, i.bytes)) = some (some (.agg #[.slice none 0 0, .int .i64 0]), 2, 32) := by kernel_rfl
  obtain ⟨i0, hi, hz0, hz1, hz2⟩ := info_parts hinfo
  have HL := Lib.hid hT.1
  have HS := Lib.hid hS
  go_enter Try.func48, Try.ntmps48
  go_wp2_with (at_make; go_must (refine wpList_make_full _ rfl _ _ 24 rfl w.heap.size 67 i0 (.agg #[.slice none 0 0, .int .i64 0]) 2 Try.underlying24 hi hz0 hz1 _ _ _ _ n rfl rfl rfl rfl (by rw [hz2]; omega) (by unfold maxLen; omega) (Nat.le_refl _) ?_); intro w1 hown hg)
  have hb1 : Below w.heap.size w w1 := (Below.refl _ _).grown hg (Nat.le_refl _) (by simp)
  have hO : OwnTo w1 w.heap.size n 0 ts := by
    obtain ⟨_, ⟨h, _⟩ | ⟨g, cap, cur, hv, _, hh, _, _, hcs, _⟩⟩ := hown
    · cases h
    · injection hv with hv hv2 hv3
      injection hv with hv
      injection hv with hv
      subst hv; subst hv3
      exact ⟨cur, fun _ => w1.heap.size, hh, hcs, (Array.getElem?_eq_some_iff.1 hh).1, fun j hj => by omega, Nat.le_refl _, fun j hj => by omega⟩
  clear hown hg
  go_loopw [4] (fun i wr => ∃ k : Nat, k ≤ n ∧ i = .int .i64 k ∧ OwnTo wr w.heap.size n k ts ∧ Below w.heap.size w wr) (fun i _ => n - (intOf i).toNat)
  case atStart => exact ⟨0, Nat.zero_le _, rfl, hO, hb1⟩
  case round =>
    obtain ⟨k, hk, rfl, hO, hbw⟩ := hrel
    by_cases hlt : k < n
    · obtain ⟨b, off, rfl, hten⟩ := hT.at_ hlt
      obtain ⟨d0, a, l, c, hlc, e0, e1, hI⟩ := hten.below hbw
      have hl : l ≤ 17592186044416 := by have := HS.out.at_ k; have := hI.1; omega
      go_wp2_with fail
      refine (toTen_calls hI hl).mono ?_
      rintro e w2 ⟨v, rfl, hown, hb2⟩
      obtain ⟨vo, vc, rfl, hvc, _, _⟩ := hown.shape
      have hst := hO.step hlt hb2 hown hvc
      obtain ⟨⟨u0, q0⟩, f0⟩ := (hO.below hb2).cells (i := k * 2) (by omega)
      obtain ⟨⟨u1, q1⟩, f1⟩ := (hO.below hb2).cells (i := k * 2 + 1) (by omega)
      have F := Lib.hid (And.intro hst (((hbw.trans (hb2.mono hbw.size)).setCell (p := ⟨w.heap.size, k * 2, none⟩) (Nat.le_refl _) (.slice vo l vc)).setCell (p := ⟨w.heap.size, k * 2 + 1, none⟩) (Nat.le_refl _) (.int .i64 (tenAt ts k).2)))
      clear hst hown hb2 hO
      go_wp2_with fail
      go_roundw
      case rel => exact ⟨k + 1, by omega, by go_num, F.out.1, F.out.2⟩
      case measure => simp [intOf]; omega
    · obtain rfl : k = n := by omega
      have F := Lib.hid (And.intro hO hbw)
      clear hO hbw
      go_wp2_with fail
      go_ret
      exact ⟨rfl, F.out.1, F.out.2⟩
end Go.Proofs.Ytmibekddapnaaaa
