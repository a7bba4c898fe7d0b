/- The laws' helpers over configs: copies whole, compared, and marked. -/
import Derived.Test.YtmibekddapnaaaaHelp2b
import Derived.Deep.RegionHeld3
namespace Go.Proofs.Ytmibekddapnaaaa
open Go.RowKit

/-- A row of n tenants in block g, all that it leads to in blocks behind g and below H. -/
def TenIn (w : World) (g H n : Nat) (ts : List (List Int × Int)) : Prop :=
  H ≤ w.heap.size ∧ g < H ∧ ts.length = n ∧ ∃ (cur : Array Value) (Bs : Nat → Nat), w.heap[g]? = some (.cells cur 67 (0, 0)) ∧ cur.size = n * 2 ∧ g < Bs 0 ∧ (∀ j, j < n → Bs j ≤ Bs (j + 1)) ∧ Bs n ≤ H ∧
    ∀ j, j < n → ∃ a m c, m ≤ c ∧ cur[j * 2]? = some (.slice a m c) ∧ cur[j * 2 + 1]? = some (.int .i64 (tenAt ts j).2) ∧ OwnIn w (Bs j) (Bs (j + 1)) (.slice a m c) m (tenAt ts j).1
theorem OwnTo.in_ {w : World} {g n : Nat} {ts : List (List Int × Int)} (h : OwnTo w g n n ts) (hl : ts.length = n) : TenIn w g w.heap.size n ts := by
  have hlt := h.lt
  obtain ⟨cur, Bs, h1, h2, h3, h4, h5, h6⟩ := h
  exact ⟨Nat.le_refl _, hlt, hl, cur, Bs, h1, h2, h3, h4, h5, h6⟩
theorem mono_up {Bs : Nat → Nat} {n : Nat} (h : ∀ j, j < n → Bs j ≤ Bs (j + 1)) {i j : Nat} (hij : i ≤ j) (hj : j ≤ n) : Bs i ≤ Bs j := by
  induction j with
  | zero => obtain rfl : i = 0 := by omega
            exact Nat.le_refl _
  | succ j ih =>
    by_cases e : i = j + 1
    · rw [e]; exact Nat.le_refl _
    · exact Nat.le_trans (ih (by omega) (by omega)) (h j (by omega))
theorem TenIn.touch {w w' : World} {g H n lo hi : Nat} {ts : List (List Int × Int)} (h : TenIn w g H n ts) (ht : Touch lo hi w w') (hd : hi ≤ g ∨ H ≤ lo) : TenIn w' g H n ts := by
  obtain ⟨h0, hgH, hl, cur, Bs, h1, h2, h3, h4, h5, h6⟩ := h
  refine ⟨Nat.le_trans h0 ht.size, hgH, hl, cur, Bs, (ht.block g (by omega) (by omega)).trans h1, h2, h3, h4, h5, fun j hj => ?_⟩
  obtain ⟨a, m, c, e0, e1, e2, e3⟩ := h6 j hj
  have b0 := mono_up h4 (Nat.zero_le j) (by omega)
  have b1 := mono_up h4 (i := j + 1) (j := n) (by omega) (by omega)
  exact ⟨a, m, c, e0, e1, e2, e3.touch ht (by omega)⟩
theorem TenIn.below {w w' : World} {g H n : Nat} {ts : List (List Int × Int)} (h : TenIn w g H n ts) (hb : Below w.heap.size w w') : TenIn w' g H n ts :=
  h.touch (Touch.of_below (lo := H) (hi := H) hb) (.inr (Nat.le_refl _))
theorem TenIn.tens {w : World} {g H n : Nat} {ts : List (List Int × Int)} (h : TenIn w g H n ts) : Tens w (some ⟨g, 0, none⟩) n ts := by
  obtain ⟨h0, hgH, hl, cur, Bs, h1, h2, h3, h4, h5, h6⟩ := h
  refine ⟨hl, fun _ => ⟨g, 0, rfl, by omega, fun j hj => ?_⟩⟩
  obtain ⟨a, m, c, e0, e1, e2, e3⟩ := h6 j hj
  refine ⟨by omega, a, m, c, e0, ?_, ?_, e3.ints⟩
  · rw [Nat.zero_add, cell_of_row w g _ _ _ _ h1]; exact e1
  · rw [Nat.zero_add, cell_of_row w g _ _ _ _ h1]; exact e2
theorem touch_set (w : World) (a : Addr) (v : Value) : Touch a.block (a.block + 1) w (w.setCell a v) := Touch.of_grown (grown_set w a v) (by intro k hk; injection hk with hk; omega)
theorem touch_setRow (w : World) (g : Nat) (cs : Array Value) : Touch g (g + 1) w (w.setRow g cs) :=
  ⟨rfl, rfl, rfl, (below_setRow (B := 0) (Below.refl 0 w) (Nat.zero_le _) cs).size, fun k _ hd => setRow_other w g k cs (by omega)⟩

set_option maxHeartbeats 400000 in
theorem toConfig_calls {ao : Option Addr} {n cc : Nat} {F C : Int} {ts : List (List Int × Int)} {w : World} (hT : Tens w ao n ts) (hS : Short 17592186044416 ts) (hn : n ≤ 1048576) :
    Calls Try.prog 25 #[.agg #[.int .i64 F, .int .i64 C, .slice ao n cc]] w fun e w' => ∃ g, e = .returned (.agg #[.int .i64 F, .int .i64 C, .slice (some ⟨g, 0, none⟩) n n]) ∧ w.heap.size ≤ g ∧ TenIn w' g w'.heap.size n ts ∧ Below w.heap.size w w' := by
  have HL := Lib.hid hT.1
  have hT3 := ((hT.alloc (.cells #[.int .i64 F, .int .i64 C, .slice ao n cc] 41)).alloc (.cells #[.int .i64 0, .int .i64 0, .slice none 0 0] 26)).alloc (.cells #[.int .i64 0, .int .i64 0, .slice none 0 0] 26)
  go_enter Try.func25, Try.ntmps25
  go_wp2_with fail
  refine (toTens_calls (((hT.alloc _).alloc _).alloc _) hS hn).mono ?_
  rintro e w1 ⟨rfl, hown, hb1⟩
  obtain ⟨h0, h1, h2, hb, hs⟩ := three_new hb1
  obtain ⟨g, hg⟩ : ∃ g, g = (((w.alloc (.cells #[.int .i64 F, .int .i64 C, .slice ao n cc] 41)).alloc (.cells #[.int .i64 0, .int .i64 0, .slice none 0 0] 26)).alloc (.cells #[.int .i64 F, .int .i64 C, .slice none 0 0] 26)).heap.size := ⟨_, rfl⟩
  have hg3 : g = w.heap.size + 3 := by rw [hg]; simp
  rw [← hg] at hown ⊢
  have hown2 := hown.in_ HL.out
  have q0 := Row.cell (w := w1) h2 0
  have q1 := Row.cell (w := w1) h2 1
  have q2 := Row.cell (w := w1) h2 2
  have f2 := frozen_of_row w1 (w.heap.size + 2) 2 _ _ h2
  simp at q0 q1 q2
  have HO := Lib.hid hown2
  have HG := Lib.hid hg3
  clear hb1 hown hown2 hg hg3
  have hres := (heap_setCell_other w1 ⟨w.heap.size + 1 + 1, 2, none⟩ (w.heap.size + 1) (.slice (some ⟨g, 0, none⟩) n n) (by simp)).trans h1
  go_wp2_with (refine wpList_store_row rfl 26 _ _ rfl (w.heap.size + 1) _ rfl rfl _ _ hres (by kernel_rfl) (by rfl) (by simp [Value.oneCell']) ?_)
  refine bodyPost_ret (results_cell_row rfl _ _ (w.heap.size + 1) _ _ _ _ rfl (setRow_heap _ _ _ _ _ _ hres) Try.underlying26 rfl (by kernel_rfl)) rfl ?_
  refine ⟨g, rfl, by have := HG.out; omega, ?_, below_setRow (hb.setCell (by simp; omega) _) (by omega) _⟩
  have t1 := HO.out.touch (touch_set w1 ⟨w.heap.size + 1 + 1, 2, none⟩ (.slice (some ⟨g, 0, none⟩) n n)) (.inl (by have := HG.out; simp; omega))
  have t2 := t1.touch (touch_setRow _ (w.heap.size + 1) #[.int .i64 F, .int .i64 C, .slice (some ⟨g, 0, none⟩) n n]) (.inl (by have := HG.out; omega))
  simpa using t2

set_option maxHeartbeats 400000 in
theorem eqTen_calls {a b : Option Addr} {n m c d : Nat} {xs : List Int} {cpus : Int} {w : World} (ha : Ints w a n xs) (hb : Ints w b m xs) (hx : n ≤ 17592186044416) :
    Calls Try.prog 60 #[.agg #[.slice a n c, .int .i64 cpus], .agg #[.slice b m d, .int .i64 cpus]] w fun e w' => e = .returned (.bool true) ∧ Below w.heap.size w w' := by
  have hq : (cpus != cpus) = false := by simp
  go_enter Try.func60, Try.ntmps60
  go_wp2_with fail
  refine (eq_calls ((ha.alloc _).alloc _) ((hb.alloc _).alloc _) hx).mono ?_
  rintro e w1 ⟨rfl, hb1⟩
  obtain ⟨h0, h1, hbw, hs⟩ := two_new hb1
  have r0 := Row.cell (w := w1) h0 1
  have r1 := Row.cell (w := w1) h1 1
  simp at r0 r1
  clear hb1
  go_wp2_with (go_quiet (fail))
  go_ret
  exact ⟨rfl, hbw⟩

set_option maxHeartbeats 800000 in
theorem eqTens_calls {a b : Option Addr} {n m c d : Nat} {ts : List (List Int × Int)} {w : World} (ha : Tens w a n ts) (hb : Tens w b m ts) (hS : Short 17592186044416 ts) (hn : n ≤ 1048576) :
    Calls Try.prog 49 #[.slice a n c, .slice b m d] w fun e w' => e = .returned (.bool true) ∧ Below w.heap.size w w' := by
  obtain rfl : n = m := ha.1.symm.trans hb.1
  have h1 : ((n : Int) != (n : Int)) = false := by simp
  have HL := Lib.hid ha.1
  have HS := Lib.hid hS
  go_enter Try.func49, Try.ntmps49
  go_wp2
  go_loopw [5] (fun i wr => ∃ k : Nat, k ≤ n ∧ i = .int .i64 k ∧ Below w.heap.size w wr) (fun i _ => n - (intOf i).toNat)
  case atStart => exact ⟨0, Nat.zero_le _, rfl, Below.refl _ _⟩
  case round =>
    obtain ⟨k, hk, rfl, hbw⟩ := hrel
    by_cases hlt : k < n
    · obtain ⟨ba, oa, rfl, hta⟩ := ha.at_ hlt
      obtain ⟨bb, ob, rfl, htb⟩ := hb.at_ hlt
      obtain ⟨d0, aa, l, ca, hla, e0, e1, hI⟩ := hta.below hbw
      obtain ⟨d1, ab, l2, cb, hlb, f0, f1, hJ⟩ := htb.below hbw
      have hl : l ≤ 17592186044416 := by have := HS.out.at_ k; have := hI.1; omega
      have kB := Below.refl wr.heap.size wr
      go_wp2_with fail
      go_region_held3 (fun w' => w'.cell? ⟨ba, oa + k * 2, none⟩ = some (.slice aa l ca) ∧ w'.cell? ⟨ba, oa + k * 2 + 1, none⟩ = some (.int .i64 (tenAt ts k).2) ∧ w'.cell? ⟨bb, ob + k * 2, none⟩ = some (.slice ab l2 cb) ∧ w'.cell? ⟨bb, ob + k * 2 + 1, none⟩ = some (.int .i64 (tenAt ts k).2) ∧ Below wr.heap.size wr w') (first | assumption | exact ⟨e0, e1, f0, f1, kB.drew⟩)
        ((go_at_call 60; obtain ⟨x0, x1, x2, x3, kb⟩ := ‹_ ∧ _ ∧ _ ∧ _ ∧ Below _ _ _›; refine (eqTen_calls (hI.below kb) (hJ.below kb) hl).mono ?_; rintro e w' ⟨rfl, b1⟩; have hS' := keep4 ⟨x0, x1, x2, x3, kb⟩ b1))
      have kb2 := hbw.trans (hS'.2.2.2.2.mono hbw.size)
      clear hS'
      go_wp2_with fail
      go_roundw
      case rel => exact ⟨k + 1, by omega, by go_num, kb2⟩
      case measure => simp [intOf]; omega
    · go_wp2
      go_ret
      exact ⟨rfl, hbw⟩
end Go.Proofs.Ytmibekddapnaaaa
