/- Slices of whole numbers and of truth values that are owned; their copies, marks; what a new slice holds. -/
import Derived.Test.YtkikjoalhohlgaaNest
import Derived.Test.YtkikjoalhohlgaaHelp
namespace Go.Proofs.Ytkikjoalhohlgaa
open Go.RowKit

theorem made_at {z : Array Value} {m j i : Nat} (hi : i < z.size) (hj : j * z.size + i < m) : (madeCells z m).toList[j * z.size + i]? = z.toList[i]? := by
  have h1 : (j * z.size + i) % z.size = i := by rw [Nat.mul_comm, Nat.mul_add_mod, Nat.mod_eq_of_lt hi]
  simp [madeCells, hj, h1, hi]

/-- A new slice: what 'make' leaves. -/
theorem Own.of_made {α : Type} {K : Lay α} {t : TypeId} {w : World} {S : Nat → Prop} {g n B : Nat} {z : Value} {x : α} (hr : w.ownsRow B t K.sz (.slice (some ⟨g, 0, none⟩) n n) n (madeCells z.cells (n * K.sz)).toList) (hg : S g) (hz : z.cells.size = K.sz)
    (ho : K.own w (fun _ => False) z.cells.toList x) : Own K t w S (.slice (some ⟨g, 0, none⟩) n n) n (List.replicate n x) := by
  refine Own.of_row (F := fun _ _ => False) (cells := (madeCells z.cells (n * K.sz)).toList) ?_ (by simp) (fun g' h => ?_) (fun _ _ h => h.elim) (fun _ _ _ h => h.elim) (fun j y hj => ?_)
  · obtain ⟨h1, h2⟩ := hr
    refine ⟨h1, ?_⟩
    rcases h2 with h2 | ⟨g', cap, cur, hv, _, r⟩
    · exact .inl h2
    · exact .inr ⟨g', cap, cur, hv, Nat.zero_le _, r⟩
  · simp [Value.ownBlock] at h; exact h ▸ hg
  · rw [List.getElem?_replicate] at hj
    split at hj
    · injection hj with hj; subst hj
      refine ⟨z.cells.toList, by simpa using hz, fun i hi => ?_, ho⟩
      rw [← hz]
      have h1 := Nat.mul_le_mul_right K.sz (show j + 1 ≤ n by omega)
      rw [Nat.add_mul] at h1
      exact made_at (by omega) (by rw [hz]; omega)
    · cases hj

theorem Own.bool_at {t : TypeId} {w : World} {S : Nat → Prop} {v : Value} {n : Nat} {xs : List Bool} (h : Own KBool t w S v n xs) {j : Nat} (hj : j < n) :
    ∃ g cap, v = .slice (some ⟨g, 0, none⟩) n cap ∧ S g ∧ g < w.heap.size ∧ w.cell? ⟨g, j, none⟩ = some (.bool (xs.getD j false)) ∧ w.frozen? ⟨g, j, none⟩ = false ∧
      ∀ u, Own KBool t (w.setCell ⟨g, j, none⟩ (.bool u)) S v n (xs.set j u) ∧ Turn S w (w.setCell ⟨g, j, none⟩ (.bool u)) := by
  obtain ⟨g, cap, cs, F, x, rfl, hg, hx, hcl, hu, ho, hF, hst⟩ := h.focus hj
  obtain rfl : cs = [.bool x] := ho
  obtain ⟨h1, h2, h3⟩ := hu.cell
  have h4 := h2 0 (by simp)
  rw [show KBool.sz = 1 from rfl, Nat.mul_one] at h4 hu hst
  simp only [Nat.add_zero, List.getElem?_cons_zero] at h4
  refine ⟨g, cap, rfl, hg, h1, ?_, h3 _, fun u => ⟨?_, (Turn.set w ⟨g, j, none⟩ (.bool u)).mono (fun k hk _ => by rw [show k = g from hk]; exact hg)⟩⟩
  · rw [h4, List.getD_eq_getElem?_getD, hx]; rfl
  · have h5 := hst (w.setCell ⟨g, j, none⟩ (.bool u)) (fun _ => False) [.bool u] u rfl ((Turn.set w ⟨g, j, none⟩ (.bool u)).mono (fun k hk _ => .inr hk)) (by have := hu.set (i := 0) (u := .bool u) (by simp); simpa using this) rfl (fun _ h => h.elim)
    exact h5.mono (fun k hk _ => hk.elim id False.elim)
theorem Own.int_at {t : TypeId} {w : World} {S : Nat → Prop} {v : Value} {n : Nat} {xs : List Int} (h : Own KInt t w S v n xs) {j : Nat} (hj : j < n) :
    ∃ g cap, v = .slice (some ⟨g, 0, none⟩) n cap ∧ S g ∧ g < w.heap.size ∧ w.cell? ⟨g, j, none⟩ = some (.int .i64 (xs.getD j 0)) ∧ w.frozen? ⟨g, j, none⟩ = false ∧
      ∀ u, Own KInt t (w.setCell ⟨g, j, none⟩ (.int .i64 u)) S v n (xs.set j u) ∧ Turn S w (w.setCell ⟨g, j, none⟩ (.int .i64 u)) := by
  obtain ⟨g, cap, cs, F, x, rfl, hg, hx, hcl, hu, ho, hF, hst⟩ := h.focus hj
  obtain rfl : cs = [.int .i64 x] := ho
  obtain ⟨h1, h2, h3⟩ := hu.cell
  have h4 := h2 0 (by simp)
  rw [show KInt.sz = 1 from rfl, Nat.mul_one] at h4 hu hst
  simp only [Nat.add_zero, List.getElem?_cons_zero] at h4
  refine ⟨g, cap, rfl, hg, h1, ?_, h3 _, fun u => ⟨?_, (Turn.set w ⟨g, j, none⟩ (.int .i64 u)).mono (fun k hk _ => by rw [show k = g from hk]; exact hg)⟩⟩
  · rw [h4, List.getD_eq_getElem?_getD, hx]; rfl
  · have h5 := hst (w.setCell ⟨g, j, none⟩ (.int .i64 u)) (fun _ => False) [.int .i64 u] u rfl ((Turn.set w ⟨g, j, none⟩ (.int .i64 u)).mono (fun k hk _ => .inr hk)) (by have := hu.set (i := 0) (u := .int .i64 u) (by simp); simpa using this) rfl (fun _ h => h.elim)
    exact h5.mono (fun k hk _ => hk.elim id False.elim)

theorem infoBool : (Try.prog.info? 4).map (fun i => (i.zero, i.size, i.bytes)) = some (some (.bool false), 1, 1) := by kernel_rfl

/-- Of xs the first k, then d: what a copy looks like behind k rounds. -/
def fillD {α : Type} (d : α) (xs : List α) (k : Nat) : List α := xs.take k ++ List.replicate (xs.length - k) d
theorem fillD_zero {α : Type} (d : α) (xs : List α) : fillD d xs 0 = List.replicate xs.length d := by simp [fillD]
theorem fillD_full {α : Type} (d : α) (xs : List α) : fillD d xs xs.length = xs := by simp [fillD]
theorem fillD_step {α : Type} {d : α} {xs : List α} {k : Nat} {x : α} (h : xs[k]? = some x) : (fillD d xs k).set k x = fillD d xs (k + 1) := by
  obtain ⟨hk, rfl⟩ := List.getElem?_eq_some_iff.1 h
  unfold fillD
  have hl : (xs.take k).length = k := by simp; omega
  obtain ⟨m, hm⟩ : ∃ m, xs.length - k = m + 1 := ⟨xs.length - k - 1, by omega⟩
  rw [List.set_append_right _ _ (by omega), hl, Nat.sub_self, hm, List.replicate_succ, List.set_cons_zero, show xs.length - (k + 1) = m by omega, List.take_succ_eq_append_getElem hk, List.append_assoc]
  rfl

theorem eqB_calls {a b : Option Addr} {n m c d : Nat} {xs : List Bool} {S S' : Nat → Prop} {w : World} (ha : Lst KBool w S a n xs) (hb : Lst KBool w S' b m xs) (hx : n ≤ 17592186044416) :
    Calls Try.prog 91 #[.slice a n c, .slice b m d] w fun e w' => e = .returned (.bool true) ∧ Below w.heap.size w w' := by
  obtain rfl : n = m := ha.1.symm.trans hb.1
  have h1 : ((n : Int) != (n : Int)) = false := by simp
  have HL := Lib.hid ha.1
  go_enter Try.func91, Try.ntmps91
  go_wp2
  go_loopw [5] (fun i wr => ∃ k : Nat, k ≤ n ∧ i = .int .i64 k ∧ Below w.heap.size w wr) (fun i _ => n - (intOf i).toNat)
  case atStart => exact ⟨0, Nat.zero_le _, rfl, Below.refl _ _⟩
  case round =>
    obtain ⟨k, hk, rfl, hbw⟩ := hrel
    by_cases hlt : k < n
    · obtain ⟨ba, oa, rfl, hba, hca⟩ := (ha.below hbw).bool_at hlt
      obtain ⟨bb, ob, rfl, hbb, hcb⟩ := (hb.below hbw).bool_at hlt
      have hkx : k < xs.length := by rw [HL.out]; exact hlt
      have h2 : (xs[k] != xs[k]) = false := by simp
      go_wp2_with (go_quiet (fail))
      go_roundw
      case rel => exact ⟨k + 1, by omega, by go_num, below_drewN hbw _⟩
      case measure => simp [intOf]; omega
    · go_wp2
      go_ret
      exact ⟨rfl, hbw⟩

theorem szB_calls {a : Option Addr} {n c : Nat} {r : Int} {w : World} (hn : n ≤ 9223372036854775807) (h0 : 0 ≤ r) (h1 : r ≤ 1048576) :
    Calls Try.prog 89 #[.slice a n c, .int .i64 r] w fun e w' => e = .returned (.int .i64 (if r - n < 0 then -1 else r - n)) ∧ w = w' := by
  by_cases h : r - (n : Int) < 0
  · rw [if_pos h]
    go_enter Try.func89, Try.ntmps89
    go_wp2
    go_ret
    exact ⟨rfl, rfl⟩
  · rw [if_neg h]
    go_enter Try.func89, Try.ntmps89
    go_wp2
    go_ret
    exact ⟨rfl, rfl⟩

set_option maxHeartbeats 400000 in
theorem toB_calls {a : Option Addr} {n c : Nat} {xs : List Bool} {S : Nat → Prop} {w : World} (ha : Lst KBool w S a n xs) (hx : n ≤ 17592186044416) :
    Calls Try.prog 90 #[.slice a n c] w fun e w' => ∃ v, e = .returned v ∧ Own KBool 4 w' (fun k => w.heap.size ≤ k) v n xs ∧ Below w.heap.size w w' := by
  obtain ⟨i0, hi, hz0, hz1, hz2⟩ := info_parts infoBool
  have HL := Lib.hid ha.1
  go_enter Try.func90, Try.ntmps90
  go_wp2_with (at_make; go_must (refine wpList_make_full _ rfl _ _ 43 rfl w.heap.size 4 i0 (.bool false) 1 Try.underlying43 hi hz0 hz1 _ _ _ _ n rfl rfl rfl rfl (by rw [hz2]; omega) (by unfold maxLen; omega) (Nat.le_refl _) ?_); intro w1 hown hg)
  have hb1 : Below w.heap.size w w1 := (Below.refl _ _).grown hg (Nat.le_refl _) (by simp)
  have hown1 : Own KBool 4 w1 (fun k => w.heap.size ≤ k) (.slice (some ⟨w.heap.size, 0, none⟩) n n) n (fillD false xs 0) := by
    rw [fillD_zero, HL.out]
    exact Own.of_made (z := .bool false) (by simpa [KBool] using hown) (Nat.le_refl _) rfl rfl
  clear hown hg
  go_loopw [4] (fun i wr => ∃ k : Nat, k ≤ n ∧ i = .int .i64 k ∧ Below w.heap.size w wr ∧ Own KBool 4 wr (fun k => w.heap.size ≤ k) (.slice (some ⟨w.heap.size, 0, none⟩) n n) n (fillD false xs k)) (fun i _ => n - (intOf i).toNat)
  case atStart => exact ⟨0, Nat.zero_le _, rfl, hb1, hown1⟩
  case round =>
    obtain ⟨k, hk, rfl, hbw, HO⟩ := hrel
    by_cases hlt : k < n
    · obtain ⟨ba, oa, rfl, hba, hca⟩ := (ha.below hbw).bool_at hlt
      have hkx : k < xs.length := by rw [HL.out]; exact hlt
      obtain ⟨g, cap, he, -, -, hcl, hfr, hst⟩ := HO.bool_at hlt
      obtain rfl : w.heap.size = g := by simpa [Value.ownBlock] using congrArg Value.ownBlock he
      clear he
      have H2 := Lib.hid (hst xs[k])
      rw [fillD_step (List.getElem?_eq_getElem hkx)] at H2
      generalize (fillD false xs k).getD k false = u0 at hcl
      clear hst HO
      go_wp2
      go_roundw
      case rel => exact ⟨k + 1, by omega, by go_num, hbw.setCell (Nat.le_refl _) _, H2.out.1⟩
      case measure => simp [intOf]; omega
    · obtain rfl : k = n := by omega
      have H : Hid (Own KBool 4 wr (fun k => w.heap.size ≤ k) (.slice (some ⟨w.heap.size, 0, none⟩) k k) k xs) := by
        have := HO; rw [← HL.out, fillD_full, HL.out] at this; exact this
      clear HO
      go_wp2
      go_ret
      exact ⟨_, rfl, H.out, hbw⟩

/-- Truth values that tell which of n numbers from K on are multiples of three. -/
def marksB (K : Int) (n : Nat) : List Bool := (List.range n).map fun i : Nat => ((K + (i : Int)) % 3 == 0)
theorem length_marksB (K : Int) (n : Nat) : (marksB K n).length = n := by simp [marksB]
theorem marksB_at (K : Int) {n k : Nat} (h : k < n) : (marksB K n).getD k false = ((K + (k : Int)) % 3 == 0) := by simp [marksB, List.getD, h]
def markedB (xs : List Bool) (K : Int) (k : Nat) : List Bool := marksB K k ++ xs.drop k
theorem markedB_zero (xs : List Bool) (K : Int) : markedB xs K 0 = xs := by simp [markedB, marksB]
theorem markedB_full (xs : List Bool) (K : Int) : markedB xs K xs.length = marksB K xs.length := by simp [markedB]
theorem markedB_step (xs : List Bool) (K : Int) {k : Nat} (h : k < xs.length) : (markedB xs K k).set k (((K + (k : Int)) % 3 == 0)) = markedB xs K (k + 1) := by
  unfold markedB
  rw [List.set_append_right _ _ (by rw [length_marksB]; omega), length_marksB, Nat.sub_self, List.drop_eq_getElem_cons h, List.set_cons_zero]
  simp [marksB, List.range_succ]

set_option maxHeartbeats 400000 in
theorem markB_calls {v : Value} {n : Nat} {xs : List Bool} {K : Int} {S : Nat → Prop} {w : World} (ho : Own KBool 4 w S v n xs) (hx : n ≤ 17592186044416) (h0 : 0 ≤ K) (hK : K ≤ 1125899906842624) :
    Calls Try.prog 92 #[v, .int .i64 K] w fun e w' => e = .returned (.int .i64 (K + n)) ∧ Own KBool 4 w' S v n (marksB K n) ∧ Turn S w w' := by
  have HL := Lib.hid ho.1
  obtain ⟨ao, c, rfl, hnc, hcm, _⟩ := ho.shape
  go_enter Try.func92, Try.ntmps92
  go_wp2
  go_loopw [1, 5] (fun q i wr => ∃ k : Nat, k ≤ n ∧ i = .int .i64 k ∧ q = .int .i64 (K + k) ∧ Own KBool 4 wr S (.slice ao n c) n (markedB xs K k) ∧ Turn S w wr) (fun _ i _ => n - (intOf i).toNat)
  case atStart => exact ⟨0, Nat.zero_le _, rfl, by simp, by rw [markedB_zero]; exact ho, Turn.refl _ _⟩
  case round =>
    obtain ⟨k, hk, rfl, rfl, HO, HT⟩ := hrel
    by_cases hlt : k < n
    · obtain ⟨g, cap, he, hg, hlo, hcl, hfr, hst⟩ := HO.bool_at hlt
      injection he with he _ hcap
      subst he
      have HS := Lib.hid (And.intro (hst (((K + (k : Int)) % 3 == 0))) HT)
      rw [markedB_step xs K (by rw [HL.out]; exact hlt)] at HS
      clear hst HO HT
      go_wp2
      go_roundw
      case rel => exact ⟨k + 1, by omega, by go_num, by go_num, HS.out.1.1, HS.out.2.trans HS.out.1.2 (fun _ h _ => h)⟩
      case measure => simp [intOf]; omega
    · obtain rfl : k = n := by omega
      have HF : Hid (Own KBool 4 wr S (.slice ao k c) k (marksB K k) ∧ Turn S w wr) := by
        have := markedB_full xs K
        rw [HL.out] at this
        rw [this] at HO
        exact ⟨HO, HT⟩
      clear HO HT
      go_wp2
      go_ret
      exact ⟨rfl, HF.out.1, HF.out.2⟩

theorem heldB_calls {ao : Option Addr} {n c : Nat} {K : Int} {S : Nat → Prop} {w : World} (ha : Lst KBool w S ao n (marksB K n)) (hx : n ≤ 17592186044416) (h0 : 0 ≤ K) (hK : K ≤ 1125899906842624) :
    Calls Try.prog 101 #[.slice ao n c, .int .i64 K] w fun e w' => e = .returned (.int .i64 (K + n)) ∧ w = w' := by
  go_enter Try.func101, Try.ntmps101
  go_wp2
  go_loop [1, 5] (fun q i => ∃ k : Nat, k ≤ n ∧ i = .int .i64 k ∧ q = .int .i64 (K + k)) (fun _ i => n - (intOf i).toNat)
  case atStart => exact ⟨0, Nat.zero_le _, rfl, by simp⟩
  case round =>
    obtain ⟨k, hk, rfl, rfl⟩ := hrel
    by_cases hlt : k < n
    · obtain ⟨b, off, rfl, _, hc⟩ := ha.bool_at hlt
      rw [marksB_at K hlt] at hc
      have hne : (((K + (k : Int)) % 3 == 0) != ((K + (k : Int)) % 3 == 0)) = false := by simp
      go_wp2
      go_round
      case rel => exact ⟨k + 1, by omega, by go_num, by go_num⟩
      case measure => simp [intOf]; omega
    · obtain rfl : k = n := by omega
      go_wp2
      go_ret
      exact ⟨rfl, rfl⟩
end Go.Proofs.Ytkikjoalhohlgaa
