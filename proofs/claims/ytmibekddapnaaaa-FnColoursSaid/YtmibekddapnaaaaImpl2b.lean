/- Chapter 2 as the program has it: the set of claims. -/
import Derived.Test.YtmibekddapnaaaaImpl2
namespace Go.Proofs.Ytmibekddapnaaaa
open Go.RowKit

/-- Block b is the set of the pairs for which S says yes; n stores at most have been made. -/
def SetIs (w : World) (b n : Nat) (S : Int → Int → Bool) : Prop :=
  ∃ D : DataW Unit, w.ownsMap Try.prog 61 (plainElem Try.prog 4) b n D ∧ ∀ t c l, keyOf Try.prog 61 (claimKey t c) = some l → D.atKey l (.lit (.bool false)) = .lit (.bool (S t c))

theorem SetIs.made (w : World) {b : Nat} (hb : b = w.heap.size) : SetIs (w.alloc (.map #[] 0)) b 0 (fun _ _ => false) := by
  subst hb
  exact ⟨_, World.ownsMap_made w _ _ _, fun t c l _ => rfl⟩
theorem SetIs.lt {w : World} {b n : Nat} {S : Int → Int → Bool} (h : SetIs w b n S) : b < w.heap.size := by
  obtain ⟨D, h, _⟩ := h; exact h.lt
theorem SetIs.kept {w w' : World} {b n : Nat} {S : Int → Int → Bool} {row : Option Nat} (h : SetIs w b n S) (hg : w.grownBy w' row) (hne : some b ≠ row) : SetIs w' b n S := by
  obtain ⟨D, h, hD⟩ := h; exact ⟨D, h.kept hg hne, hD⟩
theorem SetIs.below {w w' : World} {b n : Nat} {S : Int → Int → Bool} (h : SetIs w b n S) (hb : Below w.heap.size w w') : SetIs w' b n S :=
  h.kept (row := none) ⟨hb.os, hb.tape, hb.output, hb.size, fun k hk _ => hb.block k hk⟩ (by simp)
theorem SetIs.alloc {w : World} {b n : Nat} {S : Int → Int → Bool} (h : SetIs w b n S) (o : Obj) : SetIs (w.alloc o) b n S := h.below ((Below.refl _ _).alloc (Nat.le_refl _) _)
theorem SetIs.congr {w : World} {b n : Nat} {S S' : Int → Int → Bool} (h : SetIs w b n S) (he : ∀ t c, S t c = S' t c) : SetIs w b n S' := by
  obtain ⟨D, h, hD⟩ := h; exact ⟨D, h, fun t c l hl => by rw [hD t c l hl, he]⟩

theorem zero_bool (w : World) : (zeroValue 4).run Try.prog w = .ok (.bool false) w := by kernel_rfl
theorem bool_of_plain {v : Value} {x : Bool} {ps : List MemPlace} (h : plainElem (H := Unit) Try.prog 4 v = some (.lit (.bool x), ps)) : v = .bool x := by
  unfold plainElem at h
  rw [Try.underlying4] at h
  cases v <;> simp at h
  obtain ⟨rfl, _⟩ := h
  rfl

theorem SetIs.look {w : World} {b n : Nat} {S : Int → Int → Bool} (h : SetIs w b n S) {t c : Int} (h0 : -9223372036854775808 ≤ t) (h1 : t ≤ 9223372036854775807) (h2 : -9223372036854775808 ≤ c) (h3 : c ≤ 9223372036854775807) :
    (Instr.lookup 57 (.map (some b)) (claimKey t c) false).run Try.prog w = .ok (.bool (S t c)) w := by
  obtain ⟨D, h, hD⟩ := h
  obtain ⟨l, hl⟩ := claim_reads h0 h1 h2 h3
  obtain ⟨v, ps, hrun, hv⟩ := h.lookup claim_law Try.underlying57 (zero_bool w) (plainElem_bool Try.underlying4 false) hl
  rw [hD t c l hl] at hv
  rw [hrun, bool_of_plain hv]

theorem wpList_lookup_set {ops : Array Oper} {rest : List Oper} {o : Oper} {a : Act} {w : World} {Q : Exit → Act → World → Prop} (hg : o.guard = none) (m x : Operand) (hop : o.op = Op.lookup 57 m x false)
    {b n : Nat} {S : Int → Int → Bool} (hs : SetIs w b n S) (hm : a.eval m = .map (some b)) {t c : Int} (hx : a.eval x = .agg #[.int .i64 t, .int .i64 c])
    (h0 : -9223372036854775808 ≤ t) (h1 : t ≤ 9223372036854775807) (h2 : -9223372036854775808 ≤ c) (h3 : c ≤ 9223372036854775807)
    (hK : wpList Try.prog ops Q rest (a.put o.dst (.bool (S t c))) w) : wpList Try.prog ops Q (o :: rest) a w := by
  refine wpList_plain hg fun K' hK' => ?_
  have hrun := hs.look h0 h1 h2 h3
  unfold claimKey at hrun
  unfold Oper.wp
  simp [execOp, hop, hm, hx, hrun, Result.andThen]
  exact hK' _ _ hK

theorem SetIs.put {w w' : World} {b n : Nat} {S : Int → Int → Bool} {D : DataW Unit} {t c : Int} {l : Lit} (hl : keyOf Try.prog 61 (claimKey t c) = some l)
    (h0 : w.ownsMap Try.prog 61 (plainElem Try.prog 4) b n D)
    (hD : ∀ t c l, keyOf Try.prog 61 (claimKey t c) = some l → D.atKey l (.lit (.bool false)) = .lit (.bool (S t c)))
    (h : w'.ownsMap Try.prog 61 (plainElem Try.prog 4) b (n + 1) (D.put l (.lit (.bool true)))) :
    SetIs w' b (n + 1) (fun t' c' => S t' c' || (decide (t' = t) && decide (c' = c))) := by
  refine ⟨_, h, fun t' c' l' hl' => ?_⟩
  by_cases e : t' = t ∧ c' = c
  · obtain ⟨rfl, rfl⟩ := e
    rw [hl] at hl'; injection hl' with hl'; subst hl'
    rw [Maps.atKey_put_same h0.isMap (claim_law.key hl)]
    simp
  · have hne : l' ≠ l := by
      rintro rfl
      have := claim_law.inj hl' hl
      unfold claimKey at this
      simp at this
      exact e this
    rw [Maps.atKey_put_other hne, hD t' c' l' hl']
    have : (decide (t' = t) && decide (c' = c)) = false := by
      rw [Bool.and_eq_false_iff]
      by_cases e1 : t' = t
      · right; simp; exact fun e2 => e ⟨e1, e2⟩
      · left; simpa using e1
    simp only [this, Bool.or_false]

theorem wpList_put_set {ops : Array Oper} {rest : List Oper} {o : Oper} {a : Act} {w : World} {Q : Exit → Act → World → Prop} (hg : o.guard = none) (m x v : Operand) (hop : o.op = Op.mapUpdate 57 m x v)
    {b n : Nat} {S : Int → Int → Bool} (hs : SetIs w b n S) (hn : n ≤ 1125899906842624) (hm : a.eval m = .map (some b)) {t c : Int} (hx : a.eval x = .agg #[.int .i64 t, .int .i64 c]) (hv : a.eval v = .bool true)
    (h0 : -9223372036854775808 ≤ t) (h1 : t ≤ 9223372036854775807) (h2 : -9223372036854775808 ≤ c) (h3 : c ≤ 9223372036854775807)
    (hK : ∀ w', SetIs w' b (n + 1) (fun t' c' => S t' c' || (decide (t' = t) && decide (c' = c))) → w.grownBy w' (some b) → wpList Try.prog ops Q rest (a.put o.dst undef) w') : wpList Try.prog ops Q (o :: rest) a w := by
  obtain ⟨D, h, hD⟩ := hs
  obtain ⟨l, hl⟩ := claim_reads h0 h1 h2 h3
  exact wpList_mapUpdate_own w hg m x v _ hop _ _ claim_law Try.underlying57 _ b n D hm h (by unfold maxLen; omega) _ _ l hx hv hl _ _ (plainElem_bool Try.underlying4 true) fun w' h1 h2 => hK w' (SetIs.put hl h hD h1) h2

/-- The claims of the first k tenants, and of the next one's first j colours. -/
def claimed (ts : List (List Int × Int)) (k j : Nat) (t c : Int) : Bool :=
  decide (0 ≤ t) && ((decide (t < k) && hasColour (tenAt ts t.toNat) c) || (decide (t = k) && hasIn ((tenAt ts k).1.take j) c))
theorem claimed_zero (ts : List (List Int × Int)) (t c : Int) : claimed ts 0 0 t c = false := by
  unfold claimed
  simp [hasIn]
  intro h1 h2; omega
theorem claimed_step {ts : List (List Int × Int)} {k j : Nat} (hj : j < (tenAt ts k).1.length) (t c : Int) : (claimed ts k j t c || (decide (t = (k : Int)) && decide (c = (tenAt ts k).1[j]))) = claimed ts k (j + 1) t c := by
  unfold claimed hasIn
  rw [List.take_succ_eq_append_getElem hj]
  by_cases e : t = k
  · subst e
    have h0 : (0 : Int) ≤ (k : Int) := by omega
    have h1 : ¬ ((k : Int) < (k : Int)) := by omega
    simp [h0, h1]
    rw [Bool.eq_iff_iff]; simp
    rw [List.take_succ_eq_append_getElem hj, List.mem_append, List.mem_singleton]
  · simp [e]
theorem claimed_next {ts : List (List Int × Int)} {k : Nat} (t c : Int) : claimed ts k (tenAt ts k).1.length t c = claimed ts (k + 1) 0 t c := by
  unfold claimed hasColour
  by_cases e : t = k
  · subst e
    have h0 : (0 : Int) ≤ (k : Int) := by omega
    have h1 : ¬ ((k : Int) < (k : Int)) := by omega
    have h2 : (k : Int) < ((k + 1 : Nat) : Int) := by omega
    simp [h0, h1, hasIn]
    intro _; omega
  · have h1 : decide (t < (k : Int)) = decide (t < ((k + 1 : Nat) : Int)) := by
      rw [decide_eq_decide]; omega
    rw [h1]
    simp [e, hasIn]
theorem claimed_all {ts : List (List Int × Int)} {n t : Nat} {c : Int} (h : t < n) : claimed ts n 0 (t : Int) c = hasColour (tenAt ts t) c := by
  unfold claimed
  have h0 : (0 : Int) ≤ (t : Int) := by omega
  have h1 : (t : Int) < (n : Int) := by omega
  simp [h0, h1, hasIn]

/-- A load of a tenant out of a slice: its two cells. -/
theorem claimsOf_calls {ao : Option Addr} {n cc : Nat} {F C : Int} {ts : List (List Int × Int)} {w : World} (hT : Tens w ao n ts) (hcc : n ≤ cc) (hn : n ≤ 3) (hw : ∀ j, j < n → (tenAt ts j).1.length ≤ 8 ∧ within 0 7 (tenAt ts j).1 = true) :
    Calls Try.prog 36 #[.agg #[.int .i64 F, .int .i64 C, .slice ao n cc]] w fun e w' => ∃ b m, e = .returned (.map (some b)) ∧ w.heap.size ≤ b ∧ SetIs w' b m (claimed ts n 0) ∧ Below w.heap.size w w' := by
  have HL := Lib.hid hT.1
  have HWI := Lib.hid hw
  have hmm := @run_makeMap Try.prog
  go_enter Try.func36, Try.ntmps36
  go_wp2
  go_loopw [12] (fun i wr => ∃ k m : Nat, k ≤ n ∧ i = .int .i64 k ∧ m ≤ k * 8 ∧ SetIs wr (w.heap.size + 1) m (claimed ts k 0) ∧ Below w.heap.size w wr) (fun i _ => n - (intOf i).toNat)
  case atStart => exact ⟨0, 0, Nat.zero_le _, rfl, Nat.le_refl _, (SetIs.made _ (by simp)).congr fun t c => (claimed_zero ts t c).symm, ((Below.refl _ _).alloc (Nat.le_refl _) _).alloc (by simp) _⟩
  case round =>
    obtain ⟨k, m, hk, rfl, hm, hset, hbw⟩ := hrel
    by_cases hlt : k < n
    · obtain ⟨b, off, rfl, hten⟩ := hT.at_ hlt
      obtain ⟨d0, a, l, c, hlc, e0, e1, hI0⟩ := hten
      have hA := Lib.hid hI0.old
      have e0 := (hbw.cell (p := ⟨b, off + k * 2, none⟩) d0).trans e0
      have e1 := (hbw.cell (p := ⟨b, off + k * 2 + 1, none⟩) d0).trans e1
      have hI := hI0.below hbw
      clear hI0
      obtain ⟨xs, hxs⟩ : ∃ xs, (tenAt ts k).1 = xs := ⟨_, rfl⟩
      have HXS := Lib.hid hxs
      rw [hxs] at hI
      have hl : l ≤ 8 := by have := (HWI.out k hlt).1; rw [hxs] at this; have := hI.1; omega
      have hlx : xs.length = l := hI.1
      have HLX := Lib.hid hlx
      have hWk : within 0 7 xs = true := by rw [← hxs]; exact (HWI.out k hlt).2
      have HWK := Lib.hid hWk
      have hset2 := hset.alloc (.cells #[.slice a l c, .int .i64 (tenAt ts k).2] 67)
      clear hxs hlx hWk
      go_wp2
      go_loopw [20] (fun i wr => ∃ j m : Nat, j ≤ l ∧ i = .int .i64 j ∧ m ≤ k * 8 + j ∧ SetIs wr (w.heap.size + 1) m (claimed ts k j) ∧ Below w.heap.size w wr ∧ Ints wr a l xs) (fun i _ => l - (intOf i).toNat)
      case atStart => exact ⟨0, m, Nat.zero_le _, rfl, by omega, hset2, hbw.alloc hbw.size _, hI.alloc _⟩
      case round =>
        obtain ⟨j, m, hj, rfl, hm, hset, hbw, hI⟩ := hrel
        by_cases hlj : j < l
        · obtain ⟨ba, oa, rfl, hba, hca⟩ := hI.at_ hlj
          have hjx : j < xs.length := by rw [HLX.out]; exact hlj
          have hv := within_at HWK.out hjx
          have hst := fun t c => claimed_step (ts := ts) (k := k) (j := j) (by rw [HXS.out]; exact hjx) t c
          simp only [HXS.out] at hst
          have HST := Lib.hid hst
          clear hst
          go_wp2_with (at_mapUpdate; go_must (refine wpList_put_set (t := (k : Int)) (c := xs[j]) rfl _ _ _ rfl hset (by omega) rfl rfl rfl (by omega) (by omega) (by omega) (by omega) ?_); intro w1 hset1 hg1)
          have F : Hid (SetIs w1 (w.heap.size + 1) (m + 1) (claimed ts k (j + 1)) ∧ Below w.heap.size w w1 ∧ Ints w1 (some ⟨ba, oa, none⟩) l xs) := by
            refine ⟨hset1.congr HST.out, hbw.grown hg1 hbw.size (by intro g hg; simp at hg; omega), hI.grown hg1 (fun x hx _ e => ?_)⟩
            have := hA.out x hx (by omega)
            injection e with e
            omega
          clear hset1 hg1
          go_roundw
          case rel => exact ⟨j + 1, m + 1, by omega, by go_num, by omega, F.out.1, F.out.2.1, F.out.2.2⟩
          case measure => simp [intOf]; omega
        · obtain rfl : j = l := by omega
          have F : Hid (SetIs wr (w.heap.size + 1) m (claimed ts (k + 1) 0)) := hset.congr fun t c => by
            have := claimed_next (ts := ts) (k := k) t c
            rw [HXS.out, HLX.out] at this
            exact this
          clear hset
          go_wp2
          go_roundw
          case rel => exact ⟨k + 1, m, by omega, by go_num, by omega, F, hbw⟩
          case measure => simp [intOf]; omega
    · obtain rfl : k = n := by omega
      have F := Lib.hid (And.intro hset hbw)
      clear hset hbw
      go_wp2
      go_ret
      exact ⟨_, m, rfl, by omega, F.out.1, F.out.2⟩
end Go.Proofs.Ytmibekddapnaaaa
