/- Helpers of the program and of the model that every chapter uses: bounds, and whether a list has a number. -/
import Derived.Test.YtkikjoalhohlgaaHelp
namespace Go.Proofs.Ytkikjoalhohlgaa
open Go.RowKit

set_option maxHeartbeats 400000 in
theorem allWithin_calls {lo hi : Int} {a : Option Addr} {n c : Nat} {xs : List Int} {w : World} (ha : Ints w a n xs) (hx : n ≤ 17592186044416) :
    Calls Try.prog 60 #[.int .i64 lo, .int .i64 hi, .slice a n c] w fun e w' => e = .returned (.bool (within lo hi xs)) ∧ w = w' := by
  have HL := Lib.hid ha.1
  go_enter Try.func60, Try.ntmps60
  go_wp2
  go_loop [11] (fun i => ∃ k : Nat, k ≤ n ∧ i = .int .i64 k ∧ Hid (within lo hi (xs.take k) = true)) (fun i => n - (intOf i).toNat)
  case atStart => exact ⟨0, Nat.zero_le _, rfl, rfl⟩
  case round =>
    obtain ⟨k, hk, rfl, HW⟩ := hrel
    by_cases hlt : k < n
    · obtain ⟨ba, oa, rfl, hba, hca⟩ := ha.at_ hlt
      have hkx : k < xs.length := by rw [HL.out]; exact hlt
      go_wp2
      · go_ret
        exact ⟨ret_bool (within_no hkx (by assumption)).symm, rfl⟩
      · have h2 : lo ≤ xs[k] ∧ xs[k] ≤ hi := by assumption
        have HS := within_snoc hkx h2.1 h2.2 HW.out
        go_round
        case rel => exact ⟨k + 1, by omega, by go_num, HS⟩
        case measure => simp [intOf]; omega
      · go_ret
        exact ⟨ret_bool (within_no hkx (.inl (by assumption))).symm, rfl⟩
    · have HH : Hid (within lo hi xs = true) := by have := HW.out; rwa [List.take_of_length_le (by have := HL.out; omega)] at this
      go_wp2
      go_ret
      exact ⟨ret_bool HH.out.symm, rfl⟩

theorem l1In_calls {v lo hi : Int} {w : World} :
    Calls Try.prog 76 #[.int .i64 v, .int .i64 lo, .int .i64 hi] w fun e w' => e = .returned (.bool (within lo hi [v])) ∧ w = w' := by
  by_cases h1 : lo ≤ v
  · by_cases h2 : v ≤ hi
    · have HF := Lib.hid (show within lo hi [v] = true by rw [within_one]; simp; omega)
      go_enter Try.func76, Try.ntmps76
      go_wp2
      go_ret
      exact ⟨ret_bool HF.out.symm, rfl⟩
    · have HF := Lib.hid (show within lo hi [v] = false by rw [within_one]; simp; omega)
      go_enter Try.func76, Try.ntmps76
      go_wp2
      go_ret
      exact ⟨ret_bool HF.out.symm, rfl⟩
  · have HF := Lib.hid (show within lo hi [v] = false by rw [within_one]; simp; omega)
    go_enter Try.func76, Try.ntmps76
    go_wp2
    go_ret
    exact ⟨ret_bool HF.out.symm, rfl⟩

/-- The list has this number. -/
def hasIn (xs : List Int) (v : Int) : Bool := xs.contains v
theorem contains_no {xs : List Int} {v : Int} {k : Nat} (h : hasIn (xs.take k) v = false) (hk : k < xs.length) (e : (xs[k] == v) = false) : hasIn (xs.take (k + 1)) v = false := by
  unfold hasIn at *
  rw [List.take_succ_eq_append_getElem hk]
  rw [Bool.eq_false_iff] at *
  intro hc
  rw [List.contains_iff_mem] at hc
  rcases List.mem_append.1 hc with h1 | h1
  · exact h (List.contains_iff_mem.2 h1)
  · simp at h1; simp [h1] at e
theorem contains_yes {xs : List Int} {v : Int} {k : Nat} (hk : k < xs.length) (e : (xs[k] == v) = true) : hasIn xs v = true := by
  unfold hasIn
  rw [List.contains_iff_mem]
  have : xs[k] = v := by simpa using e
  exact this ▸ List.getElem_mem hk

theorem Ints.grown {w w' : World} {ao : Option Addr} {n : Nat} {xs : List Int} {row : Option Nat} (h : Ints w ao n xs) (hg : w.grownBy w' row) (hd : ∀ a, ao = some a → 0 < n → row ≠ some a.block) : Ints w' ao n xs := by
  refine ⟨h.1, fun h0 => ?_⟩
  obtain ⟨b, off, rfl, hb, hc⟩ := h.2 h0
  refine ⟨b, off, rfl, Nat.lt_of_lt_of_le hb hg.size, fun j hj => ?_⟩
  have hb' : w'.heap[b]? = w.heap[b]? := hg.block b hb (fun e => hd _ rfl h0 e.symm)
  rw [World.cell?_of_block (w := w) (a := ⟨b, off + j, none⟩) hb']
  exact hc j hj
theorem Ints.old {w : World} {ao : Option Addr} {n : Nat} {xs : List Int} (h : Ints w ao n xs) : ∀ x, ao = some x → 0 < n → x.block < w.heap.size := by
  rintro x rfl h0
  obtain ⟨b, off, he, hb, _⟩ := h.2 h0
  injection he with he; subst he; exact hb

/-- A row of the call's own that is appended to: the n numbers xs, in a block from B on. -/
def OwnE (w : World) (B : Nat) (v : Value) (n : Nat) (xs : List Int) : Prop := w.ownsRow B 2 1 v n (xs.map (Value.int .i64))
theorem OwnE.own {w : World} {B n : Nat} {v : Value} {xs : List Int} (h : OwnE w B v n xs) : OwnI w B v n xs := ⟨_, h⟩
theorem OwnE.nil (w : World) (B : Nat) : OwnE w B (.slice none 0 0) 0 [] := World.ownsRow_nil _ _ _ _
theorem OwnE.made {w : World} {B b : Nat} (hB : B ≤ w.heap.size) (hb : b = w.heap.size) : OwnE (w.alloc (.cells #[] 2)) B (.slice (some ⟨b, 0, none⟩) 0 0) 0 [] := by
  subst hb; exact World.ownsRow_made w #[] 0 hB (Nat.zero_le _) rfl
theorem OwnE.below {w w' : World} {B n : Nat} {v : Value} {xs : List Int} (h : OwnE w B v n xs) (hb : Below w.heap.size w w') : OwnE w' B v n xs := by
  obtain ⟨h1, h2⟩ := h
  refine ⟨h1, ?_⟩
  rcases h2 with h2 | ⟨g, cap, cur, hv, hg, hh, r⟩
  · exact .inl h2
  · exact .inr ⟨g, cap, cur, hv, hg, by rw [hb.block g (Array.getElem?_eq_some_iff.1 hh).1]; exact hh, r⟩
theorem OwnE.lt {w : World} {B n : Nat} {v : Value} {xs : List Int} (h : OwnE w B v n xs) (k : Nat) (hk : v.ownBlock = some k) : B ≤ k := (World.ownsRow.lt h k hk).1

theorem cell_one {w : World} {u : Int} {t : TypeId} {b : Nat} (hb : b = w.heap.size) : (w.alloc (.cells #[.int .i64 u] t)).cell? ⟨b, 0, none⟩ = some (.int .i64 u) := by
  subst hb; rw [cell_of_row _ _ 0 _ _ _ (heap_alloc_new w _)]; rfl
theorem wpList_append_one {ops : Array Oper} {rest : List Oper} {o : Oper} {a : Act} {w : World} {Q : Exit → Act → World → Prop} (hgd : o.guard = none) (s x : Operand)
    (ho : o.op = .call { callee := .builtin .append, args := #[s, x], argTypes := #[105, 105] })
    {B n b c : Nat} {v : Value} {xs : List Int} {u : Int} (hs : a.eval s = v) (hown : OwnE w B v n xs) (hx : a.eval x = .slice (some ⟨b, 0, none⟩) 1 c) (hu : w.cell? ⟨b, 0, none⟩ = some (.int .i64 u))
    (hn : n ≤ 4294967296) (hB : B ≤ w.heap.size)
    (h : ∀ v' w', OwnE w' B v' (n + 1) (xs ++ [u]) → (∀ w0, Below B w0 w → Below B w0 w') → w.grownBy w' v.ownBlock → wpList Try.prog ops Q rest (a.put o.dst v') w') : wpList Try.prog ops Q (o :: rest) a w := by
  obtain ⟨i0, hi, hz0, hz1, hz2⟩ := info_parts info64
  refine wpList_append_own w hgd s x 105 ho B 2 i0 (.int .i64 0) 1 8 Try.underlying105 hi hz0 hz1 hz2 rfl (by decide) v n _ hs hown ⟨b, 0, none⟩ 1 c [.int .i64 u] hx rfl ?_ (by simp [Value.oneCell']) (by unfold maxLen; omega) (by omega) hB ?_
  · intro j y hj
    cases j with
    | zero => simp at hj; subst hj; exact hu
    | succ j => simp at hj
  · intro v' w' h1 h2 _
    refine h v' w' (by simpa [OwnE] using h1) (fun w0 hb => ?_) h2
    exact ⟨h2.os.trans hb.os, h2.tape.trans hb.tape, h2.output.trans hb.output, Nat.le_trans hb.size h2.size, fun k hk => by
      rw [h2.block k (by omega) (fun e => by have := hown.lt k e.symm; omega)]; exact hb.block k hk⟩
end Go.Proofs.Ytkikjoalhohlgaa
