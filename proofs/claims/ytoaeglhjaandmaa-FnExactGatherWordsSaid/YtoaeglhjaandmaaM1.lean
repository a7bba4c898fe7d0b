/- Joined texts (Base, Help, Share, Ten, Rise, Impl2, Impl2b): steps of the proofs of chapter 5's laws. -/
import Derived.Test.YtoaeglhjaandmaaProg
import Derived.WalkKit
import Derived.ProofKit
import Derived.Below
import Derived.Laws.OwnMore
import Derived.Deep.QuietTactic
import Derived.BigQuiet
import Derived.OpenShut
import Derived.WalkSmall
import Derived.Lib.Hide
import Derived.WalkSpells
import Derived.Deep.MidRow
import Derived.Laws.CopyOwn
import Derived.ChangeKeysEq
import Derived.IntWalk
import Derived.Maps.OwnSet
import Derived.Maps.OwnOps
import Derived.Maps.Views
import Derived.DeepKeys4
set_option linter.unusedVariables false
set_option linter.unusedSimpArgs false
/- What every walk of this seat uses: how a slice of whole numbers reads in memory, and what stays of it. -/
namespace Go.Proofs.Ytoaeglhjaandmaa
open Go.RowKit

theorem add_block (a : Addr) (n : Nat) : (a.add n).block = a.block := by unfold Addr.add; split <;> rfl

/-- The slice of n numbers at 'ao' reads as xs. -/
def Ints (w : World) (ao : Option Addr) (n : Nat) (xs : List Int) : Prop :=
  xs.length = n ∧ (0 < n → ∃ b off, ao = some ⟨b, off, none⟩ ∧ b < w.heap.size ∧ ∀ j, j < n → w.cell? ⟨b, off + j, none⟩ = some (.int .i64 (xs.getD j 0)))

theorem Ints.at_ {w : World} {ao : Option Addr} {n : Nat} {xs : List Int} (h : Ints w ao n xs) {k : Nat} (hk : k < n) :
    ∃ b off, ao = some ⟨b, off, none⟩ ∧ b < w.heap.size ∧ w.cell? ⟨b, off + k, none⟩ = some (.int .i64 (xs.getD k 0)) := by
  obtain ⟨b, off, rfl, hb, hc⟩ := h.2 (by omega)
  exact ⟨b, off, rfl, hb, hc k hk⟩

theorem Ints.below {w w' : World} {ao : Option Addr} {n : Nat} {xs : List Int} (h : Ints w ao n xs) (hb : Below w.heap.size w w') : Ints w' ao n xs := by
  refine ⟨h.1, fun hi => ?_⟩
  obtain ⟨b, off, rfl, hlt, hc⟩ := h.2 hi
  exact ⟨b, off, rfl, Nat.lt_of_lt_of_le hlt hb.size, fun j hj => by rw [hb.cell (p := ⟨b, off + j, none⟩) hlt]; exact hc j hj⟩

theorem Ints.drewN {w : World} {ao : Option Addr} {m : Nat} {xs : List Int} (h : Ints w ao m xs) (n : Nat) : Ints (w.drewN n) ao m xs := h

theorem take_snoc (xs : List Int) {k : Nat} (h : k < xs.length) : xs.take (k + 1) = xs.take k ++ [xs.getD k 0] := by
  rw [List.take_succ_eq_append_getElem h]; simp [List.getD, h]

/-- Of xs the first k, then zeros: what a copy looks like behind k rounds. -/
def fill (xs : List Int) (k : Nat) : List Int := xs.take k ++ List.replicate (xs.length - k) 0
theorem fill_zero (xs : List Int) : fill xs 0 = List.replicate xs.length 0 := by simp [fill]
theorem fill_full (xs : List Int) : fill xs xs.length = xs := by simp [fill]
theorem length_fill (xs : List Int) {k : Nat} (h : k ≤ xs.length) : (fill xs k).length = xs.length := by simp [fill]; omega
theorem fill_at (xs : List Int) {k : Nat} (h : k < xs.length) : (fill xs k)[k]? = some 0 := by
  unfold fill
  rw [List.getElem?_append_right (by simp; omega)]
  simp only [List.length_take, List.getElem?_replicate]
  rw [if_pos (by omega)]
theorem fill_step (xs : List Int) {k : Nat} (h : k < xs.length) : (fill xs k).set k xs[k] = fill xs (k + 1) := by
  unfold fill
  have hl : (xs.take k).length = k := by simp; omega
  obtain ⟨m, hm⟩ : ∃ m, xs.length - k = m + 1 := ⟨xs.length - k - 1, by omega⟩
  rw [List.set_append_right _ _ (by omega), hl, Nat.sub_self, hm, List.replicate_succ, List.set_cons_zero, show xs.length - (k + 1) = m by omega, List.take_succ_eq_append_getElem h, List.append_assoc]
  rfl

/-- The slice value v, of n numbers, owns the numbers xs in a block from B on. -/
def OwnI (w : World) (B : Nat) (v : Value) (n : Nat) (xs : List Int) : Prop := ∃ t, w.ownsRow B t 1 v n (xs.map (Value.int .i64))

theorem OwnI.shape {w : World} {B n : Nat} {v : Value} {xs : List Int} (h : OwnI w B v n xs) : ∃ ao cap, v = .slice ao n cap ∧ n ≤ cap ∧ cap ≤ maxLen ∧ Ints w ao n xs := by
  obtain ⟨t, h⟩ := h
  have hl : xs.length = n := by have := h.1; simpa using this
  rcases h.2 with ⟨rfl, hn⟩ | ⟨g, cap, cur, rfl, hb, hh, hnc, hcm, hcs, ht⟩
  · rw [hn]
    exact ⟨none, 0, rfl, Nat.le_refl _, Nat.zero_le _, by omega, fun h => absurd h (by omega)⟩
  · refine ⟨some ⟨g, 0, none⟩, cap, rfl, hnc, hcm, hl, fun hi => ⟨g, 0, rfl, (Array.getElem?_eq_some_iff.1 hh).1, fun j hj => ?_⟩⟩
    have := World.ownsRow.cellAt h j (by omega)
    rw [Nat.zero_add, this]
    simp [List.getD, hl ▸ hj]

theorem OwnI.form {w : World} {B n : Nat} {v : Value} {xs : List Int} (h : OwnI w B v n xs) (h0 : 0 < n) : ∃ t g cap cur, v = .slice (some ⟨g, 0, none⟩) n cap ∧ B ≤ g ∧ w.heap[g]? = some (.cells cur t (0, 0)) ∧ n ≤ cap ∧ cap ≤ maxLen ∧ cur.size = cap ∧ cur.toList.take n = xs.map (Value.int .i64) := by
  obtain ⟨t, h1, h2⟩ := h
  rcases h2 with ⟨rfl, hn⟩ | ⟨g, cap, cur, rfl, hb, hh, hnc, hcm, hcs, ht⟩
  · omega
  · exact ⟨t, g, cap, cur, rfl, hb, hh, hnc, hcm, by simpa using hcs, by simpa using ht⟩
theorem OwnI.of_form {w : World} {B n t g cap : Nat} {cur : Array Value} {xs : List Int} (hb : B ≤ g) (hh : w.heap[g]? = some (.cells cur t (0, 0))) (hnc : n ≤ cap) (hcm : cap ≤ maxLen) (hcs : cur.size = cap) (ht : cur.toList.take n = xs.map (Value.int .i64)) (hl : xs.length = n) :
    OwnI w B (.slice (some ⟨g, 0, none⟩) n cap) n xs := ⟨t, by simpa using hl, .inr ⟨g, cap, cur, rfl, hb, hh, hnc, hcm, by simpa using hcs, by simpa using ht⟩⟩
theorem Ints.alloc {w : World} {ao : Option Addr} {n : Nat} {xs : List Int} (h : Ints w ao n xs) (o : Obj) : Ints (w.alloc o) ao n xs := h.below ((Below.refl _ _).alloc (Nat.le_refl _) o)
theorem OwnI.ints {w : World} {B n cap : Nat} {ao : Option Addr} {xs : List Int} (h : OwnI w B (.slice ao n cap) n xs) : Ints w ao n xs := by
  obtain ⟨ao', cap', he, _, _, hi⟩ := h.shape
  injection he with he
  subst he
  exact hi
theorem OwnI.lt {w : World} {B n g cap : Nat} {xs : List Int} (h : OwnI w B (.slice (some ⟨g, 0, none⟩) n cap) n xs) : B ≤ g ∧ g < w.heap.size := by
  obtain ⟨t, h⟩ := h
  exact h.lt g rfl
theorem OwnI.nil (w : World) (B : Nat) : OwnI w B (.slice none 0 0) 0 [] := ⟨0, World.ownsRow_nil _ _ _ _⟩
theorem OwnI.kept {w w' : World} {B n : Nat} {v : Value} {xs : List Int} {row : Option Nat} (h : OwnI w B v n xs) (hg : w.grownBy w' row) (hne : v.ownBlock = none ∨ v.ownBlock ≠ row) : OwnI w' B v n xs := by
  obtain ⟨t, h⟩ := h
  exact ⟨t, h.kept hg hne⟩
theorem OwnI.base {w : World} {B B' n : Nat} {v : Value} {xs : List Int} (h : OwnI w B v n xs) (hB : B' ≤ B) : OwnI w B' v n xs := by
  obtain ⟨t, h1, h2⟩ := h
  refine ⟨t, h1, ?_⟩
  rcases h2 with h2 | ⟨g, cap, cur, hv, hg, r⟩
  · exact .inl h2
  · exact .inr ⟨g, cap, cur, hv, Nat.le_trans hB hg, r⟩
theorem OwnI.stored {w : World} {B n g cap : Nat} {xs : List Int} (h : OwnI w B (.slice (some ⟨g, 0, none⟩) n cap) n xs) (j : Nat) (u : Int) :
    OwnI (w.setCell ⟨g, j, none⟩ (.int .i64 u)) B (.slice (some ⟨g, 0, none⟩) n cap) n (xs.set j u) ∧ w.grownBy (w.setCell ⟨g, j, none⟩ (.int .i64 u)) (some g) := by
  obtain ⟨t, h⟩ := h
  obtain ⟨h1, h2⟩ := h.stored j (.int .i64 u)
  exact ⟨⟨t, by rw [List.map_set]; exact h1⟩, h2⟩
theorem OwnI.cell {w : World} {B n g cap : Nat} {xs : List Int} (h : OwnI w B (.slice (some ⟨g, 0, none⟩) n cap) n xs) {j : Nat} (hj : j < n) :
    w.cell? ⟨g, j, none⟩ = some (.int .i64 (xs.getD j 0)) ∧ w.frozen? ⟨g, j, none⟩ = false := by
  obtain ⟨t, h⟩ := h
  have hl : xs.length = n := by have := h.1; simpa using this
  refine ⟨?_, h.frozenAt j⟩
  rw [h.cellAt j (by omega)]
  simp [List.getD, hl.symm ▸ hj]
theorem grown_trans {a b c : World} {row : Option Nat} (h : a.grownBy b row) (k : b.grownBy c row) : a.grownBy c row :=
  ⟨k.os.trans h.os, k.tape.trans h.tape, k.output.trans h.output, Nat.le_trans h.size k.size, fun i hi hr => (k.block i (Nat.lt_of_lt_of_le hi h.size) hr).trans (h.block i hi hr)⟩
theorem splice_step {α : Type} (L cs : List α) (off k : Nat) (hk : k < cs.length) (h : off + cs.length ≤ L.length) : (splice L off (cs.take k)).set (off + k) cs[k] = splice L off (cs.take (k + 1)) := by
  unfold splice
  have hl : (L.take off).length = off := by simp; omega
  have hc : (cs.take k).length = k := by simp; omega
  have hc1 : (cs.take (k + 1)).length = k + 1 := by simp; omega
  rw [hc, hc1, List.set_append_right _ _ (by omega), hl, show off + k - off = k by omega, List.set_append_right _ _ (by omega), hc, Nat.sub_self, List.drop_eq_getElem_cons (by omega), List.set_cons_zero, List.take_succ_eq_append_getElem hk, Nat.add_assoc, List.append_assoc (cs.take k)]
  rfl
theorem splice_nil {α : Type} (L : List α) (off : Nat) : splice L off [] = L := by simp [splice]
theorem rangeAt_below {w w1 : World} {b o : Nat} {cs : List Value} (h : w.rangeAt b o cs) (hb : Below w.heap.size w w1) : w1.rangeAt b o cs := fun j v hv => by
  have h1 := h j v hv
  rw [hb.cell (World.block_lt_of_cell? w _ h1)]; exact h1
theorem run_eqInts {P : Program} {e : TypeId} (he : P.underlying e = some (.int .i64)) (hk : P.plainKey e = true) (A B : List Int) (d : Nat) (w : World) : ∀ is : List Nat, (∀ i ∈ is, i < A.length ∧ i < B.length) →
    (Op.eqItems (d + 1) e 1 (A.map (Value.int .i64)).toArray (B.map (Value.int .i64)).toArray is).run P w = .ok (is.all fun i => A.getD i 0 == B.getD i 0) w
  | [], _ => by simp [Op.eqItems]
  | i :: is, h => by
    obtain ⟨ha, hb⟩ := h i (by simp)
    have p1 := run_part_plain (P := P) w hk (xs := (A.map (Value.int .i64)).toArray) (off := i * 1) (v := .int .i64 (A.getD i 0)) (by simp [List.getD, ha])
    have p2 := run_part_plain (P := P) w hk (xs := (B.map (Value.int .i64)).toArray) (off := i * 1) (v := .int .i64 (B.getD i 0)) (by simp [List.getD, hb])
    simp only [Op.eqItems, Sem.run_bind, p1, p2, Result.andThen_ok, run_equalIn_int w d e .i64 .i64 _ _ he]
    rcases hc : (A.getD i 0 == B.getD i 0) with _ | _
    · simp only [List.all_cons, hc]; simp
    · simp only [List.all_cons, hc, Bool.true_and]
      simpa using run_eqInts he hk A B d w is (fun j hj => h j (by simp [hj]))

theorem run_eql_ints {P : Program} {t e : TypeId} {n : Nat} {i : TypeInfo} (hu : P.underlying t = some (.array n e)) (hi : P.info? e = some i) (hc : P.cellsOf e = 1) (he : P.underlying e = some (.int .i64)) (hk : P.plainKey e = true)
    (A B : List Int) (hA : A.length = n) (hB : B.length = n) (w : World) :
    (binOp .eql t (.agg (A.map (Value.int .i64)).toArray) (.agg (B.map (Value.int .i64)).toArray)).run P w = .ok (.bool (decide (A = B))) w := by
  rw [run_eql_struct, run_equalIn_array w 9999 _ _ hu hi, hc, run_eqInts he hk A B 9998 w _ (fun j hj => by simp at hj; omega)]
  simp only [Result.andThen_ok]
  congr 2
  rw [Bool.eq_iff_iff, List.all_eq_true, decide_eq_true_iff]
  constructor
  · intro h
    apply List.ext_getElem (by omega)
    intro j h1 h2
    have := h j (by simp; omega)
    simpa [List.getD, h1, h2] using this
  · rintro rfl j _
    simp

theorem res_at {w w1 : World} {o : Obj} (h : Below (w.heap.size + 1) (w.alloc o) w1) : w1.heap[w.heap.size]? = some o := by
  rw [h.block _ (by omega)]; exact heap_alloc_new _ _
theorem OwnI.setRow {w : World} {B n g : Nat} {v : Value} {xs : List Int} (h : OwnI w B v n xs) (hg : g < B) (cs : Array Value) : OwnI (w.setRow g cs) B v n xs := by
  obtain ⟨t, h1, h2⟩ := h
  refine ⟨t, h1, ?_⟩
  rcases h2 with h2 | ⟨g', cap, cur, hv, hg', hh, r⟩
  · exact .inl h2
  · exact .inr ⟨g', cap, cur, hv, hg', by rw [setRow_other w g g' cs (by omega)]; exact hh, r⟩
/-- What is owned stays so where nothing that was there has turned. -/
theorem OwnI.below {w w' : World} {B n : Nat} {v : Value} {xs : List Int} (h : OwnI w B v n xs) (hb : Below w.heap.size w w') : OwnI w' B v n xs := by
  obtain ⟨t, h1, h2⟩ := h
  refine ⟨t, h1, ?_⟩
  rcases h2 with h2 | ⟨g, cap, cur, hv, hg, hh, r⟩
  · exact .inl h2
  · exact .inr ⟨g, cap, cur, hv, hg, by rw [hb.block g (Array.getElem?_eq_some_iff.1 hh).1]; exact hh, r⟩

/-- All of xs are from lo to hi. -/
def within (lo hi : Int) (xs : List Int) : Bool := xs.all fun v => decide (lo ≤ v ∧ v ≤ hi)
theorem within_no {lo hi : Int} {xs : List Int} {k : Nat} (hk : k < xs.length) (h : xs[k] < lo ∨ hi < xs[k]) : within lo hi xs = false := by
  simp only [within, List.all_eq_false]
  exact ⟨xs[k], List.getElem_mem hk, by simp; omega⟩
theorem within_snoc {lo hi : Int} {xs : List Int} {k : Nat} (hk : k < xs.length) (h1 : lo ≤ xs[k]) (h2 : xs[k] ≤ hi) (h : within lo hi (xs.take k) = true) : within lo hi (xs.take (k + 1)) = true := by
  rw [List.take_succ_eq_append_getElem hk]
  simp only [within, List.all_append, List.all_cons, List.all_nil, Bool.and_true, Bool.and_eq_true] at h ⊢
  exact ⟨h, by simp [h1, h2]⟩
theorem within_one {lo hi v : Int} : within lo hi [v] = decide (lo ≤ v ∧ v ≤ hi) := by simp [within]
theorem within_one_no {lo hi : Int} {xs : List Int} {k : Nat} (hk : k < xs.length) (h : within lo hi [xs[k]] = false) : within lo hi xs = false := by
  rw [within_one] at h
  simp only [decide_eq_false_iff_not] at h
  exact within_no hk (by omega)
theorem within_one_snoc {lo hi : Int} {xs : List Int} {k : Nat} (hk : k < xs.length) (h1 : within lo hi [xs[k]] = true) (h : within lo hi (xs.take k) = true) : within lo hi (xs.take (k + 1)) = true := by
  rw [within_one] at h1
  simp only [decide_eq_true_iff] at h1
  exact within_snoc hk h1.1 h1.2 h
theorem within_at {lo hi : Int} {xs : List Int} (h : within lo hi xs = true) {k : Nat} (hk : k < xs.length) : lo ≤ xs[k] ∧ xs[k] ≤ hi := by
  have := List.all_eq_true.1 h _ (List.getElem_mem hk)
  simpa using this

/-- What 'ArenaFault' tells. -/
def arenaFault (xs : List Int) : Int := if xs.length % 16 ≠ 0 ∨ xs.length < 16 ∨ 640 < xs.length then 2 else if within (-1000000000) 1000000000 xs = true then 0 else 3

theorem arenaFault_ok {xs : List Int} (h : arenaFault xs = 0) : xs.length % 16 = 0 ∧ 16 ≤ xs.length ∧ xs.length ≤ 640 ∧ within (-1000000000) 1000000000 xs = true := by
  unfold arenaFault at h
  split at h
  · omega
  · split at h
    · exact ⟨by omega, by omega, by omega, by assumption⟩
    · omega
/-- What an arena and a frame are asked. -/
def frameFault (xs : List Int) (f : Int) : Int := if arenaFault xs = 0 then (if within 0 ((xs.length : Int) / 16 - 1) [f] = true then 0 else 3) else arenaFault xs
theorem frameFault_ok {xs : List Int} {f : Int} (h : frameFault xs f = 0) : arenaFault xs = 0 ∧ 0 ≤ f ∧ (f + 1) * 16 ≤ xs.length := by
  unfold frameFault at h
  split at h
  · split at h
    · have hw : within 0 ((xs.length : Int) / 16 - 1) [f] = true := by assumption
      simp [within] at hw
      exact ⟨by assumption, by omega, by omega⟩
    · omega
  · exact absurd h (by assumption)

/-- The words of a frame. -/
def frameOf (xs : List Int) (f : Nat) : List Int := (xs.drop (f * 16)).take 16
theorem length_frameOf {xs : List Int} {f : Nat} (h : (f + 1) * 16 ≤ xs.length) : (frameOf xs f).length = 16 := by simp [frameOf]; omega
theorem getD_frameOf {xs : List Int} {f j : Nat} (hj : j < 16) : (frameOf xs f).getD j 0 = xs.getD (f * 16 + j) 0 := by
  simp [frameOf, List.getD, hj]

/-- 'withFrame': the same words, with others in one frame. -/
def putFrame (xs : List Int) (f : Nat) (page : List Int) : List Int := splice xs (f * 16) page

/-- The five functions of chapter 1 that answer words: code and words. -/
def newArena (f : Int) : Int × List Int := if within 1 40 [f] = true then (0, List.replicate (f.toNat * 16) 0) else (2, [])
def frameWords (xs : List Int) (f : Int) : Int × List Int := if frameFault xs f = 0 then (0, frameOf xs f.toNat) else (frameFault xs f, [])
def writeFrame (xs : List Int) (f : Int) (page : List Int) : Int × List Int :=
  if frameFault xs f = 0 then (if page.length = 16 then (if within (-1000000000) 1000000000 page = true then (0, putFrame xs f.toNat page) else (3, [])) else (2, [])) else (frameFault xs f, [])
def zeroFrame (xs : List Int) (f : Int) : Int × List Int := if frameFault xs f = 0 then (0, putFrame xs f.toNat (List.replicate 16 0)) else (frameFault xs f, [])
def isZeroFrame (xs : List Int) (f : Int) : Bool := decide (frameFault xs f = 0) && decide (frameOf xs f.toNat = List.replicate 16 0)

/-- A result of a code and words, the words in new memory. -/
def RetsInts (w : World) (r : Int × List Int) (e : Ending) (w' : World) : Prop :=
  ∃ v n, e = .returned (.agg #[.int .i64 r.1, v]) ∧ OwnI w' w.heap.size v n r.2 ∧ Below w.heap.size w w'

theorem run_arrayAt (P : Program) (w : World) (t e : TypeId) (m : Nat) (h : P.underlying t = some (.array m e)) (a : Option Addr) (len c : Nat) (hl : m ≤ len) : (Instr.arrayAt t (.slice a len c)).run P w = .ok (.pointer a) w := by
  simp [Instr.arrayAt, run_underlying h, Nat.not_lt.2 hl]

theorem Ints.one {w : World} {t : TypeId} {n : Int} {b : Nat} (hb : b = w.heap.size) : Ints (w.alloc (.cells #[.int .i64 n] t)) (some ⟨b, 0, none⟩) 1 [n] := by
  subst hb
  refine ⟨rfl, fun _ => ⟨w.heap.size, 0, rfl, by simp, fun j hj => ?_⟩⟩
  obtain rfl : j = 0 := by omega
  simp

theorem ret_bool {a b : Bool} (h : a = b) : Ending.returned (.bool a) = .returned (.bool b) := by rw [h]
theorem ret_int {k : IntKind} {a b : Int} (h : a = b) : Ending.returned (.int k a) = .returned (.int k b) := by rw [h]

/-- A store into the result's own block, and the return: what it leaves. -/
theorem ret_code {w w1 : World} {o : Obj} {r : Int × List Int} (cs : Array Value) {B n : Nat} {v : Value} (hb : Below (w.heap.size + 1) (w.alloc o) w1) (hv : OwnI w1 B v n r.2) (hB : w.heap.size < B) :
    RetsInts w r (.returned (.agg #[.int .i64 r.1, v])) (w1.setRow w.heap.size cs) :=
  ⟨v, n, rfl, (hv.setRow hB cs).base (by omega), below_setRow (((Below.refl _ _).alloc (Nat.le_refl _) o).trans (hb.mono (by omega))) (Nat.le_refl _) cs⟩

/-- w' is w with new blocks, and with writes to blocks from lo to hi (hi left out) alone. -/
structure Touch (lo hi : Nat) (w w' : World) : Prop where
  os : w'.os = w.os
  tape : w'.tape = w.tape
  output : w'.output = w.output
  size : w.heap.size ≤ w'.heap.size
  block : ∀ k, k < w.heap.size → (k < lo ∨ hi ≤ k) → w'.heap[k]? = w.heap[k]?

theorem Touch.refl (lo hi : Nat) (w : World) : Touch lo hi w w := ⟨rfl, rfl, rfl, Nat.le_refl _, fun _ _ _ => rfl⟩
theorem Touch.trans {lo hi : Nat} {a b c : World} (h : Touch lo hi a b) (k : Touch lo hi b c) : Touch lo hi a c :=
  ⟨k.os.trans h.os, k.tape.trans h.tape, k.output.trans h.output, Nat.le_trans h.size k.size, fun i hi hr => (k.block i (Nat.lt_of_lt_of_le hi h.size) hr).trans (h.block i hi hr)⟩
theorem Touch.of_below {lo hi : Nat} {w w' : World} (h : Below w.heap.size w w') : Touch lo hi w w' := ⟨h.os, h.tape, h.output, h.size, fun k hk _ => h.block k hk⟩
theorem Touch.of_grown {lo hi : Nat} {w w' : World} {row : Option Nat} (h : w.grownBy w' row) (hr : ∀ k, row = some k → lo ≤ k ∧ k < hi) : Touch lo hi w w' :=
  ⟨h.os, h.tape, h.output, h.size, fun k hk hout => h.block k hk (fun e => by have := hr k e.symm; omega)⟩
theorem Touch.below {lo hi B : Nat} {w0 w w' : World} (h : Touch lo hi w w') (hb : Below B w0 w) (hB : B ≤ lo) (hs : B ≤ w0.heap.size) : Below B w0 w' :=
  ⟨h.os.trans hb.os, h.tape.trans hb.tape, h.output.trans hb.output, Nat.le_trans hb.size h.size, fun k hk => (h.block k (by have := hb.size; omega) (.inl (by omega))).trans (hb.block k hk)⟩

/-- v owns the n numbers xs in a block between lo and hi (hi left out). -/
def OwnIn (w : World) (lo hi : Nat) (v : Value) (n : Nat) (xs : List Int) : Prop := OwnI w lo v n xs ∧ ∀ k, v.ownBlock = some k → k < hi

theorem OwnI.in_ {w : World} {B n : Nat} {v : Value} {xs : List Int} (h : OwnI w B v n xs) : OwnIn w B w.heap.size v n xs := by
  refine ⟨h, fun k hk => ?_⟩
  obtain ⟨t, h⟩ := h
  exact (h.lt k hk).2
theorem OwnIn.touch {w w' : World} {lo hi l h n : Nat} {v : Value} {xs : List Int} (ho : OwnIn w lo hi v n xs) (ht : Touch l h w w') (hd : hi ≤ l ∨ h ≤ lo) : OwnIn w' lo hi v n xs := by
  obtain ⟨⟨t, h1, h2⟩, h3⟩ := ho
  refine ⟨⟨t, h1, ?_⟩, h3⟩
  rcases h2 with h2 | ⟨g, cap, cur, rfl, hg, hh, r⟩
  · exact .inl h2
  · refine .inr ⟨g, cap, cur, rfl, hg, ?_, r⟩
    have := h3 g rfl
    rw [ht.block g (Array.getElem?_eq_some_iff.1 hh).1 (by omega)]; exact hh
theorem OwnIn.below {w w' : World} {lo hi n : Nat} {v : Value} {xs : List Int} (ho : OwnIn w lo hi v n xs) (hb : Below w.heap.size w w') : OwnIn w' lo hi v n xs := ⟨ho.1.below hb, ho.2⟩

/-- n numbers, one behind the other, from K on. -/
def marks (K : Int) (n : Nat) : List Int := (List.range n).map fun i : Nat => K + (i : Int)
theorem length_marks (K : Int) (n : Nat) : (marks K n).length = n := by simp [marks]
theorem marks_at (K : Int) {n k : Nat} (h : k < n) : (marks K n).getD k 0 = K + k := by simp [marks, List.getD, h]
/-- Of xs the first k are marked. -/
def markedTo (xs : List Int) (K : Int) (k : Nat) : List Int := marks K k ++ xs.drop k
theorem markedTo_zero (xs : List Int) (K : Int) : markedTo xs K 0 = xs := by simp [markedTo, marks]
theorem markedTo_full (xs : List Int) (K : Int) : markedTo xs K xs.length = marks K xs.length := by simp [markedTo]
theorem markedTo_step (xs : List Int) (K : Int) {k : Nat} (h : k < xs.length) : (markedTo xs K k).set k (K + k) = markedTo xs K (k + 1) := by
  unfold markedTo
  rw [List.set_append_right _ _ (by rw [length_marks]; omega), length_marks, Nat.sub_self, List.drop_eq_getElem_cons h, List.set_cons_zero]
  simp [marks, List.range_succ]

/-- Block b is just the cells cs of type t. -/
def Row (w : World) (b : Nat) (t : TypeId) (cs : Array Value) : Prop := w.heap[b]? = some (.cells cs t (0, 0))
theorem Row.lt {w : World} {b : Nat} {t : TypeId} {cs : Array Value} (h : Row w b t cs) : b < w.heap.size := (Array.getElem?_eq_some_iff.1 h).1
theorem Row.cell {w : World} {b : Nat} {t : TypeId} {cs : Array Value} (h : Row w b t cs) (i : Nat) : w.cell? ⟨b, i, none⟩ = cs[i]? := cell_of_row w b i cs t (0, 0) h
theorem Row.below {w w' : World} {b : Nat} {t : TypeId} {cs : Array Value} (h : Row w b t cs) (hb : Below w.heap.size w w') : Row w' b t cs := (hb.block b h.lt).trans h
theorem Row.touch {w w' : World} {b lo hi : Nat} {t : TypeId} {cs : Array Value} (h : Row w b t cs) (ht : Touch lo hi w w') (hd : b < lo ∨ hi ≤ b) : Row w' b t cs := (ht.block b h.lt hd).trans h
theorem Row.new {w w' : World} {t : TypeId} {cs : Array Value} (h : Below (w.alloc (.cells cs t)).heap.size (w.alloc (.cells cs t)) w') : Row w' w.heap.size t cs := res_at (h.mono (by simp))
theorem below_past {w w' : World} {o : Obj} (h : Below (w.alloc o).heap.size (w.alloc o) w') : Below w.heap.size w w' := ((Below.refl _ _).alloc (Nat.le_refl _) _).trans (h.mono (by simp))
theorem row_new_touch {w w' : World} {t : TypeId} {cs : Array Value} {lo hi : Nat} (h : Touch lo hi (w.alloc (.cells cs t)) w') (hd : w.heap.size < lo ∨ hi ≤ w.heap.size) : Row w' w.heap.size t cs := (h.block _ (by simp) hd).trans (heap_alloc_new _ _)
theorem touch_past {w w' : World} {o : Obj} {lo hi : Nat} (h : Touch lo hi (w.alloc o) w') : Touch lo hi w w' := (Touch.of_below ((Below.refl _ _).alloc (Nat.le_refl _) _)).trans h
theorem OwnIn.ints {w : World} {lo hi n cap : Nat} {ao : Option Addr} {xs : List Int} (h : OwnIn w lo hi (.slice ao n cap) n xs) : Ints w ao n xs := h.1.ints
theorem OwnIn.lohi {w : World} {lo hi n : Nat} {v : Value} {xs : List Int} (h : OwnIn w lo hi v n xs) : n = xs.length := by obtain ⟨⟨_, h1, _⟩, _⟩ := h; simpa using h1.symm

theorem Ints.none_ (w : World) : Ints w none 0 [] := ⟨rfl, fun h => absurd h (by omega)⟩
theorem Ints.of_row {w : World} {x : Addr} {len cap : Nat} {zs : List Int} (hl : len ≤ cap) (hz : zs.length = cap) (hc : ∀ i, i < zs.length → w.cell? (x.add i) = some (.int .i64 (zs.getD i 0))) : Ints w (some x) len (zs.take len) := by
  refine ⟨by simp; omega, fun h0 => ?_⟩
  obtain ⟨b, off, rfl, hcell⟩ := ints_at hc (by omega)
  refine ⟨b, off, rfl, ?_, fun j hj => ?_⟩
  · exact World.block_lt_of_cell? w _ (hcell 0 (by omega))
  · rw [hcell j (by omega)]; simp [List.getD, hj]

theorem frameWords_small (xs : List Int) (f : Int) : (frameWords xs f).2.length ≤ 640 := by
  unfold frameWords; split
  · simp [frameOf]; omega
  · simp
theorem length_putFrame {xs page : List Int} {m : Nat} (h : m * 16 + page.length ≤ xs.length) : (putFrame xs m page).length = xs.length := length_splice _ _ _ h
theorem writeFrame_small (xs : List Int) (f : Int) (page : List Int) : (writeFrame xs f page).2.length ≤ 640 := by
  unfold writeFrame; split
  · rename_i h
    obtain ⟨h1, h2, h3⟩ := frameFault_ok h
    have := arenaFault_ok h1
    split
    · split
      · simp only; rw [length_putFrame (by omega)]; omega
      · simp
    · simp
  · simp
theorem zeroFrame_small (xs : List Int) (f : Int) : (zeroFrame xs f).2.length ≤ 640 := by
  unfold zeroFrame; split
  · rename_i h
    obtain ⟨h1, h2, h3⟩ := frameFault_ok h
    have := arenaFault_ok h1
    simp only; rw [length_putFrame (by rw [List.length_replicate]; omega)]; omega
  · simp
theorem newArena_small (f : Int) : (newArena f).2.length ≤ 640 := by
  unfold newArena; split
  · rename_i h; simp [within] at h; simp; omega
  · simp

theorem byte_range {x : Int} (h : (Lit.int .u8 x).wf = true) : 0 ≤ x ∧ x ≤ 255 := by
  simpa [Lit.wf, IntKind.min, IntKind.max, IntKind.signed, IntKind.bits] using h

end Go.Proofs.Ytoaeglhjaandmaa

/- The contracts of the helpers of the laws over slices of whole numbers: copy, compare, mark, hold. -/
namespace Go.Proofs.Ytoaeglhjaandmaa
open Go.RowKit

theorem run_field_R (u : World) (x v : Value) : (Instr.field 60 (.agg #[x, v]) 0).run Try.prog u = .ok x u := by
  simp [Instr.field, run_underlying Try.underlying60, part, isAgg, run_underlying Try.underlying2, asAgg]
theorem run_field_R1 (u : World) (x v : Value) : (Instr.field 60 (.agg #[x, v]) 1).run Try.prog u = .ok v u := by
  simp [Instr.field, run_underlying Try.underlying60, part, isAgg, run_underlying Try.underlying27, asAgg]
theorem info64 : (Try.prog.info? 2).map (fun i => (i.zero, i.size, i.bytes)) = some (some (.int .i64 0), 1, 8) := by kernel_rfl

theorem take_eq_snoc {xs ys : List Int} {k : Nat} (hx : k < xs.length) (hy : k < ys.length) (h : xs.take k = ys.take k) (e : (xs[k] != ys[k]) = false) : xs.take (k + 1) = ys.take (k + 1) := by
  have e' : xs[k] = ys[k] := by simpa using e
  rw [List.take_succ_eq_append_getElem hx, List.take_succ_eq_append_getElem hy, h, e']

theorem ne_of_at {xs ys : List Int} {k : Nat} (hx : k < xs.length) (hy : k < ys.length) (e : (xs[k] != ys[k]) = true) : decide (xs = ys) = false := by
  simp only [decide_eq_false_iff_not]; rintro rfl; simp at e

/-- Two slices that hold the same: the comparison says yes. -/
theorem eq_calls {a b : Option Addr} {n m c d : Nat} {xs : List Int} {w : World} (ha : Ints w a n xs) (hb : Ints w b m xs) (hx : n ≤ 17592186044416) :
    Calls Try.prog 42 #[.slice a n c, .slice b m d] w fun e w' => e = .returned (.bool true) ∧ Below w.heap.size w w' := by
  obtain rfl : n = m := ha.1.symm.trans hb.1
  have h1 : ((n : Int) != (n : Int)) = false := by simp
  have HL := Lib.hid ha.1
  go_enter Try.func42, Try.ntmps42
  go_wp2
  go_loopw [5] (fun i wr => ∃ k : Nat, k ≤ n ∧ i = .int .i64 k ∧ Below w.heap.size w wr) (fun i _ => n - (intOf i).toNat)
  case atStart => exact ⟨0, Nat.zero_le _, rfl, Below.refl _ _⟩
  case round =>
    obtain ⟨k, hk, rfl, hbw⟩ := hrel
    by_cases hlt : k < n
    · obtain ⟨ba, oa, rfl, hba, hca⟩ := (ha.below hbw).at_ hlt
      obtain ⟨bb, ob, rfl, hbb, hcb⟩ := (hb.below hbw).at_ hlt
      have hkx : k < xs.length := by rw [HL.out]; exact hlt
      have h2 : (xs[k] != xs[k]) = false := by simp
      go_wp2_with (go_quiet (fail))
      go_roundw
      case rel => exact ⟨k + 1, by omega, by go_num, below_drewN hbw _⟩
      case measure => simp [intOf]; omega
    · go_wp2
      go_ret
      exact ⟨rfl, hbw⟩

/-- What a call that makes one new slice of numbers leaves. -/
def Makes (w : World) (n : Nat) (xs : List Int) (e : Ending) (w' : World) : Prop := ∃ v, e = .returned v ∧ OwnI w' w.heap.size v n xs ∧ Below w.heap.size w w'

theorem set_own {w : World} {B g n cap : Nat} {xs : List Int} {k : Nat} (hk : k < xs.length) (h : w.ownsRow B 2 1 (.slice (some ⟨g, 0, none⟩) n cap) n ((fill xs k).map (Value.int .i64))) :
    (w.setCell ⟨g, k, none⟩ (.int .i64 xs[k])).ownsRow B 2 1 (.slice (some ⟨g, 0, none⟩) n cap) n ((fill xs (k + 1)).map (Value.int .i64)) := by
  have := (h.stored k (.int .i64 xs[k])).1
  rw [← fill_step xs hk, List.map_set]
  exact this

set_option maxHeartbeats 400000 in
theorem to_calls {a : Option Addr} {n c : Nat} {xs : List Int} {w : World} (ha : Ints w a n xs) (hx : n ≤ 17592186044416) :
    Calls Try.prog 39 #[.slice a n c] w (Makes w n xs) := by
  obtain ⟨i0, hi, hz0, hz1, hz2⟩ := info_parts info64
  have HL := Lib.hid ha.1
  go_enter Try.func39, Try.ntmps39
  go_wp2_with (at_make; go_must (refine wpList_make_full _ rfl _ _ 27 rfl w.heap.size 2 i0 (.int .i64 0) 1 Try.underlying27 hi hz0 hz1 _ _ _ _ n rfl rfl rfl rfl (by rw [hz2]; omega) (by unfold maxLen; omega) (Nat.le_refl _) ?_); intro w1 hown hg)
  have hb1 : Below w.heap.size w w1 := (Below.refl _ _).grown hg (Nat.le_refl _) (by simp)
  have hown1 : w1.ownsRow w.heap.size 2 1 (.slice (some ⟨w.heap.size, 0, none⟩) n n) n ((fill xs 0).map (Value.int .i64)) := by
    rw [fill_zero, HL.out]; simpa [toList_madeCells_one, Value.cells] using hown
  clear hown hg
  go_loopw [4] (fun i wr => ∃ k : Nat, k ≤ n ∧ i = .int .i64 k ∧ Below w.heap.size w wr ∧ wr.ownsRow w.heap.size 2 1 (.slice (some ⟨w.heap.size, 0, none⟩) n n) n ((fill xs k).map (Value.int .i64))) (fun i _ => n - (intOf i).toNat)
  case atStart => exact ⟨0, Nat.zero_le _, rfl, hb1, hown1⟩
  case round =>
    obtain ⟨k, hk, rfl, hbw, HO⟩ := hrel
    by_cases hlt : k < n
    · obtain ⟨ba, oa, rfl, hba, hca⟩ := (ha.below hbw).at_ hlt
      have hkx : k < xs.length := by rw [HL.out]; exact hlt
      have hfr := HO.frozenAt k
      have hcl := HO.cellAt k (by omega)
      have hcl2 : wr.cell? ⟨w.heap.size, k, none⟩ = some (.int .i64 0) := by
        rw [hcl, List.getElem?_map, fill_at xs hkx]; rfl
      clear hcl
      have H := Lib.hid HO
      clear HO
      go_wp2
      have H2 := set_own hkx H.out
      go_roundw
      case rel => exact ⟨k + 1, by omega, by go_num, hbw.setCell (Nat.le_refl _) _, H2⟩
      case measure => simp [intOf]; omega
    · obtain rfl : k = n := by omega
      have H : Hid (OwnI wr w.heap.size (.slice (some ⟨w.heap.size, 0, none⟩) k k) k xs) := by
        have := HO; rw [← HL.out, fill_full, HL.out] at this; exact ⟨_, this⟩
      clear HO
      go_wp2
      go_ret
      exact ⟨_, rfl, H.out, hbw⟩

set_option maxHeartbeats 400000 in
theorem mark_calls {ao : Option Addr} {n c lo hi : Nat} {xs : List Int} {K : Int} {w : World} (ho : OwnIn w lo hi (.slice ao n c) n xs) (hx : n ≤ 17592186044416) (h0 : 0 ≤ K) (hK : K ≤ 1125899906842624) :
    Calls Try.prog 43 #[.slice ao n c, .int .i64 K] w fun e w' => e = .returned (.int .i64 (K + n)) ∧ OwnIn w' lo hi (.slice ao n c) n (marks K n) ∧ Touch lo hi w w' := by
  have HL : Hid (xs.length = n) := by obtain ⟨⟨_, h, _⟩, _⟩ := ho; simpa [Hid] using h
  go_enter Try.func43, Try.ntmps43
  go_wp2
  go_loopw [1, 5] (fun q i wr => ∃ k : Nat, k ≤ n ∧ i = .int .i64 k ∧ q = .int .i64 (K + k) ∧ OwnIn wr lo hi (.slice ao n c) n (markedTo xs K k) ∧ Touch lo hi w wr) (fun _ i _ => n - (intOf i).toNat)
  case atStart => exact ⟨0, Nat.zero_le _, rfl, by simp, by rw [markedTo_zero]; exact ho, Touch.refl _ _ _⟩
  case round =>
    obtain ⟨k, hk, rfl, rfl, HO, HT⟩ := hrel
    by_cases hlt : k < n
    · obtain ⟨t, g, cap, cur, he, _⟩ := HO.1.form (by omega)
      injection he with he _ hcap
      subst he
      have hlo := HO.1.lt
      have hhi := HO.2 g rfl
      obtain ⟨hcl, hfr⟩ := HO.1.cell hlt
      have hst := HO.1.stored k (K + k)
      rw [markedTo_step xs K (by rw [HL.out]; exact hlt)] at hst
      have HS : Hid (OwnIn (wr.setCell ⟨g, k, none⟩ (.int .i64 (K + k))) lo hi (.slice (some ⟨g, 0, none⟩) n c) n (markedTo xs K (k + 1)) ∧ Touch lo hi w (wr.setCell ⟨g, k, none⟩ (.int .i64 (K + k)))) :=
        ⟨⟨hst.1, HO.2⟩, HT.trans (Touch.of_grown hst.2 (by intro k hk; simp at hk; omega))⟩
      clear hst HO HT
      go_wp2
      go_roundw
      case rel => exact ⟨k + 1, by omega, by go_num, by go_num, HS.out.1, HS.out.2⟩
      case measure => simp [intOf]; omega
    · obtain rfl : k = n := by omega
      have HF : Hid (OwnIn wr lo hi (.slice ao k c) k (marks K k) ∧ Touch lo hi w wr) := by
        have := markedTo_full xs K
        rw [HL.out] at this
        rw [this] at HO
        exact ⟨HO, HT⟩
      clear HO HT
      go_wp2
      go_ret
      exact ⟨rfl, HF.out.1, HF.out.2⟩

theorem held_calls {ao : Option Addr} {n c : Nat} {K : Int} {w : World} (ha : Ints w ao n (marks K n)) (hx : n ≤ 17592186044416) (h0 : 0 ≤ K) (hK : K ≤ 1125899906842624) :
    Calls Try.prog 83 #[.slice ao n c, .int .i64 K] w fun e w' => e = .returned (.int .i64 (K + n)) ∧ w = w' := by
  go_enter Try.func83, Try.ntmps83
  go_wp2
  go_loop [1, 5] (fun q i => ∃ k : Nat, k ≤ n ∧ i = .int .i64 k ∧ q = .int .i64 (K + k)) (fun _ i => n - (intOf i).toNat)
  case atStart => exact ⟨0, Nat.zero_le _, rfl, by simp⟩
  case round =>
    obtain ⟨k, hk, rfl, rfl⟩ := hrel
    by_cases hlt : k < n
    · obtain ⟨b, off, rfl, _, hc⟩ := ha.at_ hlt
      rw [marks_at K hlt] at hc
      have hne : (K + (k : Int) != K + (k : Int)) = false := by simp
      go_wp2
      go_round
      case rel => exact ⟨k + 1, by omega, by go_num, by go_num⟩
      case measure => simp [intOf]; omega
    · obtain rfl : k = n := by omega
      go_wp2
      go_ret
      exact ⟨rfl, rfl⟩

/-- Results of a code and words: compared, marked, held. -/
theorem eqR_calls {a b : Option Addr} {n m c d : Nat} {q : Int} {xs : List Int} {w : World} (ha : Ints w a n xs) (hb : Ints w b m xs) (hx : n ≤ 17592186044416) :
    Calls Try.prog 41 #[.agg #[.int .i64 q, .slice a n c], .agg #[.int .i64 q, .slice b m d]] w fun e w' => e = .returned (.bool true) ∧ Below w.heap.size w w' := by
  have hq : (q != q) = false := by simp
  go_enter Try.func41, Try.ntmps41
  go_wp2_with (first | (go_at_call 42; go_must (refine (eq_calls ((ha.alloc _).alloc _) ((hb.alloc _).alloc _) hx).mono ?_); rintro e w1 ⟨rfl, hb1⟩) | (go_quiet (fail)))
  go_ret
  exact ⟨rfl, (((Below.refl _ _).alloc (Nat.le_refl _) _).alloc (by simp) _).trans (hb1.mono (by simp; omega))⟩

theorem markR_calls {ao : Option Addr} {n c lo hi : Nat} {xs : List Int} {q K : Int} {w : World} (ho : OwnIn w lo hi (.slice ao n c) n xs) (hx : n ≤ 17592186044416) (h0 : 0 ≤ K) (hK : K ≤ 1125899906842624) :
    Calls Try.prog 44 #[.agg #[.int .i64 q, .slice ao n c], .int .i64 K] w fun e w' => e = .returned (.int .i64 (K + n)) ∧ OwnIn w' lo hi (.slice ao n c) n (marks K n) ∧ Touch lo hi w w' := by
  have HO := Lib.hid ho
  clear ho
  go_enter Try.func44, Try.ntmps44
  go_wp2_with fail
  have ho1 := HO.out.below ((Below.refl w.heap.size w).alloc (Nat.le_refl _) (.cells #[.int .i64 q, .slice ao n c] 60))
  refine (mark_calls ho1 hx h0 hK).mono ?_
  rintro e w1 ⟨rfl, ho2, ht⟩
  have HO2 : Hid (OwnIn w1 lo hi (.slice ao n c) n (marks K n) ∧ Touch lo hi w w1) := ⟨ho2, (Touch.of_below ((Below.refl w.heap.size w).alloc (Nat.le_refl _) _)).trans ht⟩
  clear ho1 ho2 ht
  go_wp2_with fail
  go_ret
  exact ⟨rfl, HO2.out.1, HO2.out.2⟩

theorem heldR_calls {ao : Option Addr} {n c : Nat} {q K : Int} {w : World} (ha : Ints w ao n (marks K n)) (hx : n ≤ 17592186044416) (h0 : 0 ≤ K) (hK : K ≤ 1125899906842624) :
    Calls Try.prog 45 #[.agg #[.int .i64 q, .slice ao n c], .int .i64 K] w fun e w' => e = .returned (.int .i64 (K + n)) ∧ Below w.heap.size w w' := by
  go_enter Try.func45, Try.ntmps45
  go_wp2_with fail
  refine (held_calls (ha.alloc _) hx h0 hK).mono ?_
  rintro e w1 ⟨rfl, rfl⟩
  have hlt : ¬ (K + (n : Int) < 0) := by omega
  go_wp2_with fail
  go_ret
  exact ⟨rfl, (Below.refl _ _).alloc (Nat.le_refl _) _⟩
end Go.Proofs.Ytoaeglhjaandmaa

/- Helpers of the program and of the model that every chapter uses: bounds, and whether a list has a number. -/
namespace Go.Proofs.Ytoaeglhjaandmaa
open Go.RowKit

set_option maxHeartbeats 400000 in
theorem allWithin_calls {lo hi : Int} {a : Option Addr} {n c : Nat} {xs : List Int} {w : World} (ha : Ints w a n xs) (hx : n ≤ 17592186044416) :
    Calls Try.prog 54 #[.int .i64 lo, .int .i64 hi, .slice a n c] w fun e w' => e = .returned (.bool (within lo hi xs)) ∧ w = w' := by
  have HL := Lib.hid ha.1
  go_enter Try.func54, Try.ntmps54
  go_wp2
  go_loop [11] (fun i => ∃ k : Nat, k ≤ n ∧ i = .int .i64 k ∧ Hid (within lo hi (xs.take k) = true)) (fun i => n - (intOf i).toNat)
  case atStart => exact ⟨0, Nat.zero_le _, rfl, rfl⟩
  case round =>
    obtain ⟨k, hk, rfl, HW⟩ := hrel
    by_cases hlt : k < n
    · obtain ⟨ba, oa, rfl, hba, hca⟩ := ha.at_ hlt
      have hkx : k < xs.length := by rw [HL.out]; exact hlt
      go_wp2
      · go_ret
        exact ⟨ret_bool (within_no hkx (by assumption)).symm, rfl⟩
      · have h2 : lo ≤ xs[k] ∧ xs[k] ≤ hi := by assumption
        have HS := within_snoc hkx h2.1 h2.2 HW.out
        go_round
        case rel => exact ⟨k + 1, by omega, by go_num, HS⟩
        case measure => simp [intOf]; omega
      · go_ret
        exact ⟨ret_bool (within_no hkx (.inl (by assumption))).symm, rfl⟩
    · have HH : Hid (within lo hi xs = true) := by have := HW.out; rwa [List.take_of_length_le (by have := HL.out; omega)] at this
      go_wp2
      go_ret
      exact ⟨ret_bool HH.out.symm, rfl⟩

theorem l1In_calls {v lo hi : Int} {w : World} :
    Calls Try.prog 59 #[.int .i64 v, .int .i64 lo, .int .i64 hi] w fun e w' => e = .returned (.bool (within lo hi [v])) ∧ w = w' := by
  by_cases h1 : lo ≤ v
  · by_cases h2 : v ≤ hi
    · have HF := Lib.hid (show within lo hi [v] = true by rw [within_one]; simp; omega)
      go_enter Try.func59, Try.ntmps59
      go_wp2
      go_ret
      exact ⟨ret_bool HF.out.symm, rfl⟩
    · have HF := Lib.hid (show within lo hi [v] = false by rw [within_one]; simp; omega)
      go_enter Try.func59, Try.ntmps59
      go_wp2
      go_ret
      exact ⟨ret_bool HF.out.symm, rfl⟩
  · have HF := Lib.hid (show within lo hi [v] = false by rw [within_one]; simp; omega)
    go_enter Try.func59, Try.ntmps59
    go_wp2
    go_ret
    exact ⟨ret_bool HF.out.symm, rfl⟩

/-- The list has this number. -/
def hasIn (xs : List Int) (v : Int) : Bool := xs.contains v
theorem contains_no {xs : List Int} {v : Int} {k : Nat} (h : hasIn (xs.take k) v = false) (hk : k < xs.length) (e : (xs[k] == v) = false) : hasIn (xs.take (k + 1)) v = false := by
  unfold hasIn at *
  rw [List.take_succ_eq_append_getElem hk]
  rw [Bool.eq_false_iff] at *
  intro hc
  rw [List.contains_iff_mem] at hc
  rcases List.mem_append.1 hc with h1 | h1
  · exact h (List.contains_iff_mem.2 h1)
  · simp at h1; simp [h1] at e
theorem contains_yes {xs : List Int} {v : Int} {k : Nat} (hk : k < xs.length) (e : (xs[k] == v) = true) : hasIn xs v = true := by
  unfold hasIn
  rw [List.contains_iff_mem]
  have : xs[k] = v := by simpa using e
  exact this ▸ List.getElem_mem hk

theorem l1Has_calls {a : Option Addr} {n c : Nat} {xs : List Int} {v : Int} {w : World} (ha : Ints w a n xs) (hx : n ≤ 17592186044416) :
    Calls Try.prog 68 #[.slice a n c, .int .i64 v] w fun e w' => e = .returned (.bool (hasIn xs v)) ∧ w = w' := by
  have HL := Lib.hid ha.1
  go_enter Try.func68, Try.ntmps68
  go_wp2
  go_loop [5] (fun i => ∃ k : Nat, k ≤ n ∧ i = .int .i64 k ∧ Hid (hasIn (xs.take k) v = false)) (fun i => n - (intOf i).toNat)
  case atStart => exact ⟨0, Nat.zero_le _, rfl, rfl⟩
  case round =>
    obtain ⟨k, hk, rfl, HW⟩ := hrel
    by_cases hlt : k < n
    · obtain ⟨ba, oa, rfl, hba, hca⟩ := ha.at_ hlt
      have hkx : k < xs.length := by rw [HL.out]; exact hlt
      rcases hV : (xs[k] == v) with _ | _
      · have HS := Lib.hid (contains_no HW.out hkx hV)
        go_wp2
        go_round
        case rel => exact ⟨k + 1, by omega, by go_num, HS⟩
        case measure => simp [intOf]; omega
      · have HS := Lib.hid (contains_yes hkx hV)
        go_wp2
        go_ret
        exact ⟨ret_bool HS.out.symm, rfl⟩
    · have HH : Hid (hasIn xs v = false) := by have := HW.out; rwa [List.take_of_length_le (by have := HL.out; omega)] at this
      go_wp2
      go_ret
      exact ⟨ret_bool HH.out.symm, rfl⟩

theorem Ints.grown {w w' : World} {ao : Option Addr} {n : Nat} {xs : List Int} {row : Option Nat} (h : Ints w ao n xs) (hg : w.grownBy w' row) (hd : ∀ a, ao = some a → 0 < n → row ≠ some a.block) : Ints w' ao n xs := by
  refine ⟨h.1, fun h0 => ?_⟩
  obtain ⟨b, off, rfl, hb, hc⟩ := h.2 h0
  refine ⟨b, off, rfl, Nat.lt_of_lt_of_le hb hg.size, fun j hj => ?_⟩
  have hb' : w'.heap[b]? = w.heap[b]? := hg.block b hb (fun e => hd _ rfl h0 e.symm)
  rw [World.cell?_of_block (w := w) (a := ⟨b, off + j, none⟩) hb']
  exact hc j hj
theorem Ints.old {w : World} {ao : Option Addr} {n : Nat} {xs : List Int} (h : Ints w ao n xs) : ∀ x, ao = some x → 0 < n → x.block < w.heap.size := by
  rintro x rfl h0
  obtain ⟨b, off, he, hb, _⟩ := h.2 h0
  injection he with he; subst he; exact hb

/-- A row of the call's own that is appended to: the n numbers xs, in a block from B on. -/
def OwnE (w : World) (B : Nat) (v : Value) (n : Nat) (xs : List Int) : Prop := w.ownsRow B 2 1 v n (xs.map (Value.int .i64))
theorem OwnE.own {w : World} {B n : Nat} {v : Value} {xs : List Int} (h : OwnE w B v n xs) : OwnI w B v n xs := ⟨_, h⟩
theorem OwnE.nil (w : World) (B : Nat) : OwnE w B (.slice none 0 0) 0 [] := World.ownsRow_nil _ _ _ _
theorem OwnE.made {w : World} {B b : Nat} (hB : B ≤ w.heap.size) (hb : b = w.heap.size) : OwnE (w.alloc (.cells #[] 2)) B (.slice (some ⟨b, 0, none⟩) 0 0) 0 [] := by
  subst hb; exact World.ownsRow_made w #[] 0 hB (Nat.zero_le _) rfl
theorem OwnE.below {w w' : World} {B n : Nat} {v : Value} {xs : List Int} (h : OwnE w B v n xs) (hb : Below w.heap.size w w') : OwnE w' B v n xs := by
  obtain ⟨h1, h2⟩ := h
  refine ⟨h1, ?_⟩
  rcases h2 with h2 | ⟨g, cap, cur, hv, hg, hh, r⟩
  · exact .inl h2
  · exact .inr ⟨g, cap, cur, hv, hg, by rw [hb.block g (Array.getElem?_eq_some_iff.1 hh).1]; exact hh, r⟩
theorem OwnE.lt {w : World} {B n : Nat} {v : Value} {xs : List Int} (h : OwnE w B v n xs) (k : Nat) (hk : v.ownBlock = some k) : B ≤ k := (World.ownsRow.lt h k hk).1

theorem cell_one {w : World} {u : Int} {t : TypeId} {b : Nat} (hb : b = w.heap.size) : (w.alloc (.cells #[.int .i64 u] t)).cell? ⟨b, 0, none⟩ = some (.int .i64 u) := by
  subst hb; rw [cell_of_row _ _ 0 _ _ _ (heap_alloc_new w _)]; rfl
theorem wpList_append_one {ops : Array Oper} {rest : List Oper} {o : Oper} {a : Act} {w : World} {Q : Exit → Act → World → Prop} (hgd : o.guard = none) (s x : Operand)
    (ho : o.op = .call { callee := .builtin .append, args := #[s, x], argTypes := #[27, 27] })
    {B n b c : Nat} {v : Value} {xs : List Int} {u : Int} (hs : a.eval s = v) (hown : OwnE w B v n xs) (hx : a.eval x = .slice (some ⟨b, 0, none⟩) 1 c) (hu : w.cell? ⟨b, 0, none⟩ = some (.int .i64 u))
    (hn : n ≤ 4294967296) (hB : B ≤ w.heap.size)
    (h : ∀ v' w', OwnE w' B v' (n + 1) (xs ++ [u]) → (∀ w0, Below B w0 w → Below B w0 w') → w.grownBy w' v.ownBlock → wpList Try.prog ops Q rest (a.put o.dst v') w') : wpList Try.prog ops Q (o :: rest) a w := by
  obtain ⟨i0, hi, hz0, hz1, hz2⟩ := info_parts info64
  refine wpList_append_own w hgd s x 27 ho B 2 i0 (.int .i64 0) 1 8 Try.underlying27 hi hz0 hz1 hz2 rfl (by decide) v n _ hs hown ⟨b, 0, none⟩ 1 c [.int .i64 u] hx rfl ?_ (by simp [Value.oneCell']) (by unfold maxLen; omega) (by omega) hB ?_
  · intro j y hj
    cases j with
    | zero => simp at hj; subst hj; exact hu
    | succ j => simp at hj
  · intro v' w' h1 h2 _
    refine h v' w' (by simpa [OwnE] using h1) (fun w0 hb => ?_) h2
    exact ⟨h2.os.trans hb.os, h2.tape.trans hb.tape, h2.output.trans hb.output, Nat.le_trans hb.size h2.size, fun k hk => by
      rw [h2.block k (by omega) (fun e => by have := hown.lt k e.symm; omega)]; exact hb.block k hk⟩
end Go.Proofs.Ytoaeglhjaandmaa

/- Chapter 2: configs in memory, and what its functions answer, in plain words. -/
namespace Go.Proofs.Ytoaeglhjaandmaa
open Go.RowKit

/-- What is known of element j. -/
def tenAt (ts : List (List Int × Int)) (j : Nat) : List Int × Int := ts.getD j ([], 0)

/-- One tenant's two cells at an address. -/
def Ten (w : World) (b o : Nat) (t : List Int × Int) : Prop :=
  b < w.heap.size ∧ ∃ a m c, m ≤ c ∧ w.cell? ⟨b, o, none⟩ = some (.slice a m c) ∧ w.cell? ⟨b, o + 1, none⟩ = some (.int .i64 t.2) ∧ Ints w a m t.1

theorem Ten.below {w w' : World} {b o : Nat} {t : List Int × Int} (h : Ten w b o t) (hb : Below w.heap.size w w') : Ten w' b o t := by
  obtain ⟨h0, a, m, c, hm, h1, h2, h3⟩ := h
  exact ⟨Nat.lt_of_lt_of_le h0 hb.size, a, m, c, hm, (hb.cell (p := ⟨b, o, none⟩) h0).trans h1, (hb.cell (p := ⟨b, o + 1, none⟩) h0).trans h2, h3.below hb⟩
theorem Ten.drewN {w : World} {b o : Nat} {t : List Int × Int} (h : Ten w b o t) (n : Nat) : Ten (w.drewN n) b o t := h

/-- The slice of n tenants at 'ao' reads as ts. -/
def Tens (w : World) (ao : Option Addr) (n : Nat) (ts : List (List Int × Int)) : Prop :=
  ts.length = n ∧ (0 < n → ∃ b off, ao = some ⟨b, off, none⟩ ∧ b < w.heap.size ∧ ∀ j, j < n → Ten w b (off + j * 2) (tenAt ts j))

theorem Tens.below {w w' : World} {ao : Option Addr} {n : Nat} {ts : List (List Int × Int)} (h : Tens w ao n ts) (hb : Below w.heap.size w w') : Tens w' ao n ts := by
  refine ⟨h.1, fun h0 => ?_⟩
  obtain ⟨b, off, rfl, hlt, hc⟩ := h.2 h0
  exact ⟨b, off, rfl, Nat.lt_of_lt_of_le hlt hb.size, fun j hj => (hc j hj).below hb⟩
theorem Tens.alloc {w : World} {ao : Option Addr} {n : Nat} {ts : List (List Int × Int)} (h : Tens w ao n ts) (o : Obj) : Tens (w.alloc o) ao n ts := h.below ((Below.refl _ _).alloc (Nat.le_refl _) o)
theorem Tens.drewN {w : World} {ao : Option Addr} {n : Nat} {ts : List (List Int × Int)} (h : Tens w ao n ts) (k : Nat) : Tens (w.drewN k) ao n ts := h
theorem Tens.none_ (w : World) : Tens w none 0 [] := ⟨rfl, fun h => absurd h (by omega)⟩
theorem Tens.at_ {w : World} {ao : Option Addr} {n : Nat} {ts : List (List Int × Int)} (h : Tens w ao n ts) {k : Nat} (hk : k < n) :
    ∃ b off, ao = some ⟨b, off, none⟩ ∧ Ten w b (off + k * 2) (tenAt ts k) := by
  obtain ⟨b, off, rfl, hb, hc⟩ := h.2 (by omega)
  exact ⟨b, off, rfl, hc k hk⟩

/-- No list of colours is longer than this. -/
def Short (N : Nat) (ts : List (List Int × Int)) : Prop := ∀ t ∈ ts, t.1.length ≤ N
theorem Short.at_ {N : Nat} {ts : List (List Int × Int)} (h : Short N ts) (k : Nat) : (tenAt ts k).1.length ≤ N := by
  unfold tenAt
  rcases Nat.lt_or_ge k ts.length with hk | hk
  · rw [List.getD_eq_getElem?_getD, List.getElem?_eq_getElem hk]; exact h _ (List.getElem_mem hk)
  · rw [List.getD_eq_getElem?_getD, List.getElem?_eq_none hk]; simp

/-- These rise. -/
def risingTo (xs : List Int) (k : Nat) : Prop := ∀ i, 1 ≤ i → i < k → xs.getD (i - 1) 0 < xs.getD i 0
def rising (xs : List Int) : Bool := (List.range xs.length).all fun i => decide (i = 0) || decide (xs.getD (i - 1) 0 < xs.getD i 0)
theorem rising_iff (xs : List Int) : rising xs = true ↔ risingTo xs xs.length := by
  unfold rising risingTo
  simp only [List.all_eq_true, List.mem_range, Bool.or_eq_true, decide_eq_true_iff]
  constructor
  · intro h i h1 h2
    rcases h i h2 with h3 | h3
    · omega
    · exact h3
  · intro h i hi
    by_cases h0 : i = 0
    · exact .inl h0
    · exact .inr (h i (by omega) hi)
theorem rising_no {xs : List Int} {k : Nat} (h1 : 1 ≤ k) (hk : k < xs.length) (h : ¬ xs.getD (k - 1) 0 < xs.getD k 0) : rising xs = false := by
  rcases hb : rising xs with _ | _
  · rfl
  · exact absurd ((rising_iff xs).1 hb k h1 hk) h
theorem risingTo_succ {xs : List Int} {k : Nat} (h : risingTo xs k) (h1 : xs.getD (k - 1) 0 < xs.getD k 0) : risingTo xs (k + 1) := by
  intro i i1 i2
  by_cases e : i = k
  · rw [e]; exact h1
  · exact h i i1 (by omega)

/-- What is wrong with one tenant. -/
def tenantFault (C : Int) (t : List Int × Int) : Int :=
  if within 1 2 [t.2] = true ∧ within 0 (C - 1) t.1 = true then (if rising t.1 = true then 0 else 1) else 3
/-- The first fault of the tenants, one by one. -/
def firstFault (C : Int) : List (List Int × Int) → Int
  | [] => 0
  | t :: r => if tenantFault C t = 0 then firstFault C r else tenantFault C t
theorem firstFault_at {C : Int} : ∀ {ts : List (List Int × Int)} {k : Nat}, k < ts.length → (∀ j, j < k → tenantFault C (tenAt ts j) = 0) → tenantFault C (tenAt ts k) ≠ 0 → firstFault C ts = tenantFault C (tenAt ts k)
  | [], k, hk, _, _ => by simp at hk
  | t :: r, 0, _, _, h => by simp [firstFault, tenAt] at h ⊢; exact fun h2 => absurd h2 h
  | t :: r, k + 1, hk, h0, h => by
    have h1 : tenantFault C t = 0 := by simpa [tenAt] using h0 0 (by omega)
    unfold firstFault
    rw [if_pos h1]
    have := firstFault_at (C := C) (ts := r) (k := k) (by simpa using hk) (fun j hj => by simpa [tenAt] using h0 (j + 1) (by omega)) (by simpa [tenAt] using h)
    simpa [tenAt] using this
theorem firstFault_ok {C : Int} : ∀ {ts : List (List Int × Int)}, (∀ j, j < ts.length → tenantFault C (tenAt ts j) = 0) → firstFault C ts = 0
  | [], _ => rfl
  | t :: r, h => by
    have h1 : tenantFault C t = 0 := by simpa [tenAt] using h 0 (by simp)
    unfold firstFault
    rw [if_pos h1]
    exact firstFault_ok fun j hj => by simpa [tenAt] using h (j + 1) (by simpa using hj)
theorem firstFault_all {C : Int} : ∀ {ts : List (List Int × Int)}, firstFault C ts = 0 → ∀ j, j < ts.length → tenantFault C (tenAt ts j) = 0
  | [], _, j, hj => by simp at hj
  | t :: r, h, j, hj => by
    unfold firstFault at h
    split at h
    · rename_i h1
      cases j with
      | zero => simpa [tenAt] using h1
      | succ j => simpa [tenAt] using firstFault_all h j (by simpa using hj)
    · rename_i h1; exact absurd h h1
theorem tenantFault_ok {C : Int} {t : List Int × Int} (h : tenantFault C t = 0) : 1 ≤ t.2 ∧ t.2 ≤ 2 ∧ within 0 (C - 1) t.1 = true ∧ rising t.1 = true := by
  unfold tenantFault at h
  split at h
  · rename_i h1
    split at h
    · have := h1.1
      rw [within_one] at this
      simp at this
      exact ⟨this.1, this.2, h1.2, by assumption⟩
    · omega
  · omega

theorem rising_far {xs : List Int} (h : risingTo xs xs.length) (h0 : within 0 7 xs = true) : ∀ i, i < xs.length → (i : Int) ≤ xs.getD i 0
  | 0, hi => by
    have := within_at h0 hi
    rw [List.getD_eq_getElem?_getD, List.getElem?_eq_getElem hi]; simp; omega
  | i + 1, hi => by
    have h1 := rising_far h h0 i (by omega)
    have h2 := h (i + 1) (by omega) hi
    simp only [Nat.add_sub_cancel] at h2
    omega
theorem short_of_fault {C : Int} {t : List Int × Int} (hC : C ≤ 8) (h : tenantFault C t = 0) : t.1.length ≤ 8 ∧ within 0 7 t.1 = true := by
  obtain ⟨_, _, h1, h2⟩ := tenantFault_ok h
  have h3 : within 0 7 t.1 = true := by
    unfold within at *
    rw [List.all_eq_true] at *
    intro v hv
    have := h1 v hv
    simp at *; omega
  refine ⟨?_, h3⟩
  rcases Nat.lt_or_ge 8 t.1.length with hl | hl
  · have h4 := rising_far ((rising_iff _).1 h2) h3 8 hl
    have h5 := within_at h3 hl
    rw [List.getD_eq_getElem?_getD, List.getElem?_eq_getElem hl] at h4
    simp at h4; omega
  · exact hl

/-- One tenant's colours have this one. -/
def hasColour (t : List Int × Int) (c : Int) : Bool := hasIn t.1 c
/-- Two tenants have the same colour. -/
def shared (ts : List (List Int × Int)) : Bool := (List.range ts.length).any fun i => (List.range i).any fun k => (tenAt ts i).1.any fun c => hasColour (tenAt ts k) c
theorem shared_iff (ts : List (List Int × Int)) : shared ts = true ↔ ∃ i k c, i < ts.length ∧ k < i ∧ c ∈ (tenAt ts i).1 ∧ hasColour (tenAt ts k) c = true := by
  unfold shared
  simp only [List.any_eq_true, List.mem_range]
  constructor
  · rintro ⟨i, hi, k, hk, c, hc, h⟩; exact ⟨i, k, c, hi, hk, hc, h⟩
  · rintro ⟨i, k, c, hi, hk, hc, h⟩; exact ⟨i, hi, k, hk, c, hc, h⟩

/-- No colour of the first i tenants is an earlier one's; of tenant i none is one of the first k tenants'; of its first n colours none is tenant k's. -/
def NoShare (ts : List (List Int × Int)) (i : Nat) : Prop := ∀ i' k c, i' < i → k < i' → c ∈ (tenAt ts i').1 → hasColour (tenAt ts k) c = false
def NoShare2 (ts : List (List Int × Int)) (i k : Nat) : Prop := ∀ k' c, k' < k → c ∈ (tenAt ts i).1 → hasColour (tenAt ts k') c = false
def NoShare3 (ts : List (List Int × Int)) (i k n : Nat) : Prop := ∀ c, c ∈ ((tenAt ts i).1).take n → hasColour (tenAt ts k) c = false
theorem NoShare.zero (ts : List (List Int × Int)) : NoShare ts 0 := fun _ _ _ h => by omega
theorem NoShare.succ {ts : List (List Int × Int)} {i : Nat} (h : NoShare ts i) (h2 : NoShare2 ts i i) : NoShare ts (i + 1) := by
  intro i' k c h1 hk hc
  by_cases e : i' = i
  · subst e; exact h2 k c hk hc
  · exact h i' k c (by omega) hk hc
theorem NoShare2.succ {ts : List (List Int × Int)} {i k : Nat} (h : NoShare2 ts i k) (h3 : NoShare3 ts i k (tenAt ts i).1.length) : NoShare2 ts i (k + 1) := by
  intro k' c h1 hc
  by_cases e : k' = k
  · subst e; exact h3 c (by rw [List.take_of_length_le (Nat.le_refl _)]; exact hc)
  · exact h k' c (by omega) hc
theorem NoShare3.succ {ts : List (List Int × Int)} {i k n : Nat} (h : NoShare3 ts i k n) (hn : n < (tenAt ts i).1.length) (h1 : hasColour (tenAt ts k) ((tenAt ts i).1)[n] = false) : NoShare3 ts i k (n + 1) := by
  intro c hc
  rw [List.take_succ_eq_append_getElem hn] at hc
  rcases List.mem_append.1 hc with h2 | h2
  · exact h c h2
  · simp at h2; subst h2; exact h1
theorem NoShare3.zero (ts : List (List Int × Int)) (i k : Nat) : NoShare3 ts i k 0 := fun c hc => by simp at hc
theorem NoShare2.zero (ts : List (List Int × Int)) (i : Nat) : NoShare2 ts i 0 := fun _ _ h => by omega
theorem shared_no {ts : List (List Int × Int)} (h : NoShare ts ts.length) : shared ts = false := by
  rw [Bool.eq_false_iff]
  intro hs
  obtain ⟨i, k, c, hi, hk, hc, h1⟩ := (shared_iff ts).1 hs
  rw [h i k c hi hk hc] at h1; cases h1
theorem shared_yes {ts : List (List Int × Int)} {i k n : Nat} (hi : i < ts.length) (hk : k < i) (hn : n < (tenAt ts i).1.length) (h : hasColour (tenAt ts k) ((tenAt ts i).1)[n] = true) : shared ts = true :=
  (shared_iff ts).2 ⟨i, k, _, hi, hk, List.getElem_mem hn, h⟩

/-- What 'ConfigFault' tells. -/
def configFault (F C : Int) (ts : List (List Int × Int)) : Int :=
  if within 1 40 [F] = true ∧ within 1 8 [C] = true then
    (if 1 ≤ ts.length ∧ ts.length ≤ 3 then (if firstFault C ts = 0 then (if shared ts = true then 6 else 0) else firstFault C ts) else 2) else 3
theorem configFault_ok {F C : Int} {ts : List (List Int × Int)} (h : configFault F C ts = 0) :
    1 ≤ F ∧ F ≤ 40 ∧ 1 ≤ C ∧ C ≤ 8 ∧ 1 ≤ ts.length ∧ ts.length ≤ 3 ∧ firstFault C ts = 0 ∧ shared ts = false := by
  unfold configFault at h
  split at h
  · rename_i h1
    obtain ⟨h1, h2⟩ := h1
    rw [within_one] at h1 h2
    simp at h1 h2
    split at h
    · rename_i h3
      split at h
      · rename_i h4
        split at h
        · omega
        · rename_i h5
          exact ⟨h1.1, h1.2, h2.1, h2.2, h3.1, h3.2, h4, by simpa using h5⟩
      · rename_i h4; exact absurd h h4
    · omega
  · omega

def colourOf (F C : Int) (ts : List (List Int × Int)) (f : Int) : Int × Int :=
  if configFault F C ts = 0 then (if within 0 (F - 1) [f] = true then (0, f % C) else (3, 0)) else (configFault F C ts, 0)
/-- Of the first n frames those whose colour this tenant has. -/
def framesTo (C : Int) (t : List Int × Int) (n : Nat) : List Int := ((List.range n).map fun i : Nat => (i : Int)).filter fun f => hasColour t (f % C)
theorem framesTo_zero (C : Int) (t : List Int × Int) : framesTo C t 0 = [] := rfl
theorem framesTo_yes {C : Int} {t : List Int × Int} {n : Nat} (h : hasColour t ((n : Int) % C) = true) : framesTo C t (n + 1) = framesTo C t n ++ [(n : Int)] := by
  simp [framesTo, List.range_succ, List.filter_append, h]
theorem framesTo_no {C : Int} {t : List Int × Int} {n : Nat} (h : hasColour t ((n : Int) % C) = false) : framesTo C t (n + 1) = framesTo C t n := by
  simp [framesTo, List.range_succ, List.filter_append, h]
theorem length_framesTo (C : Int) (t : List Int × Int) (n : Nat) : (framesTo C t n).length ≤ n := by
  have := List.length_filter_le (fun f => hasColour t (f % C)) ((List.range n).map fun i : Nat => (i : Int))
  simpa [framesTo] using this
theorem mem_framesTo {C : Int} {t : List Int × Int} {n : Nat} {f : Int} : f ∈ framesTo C t n ↔ 0 ≤ f ∧ f < n ∧ hasColour t (f % C) = true := by
  unfold framesTo
  simp only [List.mem_filter, List.mem_map, List.mem_range]
  constructor
  · rintro ⟨⟨i, hi, rfl⟩, h⟩; exact ⟨by omega, by omega, h⟩
  · rintro ⟨h0, h1, h⟩; exact ⟨⟨f.toNat, by omega, by omega⟩, h⟩
def framesFor (F C : Int) (ts : List (List Int × Int)) (t : Int) : Int × List Int :=
  if configFault F C ts = 0 then (if within 0 ((ts.length : Int) - 1) [t] = true then (0, framesTo C (tenAt ts t.toNat) F.toNat) else (4, [])) else (configFault F C ts, [])
theorem framesFor_small (F C : Int) (ts : List (List Int × Int)) (t : Int) : (framesFor F C ts t).2.length ≤ 40 := by
  unfold framesFor
  split
  · rename_i h
    have h1 := configFault_ok h
    split
    · have := length_framesTo C (tenAt ts t.toNat) F.toNat
      simp only; omega
    · simp
  · simp
def roomFor (F C : Int) (ts : List (List Int × Int)) (t : Int) : Int × Int := ((framesFor F C ts t).1, ((framesFor F C ts t).2.length : Int))
/-- Those of the first n tenants that have the colour. -/
def holdersTo (ts : List (List Int × Int)) (c : Int) (n : Nat) : List Int := ((List.range n).filter fun i => hasColour (tenAt ts i) c).map fun i : Nat => (i : Int)
theorem holdersTo_yes {ts : List (List Int × Int)} {c : Int} {n : Nat} (h : hasColour (tenAt ts n) c = true) : holdersTo ts c (n + 1) = holdersTo ts c n ++ [(n : Int)] := by
  simp [holdersTo, List.range_succ, List.filter_append, h]
theorem holdersTo_no {ts : List (List Int × Int)} {c : Int} {n : Nat} (h : hasColour (tenAt ts n) c = false) : holdersTo ts c (n + 1) = holdersTo ts c n := by
  simp [holdersTo, List.range_succ, List.filter_append, h]
theorem length_holdersTo (ts : List (List Int × Int)) (c : Int) (n : Nat) : (holdersTo ts c n).length ≤ n := by
  have := List.length_filter_le (fun i => hasColour (tenAt ts i) c) (List.range n)
  simpa [holdersTo] using this
theorem holdersTo_none {ts : List (List Int × Int)} {c : Int} {n : Nat} (h : ∀ j, j < n → hasColour (tenAt ts j) c = false) : holdersTo ts c n = [] := by
  induction n with
  | zero => rfl
  | succ n ih => rw [holdersTo_no (h n (by omega)), ih fun j hj => h j (by omega)]
theorem holdersTo_head {ts : List (List Int × Int)} {c : Int} : ∀ {n k : Nat}, k < n → (∀ j, j < k → hasColour (tenAt ts j) c = false) → hasColour (tenAt ts k) c = true → (holdersTo ts c n).head? = some (k : Int) := by
  intro n
  induction n with
  | zero => intro k hk; omega
  | succ n ih =>
    intro k hk h0 h1
    by_cases e : k = n
    · subst e
      rw [holdersTo_yes h1, holdersTo_none h0]; rfl
    · have h2 := ih (k := k) (by omega) h0 h1
      rcases hb : hasColour (tenAt ts n) c with _ | _
      · rw [holdersTo_no hb]; exact h2
      · rw [holdersTo_yes hb, List.head?_append, h2]; rfl
def ownerOf (F C : Int) (ts : List (List Int × Int)) (f : Int) : Int × Int :=
  if (colourOf F C ts f).1 = 0 then (match (holdersTo ts (colourOf F C ts f).2 ts.length).head? with | some t => (0, t) | none => (4, 0)) else ((colourOf F C ts f).1, 0)

/-- What is known of a config in block p. -/
def CfgAt (w : World) (p : Nat) (F C : Int) (ao : Option Addr) (n cc : Nat) : Prop := Row w p 26 #[.int .i64 F, .int .i64 C, .slice ao n cc]
theorem CfgAt.cells {w : World} {p : Nat} {F C : Int} {ao : Option Addr} {n cc : Nat} (h : CfgAt w p F C ao n cc) :
    p < w.heap.size ∧ w.cell? ⟨p, 0, none⟩ = some (.int .i64 F) ∧ w.cell? ⟨p, 1, none⟩ = some (.int .i64 C) ∧ w.cell? ⟨p, 2, none⟩ = some (.slice ao n cc) :=
  ⟨h.lt, by rw [Row.cell h 0]; rfl, by rw [Row.cell h 1]; rfl, by rw [Row.cell h 2]; rfl⟩

/-- Two new blocks, and what came behind them. -/
theorem two_new {w w1 : World} {o1 o2 : Obj} (h : Below ((w.alloc o1).alloc o2).heap.size ((w.alloc o1).alloc o2) w1) :
    w1.heap[w.heap.size]? = some o1 ∧ w1.heap[w.heap.size + 1]? = some o2 ∧ Below w.heap.size w w1 ∧ w.heap.size + 2 ≤ w1.heap.size := by
  have hs := h.size
  simp at hs
  refine ⟨?_, ?_, below_past (below_past (h.mono (by simp)) |>.mono (by simp)) |>.mono (by simp), by omega⟩
  · rw [h.block _ (by simp; omega), heap_alloc_old _ _ (by simp)]; exact heap_alloc_new _ _
  · rw [h.block _ (by simp)]
    have : w.heap.size + 1 = (w.alloc o1).heap.size := by simp
    rw [this]; exact heap_alloc_new _ _
/-- Three new blocks, and what came behind them. -/
theorem three_new {w w1 : World} {o1 o2 o3 : Obj} (h : Below (((w.alloc o1).alloc o2).alloc o3).heap.size (((w.alloc o1).alloc o2).alloc o3) w1) :
    w1.heap[w.heap.size]? = some o1 ∧ w1.heap[w.heap.size + 1]? = some o2 ∧ w1.heap[w.heap.size + 2]? = some o3 ∧ Below w.heap.size w w1 ∧ w.heap.size + 3 ≤ w1.heap.size := by
  have hs := h.size
  simp at hs
  have h2 := below_past (w := (w.alloc o1).alloc o2) h
  obtain ⟨a, b, c, d⟩ := two_new h2
  refine ⟨a, b, ?_, c, by omega⟩
  rw [h.block _ (by simp)]
  have : w.heap.size + 2 = ((w.alloc o1).alloc o2).heap.size := by simp
  rw [this]; exact heap_alloc_new _ _
theorem four_new {w : World} {o a b c : Obj} : ((((w.alloc o).alloc a).alloc b).alloc c).heap[w.heap.size]? = some o ∧ Below w.heap.size w ((((w.alloc o).alloc a).alloc b).alloc c) := by
  refine ⟨?_, ((((Below.refl _ _).alloc (Nat.le_refl _) _).alloc (by simp) _).alloc (by simp; omega) _).alloc (by simp; omega) _⟩
  rw [heap_alloc_old _ _ (by simp; omega), heap_alloc_old _ _ (by simp; omega), heap_alloc_old _ _ (by simp)]
  exact heap_alloc_new _ _
/-- A result of two numbers. -/
def Pair (w : World) (r : Int × Int) (e : Ending) (w' : World) : Prop := e = .returned (.agg #[.int .i64 r.1, .int .i64 r.2]) ∧ Below w.heap.size w w'
theorem pair_done {w w1 : World} {r : Int × Int} {x y : Int} {g : Nat} (hb : Below w.heap.size w w1) (hg : w.heap.size ≤ g) (cs : Array Value) (h : r = (x, y)) : Pair w r (.returned (.agg #[.int .i64 x, .int .i64 y])) (w1.setRow g cs) :=
  ⟨by rw [h], below_setRow hb hg cs⟩
theorem rets_done {w w1 : World} {r : Int × List Int} {x : Int} {ys : List Int} {g B n : Nat} {v : Value} (hb : Below w.heap.size w w1) (hg : w.heap.size ≤ g) (hv : OwnI w1 B v n ys) (hB : g < B) (cs : Array Value) (h : r = (x, ys)) :
    RetsInts w r (.returned (.agg #[.int .i64 x, v])) (w1.setRow g cs) := by
  subst h
  exact ⟨v, n, rfl, (hv.setRow hB cs).base (by omega), below_setRow hb hg cs⟩
/-- Four cells, and all that was there, are kept. -/
theorem keep4 {W a b : World} {p q r s : Addr} {x y z u : Value} (h : a.cell? p = some x ∧ a.cell? q = some y ∧ a.cell? r = some z ∧ a.cell? s = some u ∧ Below W.heap.size W a) (hb : Below a.heap.size a b) :
    b.cell? p = some x ∧ b.cell? q = some y ∧ b.cell? r = some z ∧ b.cell? s = some u ∧ Below W.heap.size W b := by
  obtain ⟨h1, h2, h3, h5, h4⟩ := h
  exact ⟨(hb.cell (World.block_lt_of_cell? _ _ h1)).trans h1, (hb.cell (World.block_lt_of_cell? _ _ h2)).trans h2, (hb.cell (World.block_lt_of_cell? _ _ h3)).trans h3, (hb.cell (World.block_lt_of_cell? _ _ h5)).trans h5, h4.trans (hb.mono h4.size)⟩
/-- Six cells, and all that was there, are kept. -/
theorem keep6 {W a b : World} {p1 p2 p3 p4 p5 p6 : Addr} {x1 x2 x3 x4 x5 x6 : Value} (h : a.cell? p1 = some x1 ∧ a.cell? p2 = some x2 ∧ a.cell? p3 = some x3 ∧ a.cell? p4 = some x4 ∧ a.cell? p5 = some x5 ∧ a.cell? p6 = some x6 ∧ Below W.heap.size W a) (hb : Below a.heap.size a b) :
    b.cell? p1 = some x1 ∧ b.cell? p2 = some x2 ∧ b.cell? p3 = some x3 ∧ b.cell? p4 = some x4 ∧ b.cell? p5 = some x5 ∧ b.cell? p6 = some x6 ∧ Below W.heap.size W b := by
  obtain ⟨h1, h2, h3, h4, h5, h6, h⟩ := h
  have k := fun (p : Addr) (x : Value) (e : a.cell? p = some x) => (hb.cell (World.block_lt_of_cell? _ _ e)).trans e
  exact ⟨k _ _ h1, k _ _ h2, k _ _ h3, k _ _ h4, k _ _ h5, k _ _ h6, h.trans (hb.mono h.size)⟩
theorem row_alloc {w : World} {p : Nat} {t : TypeId} {cs : Array Value} (h : Row w p t cs) (o : Obj) : Row (w.alloc o) p t cs := h.below ((Below.refl _ _).alloc (Nat.le_refl _) o)
end Go.Proofs.Ytoaeglhjaandmaa

/- Whether a list rises, as the program asks it. -/
namespace Go.Proofs.Ytoaeglhjaandmaa
open Go.RowKit

set_option maxHeartbeats 400000 in
theorem isRising_calls {a : Option Addr} {n c : Nat} {xs : List Int} {w : World} (ha : Ints w a n xs) (hx : n ≤ 17592186044416) :
    Calls Try.prog 97 #[.slice a n c] w fun e w' => e = .returned (.bool (rising xs)) ∧ Below w.heap.size w w' := by
  have HL := Lib.hid ha.1
  go_enter Try.func97, Try.ntmps97
  go_wp2
  go_loopw [3] (fun i wr => ∃ k : Nat, 1 ≤ k ∧ (k ≤ n ∨ k = 1) ∧ i = .int .i64 k ∧ Hid (risingTo xs k) ∧ Below w.heap.size w wr) (fun i _ => n - (intOf i).toNat)
  case atStart => exact ⟨1, Nat.le_refl _, .inr rfl, rfl, fun i h1 h2 => by omega, Below.refl _ _⟩
  case round =>
    obtain ⟨k, hk1, hk, rfl, HW, hbw⟩ := hrel
    by_cases hlt : k < n
    · obtain ⟨ba, oa, rfl, hba, hca⟩ := (ha.below hbw).at_ hlt
      obtain ⟨ba', oa', he, _, hcb⟩ := (ha.below hbw).at_ (show k - 1 < n by omega)
      simp only [Option.some.injEq, Addr.mk.injEq, and_true] at he
      obtain ⟨rfl, rfl⟩ := he
      have hkx : k < xs.length := by rw [HL.out]; exact hlt
      have hkx' : k - 1 < xs.length := by omega
      have e1 : xs.getD k 0 = xs[k] := by simp [List.getD, hkx]
      have e2 : xs.getD (k - 1) 0 = xs[k - 1] := by simp [List.getD, hkx']
      have q1 : IntKind.i64.wrap ((k : Int) - 1) = (k : Int) - 1 := IntWalk.i64_in _ (by omega)
      have q2 : (0 : Int) ≤ (k : Int) - 1 := by omega
      have q3 : ((k : Int) - 1).toNat = k - 1 := by omega
      have q4 : (k : Int) - 1 < (n : Int) := by omega
      by_cases hlv : xs[k] ≤ xs[k - 1]
      · have HF := Lib.hid (rising_no hk1 hkx (by rw [e1, e2]; omega))
        clear e1 e2
        go_wp2_with (go_quiet (fail))
        go_ret
        exact ⟨ret_bool HF.out.symm, below_drewN hbw _⟩
      · have HS := Lib.hid (risingTo_succ HW.out (by rw [e1, e2]; omega))
        clear e1 e2
        go_wp2_with (go_quiet (fail))
        go_roundw
        case rel => exact ⟨k + 1, by omega, by omega, by go_num, HS, below_drewN hbw _⟩
        case measure => simp [intOf]; omega
    · have HF := Lib.hid (show rising xs = true by
        rw [rising_iff]
        intro i i1 i2
        exact HW.out i i1 (by have := HL.out; omega))
      go_wp2
      go_ret
      exact ⟨ret_bool HF.out.symm, hbw⟩

end Go.Proofs.Ytoaeglhjaandmaa

/- Chapter 2 as the program has it: the contract of each of its functions. -/
namespace Go.Proofs.Ytoaeglhjaandmaa
set_option maxRecDepth 100000
open Go.RowKit

set_option maxHeartbeats 400000 in
theorem tenantFault_calls {a : Option Addr} {m c : Nat} {C cpus : Int} {xs : List Int} {w : World} (hC0 : 1 ≤ C) (hC1 : C ≤ 8) (hi : Ints w a m xs) (hm : m ≤ 17592186044416) :
    Calls Try.prog 109 #[.agg #[.slice a m c, .int .i64 cpus], .int .i64 C] w fun e w' => e = .returned (.int .i64 (tenantFault C (xs, cpus))) ∧ Below w.heap.size w w' := by
  rcases hW : within 1 2 [cpus] with _ | _
  · have HF := Lib.hid (show tenantFault C (xs, cpus) = 3 by simp [tenantFault, hW])
    go_enter Try.func109, Try.ntmps109
    go_wp2_with (go_at_call 54; refine (allWithin_calls (Ints.one (by simp)) (by omega)).mono ?_; rintro e w' ⟨rfl, rfl⟩)
    go_ret
    exact ⟨ret_int HF.out.symm, ((Below.refl _ _).alloc (Nat.le_refl _) _).alloc (by simp) _⟩
  rcases hV : within 0 (C - 1) xs with _ | _
  · have HF := Lib.hid (show tenantFault C (xs, cpus) = 3 by simp [tenantFault, hW, hV])
    go_enter Try.func109, Try.ntmps109
    go_wp2_with fail
    refine (allWithin_calls (Ints.one (by simp)) (by omega)).mono ?_
    rintro e w' ⟨rfl, rfl⟩
    go_wp2_with fail
    refine (allWithin_calls ((hi.alloc _).alloc _) hm).mono ?_
    rintro e w' ⟨rfl, rfl⟩
    go_wp2_with fail
    go_ret
    exact ⟨ret_int HF.out.symm, ((Below.refl _ _).alloc (Nat.le_refl _) _).alloc (by simp) _⟩
  have HA := Lib.hid (show tenantFault C (xs, cpus) = (if rising xs = true then 0 else 1) by simp [tenantFault, hW, hV])
  rcases hR : rising xs with _ | _
  all_goals
    have HG := HA.out
    rw [hR] at HG
    simp at HG
    have HF := Lib.hid HG
    clear HG HA
    go_enter Try.func109, Try.ntmps109
    go_wp2_with fail
    refine (allWithin_calls (Ints.one (by simp)) (by omega)).mono ?_
    rintro e w' ⟨rfl, rfl⟩
    go_wp2_with fail
    refine (allWithin_calls ((hi.alloc _).alloc _) hm).mono ?_
    rintro e w' ⟨rfl, rfl⟩
    go_wp2_with fail
    refine (isRising_calls ((hi.alloc _).alloc _) hm).mono ?_
    rintro e w1 ⟨rfl, hb1⟩
    go_wp2_with fail
    go_ret
    exact ⟨ret_int HF.out.symm, below_past (below_past (hb1.mono (by simp)) |>.mono (by simp)) |>.mono (by simp)⟩

theorem colourAt_calls {ao : Option Addr} {n cc : Nat} {F C f : Int} {w : World} (hC0 : 1 ≤ C) (hf : 0 ≤ f) :
    Calls Try.prog 93 #[.agg #[.int .i64 F, .int .i64 C, .slice ao n cc], .int .i64 f] w fun e w' => e = .returned (.int .i64 (f % C)) ∧ Below w.heap.size w w' := by
  go_enter Try.func93, Try.ntmps93
  go_wp2_with fail
  go_ret
  exact ⟨rfl, (Below.refl _ _).alloc (Nat.le_refl _) _⟩

/-- The key of a claim. -/
def claimKey (t c : Int) : Value := .agg #[.int .i64 t, .int .i64 c]
theorem claim_law : Maps.Keyed Try.prog 122 :=
  Maps.Keyed.of_law (deep_law_laid (by kernel_rfl) (m := 2) (by omega) (of_decide_eq_true (by kernel_rfl)) (by kernel_rfl) (by rw [Try.underlying122]))
theorem claim_cells : Try.prog.cellsOf 122 = 2 := by kernel_rfl
theorem claim_key : Try.prog.keyType 122 = true := by kernel_rfl
theorem i64_wf {x : Int} (h0 : -9223372036854775808 ≤ x) (h1 : x ≤ 9223372036854775807) : (Lit.int .i64 x).wf = true := by
  simp [Lit.wf, IntKind.min, IntKind.max, IntKind.signed, IntKind.bits]; omega
theorem claim_reads {t c : Int} (h0 : -9223372036854775808 ≤ t) (h1 : t ≤ 9223372036854775807) (h2 : -9223372036854775808 ≤ c) (h3 : c ≤ 9223372036854775807) :
    ∃ l, keyOf Try.prog 122 (claimKey t c) = some l := by
  have w0 := i64_wf h0 h1
  have w1 := i64_wf h2 h3
  obtain ⟨d, hd⟩ : ∃ d, Try.prog.types.size + 1 = d + 1 + 1 := ⟨Try.prog.types.size - 1, by
    have : 0 < Try.prog.types.size := of_decide_eq_true (by kernel_rfl)
    omega⟩
  have k0 : ∀ x : Int, (Lit.int .i64 x).wf = true → Try.prog.keyLits (d + 1) 2 [.int .i64 x] = some [.int .i64 x] := fun x hx => by
    simp [Program.keyLits, Try.underlying2, hx]
  have ci : Try.prog.cellsOf 2 = 1 := by kernel_rfl
  have hf : (claimKey t c).formed Try.prog 122 = true := by simp [Value.formed, claimKey, Try.underlying122, claim_cells]
  unfold keyOf
  rw [Try.underlying122]
  simp only [claim_key, hf, Bool.and_self, if_true]
  rw [hd]
  have hl : Try.prog.keyLits (d + 1 + 1) 122 (claimKey t c).cells.toList = some [.int .i64 t, .int .i64 c] := by
    have : (claimKey t c).cells.toList = [.int .i64 t, .int .i64 c] := rfl
    rw [this]
    unfold Program.keyLits
    rw [Try.underlying122]
    simp [claim_cells, ci, k0 t w0, k0 c w1]
  rw [hl]
  exact ⟨_, rfl⟩
end Go.Proofs.Ytoaeglhjaandmaa

/- Chapter 2 as the program has it: the set of claims. -/
namespace Go.Proofs.Ytoaeglhjaandmaa
set_option maxRecDepth 100000
open Go.RowKit

/-- Block b is the set of the pairs for which S says yes; n stores at most have been made. -/
def SetIs (w : World) (b n : Nat) (S : Int → Int → Bool) : Prop :=
  ∃ D : DataW Unit, w.ownsMap Try.prog 122 (plainElem Try.prog 4) b n D ∧ ∀ t c l, keyOf Try.prog 122 (claimKey t c) = some l → D.atKey l (.lit (.bool false)) = .lit (.bool (S t c))

theorem SetIs.made (w : World) {b : Nat} (hb : b = w.heap.size) : SetIs (w.alloc (.map #[] 0)) b 0 (fun _ _ => false) := by
  subst hb
  exact ⟨_, World.ownsMap_made w _ _ _, fun t c l _ => rfl⟩
theorem SetIs.lt {w : World} {b n : Nat} {S : Int → Int → Bool} (h : SetIs w b n S) : b < w.heap.size := by
  obtain ⟨D, h, _⟩ := h; exact h.lt
theorem SetIs.kept {w w' : World} {b n : Nat} {S : Int → Int → Bool} {row : Option Nat} (h : SetIs w b n S) (hg : w.grownBy w' row) (hne : some b ≠ row) : SetIs w' b n S := by
  obtain ⟨D, h, hD⟩ := h; exact ⟨D, h.kept hg hne, hD⟩
theorem SetIs.below {w w' : World} {b n : Nat} {S : Int → Int → Bool} (h : SetIs w b n S) (hb : Below w.heap.size w w') : SetIs w' b n S :=
  h.kept (row := none) ⟨hb.os, hb.tape, hb.output, hb.size, fun k hk _ => hb.block k hk⟩ (by simp)
theorem SetIs.alloc {w : World} {b n : Nat} {S : Int → Int → Bool} (h : SetIs w b n S) (o : Obj) : SetIs (w.alloc o) b n S := h.below ((Below.refl _ _).alloc (Nat.le_refl _) _)
theorem SetIs.congr {w : World} {b n : Nat} {S S' : Int → Int → Bool} (h : SetIs w b n S) (he : ∀ t c, S t c = S' t c) : SetIs w b n S' := by
  obtain ⟨D, h, hD⟩ := h; exact ⟨D, h, fun t c l hl => by rw [hD t c l hl, he]⟩

theorem zero_bool (w : World) : (zeroValue 4).run Try.prog w = .ok (.bool false) w := by kernel_rfl
theorem bool_of_plain {v : Value} {x : Bool} {ps : List MemPlace} (h : plainElem (H := Unit) Try.prog 4 v = some (.lit (.bool x), ps)) : v = .bool x := by
  unfold plainElem at h
  rw [Try.underlying4] at h
  cases v <;> simp at h
  obtain ⟨rfl, _⟩ := h
  rfl

theorem SetIs.look {w : World} {b n : Nat} {S : Int → Int → Bool} (h : SetIs w b n S) {t c : Int} (h0 : -9223372036854775808 ≤ t) (h1 : t ≤ 9223372036854775807) (h2 : -9223372036854775808 ≤ c) (h3 : c ≤ 9223372036854775807) :
    (Instr.lookup 95 (.map (some b)) (claimKey t c) false).run Try.prog w = .ok (.bool (S t c)) w := by
  obtain ⟨D, h, hD⟩ := h
  obtain ⟨l, hl⟩ := claim_reads h0 h1 h2 h3
  obtain ⟨v, ps, hrun, hv⟩ := h.lookup claim_law Try.underlying95 (zero_bool w) (plainElem_bool Try.underlying4 false) hl
  rw [hD t c l hl] at hv
  rw [hrun, bool_of_plain hv]

theorem wpList_lookup_set {ops : Array Oper} {rest : List Oper} {o : Oper} {a : Act} {w : World} {Q : Exit → Act → World → Prop} (hg : o.guard = none) (m x : Operand) (hop : o.op = Op.lookup 95 m x false)
    {b n : Nat} {S : Int → Int → Bool} (hs : SetIs w b n S) (hm : a.eval m = .map (some b)) {t c : Int} (hx : a.eval x = .agg #[.int .i64 t, .int .i64 c])
    (h0 : -9223372036854775808 ≤ t) (h1 : t ≤ 9223372036854775807) (h2 : -9223372036854775808 ≤ c) (h3 : c ≤ 9223372036854775807)
    (hK : wpList Try.prog ops Q rest (a.put o.dst (.bool (S t c))) w) : wpList Try.prog ops Q (o :: rest) a w := by
  refine wpList_plain hg fun K' hK' => ?_
  have hrun := hs.look h0 h1 h2 h3
  unfold claimKey at hrun
  unfold Oper.wp
  simp [execOp, hop, hm, hx, hrun, Result.andThen]
  exact hK' _ _ hK

theorem SetIs.put {w w' : World} {b n : Nat} {S : Int → Int → Bool} {D : DataW Unit} {t c : Int} {l : Lit} (hl : keyOf Try.prog 122 (claimKey t c) = some l)
    (h0 : w.ownsMap Try.prog 122 (plainElem Try.prog 4) b n D)
    (hD : ∀ t c l, keyOf Try.prog 122 (claimKey t c) = some l → D.atKey l (.lit (.bool false)) = .lit (.bool (S t c)))
    (h : w'.ownsMap Try.prog 122 (plainElem Try.prog 4) b (n + 1) (D.put l (.lit (.bool true)))) :
    SetIs w' b (n + 1) (fun t' c' => S t' c' || (decide (t' = t) && decide (c' = c))) := by
  refine ⟨_, h, fun t' c' l' hl' => ?_⟩
  by_cases e : t' = t ∧ c' = c
  · obtain ⟨rfl, rfl⟩ := e
    rw [hl] at hl'; injection hl' with hl'; subst hl'
    rw [Maps.atKey_put_same h0.isMap (claim_law.key hl)]
    simp
  · have hne : l' ≠ l := by
      rintro rfl
      have := claim_law.inj hl' hl
      unfold claimKey at this
      simp at this
      exact e this
    rw [Maps.atKey_put_other hne, hD t' c' l' hl']
    have : (decide (t' = t) && decide (c' = c)) = false := by
      rw [Bool.and_eq_false_iff]
      by_cases e1 : t' = t
      · right; simp; exact fun e2 => e ⟨e1, e2⟩
      · left; simpa using e1
    simp only [this, Bool.or_false]

theorem wpList_put_set {ops : Array Oper} {rest : List Oper} {o : Oper} {a : Act} {w : World} {Q : Exit → Act → World → Prop} (hg : o.guard = none) (m x v : Operand) (hop : o.op = Op.mapUpdate 95 m x v)
    {b n : Nat} {S : Int → Int → Bool} (hs : SetIs w b n S) (hn : n ≤ 1125899906842624) (hm : a.eval m = .map (some b)) {t c : Int} (hx : a.eval x = .agg #[.int .i64 t, .int .i64 c]) (hv : a.eval v = .bool true)
    (h0 : -9223372036854775808 ≤ t) (h1 : t ≤ 9223372036854775807) (h2 : -9223372036854775808 ≤ c) (h3 : c ≤ 9223372036854775807)
    (hK : ∀ w', SetIs w' b (n + 1) (fun t' c' => S t' c' || (decide (t' = t) && decide (c' = c))) → w.grownBy w' (some b) → wpList Try.prog ops Q rest (a.put o.dst undef) w') : wpList Try.prog ops Q (o :: rest) a w := by
  obtain ⟨D, h, hD⟩ := hs
  obtain ⟨l, hl⟩ := claim_reads h0 h1 h2 h3
  exact wpList_mapUpdate_own w hg m x v _ hop _ _ claim_law Try.underlying95 _ b n D hm h (by unfold maxLen; omega) _ _ l hx hv hl _ _ (plainElem_bool Try.underlying4 true) fun w' h1 h2 => hK w' (SetIs.put hl h hD h1) h2

/-- The claims of the first k tenants, and of the next one's first j colours. -/
def claimed (ts : List (List Int × Int)) (k j : Nat) (t c : Int) : Bool :=
  decide (0 ≤ t) && ((decide (t < k) && hasColour (tenAt ts t.toNat) c) || (decide (t = k) && hasIn ((tenAt ts k).1.take j) c))
theorem claimed_zero (ts : List (List Int × Int)) (t c : Int) : claimed ts 0 0 t c = false := by
  unfold claimed
  simp [hasIn]
  intro h1 h2; omega
theorem claimed_step {ts : List (List Int × Int)} {k j : Nat} (hj : j < (tenAt ts k).1.length) (t c : Int) : (claimed ts k j t c || (decide (t = (k : Int)) && decide (c = (tenAt ts k).1[j]))) = claimed ts k (j + 1) t c := by
  unfold claimed hasIn
  rw [List.take_succ_eq_append_getElem hj]
  by_cases e : t = k
  · subst e
    have h0 : (0 : Int) ≤ (k : Int) := by omega
    have h1 : ¬ ((k : Int) < (k : Int)) := by omega
    simp [h0, h1]
    rw [Bool.eq_iff_iff]; simp
    rw [List.take_succ_eq_append_getElem hj, List.mem_append, List.mem_singleton]
  · simp [e]
theorem claimed_next {ts : List (List Int × Int)} {k : Nat} (t c : Int) : claimed ts k (tenAt ts k).1.length t c = claimed ts (k + 1) 0 t c := by
  unfold claimed hasColour
  by_cases e : t = k
  · subst e
    have h0 : (0 : Int) ≤ (k : Int) := by omega
    have h1 : ¬ ((k : Int) < (k : Int)) := by omega
    have h2 : (k : Int) < ((k + 1 : Nat) : Int) := by omega
    simp [h0, h1, hasIn]
    intro _; omega
  · have h1 : decide (t < (k : Int)) = decide (t < ((k + 1 : Nat) : Int)) := by
      rw [decide_eq_decide]; omega
    rw [h1]
    simp [e, hasIn]
theorem claimed_all {ts : List (List Int × Int)} {n t : Nat} {c : Int} (h : t < n) : claimed ts n 0 (t : Int) c = hasColour (tenAt ts t) c := by
  unfold claimed
  have h0 : (0 : Int) ≤ (t : Int) := by omega
  have h1 : (t : Int) < (n : Int) := by omega
  simp [h0, h1, hasIn]

/-- A load of a tenant out of a slice: its two cells. -/
theorem claimsOf_calls {ao : Option Addr} {n cc : Nat} {F C : Int} {ts : List (List Int × Int)} {w : World} (hT : Tens w ao n ts) (hcc : n ≤ cc) (hn : n ≤ 3) (hw : ∀ j, j < n → (tenAt ts j).1.length ≤ 8 ∧ within 0 7 (tenAt ts j).1 = true) :
    Calls Try.prog 71 #[.agg #[.int .i64 F, .int .i64 C, .slice ao n cc]] w fun e w' => ∃ b m, e = .returned (.map (some b)) ∧ w.heap.size ≤ b ∧ SetIs w' b m (claimed ts n 0) ∧ Below w.heap.size w w' := by
  have HL := Lib.hid hT.1
  have HWI := Lib.hid hw
  have hmm := @run_makeMap Try.prog
  go_enter Try.func71, Try.ntmps71
  go_wp2
  go_loopw [12] (fun i wr => ∃ k m : Nat, k ≤ n ∧ i = .int .i64 k ∧ m ≤ k * 8 ∧ SetIs wr (w.heap.size + 1) m (claimed ts k 0) ∧ Below w.heap.size w wr) (fun i _ => n - (intOf i).toNat)
  case atStart => exact ⟨0, 0, Nat.zero_le _, rfl, Nat.le_refl _, (SetIs.made _ (by simp)).congr fun t c => (claimed_zero ts t c).symm, ((Below.refl _ _).alloc (Nat.le_refl _) _).alloc (by simp) _⟩
  case round =>
    obtain ⟨k, m, hk, rfl, hm, hset, hbw⟩ := hrel
    by_cases hlt : k < n
    · obtain ⟨b, off, rfl, hten⟩ := hT.at_ hlt
      obtain ⟨d0, a, l, c, hlc, e0, e1, hI0⟩ := hten
      have hA := Lib.hid hI0.old
      have e0 := (hbw.cell (p := ⟨b, off + k * 2, none⟩) d0).trans e0
      have e1 := (hbw.cell (p := ⟨b, off + k * 2 + 1, none⟩) d0).trans e1
      have hI := hI0.below hbw
      clear hI0
      obtain ⟨xs, hxs⟩ : ∃ xs, (tenAt ts k).1 = xs := ⟨_, rfl⟩
      have HXS := Lib.hid hxs
      rw [hxs] at hI
      have hl : l ≤ 8 := by have := (HWI.out k hlt).1; rw [hxs] at this; have := hI.1; omega
      have hlx : xs.length = l := hI.1
      have HLX := Lib.hid hlx
      have hWk : within 0 7 xs = true := by rw [← hxs]; exact (HWI.out k hlt).2
      have HWK := Lib.hid hWk
      have hset2 := hset.alloc (.cells #[.slice a l c, .int .i64 (tenAt ts k).2] 117)
      clear hxs hlx hWk
      go_wp2
      go_loopw [20] (fun i wr => ∃ j m : Nat, j ≤ l ∧ i = .int .i64 j ∧ m ≤ k * 8 + j ∧ SetIs wr (w.heap.size + 1) m (claimed ts k j) ∧ Below w.heap.size w wr ∧ Ints wr a l xs) (fun i _ => l - (intOf i).toNat)
      case atStart => exact ⟨0, m, Nat.zero_le _, rfl, by omega, hset2, hbw.alloc hbw.size _, hI.alloc _⟩
      case round =>
        obtain ⟨j, m, hj, rfl, hm, hset, hbw, hI⟩ := hrel
        by_cases hlj : j < l
        · obtain ⟨ba, oa, rfl, hba, hca⟩ := hI.at_ hlj
          have hjx : j < xs.length := by rw [HLX.out]; exact hlj
          have hv := within_at HWK.out hjx
          have hst := fun t c => claimed_step (ts := ts) (k := k) (j := j) (by rw [HXS.out]; exact hjx) t c
          simp only [HXS.out] at hst
          have HST := Lib.hid hst
          clear hst
          go_wp2_with (at_mapUpdate; go_must (refine wpList_put_set (t := (k : Int)) (c := xs[j]) rfl _ _ _ rfl hset (by omega) rfl rfl rfl (by omega) (by omega) (by omega) (by omega) ?_); intro w1 hset1 hg1)
          have F : Hid (SetIs w1 (w.heap.size + 1) (m + 1) (claimed ts k (j + 1)) ∧ Below w.heap.size w w1 ∧ Ints w1 (some ⟨ba, oa, none⟩) l xs) := by
            refine ⟨hset1.congr HST.out, hbw.grown hg1 hbw.size (by intro g hg; simp at hg; omega), hI.grown hg1 (fun x hx _ e => ?_)⟩
            have := hA.out x hx (by omega)
            injection e with e
            omega
          clear hset1 hg1
          go_roundw
          case rel => exact ⟨j + 1, m + 1, by omega, by go_num, by omega, F.out.1, F.out.2.1, F.out.2.2⟩
          case measure => simp [intOf]; omega
        · obtain rfl : j = l := by omega
          have F : Hid (SetIs wr (w.heap.size + 1) m (claimed ts (k + 1) 0)) := hset.congr fun t c => by
            have := claimed_next (ts := ts) (k := k) t c
            rw [HXS.out, HLX.out] at this
            exact this
          clear hset
          go_wp2
          go_roundw
          case rel => exact ⟨k + 1, m, by omega, by go_num, by omega, F, hbw⟩
          case measure => simp [intOf]; omega
    · obtain rfl : k = n := by omega
      have F := Lib.hid (And.intro hset hbw)
      clear hset hbw
      go_wp2
      go_ret
      exact ⟨_, m, rfl, by omega, F.out.1, F.out.2⟩
end Go.Proofs.Ytoaeglhjaandmaa
