/- Joined texts (Base, Nest, Help, Leaf, Page, Share): steps of the proofs of chapter 5's laws. -/
import Derived.Test.YthpamclljdcjpaaProg
import Derived.WalkKit
import Derived.ProofKit
import Derived.Below
import Derived.Laws.OwnMore
import Derived.Deep.QuietTactic
import Derived.BigQuiet
import Derived.OpenShut
import Derived.WalkSmall
import Derived.Lib.Hide
import Derived.WalkSpells
import Derived.Deep.MidRow
import Derived.Laws.CopyOwn
import Derived.ChangeKeysEq
set_option linter.unusedVariables false
set_option linter.unusedSimpArgs false
/- What every walk of this seat uses: how a slice of whole numbers reads in memory, and what stays of it. -/
namespace Go.Proofs.Ythpamclljdcjpaa
open Go.RowKit

theorem add_block (a : Addr) (n : Nat) : (a.add n).block = a.block := by unfold Addr.add; split <;> rfl

/-- The slice of n numbers at 'ao' reads as xs. -/
def Ints (w : World) (ao : Option Addr) (n : Nat) (xs : List Int) : Prop :=
  xs.length = n ∧ (0 < n → ∃ b off, ao = some ⟨b, off, none⟩ ∧ b < w.heap.size ∧ ∀ j, j < n → w.cell? ⟨b, off + j, none⟩ = some (.int .i64 (xs.getD j 0)))

theorem Ints.at_ {w : World} {ao : Option Addr} {n : Nat} {xs : List Int} (h : Ints w ao n xs) {k : Nat} (hk : k < n) :
    ∃ b off, ao = some ⟨b, off, none⟩ ∧ b < w.heap.size ∧ w.cell? ⟨b, off + k, none⟩ = some (.int .i64 (xs.getD k 0)) := by
  obtain ⟨b, off, rfl, hb, hc⟩ := h.2 (by omega)
  exact ⟨b, off, rfl, hb, hc k hk⟩

theorem Ints.below {w w' : World} {ao : Option Addr} {n : Nat} {xs : List Int} (h : Ints w ao n xs) (hb : Below w.heap.size w w') : Ints w' ao n xs := by
  refine ⟨h.1, fun hi => ?_⟩
  obtain ⟨b, off, rfl, hlt, hc⟩ := h.2 hi
  exact ⟨b, off, rfl, Nat.lt_of_lt_of_le hlt hb.size, fun j hj => by rw [hb.cell (p := ⟨b, off + j, none⟩) hlt]; exact hc j hj⟩

theorem Ints.drewN {w : World} {ao : Option Addr} {m : Nat} {xs : List Int} (h : Ints w ao m xs) (n : Nat) : Ints (w.drewN n) ao m xs := h

theorem take_snoc (xs : List Int) {k : Nat} (h : k < xs.length) : xs.take (k + 1) = xs.take k ++ [xs.getD k 0] := by
  rw [List.take_succ_eq_append_getElem h]; simp [List.getD, h]

/-- Of xs the first k, then zeros: what a copy looks like behind k rounds. -/
def fill (xs : List Int) (k : Nat) : List Int := xs.take k ++ List.replicate (xs.length - k) 0
theorem fill_zero (xs : List Int) : fill xs 0 = List.replicate xs.length 0 := by simp [fill]
theorem fill_full (xs : List Int) : fill xs xs.length = xs := by simp [fill]
theorem length_fill (xs : List Int) {k : Nat} (h : k ≤ xs.length) : (fill xs k).length = xs.length := by simp [fill]; omega
theorem fill_at (xs : List Int) {k : Nat} (h : k < xs.length) : (fill xs k)[k]? = some 0 := by
  unfold fill
  rw [List.getElem?_append_right (by simp; omega)]
  simp only [List.length_take, List.getElem?_replicate]
  rw [if_pos (by omega)]
theorem fill_step (xs : List Int) {k : Nat} (h : k < xs.length) : (fill xs k).set k xs[k] = fill xs (k + 1) := by
  unfold fill
  have hl : (xs.take k).length = k := by simp; omega
  obtain ⟨m, hm⟩ : ∃ m, xs.length - k = m + 1 := ⟨xs.length - k - 1, by omega⟩
  rw [List.set_append_right _ _ (by omega), hl, Nat.sub_self, hm, List.replicate_succ, List.set_cons_zero, show xs.length - (k + 1) = m by omega, List.take_succ_eq_append_getElem h, List.append_assoc]
  rfl

/-- The slice value v, of n numbers, owns the numbers xs in a block from B on. -/
def OwnI (w : World) (B : Nat) (v : Value) (n : Nat) (xs : List Int) : Prop := ∃ t, w.ownsRow B t 1 v n (xs.map (Value.int .i64))

theorem OwnI.shape {w : World} {B n : Nat} {v : Value} {xs : List Int} (h : OwnI w B v n xs) : ∃ ao cap, v = .slice ao n cap ∧ n ≤ cap ∧ cap ≤ maxLen ∧ Ints w ao n xs := by
  obtain ⟨t, h⟩ := h
  have hl : xs.length = n := by have := h.1; simpa using this
  rcases h.2 with ⟨rfl, hn⟩ | ⟨g, cap, cur, rfl, hb, hh, hnc, hcm, hcs, ht⟩
  · rw [hn]
    exact ⟨none, 0, rfl, Nat.le_refl _, Nat.zero_le _, by omega, fun h => absurd h (by omega)⟩
  · refine ⟨some ⟨g, 0, none⟩, cap, rfl, hnc, hcm, hl, fun hi => ⟨g, 0, rfl, (Array.getElem?_eq_some_iff.1 hh).1, fun j hj => ?_⟩⟩
    have := World.ownsRow.cellAt h j (by omega)
    rw [Nat.zero_add, this]
    simp [List.getD, hl ▸ hj]

theorem OwnI.form {w : World} {B n : Nat} {v : Value} {xs : List Int} (h : OwnI w B v n xs) (h0 : 0 < n) : ∃ t g cap cur, v = .slice (some ⟨g, 0, none⟩) n cap ∧ B ≤ g ∧ w.heap[g]? = some (.cells cur t (0, 0)) ∧ n ≤ cap ∧ cap ≤ maxLen ∧ cur.size = cap ∧ cur.toList.take n = xs.map (Value.int .i64) := by
  obtain ⟨t, h1, h2⟩ := h
  rcases h2 with ⟨rfl, hn⟩ | ⟨g, cap, cur, rfl, hb, hh, hnc, hcm, hcs, ht⟩
  · omega
  · exact ⟨t, g, cap, cur, rfl, hb, hh, hnc, hcm, by simpa using hcs, by simpa using ht⟩
theorem OwnI.of_form {w : World} {B n t g cap : Nat} {cur : Array Value} {xs : List Int} (hb : B ≤ g) (hh : w.heap[g]? = some (.cells cur t (0, 0))) (hnc : n ≤ cap) (hcm : cap ≤ maxLen) (hcs : cur.size = cap) (ht : cur.toList.take n = xs.map (Value.int .i64)) (hl : xs.length = n) :
    OwnI w B (.slice (some ⟨g, 0, none⟩) n cap) n xs := ⟨t, by simpa using hl, .inr ⟨g, cap, cur, rfl, hb, hh, hnc, hcm, by simpa using hcs, by simpa using ht⟩⟩
theorem Ints.alloc {w : World} {ao : Option Addr} {n : Nat} {xs : List Int} (h : Ints w ao n xs) (o : Obj) : Ints (w.alloc o) ao n xs := h.below ((Below.refl _ _).alloc (Nat.le_refl _) o)
theorem OwnI.ints {w : World} {B n cap : Nat} {ao : Option Addr} {xs : List Int} (h : OwnI w B (.slice ao n cap) n xs) : Ints w ao n xs := by
  obtain ⟨ao', cap', he, _, _, hi⟩ := h.shape
  injection he with he
  subst he
  exact hi
theorem OwnI.lt {w : World} {B n g cap : Nat} {xs : List Int} (h : OwnI w B (.slice (some ⟨g, 0, none⟩) n cap) n xs) : B ≤ g ∧ g < w.heap.size := by
  obtain ⟨t, h⟩ := h
  exact h.lt g rfl
theorem OwnI.nil (w : World) (B : Nat) : OwnI w B (.slice none 0 0) 0 [] := ⟨0, World.ownsRow_nil _ _ _ _⟩
theorem OwnI.kept {w w' : World} {B n : Nat} {v : Value} {xs : List Int} {row : Option Nat} (h : OwnI w B v n xs) (hg : w.grownBy w' row) (hne : v.ownBlock = none ∨ v.ownBlock ≠ row) : OwnI w' B v n xs := by
  obtain ⟨t, h⟩ := h
  exact ⟨t, h.kept hg hne⟩
theorem OwnI.base {w : World} {B B' n : Nat} {v : Value} {xs : List Int} (h : OwnI w B v n xs) (hB : B' ≤ B) : OwnI w B' v n xs := by
  obtain ⟨t, h1, h2⟩ := h
  refine ⟨t, h1, ?_⟩
  rcases h2 with h2 | ⟨g, cap, cur, hv, hg, r⟩
  · exact .inl h2
  · exact .inr ⟨g, cap, cur, hv, Nat.le_trans hB hg, r⟩
theorem OwnI.stored {w : World} {B n g cap : Nat} {xs : List Int} (h : OwnI w B (.slice (some ⟨g, 0, none⟩) n cap) n xs) (j : Nat) (u : Int) :
    OwnI (w.setCell ⟨g, j, none⟩ (.int .i64 u)) B (.slice (some ⟨g, 0, none⟩) n cap) n (xs.set j u) ∧ w.grownBy (w.setCell ⟨g, j, none⟩ (.int .i64 u)) (some g) := by
  obtain ⟨t, h⟩ := h
  obtain ⟨h1, h2⟩ := h.stored j (.int .i64 u)
  exact ⟨⟨t, by rw [List.map_set]; exact h1⟩, h2⟩
theorem OwnI.cell {w : World} {B n g cap : Nat} {xs : List Int} (h : OwnI w B (.slice (some ⟨g, 0, none⟩) n cap) n xs) {j : Nat} (hj : j < n) :
    w.cell? ⟨g, j, none⟩ = some (.int .i64 (xs.getD j 0)) ∧ w.frozen? ⟨g, j, none⟩ = false := by
  obtain ⟨t, h⟩ := h
  have hl : xs.length = n := by have := h.1; simpa using this
  refine ⟨?_, h.frozenAt j⟩
  rw [h.cellAt j (by omega)]
  simp [List.getD, hl.symm ▸ hj]
theorem grown_trans {a b c : World} {row : Option Nat} (h : a.grownBy b row) (k : b.grownBy c row) : a.grownBy c row :=
  ⟨k.os.trans h.os, k.tape.trans h.tape, k.output.trans h.output, Nat.le_trans h.size k.size, fun i hi hr => (k.block i (Nat.lt_of_lt_of_le hi h.size) hr).trans (h.block i hi hr)⟩
theorem splice_step {α : Type} (L cs : List α) (off k : Nat) (hk : k < cs.length) (h : off + cs.length ≤ L.length) : (splice L off (cs.take k)).set (off + k) cs[k] = splice L off (cs.take (k + 1)) := by
  unfold splice
  have hl : (L.take off).length = off := by simp; omega
  have hc : (cs.take k).length = k := by simp; omega
  have hc1 : (cs.take (k + 1)).length = k + 1 := by simp; omega
  rw [hc, hc1, List.set_append_right _ _ (by omega), hl, show off + k - off = k by omega, List.set_append_right _ _ (by omega), hc, Nat.sub_self, List.drop_eq_getElem_cons (by omega), List.set_cons_zero, List.take_succ_eq_append_getElem hk, Nat.add_assoc, List.append_assoc (cs.take k)]
  rfl
theorem splice_nil {α : Type} (L : List α) (off : Nat) : splice L off [] = L := by simp [splice]
theorem rangeAt_below {w w1 : World} {b o : Nat} {cs : List Value} (h : w.rangeAt b o cs) (hb : Below w.heap.size w w1) : w1.rangeAt b o cs := fun j v hv => by
  have h1 := h j v hv
  rw [hb.cell (World.block_lt_of_cell? w _ h1)]; exact h1
theorem run_eqInts {P : Program} {e : TypeId} (he : P.underlying e = some (.int .i64)) (hk : P.plainKey e = true) (A B : List Int) (d : Nat) (w : World) : ∀ is : List Nat, (∀ i ∈ is, i < A.length ∧ i < B.length) →
    (Op.eqItems (d + 1) e 1 (A.map (Value.int .i64)).toArray (B.map (Value.int .i64)).toArray is).run P w = .ok (is.all fun i => A.getD i 0 == B.getD i 0) w
  | [], _ => by simp [Op.eqItems]
  | i :: is, h => by
    obtain ⟨ha, hb⟩ := h i (by simp)
    have p1 := run_part_plain (P := P) w hk (xs := (A.map (Value.int .i64)).toArray) (off := i * 1) (v := .int .i64 (A.getD i 0)) (by simp [List.getD, ha])
    have p2 := run_part_plain (P := P) w hk (xs := (B.map (Value.int .i64)).toArray) (off := i * 1) (v := .int .i64 (B.getD i 0)) (by simp [List.getD, hb])
    simp only [Op.eqItems, Sem.run_bind, p1, p2, Result.andThen_ok, run_equalIn_int w d e .i64 .i64 _ _ he]
    rcases hc : (A.getD i 0 == B.getD i 0) with _ | _
    · simp only [List.all_cons, hc]; simp
    · simp only [List.all_cons, hc, Bool.true_and]
      simpa using run_eqInts he hk A B d w is (fun j hj => h j (by simp [hj]))

theorem run_eql_ints {P : Program} {t e : TypeId} {n : Nat} {i : TypeInfo} (hu : P.underlying t = some (.array n e)) (hi : P.info? e = some i) (hc : P.cellsOf e = 1) (he : P.underlying e = some (.int .i64)) (hk : P.plainKey e = true)
    (A B : List Int) (hA : A.length = n) (hB : B.length = n) (w : World) :
    (binOp .eql t (.agg (A.map (Value.int .i64)).toArray) (.agg (B.map (Value.int .i64)).toArray)).run P w = .ok (.bool (decide (A = B))) w := by
  rw [run_eql_struct, run_equalIn_array w 9999 _ _ hu hi, hc, run_eqInts he hk A B 9998 w _ (fun j hj => by simp at hj; omega)]
  simp only [Result.andThen_ok]
  congr 2
  rw [Bool.eq_iff_iff, List.all_eq_true, decide_eq_true_iff]
  constructor
  · intro h
    apply List.ext_getElem (by omega)
    intro j h1 h2
    have := h j (by simp; omega)
    simpa [List.getD, h1, h2] using this
  · rintro rfl j _
    simp

theorem res_at {w w1 : World} {o : Obj} (h : Below (w.heap.size + 1) (w.alloc o) w1) : w1.heap[w.heap.size]? = some o := by
  rw [h.block _ (by omega)]; exact heap_alloc_new _ _
theorem OwnI.setRow {w : World} {B n g : Nat} {v : Value} {xs : List Int} (h : OwnI w B v n xs) (hg : g < B) (cs : Array Value) : OwnI (w.setRow g cs) B v n xs := by
  obtain ⟨t, h1, h2⟩ := h
  refine ⟨t, h1, ?_⟩
  rcases h2 with h2 | ⟨g', cap, cur, hv, hg', hh, r⟩
  · exact .inl h2
  · exact .inr ⟨g', cap, cur, hv, hg', by rw [setRow_other w g g' cs (by omega)]; exact hh, r⟩
/-- What is owned stays so where nothing that was there has turned. -/
theorem OwnI.below {w w' : World} {B n : Nat} {v : Value} {xs : List Int} (h : OwnI w B v n xs) (hb : Below w.heap.size w w') : OwnI w' B v n xs := by
  obtain ⟨t, h1, h2⟩ := h
  refine ⟨t, h1, ?_⟩
  rcases h2 with h2 | ⟨g, cap, cur, hv, hg, hh, r⟩
  · exact .inl h2
  · exact .inr ⟨g, cap, cur, hv, hg, by rw [hb.block g (Array.getElem?_eq_some_iff.1 hh).1]; exact hh, r⟩

/-- All of xs are from lo to hi. -/
def within (lo hi : Int) (xs : List Int) : Bool := xs.all fun v => decide (lo ≤ v ∧ v ≤ hi)
theorem within_no {lo hi : Int} {xs : List Int} {k : Nat} (hk : k < xs.length) (h : xs[k] < lo ∨ hi < xs[k]) : within lo hi xs = false := by
  simp only [within, List.all_eq_false]
  exact ⟨xs[k], List.getElem_mem hk, by simp; omega⟩
theorem within_snoc {lo hi : Int} {xs : List Int} {k : Nat} (hk : k < xs.length) (h1 : lo ≤ xs[k]) (h2 : xs[k] ≤ hi) (h : within lo hi (xs.take k) = true) : within lo hi (xs.take (k + 1)) = true := by
  rw [List.take_succ_eq_append_getElem hk]
  simp only [within, List.all_append, List.all_cons, List.all_nil, Bool.and_true, Bool.and_eq_true] at h ⊢
  exact ⟨h, by simp [h1, h2]⟩
theorem within_one {lo hi v : Int} : within lo hi [v] = decide (lo ≤ v ∧ v ≤ hi) := by simp [within]
theorem within_one_no {lo hi : Int} {xs : List Int} {k : Nat} (hk : k < xs.length) (h : within lo hi [xs[k]] = false) : within lo hi xs = false := by
  rw [within_one] at h
  simp only [decide_eq_false_iff_not] at h
  exact within_no hk (by omega)
theorem within_one_snoc {lo hi : Int} {xs : List Int} {k : Nat} (hk : k < xs.length) (h1 : within lo hi [xs[k]] = true) (h : within lo hi (xs.take k) = true) : within lo hi (xs.take (k + 1)) = true := by
  rw [within_one] at h1
  simp only [decide_eq_true_iff] at h1
  exact within_snoc hk h1.1 h1.2 h
theorem within_at {lo hi : Int} {xs : List Int} (h : within lo hi xs = true) {k : Nat} (hk : k < xs.length) : lo ≤ xs[k] ∧ xs[k] ≤ hi := by
  have := List.all_eq_true.1 h _ (List.getElem_mem hk)
  simpa using this

/-- What 'ArenaFault' tells. -/
def arenaFault (xs : List Int) : Int := if xs.length % 16 ≠ 0 ∨ xs.length < 16 ∨ 640 < xs.length then 2 else if within (-1000000000) 1000000000 xs = true then 0 else 3

theorem arenaFault_ok {xs : List Int} (h : arenaFault xs = 0) : xs.length % 16 = 0 ∧ 16 ≤ xs.length ∧ xs.length ≤ 640 ∧ within (-1000000000) 1000000000 xs = true := by
  unfold arenaFault at h
  split at h
  · omega
  · split at h
    · exact ⟨by omega, by omega, by omega, by assumption⟩
    · omega
/-- What an arena and a frame are asked. -/
def frameFault (xs : List Int) (f : Int) : Int := if arenaFault xs = 0 then (if within 0 ((xs.length : Int) / 16 - 1) [f] = true then 0 else 3) else arenaFault xs
theorem frameFault_ok {xs : List Int} {f : Int} (h : frameFault xs f = 0) : arenaFault xs = 0 ∧ 0 ≤ f ∧ (f + 1) * 16 ≤ xs.length := by
  unfold frameFault at h
  split at h
  · split at h
    · have hw : within 0 ((xs.length : Int) / 16 - 1) [f] = true := by assumption
      simp [within] at hw
      exact ⟨by assumption, by omega, by omega⟩
    · omega
  · exact absurd h (by assumption)

/-- The words of a frame. -/
def frameOf (xs : List Int) (f : Nat) : List Int := (xs.drop (f * 16)).take 16
theorem length_frameOf {xs : List Int} {f : Nat} (h : (f + 1) * 16 ≤ xs.length) : (frameOf xs f).length = 16 := by simp [frameOf]; omega
theorem getD_frameOf {xs : List Int} {f j : Nat} (hj : j < 16) : (frameOf xs f).getD j 0 = xs.getD (f * 16 + j) 0 := by
  simp [frameOf, List.getD, hj]

/-- 'withFrame': the same words, with others in one frame. -/
def putFrame (xs : List Int) (f : Nat) (page : List Int) : List Int := splice xs (f * 16) page

/-- The five functions of chapter 1 that answer words: code and words. -/
def newArena (f : Int) : Int × List Int := if within 1 40 [f] = true then (0, List.replicate (f.toNat * 16) 0) else (2, [])
def frameWords (xs : List Int) (f : Int) : Int × List Int := if frameFault xs f = 0 then (0, frameOf xs f.toNat) else (frameFault xs f, [])
def writeFrame (xs : List Int) (f : Int) (page : List Int) : Int × List Int :=
  if frameFault xs f = 0 then (if page.length = 16 then (if within (-1000000000) 1000000000 page = true then (0, putFrame xs f.toNat page) else (3, [])) else (2, [])) else (frameFault xs f, [])
def zeroFrame (xs : List Int) (f : Int) : Int × List Int := if frameFault xs f = 0 then (0, putFrame xs f.toNat (List.replicate 16 0)) else (frameFault xs f, [])
def isZeroFrame (xs : List Int) (f : Int) : Bool := decide (frameFault xs f = 0) && decide (frameOf xs f.toNat = List.replicate 16 0)

/-- A result of a code and words, the words in new memory. -/
def RetsInts (w : World) (r : Int × List Int) (e : Ending) (w' : World) : Prop :=
  ∃ v n, e = .returned (.agg #[.int .i64 r.1, v]) ∧ OwnI w' w.heap.size v n r.2 ∧ Below w.heap.size w w'

theorem run_arrayAt (P : Program) (w : World) (t e : TypeId) (m : Nat) (h : P.underlying t = some (.array m e)) (a : Option Addr) (len c : Nat) (hl : m ≤ len) : (Instr.arrayAt t (.slice a len c)).run P w = .ok (.pointer a) w := by
  simp [Instr.arrayAt, run_underlying h, Nat.not_lt.2 hl]

theorem Ints.one {w : World} {t : TypeId} {n : Int} {b : Nat} (hb : b = w.heap.size) : Ints (w.alloc (.cells #[.int .i64 n] t)) (some ⟨b, 0, none⟩) 1 [n] := by
  subst hb
  refine ⟨rfl, fun _ => ⟨w.heap.size, 0, rfl, by simp, fun j hj => ?_⟩⟩
  obtain rfl : j = 0 := by omega
  simp

theorem ret_bool {a b : Bool} (h : a = b) : Ending.returned (.bool a) = .returned (.bool b) := by rw [h]
theorem ret_int {k : IntKind} {a b : Int} (h : a = b) : Ending.returned (.int k a) = .returned (.int k b) := by rw [h]

/-- A store into the result's own block, and the return: what it leaves. -/
theorem ret_code {w w1 : World} {o : Obj} {r : Int × List Int} (cs : Array Value) {B n : Nat} {v : Value} (hb : Below (w.heap.size + 1) (w.alloc o) w1) (hv : OwnI w1 B v n r.2) (hB : w.heap.size < B) :
    RetsInts w r (.returned (.agg #[.int .i64 r.1, v])) (w1.setRow w.heap.size cs) :=
  ⟨v, n, rfl, (hv.setRow hB cs).base (by omega), below_setRow (((Below.refl _ _).alloc (Nat.le_refl _) o).trans (hb.mono (by omega))) (Nat.le_refl _) cs⟩

/-- w' is w with new blocks, and with writes to blocks from lo to hi (hi left out) alone. -/
structure Touch (lo hi : Nat) (w w' : World) : Prop where
  os : w'.os = w.os
  tape : w'.tape = w.tape
  output : w'.output = w.output
  size : w.heap.size ≤ w'.heap.size
  block : ∀ k, k < w.heap.size → (k < lo ∨ hi ≤ k) → w'.heap[k]? = w.heap[k]?

theorem Touch.refl (lo hi : Nat) (w : World) : Touch lo hi w w := ⟨rfl, rfl, rfl, Nat.le_refl _, fun _ _ _ => rfl⟩
theorem Touch.trans {lo hi : Nat} {a b c : World} (h : Touch lo hi a b) (k : Touch lo hi b c) : Touch lo hi a c :=
  ⟨k.os.trans h.os, k.tape.trans h.tape, k.output.trans h.output, Nat.le_trans h.size k.size, fun i hi hr => (k.block i (Nat.lt_of_lt_of_le hi h.size) hr).trans (h.block i hi hr)⟩
theorem Touch.of_below {lo hi : Nat} {w w' : World} (h : Below w.heap.size w w') : Touch lo hi w w' := ⟨h.os, h.tape, h.output, h.size, fun k hk _ => h.block k hk⟩
theorem Touch.of_grown {lo hi : Nat} {w w' : World} {row : Option Nat} (h : w.grownBy w' row) (hr : ∀ k, row = some k → lo ≤ k ∧ k < hi) : Touch lo hi w w' :=
  ⟨h.os, h.tape, h.output, h.size, fun k hk hout => h.block k hk (fun e => by have := hr k e.symm; omega)⟩
theorem Touch.below {lo hi B : Nat} {w0 w w' : World} (h : Touch lo hi w w') (hb : Below B w0 w) (hB : B ≤ lo) (hs : B ≤ w0.heap.size) : Below B w0 w' :=
  ⟨h.os.trans hb.os, h.tape.trans hb.tape, h.output.trans hb.output, Nat.le_trans hb.size h.size, fun k hk => (h.block k (by have := hb.size; omega) (.inl (by omega))).trans (hb.block k hk)⟩

/-- v owns the n numbers xs in a block between lo and hi (hi left out). -/
def OwnIn (w : World) (lo hi : Nat) (v : Value) (n : Nat) (xs : List Int) : Prop := OwnI w lo v n xs ∧ ∀ k, v.ownBlock = some k → k < hi

theorem OwnI.in_ {w : World} {B n : Nat} {v : Value} {xs : List Int} (h : OwnI w B v n xs) : OwnIn w B w.heap.size v n xs := by
  refine ⟨h, fun k hk => ?_⟩
  obtain ⟨t, h⟩ := h
  exact (h.lt k hk).2
theorem OwnIn.touch {w w' : World} {lo hi l h n : Nat} {v : Value} {xs : List Int} (ho : OwnIn w lo hi v n xs) (ht : Touch l h w w') (hd : hi ≤ l ∨ h ≤ lo) : OwnIn w' lo hi v n xs := by
  obtain ⟨⟨t, h1, h2⟩, h3⟩ := ho
  refine ⟨⟨t, h1, ?_⟩, h3⟩
  rcases h2 with h2 | ⟨g, cap, cur, rfl, hg, hh, r⟩
  · exact .inl h2
  · refine .inr ⟨g, cap, cur, rfl, hg, ?_, r⟩
    have := h3 g rfl
    rw [ht.block g (Array.getElem?_eq_some_iff.1 hh).1 (by omega)]; exact hh
theorem OwnIn.below {w w' : World} {lo hi n : Nat} {v : Value} {xs : List Int} (ho : OwnIn w lo hi v n xs) (hb : Below w.heap.size w w') : OwnIn w' lo hi v n xs := ⟨ho.1.below hb, ho.2⟩

/-- n numbers, one behind the other, from K on. -/
def marks (K : Int) (n : Nat) : List Int := (List.range n).map fun i : Nat => K + (i : Int)
theorem length_marks (K : Int) (n : Nat) : (marks K n).length = n := by simp [marks]
theorem marks_at (K : Int) {n k : Nat} (h : k < n) : (marks K n).getD k 0 = K + k := by simp [marks, List.getD, h]
/-- Of xs the first k are marked. -/
def markedTo (xs : List Int) (K : Int) (k : Nat) : List Int := marks K k ++ xs.drop k
theorem markedTo_zero (xs : List Int) (K : Int) : markedTo xs K 0 = xs := by simp [markedTo, marks]
theorem markedTo_full (xs : List Int) (K : Int) : markedTo xs K xs.length = marks K xs.length := by simp [markedTo]
theorem markedTo_step (xs : List Int) (K : Int) {k : Nat} (h : k < xs.length) : (markedTo xs K k).set k (K + k) = markedTo xs K (k + 1) := by
  unfold markedTo
  rw [List.set_append_right _ _ (by rw [length_marks]; omega), length_marks, Nat.sub_self, List.drop_eq_getElem_cons h, List.set_cons_zero]
  simp [marks, List.range_succ]

/-- Block b is just the cells cs of type t. -/
def Row (w : World) (b : Nat) (t : TypeId) (cs : Array Value) : Prop := w.heap[b]? = some (.cells cs t (0, 0))
theorem Row.lt {w : World} {b : Nat} {t : TypeId} {cs : Array Value} (h : Row w b t cs) : b < w.heap.size := (Array.getElem?_eq_some_iff.1 h).1
theorem Row.cell {w : World} {b : Nat} {t : TypeId} {cs : Array Value} (h : Row w b t cs) (i : Nat) : w.cell? ⟨b, i, none⟩ = cs[i]? := cell_of_row w b i cs t (0, 0) h
theorem Row.below {w w' : World} {b : Nat} {t : TypeId} {cs : Array Value} (h : Row w b t cs) (hb : Below w.heap.size w w') : Row w' b t cs := (hb.block b h.lt).trans h
theorem Row.touch {w w' : World} {b lo hi : Nat} {t : TypeId} {cs : Array Value} (h : Row w b t cs) (ht : Touch lo hi w w') (hd : b < lo ∨ hi ≤ b) : Row w' b t cs := (ht.block b h.lt hd).trans h
theorem Row.new {w w' : World} {t : TypeId} {cs : Array Value} (h : Below (w.alloc (.cells cs t)).heap.size (w.alloc (.cells cs t)) w') : Row w' w.heap.size t cs := res_at (h.mono (by simp))
theorem below_past {w w' : World} {o : Obj} (h : Below (w.alloc o).heap.size (w.alloc o) w') : Below w.heap.size w w' := ((Below.refl _ _).alloc (Nat.le_refl _) _).trans (h.mono (by simp))
theorem row_new_touch {w w' : World} {t : TypeId} {cs : Array Value} {lo hi : Nat} (h : Touch lo hi (w.alloc (.cells cs t)) w') (hd : w.heap.size < lo ∨ hi ≤ w.heap.size) : Row w' w.heap.size t cs := (h.block _ (by simp) hd).trans (heap_alloc_new _ _)
theorem touch_past {w w' : World} {o : Obj} {lo hi : Nat} (h : Touch lo hi (w.alloc o) w') : Touch lo hi w w' := (Touch.of_below ((Below.refl _ _).alloc (Nat.le_refl _) _)).trans h
theorem OwnIn.ints {w : World} {lo hi n cap : Nat} {ao : Option Addr} {xs : List Int} (h : OwnIn w lo hi (.slice ao n cap) n xs) : Ints w ao n xs := h.1.ints
theorem OwnIn.lohi {w : World} {lo hi n : Nat} {v : Value} {xs : List Int} (h : OwnIn w lo hi v n xs) : n = xs.length := by obtain ⟨⟨_, h1, _⟩, _⟩ := h; simpa using h1.symm

theorem Ints.none_ (w : World) : Ints w none 0 [] := ⟨rfl, fun h => absurd h (by omega)⟩
theorem Ints.of_row {w : World} {x : Addr} {len cap : Nat} {zs : List Int} (hl : len ≤ cap) (hz : zs.length = cap) (hc : ∀ i, i < zs.length → w.cell? (x.add i) = some (.int .i64 (zs.getD i 0))) : Ints w (some x) len (zs.take len) := by
  refine ⟨by simp; omega, fun h0 => ?_⟩
  obtain ⟨b, off, rfl, hcell⟩ := ints_at hc (by omega)
  refine ⟨b, off, rfl, ?_, fun j hj => ?_⟩
  · exact World.block_lt_of_cell? w _ (hcell 0 (by omega))
  · rw [hcell j (by omega)]; simp [List.getD, hj]

theorem frameWords_small (xs : List Int) (f : Int) : (frameWords xs f).2.length ≤ 640 := by
  unfold frameWords; split
  · simp [frameOf]; omega
  · simp
theorem length_putFrame {xs page : List Int} {m : Nat} (h : m * 16 + page.length ≤ xs.length) : (putFrame xs m page).length = xs.length := length_splice _ _ _ h
theorem writeFrame_small (xs : List Int) (f : Int) (page : List Int) : (writeFrame xs f page).2.length ≤ 640 := by
  unfold writeFrame; split
  · rename_i h
    obtain ⟨h1, h2, h3⟩ := frameFault_ok h
    have := arenaFault_ok h1
    split
    · split
      · simp only; rw [length_putFrame (by omega)]; omega
      · simp
    · simp
  · simp
theorem zeroFrame_small (xs : List Int) (f : Int) : (zeroFrame xs f).2.length ≤ 640 := by
  unfold zeroFrame; split
  · rename_i h
    obtain ⟨h1, h2, h3⟩ := frameFault_ok h
    have := arenaFault_ok h1
    simp only; rw [length_putFrame (by rw [List.length_replicate]; omega)]; omega
  · simp
theorem newArena_small (f : Int) : (newArena f).2.length ≤ 640 := by
  unfold newArena; split
  · rename_i h; simp [within] at h; simp; omega
  · simp

theorem byte_range {x : Int} (h : (Lit.int .u8 x).wf = true) : 0 ≤ x ∧ x ≤ 255 := by
  simpa [Lit.wf, IntKind.min, IntKind.max, IntKind.signed, IntKind.bits] using h

end Go.Proofs.Ythpamclljdcjpaa

/- Data that lead to further memory, told once for all types: how a datum lies in cells, slices that are read, slices that own all they lead to. -/
namespace Go.Proofs.Ythpamclljdcjpaa
open Go.RowKit

/-- w' is w with new blocks, and with writes to the blocks T alone. -/
structure Turn (T : Nat → Prop) (w w' : World) : Prop where
  os : w'.os = w.os
  tape : w'.tape = w.tape
  output : w'.output = w.output
  size : w.heap.size ≤ w'.heap.size
  block : ∀ k, k < w.heap.size → ¬ T k → w'.heap[k]? = w.heap[k]?

theorem Turn.refl (T : Nat → Prop) (w : World) : Turn T w w := ⟨rfl, rfl, rfl, Nat.le_refl _, fun _ _ _ => rfl⟩
theorem Turn.trans {T U : Nat → Prop} {a b c : World} (h : Turn T a b) (k : Turn U b c) (hU : ∀ i, U i → i < a.heap.size → T i) : Turn T a c :=
  ⟨k.os.trans h.os, k.tape.trans h.tape, k.output.trans h.output, Nat.le_trans h.size k.size, fun i hi hn => (k.block i (Nat.lt_of_lt_of_le hi h.size) (fun hu => hn (hU i hu hi))).trans (h.block i hi hn)⟩
theorem Turn.mono {T U : Nat → Prop} {a b : World} (h : Turn T a b) (hU : ∀ i, T i → i < a.heap.size → U i) : Turn U a b :=
  ⟨h.os, h.tape, h.output, h.size, fun i hi hn => h.block i hi (fun ht => hn (hU i ht hi))⟩
theorem Turn.of_below {T : Nat → Prop} {w w' : World} (h : Below w.heap.size w w') : Turn T w w' := ⟨h.os, h.tape, h.output, h.size, fun k hk _ => h.block k hk⟩
theorem Turn.of_grown {w w' : World} {v : Value} (h : w.grownBy w' v.ownBlock) : Turn (fun k => v.ownBlock = some k) w w' := ⟨h.os, h.tape, h.output, h.size, fun k hk hn => h.block k hk (fun e => hn e.symm)⟩
theorem Turn.below {T : Nat → Prop} {B : Nat} {w0 w w' : World} (hb : Below B w0 w) (h : Turn T w w') (hB : B ≤ w.heap.size) (hT : ∀ k, T k → B ≤ k) : Below B w0 w' :=
  ⟨h.os.trans hb.os, h.tape.trans hb.tape, h.output.trans hb.output, Nat.le_trans hb.size h.size, fun k hk => (h.block k (by omega) (fun ht => by have := hT k ht; omega)).trans (hb.block k hk)⟩
theorem Turn.none_ {w w' : World} (h : Turn (fun _ => False) w w') : Below w.heap.size w w' := Turn.below (Below.refl _ _) h (Nat.le_refl _) (fun _ h => h.elim)
theorem Turn.set (w : World) (a : Addr) (u : Value) : Turn (fun k => k = a.block) w (w.setCell a u) := ⟨rfl, rfl, rfl, by simp [World.setCell], fun k _ hn => heap_setCell_other w a k _ hn⟩
theorem Turn.setRow (w : World) (g : Nat) (cs : Array Value) : Turn (fun k => k = g) w (w.setRow g cs) := ⟨rfl, rfl, rfl, by simp, fun k _ hn => setRow_other w g k cs hn⟩
theorem Turn.alloc (T : Nat → Prop) (w : World) (o : Obj) : Turn T w (w.alloc o) := Turn.of_below ((Below.refl _ _).alloc (Nat.le_refl _) o)
theorem Turn.drewN {T : Nat → Prop} {w w' : World} (h : Turn T w w') (n : Nat) : Turn T w (w'.drewN n) := ⟨h.os, h.tape, h.output, h.size, h.block⟩
theorem Turn.row {T : Nat → Prop} {w w' : World} {b : Nat} {t : TypeId} {cs : Array Value} (h : Turn T w w') (hr : Row w b t cs) (hn : ¬ T b) : Row w' b t cs := (h.block b hr.lt hn).trans hr

/-- How a datum lies in cells. 'rd': it reads so, in blocks of S. 'own': all that it leads to lies in blocks of S, each of them its own. -/
structure Lay (α : Type) where
  sz : Nat
  rd : World → (Nat → Prop) → List Value → α → Prop
  own : World → (Nat → Prop) → List Value → α → Prop
  rd_len : ∀ {w S cs x}, rd w S cs x → cs.length = sz
  rd_turn : ∀ {w w' S T cs x}, rd w S cs x → Turn T w w' → (∀ k, S k → k < w.heap.size → ¬ T k) → rd w' S cs x
  rd_mono : ∀ {w S S' cs x}, rd w S cs x → (∀ k, S k → k < w.heap.size → S' k) → rd w S' cs x
  own_turn : ∀ {w w' S T cs x}, own w S cs x → Turn T w w' → (∀ k, S k → k < w.heap.size → ¬ T k) → own w' S cs x
  own_mono : ∀ {w S S' cs x}, own w S cs x → (∀ k, S k → k < w.heap.size → S' k) → own w S' cs x
  own_rd : ∀ {w S cs x}, own w S cs x → rd w S cs x

/-- The slice of n elements at 'ao' reads as xs, in blocks of S. -/
def Lst {α : Type} (K : Lay α) (w : World) (S : Nat → Prop) (ao : Option Addr) (n : Nat) (xs : List α) : Prop :=
  xs.length = n ∧ (0 < n → ∃ b off, ao = some ⟨b, off, none⟩ ∧ b < w.heap.size ∧ S b ∧ ∀ j x, xs[j]? = some x → ∃ cs, cs.length = K.sz ∧ (∀ i, i < K.sz → w.cell? ⟨b, off + j * K.sz + i, none⟩ = cs[i]?) ∧ K.rd w S cs x)

section
variable {α : Type} {K : Lay α} {w w' : World} {S S' T : Nat → Prop} {ao : Option Addr} {n : Nat} {xs : List α}
theorem Lst.turn (h : Lst K w S ao n xs) (ht : Turn T w w') (hd : ∀ k, S k → k < w.heap.size → ¬ T k) : Lst K w' S ao n xs := by
  refine ⟨h.1, fun h0 => ?_⟩
  obtain ⟨b, off, rfl, hb, hs, hc⟩ := h.2 h0
  refine ⟨b, off, rfl, Nat.lt_of_lt_of_le hb ht.size, hs, fun j x hj => ?_⟩
  obtain ⟨cs, hl, hcs, hr⟩ := hc j x hj
  exact ⟨cs, hl, fun i hi => by rw [World.cell?_of_block (w := w) (a := ⟨b, _, none⟩) (ht.block b hb (hd b hs hb))]; exact hcs i hi, K.rd_turn hr ht hd⟩
theorem Lst.below (h : Lst K w S ao n xs) (hb : Below w.heap.size w w') : Lst K w' S ao n xs := h.turn (T := fun _ => False) (Turn.of_below hb) (fun _ _ _ h => h)
theorem Lst.alloc (h : Lst K w S ao n xs) (o : Obj) : Lst K (w.alloc o) S ao n xs := h.below ((Below.refl _ _).alloc (Nat.le_refl _) o)
theorem Lst.mono (h : Lst K w S ao n xs) (hS : ∀ k, S k → k < w.heap.size → S' k) : Lst K w S' ao n xs := by
  refine ⟨h.1, fun h0 => ?_⟩
  obtain ⟨b, off, rfl, hb, hs, hc⟩ := h.2 h0
  refine ⟨b, off, rfl, hb, hS b hs hb, fun j x hj => ?_⟩
  obtain ⟨cs, hl, hcs, hr⟩ := hc j x hj
  exact ⟨cs, hl, hcs, K.rd_mono hr hS⟩
theorem Lst.nil : Lst K w S ao 0 [] := ⟨rfl, fun h => absurd h (by omega)⟩
theorem Lst.at_ (h : Lst K w S ao n xs) {j : Nat} (hj : j < n) : ∃ b off cs x, ao = some ⟨b, off, none⟩ ∧ b < w.heap.size ∧ S b ∧ xs[j]? = some x ∧ cs.length = K.sz ∧ (∀ i, i < K.sz → w.cell? ⟨b, off + j * K.sz + i, none⟩ = cs[i]?) ∧ K.rd w S cs x := by
  obtain ⟨b, off, rfl, hb, hs, hc⟩ := h.2 (by omega)
  have hx : xs[j]? = some (xs[j]'(by have := h.1; omega)) := List.getElem?_eq_getElem _
  obtain ⟨cs, hl, hcs, hr⟩ := hc j _ hx
  exact ⟨b, off, cs, _, rfl, hb, hs, hx, hl, hcs, hr⟩
theorem Lst.lt (h : Lst K w S ao n xs) (h0 : 0 < n) : ∃ b off, ao = some ⟨b, off, none⟩ ∧ b < w.heap.size ∧ S b := by
  obtain ⟨b, off, rfl, hb, hs, _⟩ := h.2 h0
  exact ⟨b, off, rfl, hb, hs⟩
/-- A part of a slice. -/
theorem Lst.part {b off : Nat} (h : Lst K w S (some ⟨b, off, none⟩) n xs) {i m : Nat} (hi : i + m ≤ n) : Lst K w S (some ⟨b, off + i * K.sz, none⟩) m ((xs.drop i).take m) := by
  have hl := h.1
  refine ⟨by simp; omega, fun h0 => ?_⟩
  obtain ⟨b', off', he, hb, hs, hc⟩ := h.2 (by omega)
  injection he with he
  injection he with he1 he2
  subst he1 he2
  refine ⟨b, _, rfl, hb, hs, fun j x hj => ?_⟩
  rw [List.getElem?_take] at hj
  split at hj
  · rw [List.getElem?_drop] at hj
    obtain ⟨cs, hl, hcs, hr⟩ := hc _ x hj
    exact ⟨cs, hl, fun q hq => by rw [← hcs q hq, show off + i * K.sz + j * K.sz + q = off + (i + j) * K.sz + q by rw [Nat.add_mul]; omega], hr⟩
  · cases hj
end

/-- The slice value v, of n elements of type t, owns the elements xs and all that they lead to, in blocks of S. -/
def Own {α : Type} (K : Lay α) (t : TypeId) (w : World) (S : Nat → Prop) (v : Value) (n : Nat) (xs : List α) : Prop :=
  xs.length = n ∧ ((v = .slice none 0 0 ∧ n = 0) ∨ ∃ (g cap : Nat) (cur : Array Value) (F : Nat → Nat → Prop), v = .slice (some ⟨g, 0, none⟩) n cap ∧ S g ∧ Row w g t cur ∧ n ≤ cap ∧ cap ≤ maxLen ∧ cur.size = cap * K.sz ∧
    (∀ j k, F j k → S k ∧ k ≠ g) ∧ (∀ i j k, F i k → F j k → i = j) ∧ ∀ j x, xs[j]? = some x → ∃ cs, cs.length = K.sz ∧ (∀ i, i < K.sz → cur[j * K.sz + i]? = cs[i]?) ∧ K.own w (F j) cs x)

section
variable {α : Type} {K : Lay α} {t : TypeId} {w w' : World} {S S' T : Nat → Prop} {v : Value} {n : Nat} {xs : List α}
theorem Own.nil : Own K t w S (.slice none 0 0) 0 [] := ⟨rfl, .inl ⟨rfl, rfl⟩⟩
theorem Own.turn (h : Own K t w S v n xs) (ht : Turn T w w') (hd : ∀ k, S k → k < w.heap.size → ¬ T k) : Own K t w' S v n xs := by
  refine ⟨h.1, ?_⟩
  rcases h.2 with h2 | ⟨g, cap, cur, F, hv, hg, hr, h1, h2, h3, hF, hD, hc⟩
  · exact .inl h2
  · refine .inr ⟨g, cap, cur, F, hv, hg, ht.row hr (hd g hg hr.lt), h1, h2, h3, hF, hD, fun j x hj => ?_⟩
    obtain ⟨cs, hl, hcs, ho⟩ := hc j x hj
    exact ⟨cs, hl, hcs, K.own_turn ho ht (fun k hk => hd k (hF j k hk).1)⟩
theorem Own.below (h : Own K t w S v n xs) (hb : Below w.heap.size w w') : Own K t w' S v n xs := h.turn (T := fun _ => False) (Turn.of_below hb) (fun _ _ _ h => h)
theorem Own.alloc (h : Own K t w S v n xs) (o : Obj) : Own K t (w.alloc o) S v n xs := h.below ((Below.refl _ _).alloc (Nat.le_refl _) o)
theorem Own.mono (h : Own K t w S v n xs) (hS : ∀ k, S k → k < w.heap.size → S' k) : Own K t w S' v n xs := by
  refine ⟨h.1, ?_⟩
  rcases h.2 with h2 | ⟨g, cap, cur, F, hv, hg, hr, h1, h2, h3, hF, hD, hc⟩
  · exact .inl h2
  · refine .inr ⟨g, cap, cur, fun j k => F j k ∧ k < w.heap.size, hv, hS g hg hr.lt, hr, h1, h2, h3, fun j k hk => ⟨hS k (hF j k hk.1).1 hk.2, (hF j k hk.1).2⟩, fun i j k hi hj => hD i j k hi.1 hj.1, fun j x hj => ?_⟩
    obtain ⟨cs, hl, hcs, ho⟩ := hc j x hj
    exact ⟨cs, hl, hcs, K.own_mono ho (fun k hk hlt => ⟨hk, hlt⟩)⟩
theorem Own.shape (h : Own K t w S v n xs) : ∃ ao cap, v = .slice ao n cap ∧ n ≤ cap ∧ cap ≤ maxLen ∧ Lst K w S ao n xs := by
  rcases h.2 with ⟨rfl, rfl⟩ | ⟨g, cap, cur, F, hv, hg, hr, h1, h2, h3, hF, hD, hc⟩
  · exact ⟨none, 0, rfl, Nat.le_refl _, Nat.zero_le _, h.1, fun h => absurd h (by omega)⟩
  · refine ⟨_, cap, hv, h1, h2, h.1, fun _ => ⟨g, 0, rfl, hr.lt, hg, fun j x hj => ?_⟩⟩
    obtain ⟨cs, hl, hcs, ho⟩ := hc j x hj
    exact ⟨cs, hl, fun i hi => by rw [Nat.zero_add, hr.cell]; exact hcs i hi, K.rd_mono (K.own_rd ho) (fun k hk _ => (hF j k hk).1)⟩
theorem Own.lst {ao : Option Addr} {m cap : Nat} (h : Own K t w S (.slice ao m cap) n xs) : n = m ∧ n ≤ cap ∧ cap ≤ maxLen ∧ Lst K w S ao n xs := by
  obtain ⟨ao', cap', he, h1, h2, h3⟩ := h.shape
  injection he with e1 e2 e3
  subst e1 e2 e3
  exact ⟨rfl, h1, h2, h3⟩
/-- It owns none but blocks that are there. -/
theorem Own.here (h : Own K t w S v n xs) : Own K t w (fun k => S k ∧ k < w.heap.size) v n xs := h.mono (fun _ h hl => ⟨h, hl⟩)
theorem Own.fresh {B : Nat} (h : Own K t w (fun k => B ≤ k) v n xs) {B' : Nat} (hB : B' ≤ B) : Own K t w (fun k => B' ≤ k) v n xs := h.mono (fun _ h _ => Nat.le_trans hB h)
end

/-- Of block g just the cells from off on have turned: they are cs now. -/
def Upd (w w' : World) (t : TypeId) (g off : Nat) (cs : List Value) : Prop :=
  ∃ cur cur', Row w g t cur ∧ Row w' g t cur' ∧ cur'.size = cur.size ∧ (∀ i, (i < off ∨ off + cs.length ≤ i) → cur'[i]? = cur[i]?) ∧ ∀ i, i < cs.length → cur'[off + i]? = cs[i]?
theorem Upd.refl {w : World} {t : TypeId} {g off : Nat} {cur : Array Value} {cs : List Value} (hr : Row w g t cur) (hc : ∀ i, i < cs.length → cur[off + i]? = cs[i]?) : Upd w w t g off cs :=
  ⟨cur, cur, hr, hr, rfl, fun _ _ => rfl, hc⟩
theorem Upd.turn {w w1 w2 : World} {t : TypeId} {g off : Nat} {cs : List Value} {T : Nat → Prop} (h : Upd w w1 t g off cs) (ht : Turn T w1 w2) (hg : ¬ T g) : Upd w w2 t g off cs := by
  obtain ⟨cur, cur', h1, h2, h3, h4, h5⟩ := h
  exact ⟨cur, cur', h1, ht.row h2 hg, h3, h4, h5⟩
theorem Upd.set {w w1 : World} {t : TypeId} {g off i : Nat} {cs : List Value} {u : Value} (h : Upd w w1 t g off cs) (hi : i < cs.length) : Upd w (w1.setCell ⟨g, off + i, none⟩ u) t g off (cs.set i u) := by
  obtain ⟨cur, cur', h1, h2, h3, h4, h5⟩ := h
  refine ⟨cur, cur'.setIfInBounds (off + i) u, h1, heap_setCell_same _ g (off + i) _ _ u h2, by simpa using h3, fun q hq => ?_, fun q hq => ?_⟩
  · rw [List.length_set] at hq
    rw [Array.getElem?_setIfInBounds_ne (by omega)]; exact h4 q hq
  · rw [List.length_set] at hq
    have hlt : off + i < cur'.size := by
      have := h5 i hi
      rw [List.getElem?_eq_getElem hi] at this
      exact (Array.getElem?_eq_some_iff.1 this).1
    by_cases e : q = i
    · subst e
      rw [Array.getElem?_setIfInBounds_self_of_lt hlt, List.getElem?_set_self hi]
    · rw [Array.getElem?_setIfInBounds_ne (by omega), List.getElem?_set_ne (by omega)]; exact h5 q hq
theorem Upd.cell {w w1 : World} {t : TypeId} {g off : Nat} {cs : List Value} (h : Upd w w1 t g off cs) : g < w1.heap.size ∧ (∀ i, i < cs.length → w1.cell? ⟨g, off + i, none⟩ = cs[i]?) ∧ ∀ i, w1.frozen? ⟨g, i, none⟩ = false := by
  obtain ⟨cur, cur', h1, h2, h3, h4, h5⟩ := h
  exact ⟨h2.lt, fun i hi => by rw [h2.cell]; exact h5 i hi, fun i => frozen_of_row w1 g i _ _ h2⟩

section
variable {α : Type} {K : Lay α} {t : TypeId} {w : World} {S : Nat → Prop} {v : Value} {n : Nat} {xs : List α}
/-- One element of what is owned: its cells, what it owns; and what is owned when it alone has turned. -/
theorem Own.focus (h : Own K t w S v n xs) {j : Nat} (hj : j < n) :
    ∃ g cap cs F x, v = .slice (some ⟨g, 0, none⟩) n cap ∧ S g ∧ xs[j]? = some x ∧ cs.length = K.sz ∧ Upd w w t g (j * K.sz) cs ∧ K.own w F cs x ∧ (∀ k, F k → S k ∧ k ≠ g ∧ k < w.heap.size) ∧
      ∀ (w' : World) (F' : Nat → Prop) (cs' : List Value) (x' : α), cs'.length = K.sz → Turn (fun k => F k ∨ k = g) w w' → Upd w w' t g (j * K.sz) cs' → K.own w' F' cs' x' → (∀ k, F' k → F k ∨ ¬ (S k ∧ k < w.heap.size)) →
        Own K t w' (fun k => S k ∨ F' k) v n (xs.set j x') := by
  have hl := h.1
  rcases h.here.2 with ⟨_, h2⟩ | ⟨g, cap, cur, F, rfl, hg, hr, h1, h2, h3, hF, hD, hc⟩
  · omega
  · have hx : xs[j]? = some (xs[j]'(by omega)) := List.getElem?_eq_getElem _
    obtain ⟨cs, hcl, hcs, ho⟩ := hc j _ hx
    refine ⟨g, cap, cs, F j, _, rfl, hg.1, hx, hcl, Upd.refl hr (by rw [hcl]; exact hcs), ho, fun k hk => ⟨(hF j k hk).1.1, (hF j k hk).2, (hF j k hk).1.2⟩, ?_⟩
    intro w' F' cs' x' hcl' ht hu ho' hF'
    obtain ⟨cur0, cur', hr0, hr', hs', hout, hin⟩ := hu
    have e := hr0.symm.trans hr
    injection e with e; injection e with e
    subst e
    refine ⟨by simpa using hl, .inr ⟨g, cap, cur', fun i k => (i = j ∧ F' k) ∨ (i ≠ j ∧ F i k), rfl, .inl hg.1, hr', h1, h2, hs'.trans h3, ?_, ?_, ?_⟩⟩
    · rintro i k (⟨rfl, hk⟩ | ⟨_, hk⟩)
      · rcases hF' k hk with h4 | h4
        · exact ⟨.inl (hF _ k h4).1.1, (hF _ k h4).2⟩
        · exact ⟨.inr hk, fun e => h4 (e ▸ hg)⟩
      · exact ⟨.inl (hF _ k hk).1.1, (hF _ k hk).2⟩
    · rintro i i' k (⟨rfl, hk⟩ | ⟨hi, hk⟩) (⟨rfl, hk'⟩ | ⟨hi', hk'⟩)
      · rfl
      · rcases hF' k hk with h4 | h4
        · exact hD _ _ k h4 hk'
        · exact absurd (hF _ k hk').1 h4
      · rcases hF' k hk' with h4 | h4
        · exact hD _ _ k hk h4
        · exact absurd (hF _ k hk).1 h4
      · exact hD _ _ k hk hk'
    · intro i x hi
      by_cases e : i = j
      · subst e
        rw [List.getElem?_set_self (by omega)] at hi
        injection hi with hi; subst hi
        exact ⟨cs', hcl', fun q hq => hin q (by omega), K.own_mono ho' (fun k hk _ => .inl ⟨rfl, hk⟩)⟩
      · rw [List.getElem?_set_ne (by omega)] at hi
        obtain ⟨ci, hcl2, hci, hoi⟩ := hc i x hi
        refine ⟨ci, hcl2, fun q hq => ?_, K.own_mono (K.own_turn hoi ht ?_) (fun k hk _ => .inr ⟨e, hk⟩)⟩
        · rw [hout _ ?_]
          · exact hci q hq
          · rw [hcl']
            rcases Nat.lt_or_gt_of_ne e with h5 | h5
            · left
              have := Nat.mul_le_mul_right K.sz (show i + 1 ≤ j by omega)
              rw [Nat.add_mul] at this; omega
            · right
              have := Nat.mul_le_mul_right K.sz (show j + 1 ≤ i by omega)
              rw [Nat.add_mul] at this; omega
        · rintro k hk hlt (h5 | h5)
          · exact e (hD _ _ k hk h5)
          · exact (hF _ k hk).2 h5
/-- A new slice of n elements, each one of cells that lead to nothing. -/
theorem Own.made {zs : List Value} {g : Nat} {cur : Array Value} {x : α} (hr : Row w g t cur) (hg : S g) (hn : n ≤ maxLen) (hs : cur.size = n * K.sz) (hz : zs.length = K.sz) (hc : ∀ j i, j < n → i < K.sz → cur[j * K.sz + i]? = zs[i]?)
    (ho : K.own w (fun _ => False) zs x) : Own K t w S (.slice (some ⟨g, 0, none⟩) n n) n (List.replicate n x) := by
  refine ⟨by simp, .inr ⟨g, n, cur, fun _ _ => False, rfl, hg, hr, Nat.le_refl _, hn, hs, fun _ _ h => h.elim, fun _ _ _ h => h.elim, fun j y hj => ?_⟩⟩
  rw [List.getElem?_replicate] at hj
  split at hj
  · injection hj with hj; subst hj
    exact ⟨zs, hz, fun i hi => hc j i (by assumption) hi, ho⟩
  · cases hj
/-- What an append of one element leaves. -/
theorem Own.row (h : Own K t w S v n xs) : ∃ cells, w.ownsRow 0 t K.sz v n cells ∧ (∀ g, v.ownBlock = some g → S g) ∧ ∃ F : Nat → Nat → Prop, (∀ j k, F j k → S k ∧ v.ownBlock ≠ some k) ∧ (∀ i j k, F i k → F j k → i = j) ∧
    ∀ j x, xs[j]? = some x → ∃ cs, cs.length = K.sz ∧ (∀ i, i < K.sz → cells[j * K.sz + i]? = cs[i]?) ∧ K.own w (F j) cs x := by
  have hl := h.1
  rcases h.2 with ⟨rfl, rfl⟩ | ⟨g, cap, cur, F, rfl, hg, hr, h1, h2, h3, hF, hD, hc⟩
  · refine ⟨[], World.ownsRow_nil _ _ _ _, fun g hg => by simp [Value.ownBlock] at hg, fun _ _ => False, fun _ _ h => h.elim, fun _ _ _ h => h.elim, fun j x hj => ?_⟩
    have := (List.getElem?_eq_some_iff.1 hj).1
    omega
  · refine ⟨cur.toList.take (n * K.sz), ⟨?_, .inr ⟨g, cap, cur, rfl, Nat.zero_le _, hr, h1, h2, h3, rfl⟩⟩, fun g' hg' => ?_, F, fun j k hk => ⟨(hF j k hk).1, fun e => ?_⟩, hD, fun j x hj => ?_⟩
    · rw [List.length_take, Array.length_toList, h3, Nat.min_eq_left (Nat.mul_le_mul_right _ h1)]
    · simp [Value.ownBlock] at hg'; exact hg' ▸ hg
    · simp [Value.ownBlock] at e; exact (hF j k hk).2 e.symm
    · obtain ⟨cs, hcl, hcs, ho⟩ := hc j x hj
      refine ⟨cs, hcl, fun i hi => ?_, ho⟩
      have hj' := (List.getElem?_eq_some_iff.1 hj).1
      have := Nat.mul_le_mul_right K.sz (show j + 1 ≤ n by omega)
      rw [Nat.add_mul] at this
      rw [List.getElem?_take, if_pos (by omega), ← hcs i hi]; simp
theorem Own.of_row {cells : List Value} {F : Nat → Nat → Prop} (hr : w.ownsRow 0 t K.sz v n cells) (hl : xs.length = n) (hS : ∀ g, v.ownBlock = some g → S g) (hF : ∀ j k, F j k → S k ∧ v.ownBlock ≠ some k) (hD : ∀ i j k, F i k → F j k → i = j)
    (hc : ∀ j x, xs[j]? = some x → ∃ cs, cs.length = K.sz ∧ (∀ i, i < K.sz → cells[j * K.sz + i]? = cs[i]?) ∧ K.own w (F j) cs x) : Own K t w S v n xs := by
  refine ⟨hl, ?_⟩
  rcases hr.2 with h2 | ⟨g, cap, cur, rfl, _, hh, h1, h2, h3, ht⟩
  · exact .inl h2
  · refine .inr ⟨g, cap, cur, F, rfl, hS g rfl, hh, h1, h2, h3, fun j k hk => ⟨(hF j k hk).1, fun e => (hF j k hk).2 (by rw [e]; rfl)⟩, hD, fun j x hj => ?_⟩
    obtain ⟨cs, hcl, hcs, ho⟩ := hc j x hj
    refine ⟨cs, hcl, fun i hi => ?_, ho⟩
    have hj' := (List.getElem?_eq_some_iff.1 hj).1
    have := Nat.mul_le_mul_right K.sz (show j + 1 ≤ n by omega)
    rw [Nat.add_mul] at this
    rw [← hcs i hi, ← ht, List.getElem?_take, if_pos (by omega)]; simp
theorem Own.snoc {w' : World} {v' : Value} {cells : List Value} {F : Nat → Nat → Prop} {G : Nat → Prop} {cs : List Value} {x : α} (hl : xs.length = n)
    (hS : ∀ g, v.ownBlock = some g → S g) (hF : ∀ j k, F j k → S k ∧ v.ownBlock ≠ some k) (hD : ∀ i j k, F i k → F j k → i = j) (hc : ∀ j x, xs[j]? = some x → ∃ cs, cs.length = K.sz ∧ (∀ i, i < K.sz → cells[j * K.sz + i]? = cs[i]?) ∧ K.own w (F j) cs x)
    (hcn : cells.length = n * K.sz) (hcs : cs.length = K.sz) (hx : K.own w G cs x) (hG : ∀ k, G k → k < w.heap.size → ¬ S k)
    (hr : w'.ownsRow 0 t K.sz v' (n + 1) (cells ++ cs)) (hg : w.grownBy w' v.ownBlock) (hv' : ∀ g, v'.ownBlock = some g → v.ownBlock = some g ∨ w.heap.size ≤ g) :
    Own K t w' (fun k => S k ∨ G k ∨ w.heap.size ≤ k) v' (n + 1) (xs ++ [x]) := by
  have ht := Turn.of_grown hg
  refine Own.of_row (F := fun j k => k < w.heap.size ∧ ((j < n ∧ F j k) ∨ (j = n ∧ G k))) hr (by simp [hl]) (fun g h => ?_) ?_ ?_ ?_
  · rcases hv' g h with h1 | h1
    · exact .inl (hS g h1)
    · exact .inr (.inr h1)
  · rintro j k ⟨hk, ⟨_, h1⟩ | ⟨_, h1⟩⟩
    · refine ⟨.inl (hF j k h1).1, fun e => ?_⟩
      rcases hv' k e with h2 | h2
      · exact (hF j k h1).2 h2
      · omega
    · refine ⟨.inr (.inl h1), fun e => ?_⟩
      rcases hv' k e with h2 | h2
      · exact hG k h1 hk (hS k h2)
      · omega
  · rintro i j k ⟨hk, ⟨hi, h1⟩ | ⟨hi, h1⟩⟩ ⟨_, ⟨hj, h2⟩ | ⟨hj, h2⟩⟩
    · exact hD _ _ k h1 h2
    · exact absurd (hF i k h1).1 (hG k h2 hk)
    · exact absurd (hF j k h2).1 (hG k h1 hk)
    · omega
  · intro j y hj
    by_cases e : j < n
    · rw [List.getElem?_append_left (by omega)] at hj
      obtain ⟨ci, hcl, hci, hoi⟩ := hc j y hj
      have := Nat.mul_le_mul_right K.sz (show j + 1 ≤ n by omega)
      rw [Nat.add_mul] at this
      refine ⟨ci, hcl, fun i hi => by rw [List.getElem?_append_left (by omega)]; exact hci i hi, ?_⟩
      have h1 := K.own_turn hoi ht (fun k hk _ e => (hF j k hk).2 e)
      exact K.own_mono (K.own_turn (K.own_mono hoi (S' := fun k => F j k ∧ k < w.heap.size) (fun k hk hlt => ⟨hk, hlt⟩)) ht (fun k hk _ e => (hF j k hk.1).2 e)) (fun k hk _ => ⟨hk.2, .inl ⟨e, hk.1⟩⟩)
    · have he : j = n := by
        have := (List.getElem?_eq_some_iff.1 hj).1
        simp at this; omega
      subst he
      rw [List.getElem?_append_right (by omega), hl, Nat.sub_self] at hj
      simp at hj; subst hj
      refine ⟨cs, hcs, fun i hi => by rw [List.getElem?_append_right (by omega), hcn, Nat.add_sub_cancel_left], ?_⟩
      have hx2 := K.own_mono hx (S' := fun k => G k ∧ k < w.heap.size) (fun k hk hlt => ⟨hk, hlt⟩)
      exact K.own_mono (K.own_turn hx2 ht (fun k hk hlt e => hG k hk.1 hlt (hS k e))) (fun k hk _ => ⟨hk.2, .inr ⟨rfl, hk.1⟩⟩)
end

/-- Whole numbers, truth values. -/
def KInt : Lay Int where
  sz := 1
  rd _ _ cs x := cs = [.int .i64 x]
  own _ _ cs x := cs = [.int .i64 x]
  rd_len h := by subst h; rfl
  rd_turn h _ _ := h
  rd_mono h _ := h
  own_turn h _ _ := h
  own_mono h _ := h
  own_rd h := h
def KBool : Lay Bool where
  sz := 1
  rd _ _ cs x := cs = [.bool x]
  own _ _ cs x := cs = [.bool x]
  rd_len h := by subst h; rfl
  rd_turn h _ _ := h
  rd_mono h _ := h
  own_turn h _ _ := h
  own_mono h _ := h
  own_rd h := h
/-- A slice is a datum of one cell. -/
def KSlice {α : Type} (K : Lay α) (t : TypeId) : Lay (List α) where
  sz := 1
  rd w S cs xs := ∃ ao n c, cs = [.slice ao n c] ∧ n ≤ c ∧ c ≤ maxLen ∧ Lst K w S ao n xs
  own w S cs xs := ∃ v n, cs = [v] ∧ Own K t w S v n xs
  rd_len := by rintro w S cs x ⟨_, _, _, rfl, _⟩; rfl
  rd_turn := by rintro w w' S T cs x ⟨a, n, c, rfl, h1, h2, h⟩ ht hd; exact ⟨a, n, c, rfl, h1, h2, h.turn ht hd⟩
  rd_mono := by rintro w S S' cs x ⟨a, n, c, rfl, h1, h2, h⟩ hd; exact ⟨a, n, c, rfl, h1, h2, h.mono hd⟩
  own_turn := by rintro w w' S T cs x ⟨v, n, rfl, h⟩ ht hd; exact ⟨v, n, rfl, h.turn ht hd⟩
  own_mono := by rintro w S S' cs x ⟨v, n, rfl, h⟩ hd; exact ⟨v, n, rfl, h.mono hd⟩
  own_rd := by
    rintro w S cs x ⟨v, n, rfl, h⟩
    obtain ⟨ao, c, rfl, h1, h2, h3⟩ := h.shape
    exact ⟨ao, n, c, rfl, h1, h2, h3⟩
/-- Two data, one behind the other. -/
def KPair {α β : Type} (A : Lay α) (B : Lay β) : Lay (α × β) where
  sz := A.sz + B.sz
  rd w S cs x := ∃ c1 c2, cs = c1 ++ c2 ∧ A.rd w S c1 x.1 ∧ B.rd w S c2 x.2
  own w S cs x := ∃ c1 c2 S1 S2, cs = c1 ++ c2 ∧ A.own w S1 c1 x.1 ∧ B.own w S2 c2 x.2 ∧ (∀ k, S1 k → S k) ∧ (∀ k, S2 k → S k) ∧ ∀ k, S1 k → ¬ S2 k
  rd_len := by rintro w S cs x ⟨c1, c2, rfl, h1, h2⟩; rw [List.length_append, A.rd_len h1, B.rd_len h2]
  rd_turn := by rintro w w' S T cs x ⟨c1, c2, rfl, h1, h2⟩ ht hd; exact ⟨c1, c2, rfl, A.rd_turn h1 ht hd, B.rd_turn h2 ht hd⟩
  rd_mono := by rintro w S S' cs x ⟨c1, c2, rfl, h1, h2⟩ hd; exact ⟨c1, c2, rfl, A.rd_mono h1 hd, B.rd_mono h2 hd⟩
  own_turn := by
    rintro w w' S T cs x ⟨c1, c2, S1, S2, rfl, h1, h2, h3, h4, h5⟩ ht hd
    exact ⟨c1, c2, S1, S2, rfl, A.own_turn h1 ht (fun k hk => hd k (h3 k hk)), B.own_turn h2 ht (fun k hk => hd k (h4 k hk)), h3, h4, h5⟩
  own_mono := by
    rintro w S S' cs x ⟨c1, c2, S1, S2, rfl, h1, h2, h3, h4, h5⟩ hd
    exact ⟨c1, c2, fun k => S1 k ∧ k < w.heap.size, fun k => S2 k ∧ k < w.heap.size, rfl, A.own_mono h1 (fun k hk hl => ⟨hk, hl⟩), B.own_mono h2 (fun k hk hl => ⟨hk, hl⟩), fun k hk => hd k (h3 k hk.1) hk.2, fun k hk => hd k (h4 k hk.1) hk.2, fun k hk hk2 => h5 k hk.1 hk2.1⟩
  own_rd := by
    rintro w S cs x ⟨c1, c2, S1, S2, rfl, h1, h2, h3, h4, h5⟩
    exact ⟨c1, c2, rfl, A.rd_mono (A.own_rd h1) (fun k hk _ => h3 k hk), B.rd_mono (B.own_rd h2) (fun k hk _ => h4 k hk)⟩
/-- The same datum under other names. -/
def KMap {α β : Type} (A : Lay α) (f : β → α) : Lay β where
  sz := A.sz
  rd w S cs x := A.rd w S cs (f x)
  own w S cs x := A.own w S cs (f x)
  rd_len h := A.rd_len h
  rd_turn h := A.rd_turn h
  rd_mono h := A.rd_mono h
  own_turn h := A.own_turn h
  own_mono h := A.own_mono h
  own_rd h := A.own_rd h
/-- Cells of which nothing is said but what they are. -/
def KCells (n : Nat) : Lay (List Value) where
  sz := n
  rd _ _ cs x := cs = x ∧ cs.length = n
  own _ _ cs x := cs = x ∧ cs.length = n
  rd_len h := h.2
  rd_turn h _ _ := h
  rd_mono h _ := h
  own_turn h _ _ := h
  own_mono h _ := h
  own_rd h := h
/-- One of two kinds of data in the same number of cells. -/
def KEither {α β : Type} (A : Lay α) (B : Lay β) (h : B.sz = A.sz) : Lay (α ⊕ β) where
  sz := A.sz
  rd w S cs x := match x with | .inl a => A.rd w S cs a | .inr b => B.rd w S cs b
  own w S cs x := match x with | .inl a => A.own w S cs a | .inr b => B.own w S cs b
  rd_len := by
    rintro w S cs (a | b) h1
    · exact A.rd_len h1
    · exact (B.rd_len h1).trans h
  rd_turn := by
    rintro w w' S T cs (a | b) h1
    · exact A.rd_turn h1
    · exact B.rd_turn h1
  rd_mono := by
    rintro w S S' cs (a | b) h1
    · exact A.rd_mono h1
    · exact B.rd_mono h1
  own_turn := by
    rintro w w' S T cs (a | b) h1
    · exact A.own_turn h1
    · exact B.own_turn h1
  own_mono := by
    rintro w S S' cs (a | b) h1
    · exact A.own_mono h1
    · exact B.own_mono h1
  own_rd := by
    rintro w S cs (a | b) h1
    · exact A.own_rd h1
    · exact B.own_rd h1

/-- Slices of numbers, as the elder texts have them. -/
theorem Lst.ints {w : World} {S : Nat → Prop} {ao : Option Addr} {n : Nat} {xs : List Int} (h : Lst KInt w S ao n xs) : Ints w ao n xs := by
  refine ⟨h.1, fun h0 => ?_⟩
  obtain ⟨b, off, rfl, hb, hs, hc⟩ := h.2 h0
  refine ⟨b, off, rfl, hb, fun j hj => ?_⟩
  have hjl : j < xs.length := by have := h.1; omega
  have hx : xs[j]? = some xs[j] := List.getElem?_eq_getElem _
  obtain ⟨cs, hl, hcs, hr⟩ := hc j _ hx
  have h1 := hcs 0 (show 0 < 1 by omega)
  rw [show cs = [.int .i64 xs[j]] from hr] at h1
  have h2 : w.cell? ⟨b, off + j, none⟩ = some (.int .i64 xs[j]) := by simpa [KInt] using h1
  rw [h2, List.getD_eq_getElem?_getD, hx]; rfl
theorem Ints.lst {w : World} {ao : Option Addr} {n : Nat} {xs : List Int} (h : Ints w ao n xs) : Lst KInt w (fun _ => True) ao n xs := by
  refine ⟨h.1, fun h0 => ?_⟩
  obtain ⟨b, off, rfl, hb, hc⟩ := h.2 h0
  refine ⟨b, off, rfl, hb, trivial, fun j x hj => ⟨[.int .i64 x], rfl, fun i hi => ?_, rfl⟩⟩
  obtain rfl : i = 0 := by have : i < 1 := hi; omega
  have hj' := (List.getElem?_eq_some_iff.1 hj).1
  have h1 := hc j (by have := h.1; omega)
  rw [List.getD_eq_getElem?_getD, hj] at h1
  simpa [KInt] using h1
/-- A slice of truth values: its cells. -/
theorem Lst.bool_at {w : World} {S : Nat → Prop} {ao : Option Addr} {n : Nat} {xs : List Bool} (h : Lst KBool w S ao n xs) {j : Nat} (hj : j < n) : ∃ b off, ao = some ⟨b, off, none⟩ ∧ b < w.heap.size ∧ w.cell? ⟨b, off + j, none⟩ = some (.bool (xs.getD j false)) := by
  obtain ⟨b, off, cs, x, rfl, hb, hs, hx, hl, hcs, hr⟩ := h.at_ hj
  refine ⟨b, off, rfl, hb, ?_⟩
  have h1 := hcs 0 (show 0 < 1 by omega)
  rw [show cs = [.bool x] from hr] at h1
  rw [List.getD_eq_getElem?_getD, hx]
  simpa [KBool] using h1
end Go.Proofs.Ythpamclljdcjpaa

/- The contracts of the helpers of the laws over slices of whole numbers: copy, compare, mark, hold. -/
namespace Go.Proofs.Ythpamclljdcjpaa
open Go.RowKit

theorem info64 : (Try.prog.info? 2).map (fun i => (i.zero, i.size, i.bytes)) = some (some (.int .i64 0), 1, 8) := by kernel_rfl

theorem take_eq_snoc {xs ys : List Int} {k : Nat} (hx : k < xs.length) (hy : k < ys.length) (h : xs.take k = ys.take k) (e : (xs[k] != ys[k]) = false) : xs.take (k + 1) = ys.take (k + 1) := by
  have e' : xs[k] = ys[k] := by simpa using e
  rw [List.take_succ_eq_append_getElem hx, List.take_succ_eq_append_getElem hy, h, e']

theorem ne_of_at {xs ys : List Int} {k : Nat} (hx : k < xs.length) (hy : k < ys.length) (e : (xs[k] != ys[k]) = true) : decide (xs = ys) = false := by
  simp only [decide_eq_false_iff_not]; rintro rfl; simp at e

/-- What a call that makes one new slice of numbers leaves. -/
def Makes (w : World) (n : Nat) (xs : List Int) (e : Ending) (w' : World) : Prop := ∃ v, e = .returned v ∧ OwnI w' w.heap.size v n xs ∧ Below w.heap.size w w'

theorem set_own {w : World} {B g n cap : Nat} {xs : List Int} {k : Nat} (hk : k < xs.length) (h : w.ownsRow B 2 1 (.slice (some ⟨g, 0, none⟩) n cap) n ((fill xs k).map (Value.int .i64))) :
    (w.setCell ⟨g, k, none⟩ (.int .i64 xs[k])).ownsRow B 2 1 (.slice (some ⟨g, 0, none⟩) n cap) n ((fill xs (k + 1)).map (Value.int .i64)) := by
  have := (h.stored k (.int .i64 xs[k])).1
  rw [← fill_step xs hk, List.map_set]
  exact this

end Go.Proofs.Ythpamclljdcjpaa

/- Slices of whole numbers and of truth values that are owned; their copies, marks; what a new slice holds. -/
namespace Go.Proofs.Ythpamclljdcjpaa
open Go.RowKit

theorem made_at {z : Array Value} {m j i : Nat} (hi : i < z.size) (hj : j * z.size + i < m) : (madeCells z m).toList[j * z.size + i]? = z.toList[i]? := by
  have h1 : (j * z.size + i) % z.size = i := by rw [Nat.mul_comm, Nat.mul_add_mod, Nat.mod_eq_of_lt hi]
  simp [madeCells, hj, h1, hi]

/-- A new slice: what 'make' leaves. -/
theorem Own.of_made {α : Type} {K : Lay α} {t : TypeId} {w : World} {S : Nat → Prop} {g n B : Nat} {z : Value} {x : α} (hr : w.ownsRow B t K.sz (.slice (some ⟨g, 0, none⟩) n n) n (madeCells z.cells (n * K.sz)).toList) (hg : S g) (hz : z.cells.size = K.sz)
    (ho : K.own w (fun _ => False) z.cells.toList x) : Own K t w S (.slice (some ⟨g, 0, none⟩) n n) n (List.replicate n x) := by
  refine Own.of_row (F := fun _ _ => False) (cells := (madeCells z.cells (n * K.sz)).toList) ?_ (by simp) (fun g' h => ?_) (fun _ _ h => h.elim) (fun _ _ _ h => h.elim) (fun j y hj => ?_)
  · obtain ⟨h1, h2⟩ := hr
    refine ⟨h1, ?_⟩
    rcases h2 with h2 | ⟨g', cap, cur, hv, _, r⟩
    · exact .inl h2
    · exact .inr ⟨g', cap, cur, hv, Nat.zero_le _, r⟩
  · simp [Value.ownBlock] at h; exact h ▸ hg
  · rw [List.getElem?_replicate] at hj
    split at hj
    · injection hj with hj; subst hj
      refine ⟨z.cells.toList, by simpa using hz, fun i hi => ?_, ho⟩
      rw [← hz]
      have h1 := Nat.mul_le_mul_right K.sz (show j + 1 ≤ n by omega)
      rw [Nat.add_mul] at h1
      exact made_at (by omega) (by rw [hz]; omega)
    · cases hj

theorem Own.bool_at {t : TypeId} {w : World} {S : Nat → Prop} {v : Value} {n : Nat} {xs : List Bool} (h : Own KBool t w S v n xs) {j : Nat} (hj : j < n) :
    ∃ g cap, v = .slice (some ⟨g, 0, none⟩) n cap ∧ S g ∧ g < w.heap.size ∧ w.cell? ⟨g, j, none⟩ = some (.bool (xs.getD j false)) ∧ w.frozen? ⟨g, j, none⟩ = false ∧
      ∀ u, Own KBool t (w.setCell ⟨g, j, none⟩ (.bool u)) S v n (xs.set j u) ∧ Turn S w (w.setCell ⟨g, j, none⟩ (.bool u)) := by
  obtain ⟨g, cap, cs, F, x, rfl, hg, hx, hcl, hu, ho, hF, hst⟩ := h.focus hj
  obtain rfl : cs = [.bool x] := ho
  obtain ⟨h1, h2, h3⟩ := hu.cell
  have h4 := h2 0 (by simp)
  rw [show KBool.sz = 1 from rfl, Nat.mul_one] at h4 hu hst
  simp only [Nat.add_zero, List.getElem?_cons_zero] at h4
  refine ⟨g, cap, rfl, hg, h1, ?_, h3 _, fun u => ⟨?_, (Turn.set w ⟨g, j, none⟩ (.bool u)).mono (fun k hk _ => by rw [show k = g from hk]; exact hg)⟩⟩
  · rw [h4, List.getD_eq_getElem?_getD, hx]; rfl
  · have h5 := hst (w.setCell ⟨g, j, none⟩ (.bool u)) (fun _ => False) [.bool u] u rfl ((Turn.set w ⟨g, j, none⟩ (.bool u)).mono (fun k hk _ => .inr hk)) (by have := hu.set (i := 0) (u := .bool u) (by simp); simpa using this) rfl (fun _ h => h.elim)
    exact h5.mono (fun k hk _ => hk.elim id False.elim)
theorem Own.int_at {t : TypeId} {w : World} {S : Nat → Prop} {v : Value} {n : Nat} {xs : List Int} (h : Own KInt t w S v n xs) {j : Nat} (hj : j < n) :
    ∃ g cap, v = .slice (some ⟨g, 0, none⟩) n cap ∧ S g ∧ g < w.heap.size ∧ w.cell? ⟨g, j, none⟩ = some (.int .i64 (xs.getD j 0)) ∧ w.frozen? ⟨g, j, none⟩ = false ∧
      ∀ u, Own KInt t (w.setCell ⟨g, j, none⟩ (.int .i64 u)) S v n (xs.set j u) ∧ Turn S w (w.setCell ⟨g, j, none⟩ (.int .i64 u)) := by
  obtain ⟨g, cap, cs, F, x, rfl, hg, hx, hcl, hu, ho, hF, hst⟩ := h.focus hj
  obtain rfl : cs = [.int .i64 x] := ho
  obtain ⟨h1, h2, h3⟩ := hu.cell
  have h4 := h2 0 (by simp)
  rw [show KInt.sz = 1 from rfl, Nat.mul_one] at h4 hu hst
  simp only [Nat.add_zero, List.getElem?_cons_zero] at h4
  refine ⟨g, cap, rfl, hg, h1, ?_, h3 _, fun u => ⟨?_, (Turn.set w ⟨g, j, none⟩ (.int .i64 u)).mono (fun k hk _ => by rw [show k = g from hk]; exact hg)⟩⟩
  · rw [h4, List.getD_eq_getElem?_getD, hx]; rfl
  · have h5 := hst (w.setCell ⟨g, j, none⟩ (.int .i64 u)) (fun _ => False) [.int .i64 u] u rfl ((Turn.set w ⟨g, j, none⟩ (.int .i64 u)).mono (fun k hk _ => .inr hk)) (by have := hu.set (i := 0) (u := .int .i64 u) (by simp); simpa using this) rfl (fun _ h => h.elim)
    exact h5.mono (fun k hk _ => hk.elim id False.elim)

theorem infoBool : (Try.prog.info? 4).map (fun i => (i.zero, i.size, i.bytes)) = some (some (.bool false), 1, 1) := by kernel_rfl

/-- Of xs the first k, then d: what a copy looks like behind k rounds. -/
def fillD {α : Type} (d : α) (xs : List α) (k : Nat) : List α := xs.take k ++ List.replicate (xs.length - k) d
theorem fillD_zero {α : Type} (d : α) (xs : List α) : fillD d xs 0 = List.replicate xs.length d := by simp [fillD]
theorem fillD_full {α : Type} (d : α) (xs : List α) : fillD d xs xs.length = xs := by simp [fillD]
theorem fillD_step {α : Type} {d : α} {xs : List α} {k : Nat} {x : α} (h : xs[k]? = some x) : (fillD d xs k).set k x = fillD d xs (k + 1) := by
  obtain ⟨hk, rfl⟩ := List.getElem?_eq_some_iff.1 h
  unfold fillD
  have hl : (xs.take k).length = k := by simp; omega
  obtain ⟨m, hm⟩ : ∃ m, xs.length - k = m + 1 := ⟨xs.length - k - 1, by omega⟩
  rw [List.set_append_right _ _ (by omega), hl, Nat.sub_self, hm, List.replicate_succ, List.set_cons_zero, show xs.length - (k + 1) = m by omega, List.take_succ_eq_append_getElem hk, List.append_assoc]
  rfl

/-- Truth values that tell which of n numbers from K on are multiples of three. -/
def marksB (K : Int) (n : Nat) : List Bool := (List.range n).map fun i : Nat => ((K + (i : Int)) % 3 == 0)
theorem length_marksB (K : Int) (n : Nat) : (marksB K n).length = n := by simp [marksB]
theorem marksB_at (K : Int) {n k : Nat} (h : k < n) : (marksB K n).getD k false = ((K + (k : Int)) % 3 == 0) := by simp [marksB, List.getD, h]
def markedB (xs : List Bool) (K : Int) (k : Nat) : List Bool := marksB K k ++ xs.drop k
theorem markedB_zero (xs : List Bool) (K : Int) : markedB xs K 0 = xs := by simp [markedB, marksB]
theorem markedB_full (xs : List Bool) (K : Int) : markedB xs K xs.length = marksB K xs.length := by simp [markedB]
theorem markedB_step (xs : List Bool) (K : Int) {k : Nat} (h : k < xs.length) : (markedB xs K k).set k (((K + (k : Int)) % 3 == 0)) = markedB xs K (k + 1) := by
  unfold markedB
  rw [List.set_append_right _ _ (by rw [length_marksB]; omega), length_marksB, Nat.sub_self, List.drop_eq_getElem_cons h, List.set_cons_zero]
  simp [marksB, List.range_succ]

end Go.Proofs.Ythpamclljdcjpaa

/- Pages in memory. -/
namespace Go.Proofs.Ythpamclljdcjpaa
open Go.RowKit

/-- A page, in plain words. -/
structure Pg where
  kind : Int
  cls : Int
  used : List Bool
  run : Int
theorem Pg.ext_ {p q : Pg} (h1 : p.kind = q.kind) (h2 : p.cls = q.cls) (h3 : p.used = q.used) (h4 : p.run = q.run) : p = q := by
  cases p; cases q; simp_all
instance : DecidableEq Pg := fun p q => decidable_of_iff (p.kind = q.kind ∧ p.cls = q.cls ∧ p.used = q.used ∧ p.run = q.run) ⟨fun ⟨h1, h2, h3, h4⟩ => Pg.ext_ h1 h2 h3 h4, fun h => by subst h; exact ⟨rfl, rfl, rfl, rfl⟩⟩
def Pg.free : Pg := ⟨0, 0, [], 0⟩

def KPage : Lay Pg := KMap (KPair KInt (KPair KInt (KPair (KSlice KBool 4) KInt))) fun p => (p.kind, p.cls, p.used, p.run)
theorem KPage_sz : KPage.sz = 4 := rfl
/-- The cells of a page. -/
def pgCells (p : Pg) (v : Value) : List Value := [.int .i64 p.kind, .int .i64 p.cls, v, .int .i64 p.run]

theorem KPage_rd {w : World} {S : Nat → Prop} {cs : List Value} {p : Pg} (h : KPage.rd w S cs p) : ∃ a n c, cs = [.int .i64 p.kind, .int .i64 p.cls, .slice a n c, .int .i64 p.run] ∧ n ≤ c ∧ c ≤ maxLen ∧ Lst KBool w S a n p.used := by
  obtain ⟨c1, c2, rfl, h1, c3, c4, rfl, h2, c5, c6, rfl, ⟨a, n, c, h3, hn, hc, hl⟩, h4⟩ := h
  refine ⟨a, n, c, ?_, hn, hc, hl⟩
  rw [show c1 = [.int .i64 p.kind] from h1, show c3 = [.int .i64 p.cls] from h2, h3, show c6 = [.int .i64 p.run] from h4]; rfl
theorem KPage_rd_mk {w : World} {S : Nat → Prop} {p : Pg} {a : Option Addr} {n c : Nat} (hn : n ≤ c) (hc : c ≤ maxLen) (hl : Lst KBool w S a n p.used) : KPage.rd w S [.int .i64 p.kind, .int .i64 p.cls, .slice a n c, .int .i64 p.run] p :=
  ⟨[.int .i64 p.kind], _, rfl, rfl, [.int .i64 p.cls], _, rfl, rfl, [.slice a n c], [.int .i64 p.run], rfl, ⟨a, n, c, rfl, hn, hc, hl⟩, rfl⟩
theorem KPage_own {w : World} {S : Nat → Prop} {cs : List Value} {p : Pg} (h : KPage.own w S cs p) : ∃ v n, cs = [.int .i64 p.kind, .int .i64 p.cls, v, .int .i64 p.run] ∧ Own KBool 4 w S v n p.used := by
  obtain ⟨c1, c2, _, _, rfl, h1, ⟨c3, c4, _, _, rfl, h2, ⟨c5, c6, _, _, rfl, ⟨v, n, h3, hl⟩, h4, k1, k2, _⟩, m1, m2, _⟩, n1, n2, _⟩ := h
  refine ⟨v, n, ?_, hl.mono (fun k hk _ => n2 _ (m2 _ (k1 _ hk)))⟩
  rw [show c1 = [.int .i64 p.kind] from h1, show c3 = [.int .i64 p.cls] from h2, h3, show c6 = [.int .i64 p.run] from h4]; rfl
theorem KPage_own_mk {w : World} {S : Nat → Prop} {p : Pg} {v : Value} {n : Nat} (hl : Own KBool 4 w S v n p.used) : KPage.own w S [.int .i64 p.kind, .int .i64 p.cls, v, .int .i64 p.run] p :=
  ⟨[.int .i64 p.kind], _, fun _ => False, S, rfl, rfl, ⟨[.int .i64 p.cls], _, fun _ => False, S, rfl, rfl, ⟨[v], [.int .i64 p.run], S, fun _ => False, rfl, ⟨v, n, rfl, hl⟩, rfl, fun _ h => h, fun _ h => h.elim, fun _ _ h => h.elim⟩, fun _ h => h.elim, fun _ h => h, fun _ h => h.elim⟩, fun _ h => h.elim, fun _ h => h, fun _ h => h.elim⟩

/-- A page of a list, in its cells. -/
theorem Lst.pg_at {w : World} {S : Nat → Prop} {ao : Option Addr} {n : Nat} {ps : List Pg} (h : Lst KPage w S ao n ps) {j : Nat} (hj : j < n) :
    ∃ b off p a l c, ao = some ⟨b, off, none⟩ ∧ b < w.heap.size ∧ ps[j]? = some p ∧ w.cell? ⟨b, off + j * 4, none⟩ = some (.int .i64 p.kind) ∧ w.cell? ⟨b, off + j * 4 + 1, none⟩ = some (.int .i64 p.cls) ∧ w.cell? ⟨b, off + j * 4 + 2, none⟩ = some (.slice a l c) ∧ w.cell? ⟨b, off + j * 4 + 3, none⟩ = some (.int .i64 p.run) ∧ l ≤ c ∧ c ≤ maxLen ∧ Lst KBool w S a l p.used := by
  obtain ⟨b, off, cs, p, rfl, hb, hs, hx, hl, hcs, hr⟩ := h.at_ hj
  obtain ⟨a, l, c, rfl, hlc, hcm, hu⟩ := KPage_rd hr
  have h0 := hcs 0 (by rw [KPage_sz]; omega)
  have h1 := hcs 1 (by rw [KPage_sz]; omega)
  have h2 := hcs 2 (by rw [KPage_sz]; omega)
  have h3 := hcs 3 (by rw [KPage_sz]; omega)
  rw [KPage_sz] at h0 h1 h2 h3
  exact ⟨b, off, p, a, l, c, rfl, hb, hx, h0, h1, h2, h3, hlc, hcm, hu⟩

theorem Upd.set4 {w w1 : World} {t : TypeId} {g off : Nat} {cs : List Value} {a b c d : Value} (h : Upd w w1 t g off cs) (hl : cs.length = 4) :
    Upd w ((((w1.setCell ⟨g, off, none⟩ a).setCell ⟨g, off + 1, none⟩ b).setCell ⟨g, off + 2, none⟩ c).setCell ⟨g, off + 3, none⟩ d) t g off [a, b, c, d] := by
  match cs, hl with
  | [x0, x1, x2, x3], _ => exact (((h.set (i := 0) (u := a) (by simp)).set (i := 1) (u := b) (by simp)).set (i := 2) (u := c) (by simp)).set (i := 3) (u := d) (by simp)
/-- The cells of one page of those that are owned. -/
theorem Upd.cells4 {w w1 : World} {t : TypeId} {g off : Nat} {cs : List Value} (h : Upd w w1 t g off cs) (hl : cs.length = 4) : ∃ c0 c1 c2 c3, cs = [c0, c1, c2, c3] ∧ g < w1.heap.size ∧
    w1.cell? ⟨g, off, none⟩ = some c0 ∧ w1.cell? ⟨g, off + 1, none⟩ = some c1 ∧ w1.cell? ⟨g, off + 2, none⟩ = some c2 ∧ w1.cell? ⟨g, off + 3, none⟩ = some c3 ∧
    w1.frozen? ⟨g, off, none⟩ = false ∧ w1.frozen? ⟨g, off + 1, none⟩ = false ∧ w1.frozen? ⟨g, off + 2, none⟩ = false ∧ w1.frozen? ⟨g, off + 3, none⟩ = false := by
  obtain ⟨h1, h2, h3⟩ := h.cell
  match cs, hl with
  | [x0, x1, x2, x3], _ => exact ⟨x0, x1, x2, x3, rfl, h1, h2 0 (by simp), h2 1 (by simp), h2 2 (by simp), h2 3 (by simp), h3 _, h3 _, h3 _, h3 _⟩
theorem Turn.set4 {w1 : World} {g o0 o1 o2 o3 : Nat} {a b c d : Value} : Turn (fun k => k = g) w1 ((((w1.setCell ⟨g, o0, none⟩ a).setCell ⟨g, o1, none⟩ b).setCell ⟨g, o2, none⟩ c).setCell ⟨g, o3, none⟩ d) :=
  (((Turn.set w1 ⟨g, o0, none⟩ a).trans (Turn.set _ ⟨g, o1, none⟩ b) (fun _ h _ => h)).trans (Turn.set _ ⟨g, o2, none⟩ c) (fun _ h _ => h)).trans (Turn.set _ ⟨g, o3, none⟩ d) (fun _ h _ => h)

/-- No list of slots is longer than this. -/
def ShortP (N : Nat) (ps : List Pg) : Prop := ∀ p ∈ ps, p.used.length ≤ N
theorem ShortP.at_ {N : Nat} {ps : List Pg} (h : ShortP N ps) {k : Nat} {p : Pg} (hk : ps[k]? = some p) : p.used.length ≤ N := h p (List.mem_of_getElem? hk)

/-- What a list has from one place on. -/
theorem drop_at {α : Type} {xs : List α} {k : Nat} {x : α} (h : xs[k]? = some x) : xs.drop k = x :: xs.drop (k + 1) := by
  obtain ⟨hk, rfl⟩ := List.getElem?_eq_some_iff.1 h
  exact List.drop_eq_getElem_cons hk
theorem drop_end {α : Type} {xs : List α} {k : Nat} (h : xs.length ≤ k) : xs.drop k = [] := List.drop_eq_nil_of_le h
end Go.Proofs.Ythpamclljdcjpaa

/- Helpers of the program and of the model that every chapter uses: bounds, and whether a list has a number. -/
namespace Go.Proofs.Ythpamclljdcjpaa
open Go.RowKit

set_option maxHeartbeats 400000 in
theorem allWithin_calls {lo hi : Int} {a : Option Addr} {n c : Nat} {xs : List Int} {w : World} (ha : Ints w a n xs) (hx : n ≤ 17592186044416) :
    Calls Try.prog 17 #[.int .i64 lo, .int .i64 hi, .slice a n c] w fun e w' => e = .returned (.bool (within lo hi xs)) ∧ w = w' := by
  have HL := Lib.hid ha.1
  go_enter Try.func17, Try.ntmps17
  go_wp2
  go_loop [11] (fun i => ∃ k : Nat, k ≤ n ∧ i = .int .i64 k ∧ Hid (within lo hi (xs.take k) = true)) (fun i => n - (intOf i).toNat)
  case atStart => exact ⟨0, Nat.zero_le _, rfl, rfl⟩
  case round =>
    obtain ⟨k, hk, rfl, HW⟩ := hrel
    by_cases hlt : k < n
    · obtain ⟨ba, oa, rfl, hba, hca⟩ := ha.at_ hlt
      have hkx : k < xs.length := by rw [HL.out]; exact hlt
      go_wp2
      · go_ret
        exact ⟨ret_bool (within_no hkx (by assumption)).symm, rfl⟩
      · have h2 : lo ≤ xs[k] ∧ xs[k] ≤ hi := by assumption
        have HS := within_snoc hkx h2.1 h2.2 HW.out
        go_round
        case rel => exact ⟨k + 1, by omega, by go_num, HS⟩
        case measure => simp [intOf]; omega
      · go_ret
        exact ⟨ret_bool (within_no hkx (.inl (by assumption))).symm, rfl⟩
    · have HH : Hid (within lo hi xs = true) := by have := HW.out; rwa [List.take_of_length_le (by have := HL.out; omega)] at this
      go_wp2
      go_ret
      exact ⟨ret_bool HH.out.symm, rfl⟩

theorem l1In_calls {v lo hi : Int} {w : World} :
    Calls Try.prog 14 #[.int .i64 v, .int .i64 lo, .int .i64 hi] w fun e w' => e = .returned (.bool (within lo hi [v])) ∧ w = w' := by
  by_cases h1 : lo ≤ v
  · by_cases h2 : v ≤ hi
    · have HF := Lib.hid (show within lo hi [v] = true by rw [within_one]; simp; omega)
      go_enter Try.func14, Try.ntmps14
      go_wp2
      go_ret
      exact ⟨ret_bool HF.out.symm, rfl⟩
    · have HF := Lib.hid (show within lo hi [v] = false by rw [within_one]; simp; omega)
      go_enter Try.func14, Try.ntmps14
      go_wp2
      go_ret
      exact ⟨ret_bool HF.out.symm, rfl⟩
  · have HF := Lib.hid (show within lo hi [v] = false by rw [within_one]; simp; omega)
    go_enter Try.func14, Try.ntmps14
    go_wp2
    go_ret
    exact ⟨ret_bool HF.out.symm, rfl⟩

/-- The list has this number. -/
def hasIn (xs : List Int) (v : Int) : Bool := xs.contains v
theorem contains_no {xs : List Int} {v : Int} {k : Nat} (h : hasIn (xs.take k) v = false) (hk : k < xs.length) (e : (xs[k] == v) = false) : hasIn (xs.take (k + 1)) v = false := by
  unfold hasIn at *
  rw [List.take_succ_eq_append_getElem hk]
  rw [Bool.eq_false_iff] at *
  intro hc
  rw [List.contains_iff_mem] at hc
  rcases List.mem_append.1 hc with h1 | h1
  · exact h (List.contains_iff_mem.2 h1)
  · simp at h1; simp [h1] at e
theorem contains_yes {xs : List Int} {v : Int} {k : Nat} (hk : k < xs.length) (e : (xs[k] == v) = true) : hasIn xs v = true := by
  unfold hasIn
  rw [List.contains_iff_mem]
  have : xs[k] = v := by simpa using e
  exact this ▸ List.getElem_mem hk

theorem Ints.grown {w w' : World} {ao : Option Addr} {n : Nat} {xs : List Int} {row : Option Nat} (h : Ints w ao n xs) (hg : w.grownBy w' row) (hd : ∀ a, ao = some a → 0 < n → row ≠ some a.block) : Ints w' ao n xs := by
  refine ⟨h.1, fun h0 => ?_⟩
  obtain ⟨b, off, rfl, hb, hc⟩ := h.2 h0
  refine ⟨b, off, rfl, Nat.lt_of_lt_of_le hb hg.size, fun j hj => ?_⟩
  have hb' : w'.heap[b]? = w.heap[b]? := hg.block b hb (fun e => hd _ rfl h0 e.symm)
  rw [World.cell?_of_block (w := w) (a := ⟨b, off + j, none⟩) hb']
  exact hc j hj
theorem Ints.old {w : World} {ao : Option Addr} {n : Nat} {xs : List Int} (h : Ints w ao n xs) : ∀ x, ao = some x → 0 < n → x.block < w.heap.size := by
  rintro x rfl h0
  obtain ⟨b, off, he, hb, _⟩ := h.2 h0
  injection he with he; subst he; exact hb

/-- A row of the call's own that is appended to: the n numbers xs, in a block from B on. -/
def OwnE (w : World) (B : Nat) (v : Value) (n : Nat) (xs : List Int) : Prop := w.ownsRow B 2 1 v n (xs.map (Value.int .i64))
theorem OwnE.own {w : World} {B n : Nat} {v : Value} {xs : List Int} (h : OwnE w B v n xs) : OwnI w B v n xs := ⟨_, h⟩
theorem OwnE.nil (w : World) (B : Nat) : OwnE w B (.slice none 0 0) 0 [] := World.ownsRow_nil _ _ _ _
theorem OwnE.made {w : World} {B b : Nat} (hB : B ≤ w.heap.size) (hb : b = w.heap.size) : OwnE (w.alloc (.cells #[] 2)) B (.slice (some ⟨b, 0, none⟩) 0 0) 0 [] := by
  subst hb; exact World.ownsRow_made w #[] 0 hB (Nat.zero_le _) rfl
theorem OwnE.below {w w' : World} {B n : Nat} {v : Value} {xs : List Int} (h : OwnE w B v n xs) (hb : Below w.heap.size w w') : OwnE w' B v n xs := by
  obtain ⟨h1, h2⟩ := h
  refine ⟨h1, ?_⟩
  rcases h2 with h2 | ⟨g, cap, cur, hv, hg, hh, r⟩
  · exact .inl h2
  · exact .inr ⟨g, cap, cur, hv, hg, by rw [hb.block g (Array.getElem?_eq_some_iff.1 hh).1]; exact hh, r⟩
theorem OwnE.lt {w : World} {B n : Nat} {v : Value} {xs : List Int} (h : OwnE w B v n xs) (k : Nat) (hk : v.ownBlock = some k) : B ≤ k := (World.ownsRow.lt h k hk).1

theorem cell_one {w : World} {u : Int} {t : TypeId} {b : Nat} (hb : b = w.heap.size) : (w.alloc (.cells #[.int .i64 u] t)).cell? ⟨b, 0, none⟩ = some (.int .i64 u) := by
  subst hb; rw [cell_of_row _ _ 0 _ _ _ (heap_alloc_new w _)]; rfl
theorem wpList_append_one {ops : Array Oper} {rest : List Oper} {o : Oper} {a : Act} {w : World} {Q : Exit → Act → World → Prop} (hgd : o.guard = none) (s x : Operand)
    (ho : o.op = .call { callee := .builtin .append, args := #[s, x], argTypes := #[47, 47] })
    {B n b c : Nat} {v : Value} {xs : List Int} {u : Int} (hs : a.eval s = v) (hown : OwnE w B v n xs) (hx : a.eval x = .slice (some ⟨b, 0, none⟩) 1 c) (hu : w.cell? ⟨b, 0, none⟩ = some (.int .i64 u))
    (hn : n ≤ 4294967296) (hB : B ≤ w.heap.size)
    (h : ∀ v' w', OwnE w' B v' (n + 1) (xs ++ [u]) → (∀ w0, Below B w0 w → Below B w0 w') → w.grownBy w' v.ownBlock → wpList Try.prog ops Q rest (a.put o.dst v') w') : wpList Try.prog ops Q (o :: rest) a w := by
  obtain ⟨i0, hi, hz0, hz1, hz2⟩ := info_parts info64
  refine wpList_append_own w hgd s x 47 ho B 2 i0 (.int .i64 0) 1 8 Try.underlying47 hi hz0 hz1 hz2 rfl (by decide) v n _ hs hown ⟨b, 0, none⟩ 1 c [.int .i64 u] hx rfl ?_ (by simp [Value.oneCell']) (by unfold maxLen; omega) (by omega) hB ?_
  · intro j y hj
    cases j with
    | zero => simp at hj; subst hj; exact hu
    | succ j => simp at hj
  · intro v' w' h1 h2 _
    refine h v' w' (by simpa [OwnE] using h1) (fun w0 hb => ?_) h2
    exact ⟨h2.os.trans hb.os, h2.tape.trans hb.tape, h2.output.trans hb.output, Nat.le_trans hb.size h2.size, fun k hk => by
      rw [h2.block k (by omega) (fun e => by have := hown.lt k e.symm; omega)]; exact hb.block k hk⟩
end Go.Proofs.Ythpamclljdcjpaa
