/- What every walk of this seat uses: how a slice of whole numbers reads in memory, and what stays of it. -/
import Derived.Test.YtkikjoalhohlgaaProg
import Derived.WalkKit
import Derived.ProofKit
import Derived.Below
import Derived.Laws.OwnMore
import Derived.Deep.QuietTactic
import Derived.BigQuiet
import Derived.OpenShut
import Derived.WalkSmall
import Derived.Lib.Hide
import Derived.WalkSpells
import Derived.Deep.MidRow
import Derived.Laws.CopyOwn
import Derived.ChangeKeysEq
namespace Go.Proofs.Ytkikjoalhohlgaa
open Go.RowKit

theorem add_block (a : Addr) (n : Nat) : (a.add n).block = a.block := by unfold Addr.add; split <;> rfl

/-- The slice of n numbers at 'ao' reads as xs. -/
def Ints (w : World) (ao : Option Addr) (n : Nat) (xs : List Int) : Prop :=
  xs.length = n ∧ (0 < n → ∃ b off, ao = some ⟨b, off, none⟩ ∧ b < w.heap.size ∧ ∀ j, j < n → w.cell? ⟨b, off + j, none⟩ = some (.int .i64 (xs.getD j 0)))

theorem Ints.at_ {w : World} {ao : Option Addr} {n : Nat} {xs : List Int} (h : Ints w ao n xs) {k : Nat} (hk : k < n) :
    ∃ b off, ao = some ⟨b, off, none⟩ ∧ b < w.heap.size ∧ w.cell? ⟨b, off + k, none⟩ = some (.int .i64 (xs.getD k 0)) := by
  obtain ⟨b, off, rfl, hb, hc⟩ := h.2 (by omega)
  exact ⟨b, off, rfl, hb, hc k hk⟩

theorem Ints.below {w w' : World} {ao : Option Addr} {n : Nat} {xs : List Int} (h : Ints w ao n xs) (hb : Below w.heap.size w w') : Ints w' ao n xs := by
  refine ⟨h.1, fun hi => ?_⟩
  obtain ⟨b, off, rfl, hlt, hc⟩ := h.2 hi
  exact ⟨b, off, rfl, Nat.lt_of_lt_of_le hlt hb.size, fun j hj => by rw [hb.cell (p := ⟨b, off + j, none⟩) hlt]; exact hc j hj⟩

theorem Ints.drewN {w : World} {ao : Option Addr} {m : Nat} {xs : List Int} (h : Ints w ao m xs) (n : Nat) : Ints (w.drewN n) ao m xs := h

theorem take_snoc (xs : List Int) {k : Nat} (h : k < xs.length) : xs.take (k + 1) = xs.take k ++ [xs.getD k 0] := by
  rw [List.take_succ_eq_append_getElem h]; simp [List.getD, h]

/-- Of xs the first k, then zeros: what a copy looks like behind k rounds. -/
def fill (xs : List Int) (k : Nat) : List Int := xs.take k ++ List.replicate (xs.length - k) 0
theorem fill_zero (xs : List Int) : fill xs 0 = List.replicate xs.length 0 := by simp [fill]
theorem fill_full (xs : List Int) : fill xs xs.length = xs := by simp [fill]
theorem length_fill (xs : List Int) {k : Nat} (h : k ≤ xs.length) : (fill xs k).length = xs.length := by simp [fill]; omega
theorem fill_at (xs : List Int) {k : Nat} (h : k < xs.length) : (fill xs k)[k]? = some 0 := by
  unfold fill
  rw [List.getElem?_append_right (by simp; omega)]
  simp only [List.length_take, List.getElem?_replicate]
  rw [if_pos (by omega)]
theorem fill_step (xs : List Int) {k : Nat} (h : k < xs.length) : (fill xs k).set k xs[k] = fill xs (k + 1) := by
  unfold fill
  have hl : (xs.take k).length = k := by simp; omega
  obtain ⟨m, hm⟩ : ∃ m, xs.length - k = m + 1 := ⟨xs.length - k - 1, by omega⟩
  rw [List.set_append_right _ _ (by omega), hl, Nat.sub_self, hm, List.replicate_succ, List.set_cons_zero, show xs.length - (k + 1) = m by omega, List.take_succ_eq_append_getElem h, List.append_assoc]
  rfl

/-- The slice value v, of n numbers, owns the numbers xs in a block from B on. -/
def OwnI (w : World) (B : Nat) (v : Value) (n : Nat) (xs : List Int) : Prop := ∃ t, w.ownsRow B t 1 v n (xs.map (Value.int .i64))

theorem OwnI.shape {w : World} {B n : Nat} {v : Value} {xs : List Int} (h : OwnI w B v n xs) : ∃ ao cap, v = .slice ao n cap ∧ n ≤ cap ∧ cap ≤ maxLen ∧ Ints w ao n xs := by
  obtain ⟨t, h⟩ := h
  have hl : xs.length = n := by have := h.1; simpa using this
  rcases h.2 with ⟨rfl, hn⟩ | ⟨g, cap, cur, rfl, hb, hh, hnc, hcm, hcs, ht⟩
  · rw [hn]
    exact ⟨none, 0, rfl, Nat.le_refl _, Nat.zero_le _, by omega, fun h => absurd h (by omega)⟩
  · refine ⟨some ⟨g, 0, none⟩, cap, rfl, hnc, hcm, hl, fun hi => ⟨g, 0, rfl, (Array.getElem?_eq_some_iff.1 hh).1, fun j hj => ?_⟩⟩
    have := World.ownsRow.cellAt h j (by omega)
    rw [Nat.zero_add, this]
    simp [List.getD, hl ▸ hj]

theorem OwnI.form {w : World} {B n : Nat} {v : Value} {xs : List Int} (h : OwnI w B v n xs) (h0 : 0 < n) : ∃ t g cap cur, v = .slice (some ⟨g, 0, none⟩) n cap ∧ B ≤ g ∧ w.heap[g]? = some (.cells cur t (0, 0)) ∧ n ≤ cap ∧ cap ≤ maxLen ∧ cur.size = cap ∧ cur.toList.take n = xs.map (Value.int .i64) := by
  obtain ⟨t, h1, h2⟩ := h
  rcases h2 with ⟨rfl, hn⟩ | ⟨g, cap, cur, rfl, hb, hh, hnc, hcm, hcs, ht⟩
  · omega
  · exact ⟨t, g, cap, cur, rfl, hb, hh, hnc, hcm, by simpa using hcs, by simpa using ht⟩
theorem OwnI.of_form {w : World} {B n t g cap : Nat} {cur : Array Value} {xs : List Int} (hb : B ≤ g) (hh : w.heap[g]? = some (.cells cur t (0, 0))) (hnc : n ≤ cap) (hcm : cap ≤ maxLen) (hcs : cur.size = cap) (ht : cur.toList.take n = xs.map (Value.int .i64)) (hl : xs.length = n) :
    OwnI w B (.slice (some ⟨g, 0, none⟩) n cap) n xs := ⟨t, by simpa using hl, .inr ⟨g, cap, cur, rfl, hb, hh, hnc, hcm, by simpa using hcs, by simpa using ht⟩⟩
theorem Ints.alloc {w : World} {ao : Option Addr} {n : Nat} {xs : List Int} (h : Ints w ao n xs) (o : Obj) : Ints (w.alloc o) ao n xs := h.below ((Below.refl _ _).alloc (Nat.le_refl _) o)
theorem OwnI.ints {w : World} {B n cap : Nat} {ao : Option Addr} {xs : List Int} (h : OwnI w B (.slice ao n cap) n xs) : Ints w ao n xs := by
  obtain ⟨ao', cap', he, _, _, hi⟩ := h.shape
  injection he with he
  subst he
  exact hi
theorem OwnI.lt {w : World} {B n g cap : Nat} {xs : List Int} (h : OwnI w B (.slice (some ⟨g, 0, none⟩) n cap) n xs) : B ≤ g ∧ g < w.heap.size := by
  obtain ⟨t, h⟩ := h
  exact h.lt g rfl
theorem OwnI.nil (w : World) (B : Nat) : OwnI w B (.slice none 0 0) 0 [] := ⟨0, World.ownsRow_nil _ _ _ _⟩
theorem OwnI.kept {w w' : World} {B n : Nat} {v : Value} {xs : List Int} {row : Option Nat} (h : OwnI w B v n xs) (hg : w.grownBy w' row) (hne : v.ownBlock = none ∨ v.ownBlock ≠ row) : OwnI w' B v n xs := by
  obtain ⟨t, h⟩ := h
  exact ⟨t, h.kept hg hne⟩
theorem OwnI.base {w : World} {B B' n : Nat} {v : Value} {xs : List Int} (h : OwnI w B v n xs) (hB : B' ≤ B) : OwnI w B' v n xs := by
  obtain ⟨t, h1, h2⟩ := h
  refine ⟨t, h1, ?_⟩
  rcases h2 with h2 | ⟨g, cap, cur, hv, hg, r⟩
  · exact .inl h2
  · exact .inr ⟨g, cap, cur, hv, Nat.le_trans hB hg, r⟩
theorem OwnI.stored {w : World} {B n g cap : Nat} {xs : List Int} (h : OwnI w B (.slice (some ⟨g, 0, none⟩) n cap) n xs) (j : Nat) (u : Int) :
    OwnI (w.setCell ⟨g, j, none⟩ (.int .i64 u)) B (.slice (some ⟨g, 0, none⟩) n cap) n (xs.set j u) ∧ w.grownBy (w.setCell ⟨g, j, none⟩ (.int .i64 u)) (some g) := by
  obtain ⟨t, h⟩ := h
  obtain ⟨h1, h2⟩ := h.stored j (.int .i64 u)
  exact ⟨⟨t, by rw [List.map_set]; exact h1⟩, h2⟩
theorem OwnI.cell {w : World} {B n g cap : Nat} {xs : List Int} (h : OwnI w B (.slice (some ⟨g, 0, none⟩) n cap) n xs) {j : Nat} (hj : j < n) :
    w.cell? ⟨g, j, none⟩ = some (.int .i64 (xs.getD j 0)) ∧ w.frozen? ⟨g, j, none⟩ = false := by
  obtain ⟨t, h⟩ := h
  have hl : xs.length = n := by have := h.1; simpa using this
  refine ⟨?_, h.frozenAt j⟩
  rw [h.cellAt j (by omega)]
  simp [List.getD, hl.symm ▸ hj]
theorem grown_trans {a b c : World} {row : Option Nat} (h : a.grownBy b row) (k : b.grownBy c row) : a.grownBy c row :=
  ⟨k.os.trans h.os, k.tape.trans h.tape, k.output.trans h.output, Nat.le_trans h.size k.size, fun i hi hr => (k.block i (Nat.lt_of_lt_of_le hi h.size) hr).trans (h.block i hi hr)⟩
theorem splice_step {α : Type} (L cs : List α) (off k : Nat) (hk : k < cs.length) (h : off + cs.length ≤ L.length) : (splice L off (cs.take k)).set (off + k) cs[k] = splice L off (cs.take (k + 1)) := by
  unfold splice
  have hl : (L.take off).length = off := by simp; omega
  have hc : (cs.take k).length = k := by simp; omega
  have hc1 : (cs.take (k + 1)).length = k + 1 := by simp; omega
  rw [hc, hc1, List.set_append_right _ _ (by omega), hl, show off + k - off = k by omega, List.set_append_right _ _ (by omega), hc, Nat.sub_self, List.drop_eq_getElem_cons (by omega), List.set_cons_zero, List.take_succ_eq_append_getElem hk, Nat.add_assoc, List.append_assoc (cs.take k)]
  rfl
theorem splice_nil {α : Type} (L : List α) (off : Nat) : splice L off [] = L := by simp [splice]
theorem rangeAt_below {w w1 : World} {b o : Nat} {cs : List Value} (h : w.rangeAt b o cs) (hb : Below w.heap.size w w1) : w1.rangeAt b o cs := fun j v hv => by
  have h1 := h j v hv
  rw [hb.cell (World.block_lt_of_cell? w _ h1)]; exact h1
theorem run_eqInts {P : Program} {e : TypeId} (he : P.underlying e = some (.int .i64)) (hk : P.plainKey e = true) (A B : List Int) (d : Nat) (w : World) : ∀ is : List Nat, (∀ i ∈ is, i < A.length ∧ i < B.length) →
    (Op.eqItems (d + 1) e 1 (A.map (Value.int .i64)).toArray (B.map (Value.int .i64)).toArray is).run P w = .ok (is.all fun i => A.getD i 0 == B.getD i 0) w
  | [], _ => by simp [Op.eqItems]
  | i :: is, h => by
    obtain ⟨ha, hb⟩ := h i (by simp)
    have p1 := run_part_plain (P := P) w hk (xs := (A.map (Value.int .i64)).toArray) (off := i * 1) (v := .int .i64 (A.getD i 0)) (by simp [List.getD, ha])
    have p2 := run_part_plain (P := P) w hk (xs := (B.map (Value.int .i64)).toArray) (off := i * 1) (v := .int .i64 (B.getD i 0)) (by simp [List.getD, hb])
    simp only [Op.eqItems, Sem.run_bind, p1, p2, Result.andThen_ok, run_equalIn_int w d e .i64 .i64 _ _ he]
    rcases hc : (A.getD i 0 == B.getD i 0) with _ | _
    · simp only [List.all_cons, hc]; simp
    · simp only [List.all_cons, hc, Bool.true_and]
      simpa using run_eqInts he hk A B d w is (fun j hj => h j (by simp [hj]))

theorem run_eql_ints {P : Program} {t e : TypeId} {n : Nat} {i : TypeInfo} (hu : P.underlying t = some (.array n e)) (hi : P.info? e = some i) (hc : P.cellsOf e = 1) (he : P.underlying e = some (.int .i64)) (hk : P.plainKey e = true)
    (A B : List Int) (hA : A.length = n) (hB : B.length = n) (w : World) :
    (binOp .eql t (.agg (A.map (Value.int .i64)).toArray) (.agg (B.map (Value.int .i64)).toArray)).run P w = .ok (.bool (decide (A = B))) w := by
  rw [run_eql_struct, run_equalIn_array w 9999 _ _ hu hi, hc, run_eqInts he hk A B 9998 w _ (fun j hj => by simp at hj; omega)]
  simp only [Result.andThen_ok]
  congr 2
  rw [Bool.eq_iff_iff, List.all_eq_true, decide_eq_true_iff]
  constructor
  · intro h
    apply List.ext_getElem (by omega)
    intro j h1 h2
    have := h j (by simp; omega)
    simpa [List.getD, h1, h2] using this
  · rintro rfl j _
    simp

theorem res_at {w w1 : World} {o : Obj} (h : Below (w.heap.size + 1) (w.alloc o) w1) : w1.heap[w.heap.size]? = some o := by
  rw [h.block _ (by omega)]; exact heap_alloc_new _ _
theorem OwnI.setRow {w : World} {B n g : Nat} {v : Value} {xs : List Int} (h : OwnI w B v n xs) (hg : g < B) (cs : Array Value) : OwnI (w.setRow g cs) B v n xs := by
  obtain ⟨t, h1, h2⟩ := h
  refine ⟨t, h1, ?_⟩
  rcases h2 with h2 | ⟨g', cap, cur, hv, hg', hh, r⟩
  · exact .inl h2
  · exact .inr ⟨g', cap, cur, hv, hg', by rw [setRow_other w g g' cs (by omega)]; exact hh, r⟩
/-- What is owned stays so where nothing that was there has turned. -/
theorem OwnI.below {w w' : World} {B n : Nat} {v : Value} {xs : List Int} (h : OwnI w B v n xs) (hb : Below w.heap.size w w') : OwnI w' B v n xs := by
  obtain ⟨t, h1, h2⟩ := h
  refine ⟨t, h1, ?_⟩
  rcases h2 with h2 | ⟨g, cap, cur, hv, hg, hh, r⟩
  · exact .inl h2
  · exact .inr ⟨g, cap, cur, hv, hg, by rw [hb.block g (Array.getElem?_eq_some_iff.1 hh).1]; exact hh, r⟩

/-- All of xs are from lo to hi. -/
def within (lo hi : Int) (xs : List Int) : Bool := xs.all fun v => decide (lo ≤ v ∧ v ≤ hi)
theorem within_no {lo hi : Int} {xs : List Int} {k : Nat} (hk : k < xs.length) (h : xs[k] < lo ∨ hi < xs[k]) : within lo hi xs = false := by
  simp only [within, List.all_eq_false]
  exact ⟨xs[k], List.getElem_mem hk, by simp; omega⟩
theorem within_snoc {lo hi : Int} {xs : List Int} {k : Nat} (hk : k < xs.length) (h1 : lo ≤ xs[k]) (h2 : xs[k] ≤ hi) (h : within lo hi (xs.take k) = true) : within lo hi (xs.take (k + 1)) = true := by
  rw [List.take_succ_eq_append_getElem hk]
  simp only [within, List.all_append, List.all_cons, List.all_nil, Bool.and_true, Bool.and_eq_true] at h ⊢
  exact ⟨h, by simp [h1, h2]⟩
theorem within_one {lo hi v : Int} : within lo hi [v] = decide (lo ≤ v ∧ v ≤ hi) := by simp [within]
theorem within_one_no {lo hi : Int} {xs : List Int} {k : Nat} (hk : k < xs.length) (h : within lo hi [xs[k]] = false) : within lo hi xs = false := by
  rw [within_one] at h
  simp only [decide_eq_false_iff_not] at h
  exact within_no hk (by omega)
theorem within_one_snoc {lo hi : Int} {xs : List Int} {k : Nat} (hk : k < xs.length) (h1 : within lo hi [xs[k]] = true) (h : within lo hi (xs.take k) = true) : within lo hi (xs.take (k + 1)) = true := by
  rw [within_one] at h1
  simp only [decide_eq_true_iff] at h1
  exact within_snoc hk h1.1 h1.2 h
theorem within_at {lo hi : Int} {xs : List Int} (h : within lo hi xs = true) {k : Nat} (hk : k < xs.length) : lo ≤ xs[k] ∧ xs[k] ≤ hi := by
  have := List.all_eq_true.1 h _ (List.getElem_mem hk)
  simpa using this

/-- What 'ArenaFault' tells. -/
def arenaFault (xs : List Int) : Int := if xs.length % 16 ≠ 0 ∨ xs.length < 16 ∨ 640 < xs.length then 2 else if within (-1000000000) 1000000000 xs = true then 0 else 3

theorem arenaFault_ok {xs : List Int} (h : arenaFault xs = 0) : xs.length % 16 = 0 ∧ 16 ≤ xs.length ∧ xs.length ≤ 640 ∧ within (-1000000000) 1000000000 xs = true := by
  unfold arenaFault at h
  split at h
  · omega
  · split at h
    · exact ⟨by omega, by omega, by omega, by assumption⟩
    · omega
/-- What an arena and a frame are asked. -/
def frameFault (xs : List Int) (f : Int) : Int := if arenaFault xs = 0 then (if within 0 ((xs.length : Int) / 16 - 1) [f] = true then 0 else 3) else arenaFault xs
theorem frameFault_ok {xs : List Int} {f : Int} (h : frameFault xs f = 0) : arenaFault xs = 0 ∧ 0 ≤ f ∧ (f + 1) * 16 ≤ xs.length := by
  unfold frameFault at h
  split at h
  · split at h
    · have hw : within 0 ((xs.length : Int) / 16 - 1) [f] = true := by assumption
      simp [within] at hw
      exact ⟨by assumption, by omega, by omega⟩
    · omega
  · exact absurd h (by assumption)

/-- The words of a frame. -/
def frameOf (xs : List Int) (f : Nat) : List Int := (xs.drop (f * 16)).take 16
theorem length_frameOf {xs : List Int} {f : Nat} (h : (f + 1) * 16 ≤ xs.length) : (frameOf xs f).length = 16 := by simp [frameOf]; omega
theorem getD_frameOf {xs : List Int} {f j : Nat} (hj : j < 16) : (frameOf xs f).getD j 0 = xs.getD (f * 16 + j) 0 := by
  simp [frameOf, List.getD, hj]

/-- 'withFrame': the same words, with others in one frame. -/
def putFrame (xs : List Int) (f : Nat) (page : List Int) : List Int := splice xs (f * 16) page

/-- The five functions of chapter 1 that answer words: code and words. -/
def newArena (f : Int) : Int × List Int := if within 1 40 [f] = true then (0, List.replicate (f.toNat * 16) 0) else (2, [])
def frameWords (xs : List Int) (f : Int) : Int × List Int := if frameFault xs f = 0 then (0, frameOf xs f.toNat) else (frameFault xs f, [])
def writeFrame (xs : List Int) (f : Int) (page : List Int) : Int × List Int :=
  if frameFault xs f = 0 then (if page.length = 16 then (if within (-1000000000) 1000000000 page = true then (0, putFrame xs f.toNat page) else (3, [])) else (2, [])) else (frameFault xs f, [])
def zeroFrame (xs : List Int) (f : Int) : Int × List Int := if frameFault xs f = 0 then (0, putFrame xs f.toNat (List.replicate 16 0)) else (frameFault xs f, [])
def isZeroFrame (xs : List Int) (f : Int) : Bool := decide (frameFault xs f = 0) && decide (frameOf xs f.toNat = List.replicate 16 0)

/-- A result of a code and words, the words in new memory. -/
def RetsInts (w : World) (r : Int × List Int) (e : Ending) (w' : World) : Prop :=
  ∃ v n, e = .returned (.agg #[.int .i64 r.1, v]) ∧ OwnI w' w.heap.size v n r.2 ∧ Below w.heap.size w w'

theorem run_arrayAt (P : Program) (w : World) (t e : TypeId) (m : Nat) (h : P.underlying t = some (.array m e)) (a : Option Addr) (len c : Nat) (hl : m ≤ len) : (Instr.arrayAt t (.slice a len c)).run P w = .ok (.pointer a) w := by
  simp [Instr.arrayAt, run_underlying h, Nat.not_lt.2 hl]

theorem Ints.one {w : World} {t : TypeId} {n : Int} {b : Nat} (hb : b = w.heap.size) : Ints (w.alloc (.cells #[.int .i64 n] t)) (some ⟨b, 0, none⟩) 1 [n] := by
  subst hb
  refine ⟨rfl, fun _ => ⟨w.heap.size, 0, rfl, by simp, fun j hj => ?_⟩⟩
  obtain rfl : j = 0 := by omega
  simp

theorem ret_bool {a b : Bool} (h : a = b) : Ending.returned (.bool a) = .returned (.bool b) := by rw [h]
theorem ret_int {k : IntKind} {a b : Int} (h : a = b) : Ending.returned (.int k a) = .returned (.int k b) := by rw [h]

/-- A store into the result's own block, and the return: what it leaves. -/
theorem ret_code {w w1 : World} {o : Obj} {r : Int × List Int} (cs : Array Value) {B n : Nat} {v : Value} (hb : Below (w.heap.size + 1) (w.alloc o) w1) (hv : OwnI w1 B v n r.2) (hB : w.heap.size < B) :
    RetsInts w r (.returned (.agg #[.int .i64 r.1, v])) (w1.setRow w.heap.size cs) :=
  ⟨v, n, rfl, (hv.setRow hB cs).base (by omega), below_setRow (((Below.refl _ _).alloc (Nat.le_refl _) o).trans (hb.mono (by omega))) (Nat.le_refl _) cs⟩

/-- w' is w with new blocks, and with writes to blocks from lo to hi (hi left out) alone. -/
structure Touch (lo hi : Nat) (w w' : World) : Prop where
  os : w'.os = w.os
  tape : w'.tape = w.tape
  output : w'.output = w.output
  size : w.heap.size ≤ w'.heap.size
  block : ∀ k, k < w.heap.size → (k < lo ∨ hi ≤ k) → w'.heap[k]? = w.heap[k]?

theorem Touch.refl (lo hi : Nat) (w : World) : Touch lo hi w w := ⟨rfl, rfl, rfl, Nat.le_refl _, fun _ _ _ => rfl⟩
theorem Touch.trans {lo hi : Nat} {a b c : World} (h : Touch lo hi a b) (k : Touch lo hi b c) : Touch lo hi a c :=
  ⟨k.os.trans h.os, k.tape.trans h.tape, k.output.trans h.output, Nat.le_trans h.size k.size, fun i hi hr => (k.block i (Nat.lt_of_lt_of_le hi h.size) hr).trans (h.block i hi hr)⟩
theorem Touch.of_below {lo hi : Nat} {w w' : World} (h : Below w.heap.size w w') : Touch lo hi w w' := ⟨h.os, h.tape, h.output, h.size, fun k hk _ => h.block k hk⟩
theorem Touch.of_grown {lo hi : Nat} {w w' : World} {row : Option Nat} (h : w.grownBy w' row) (hr : ∀ k, row = some k → lo ≤ k ∧ k < hi) : Touch lo hi w w' :=
  ⟨h.os, h.tape, h.output, h.size, fun k hk hout => h.block k hk (fun e => by have := hr k e.symm; omega)⟩
theorem Touch.below {lo hi B : Nat} {w0 w w' : World} (h : Touch lo hi w w') (hb : Below B w0 w) (hB : B ≤ lo) (hs : B ≤ w0.heap.size) : Below B w0 w' :=
  ⟨h.os.trans hb.os, h.tape.trans hb.tape, h.output.trans hb.output, Nat.le_trans hb.size h.size, fun k hk => (h.block k (by have := hb.size; omega) (.inl (by omega))).trans (hb.block k hk)⟩

/-- v owns the n numbers xs in a block between lo and hi (hi left out). -/
def OwnIn (w : World) (lo hi : Nat) (v : Value) (n : Nat) (xs : List Int) : Prop := OwnI w lo v n xs ∧ ∀ k, v.ownBlock = some k → k < hi

theorem OwnI.in_ {w : World} {B n : Nat} {v : Value} {xs : List Int} (h : OwnI w B v n xs) : OwnIn w B w.heap.size v n xs := by
  refine ⟨h, fun k hk => ?_⟩
  obtain ⟨t, h⟩ := h
  exact (h.lt k hk).2
theorem OwnIn.touch {w w' : World} {lo hi l h n : Nat} {v : Value} {xs : List Int} (ho : OwnIn w lo hi v n xs) (ht : Touch l h w w') (hd : hi ≤ l ∨ h ≤ lo) : OwnIn w' lo hi v n xs := by
  obtain ⟨⟨t, h1, h2⟩, h3⟩ := ho
  refine ⟨⟨t, h1, ?_⟩, h3⟩
  rcases h2 with h2 | ⟨g, cap, cur, rfl, hg, hh, r⟩
  · exact .inl h2
  · refine .inr ⟨g, cap, cur, rfl, hg, ?_, r⟩
    have := h3 g rfl
    rw [ht.block g (Array.getElem?_eq_some_iff.1 hh).1 (by omega)]; exact hh
theorem OwnIn.below {w w' : World} {lo hi n : Nat} {v : Value} {xs : List Int} (ho : OwnIn w lo hi v n xs) (hb : Below w.heap.size w w') : OwnIn w' lo hi v n xs := ⟨ho.1.below hb, ho.2⟩

/-- n numbers, one behind the other, from K on. -/
def marks (K : Int) (n : Nat) : List Int := (List.range n).map fun i : Nat => K + (i : Int)
theorem length_marks (K : Int) (n : Nat) : (marks K n).length = n := by simp [marks]
theorem marks_at (K : Int) {n k : Nat} (h : k < n) : (marks K n).getD k 0 = K + k := by simp [marks, List.getD, h]
/-- Of xs the first k are marked. -/
def markedTo (xs : List Int) (K : Int) (k : Nat) : List Int := marks K k ++ xs.drop k
theorem markedTo_zero (xs : List Int) (K : Int) : markedTo xs K 0 = xs := by simp [markedTo, marks]
theorem markedTo_full (xs : List Int) (K : Int) : markedTo xs K xs.length = marks K xs.length := by simp [markedTo]
theorem markedTo_step (xs : List Int) (K : Int) {k : Nat} (h : k < xs.length) : (markedTo xs K k).set k (K + k) = markedTo xs K (k + 1) := by
  unfold markedTo
  rw [List.set_append_right _ _ (by rw [length_marks]; omega), length_marks, Nat.sub_self, List.drop_eq_getElem_cons h, List.set_cons_zero]
  simp [marks, List.range_succ]

/-- Block b is just the cells cs of type t. -/
def Row (w : World) (b : Nat) (t : TypeId) (cs : Array Value) : Prop := w.heap[b]? = some (.cells cs t (0, 0))
theorem Row.lt {w : World} {b : Nat} {t : TypeId} {cs : Array Value} (h : Row w b t cs) : b < w.heap.size := (Array.getElem?_eq_some_iff.1 h).1
theorem Row.cell {w : World} {b : Nat} {t : TypeId} {cs : Array Value} (h : Row w b t cs) (i : Nat) : w.cell? ⟨b, i, none⟩ = cs[i]? := cell_of_row w b i cs t (0, 0) h
theorem Row.below {w w' : World} {b : Nat} {t : TypeId} {cs : Array Value} (h : Row w b t cs) (hb : Below w.heap.size w w') : Row w' b t cs := (hb.block b h.lt).trans h
theorem Row.touch {w w' : World} {b lo hi : Nat} {t : TypeId} {cs : Array Value} (h : Row w b t cs) (ht : Touch lo hi w w') (hd : b < lo ∨ hi ≤ b) : Row w' b t cs := (ht.block b h.lt hd).trans h
theorem Row.new {w w' : World} {t : TypeId} {cs : Array Value} (h : Below (w.alloc (.cells cs t)).heap.size (w.alloc (.cells cs t)) w') : Row w' w.heap.size t cs := res_at (h.mono (by simp))
theorem below_past {w w' : World} {o : Obj} (h : Below (w.alloc o).heap.size (w.alloc o) w') : Below w.heap.size w w' := ((Below.refl _ _).alloc (Nat.le_refl _) _).trans (h.mono (by simp))
theorem row_new_touch {w w' : World} {t : TypeId} {cs : Array Value} {lo hi : Nat} (h : Touch lo hi (w.alloc (.cells cs t)) w') (hd : w.heap.size < lo ∨ hi ≤ w.heap.size) : Row w' w.heap.size t cs := (h.block _ (by simp) hd).trans (heap_alloc_new _ _)
theorem touch_past {w w' : World} {o : Obj} {lo hi : Nat} (h : Touch lo hi (w.alloc o) w') : Touch lo hi w w' := (Touch.of_below ((Below.refl _ _).alloc (Nat.le_refl _) _)).trans h
theorem OwnIn.ints {w : World} {lo hi n cap : Nat} {ao : Option Addr} {xs : List Int} (h : OwnIn w lo hi (.slice ao n cap) n xs) : Ints w ao n xs := h.1.ints
theorem OwnIn.lohi {w : World} {lo hi n : Nat} {v : Value} {xs : List Int} (h : OwnIn w lo hi v n xs) : n = xs.length := by obtain ⟨⟨_, h1, _⟩, _⟩ := h; simpa using h1.symm

theorem Ints.none_ (w : World) : Ints w none 0 [] := ⟨rfl, fun h => absurd h (by omega)⟩
theorem Ints.of_row {w : World} {x : Addr} {len cap : Nat} {zs : List Int} (hl : len ≤ cap) (hz : zs.length = cap) (hc : ∀ i, i < zs.length → w.cell? (x.add i) = some (.int .i64 (zs.getD i 0))) : Ints w (some x) len (zs.take len) := by
  refine ⟨by simp; omega, fun h0 => ?_⟩
  obtain ⟨b, off, rfl, hcell⟩ := ints_at hc (by omega)
  refine ⟨b, off, rfl, ?_, fun j hj => ?_⟩
  · exact World.block_lt_of_cell? w _ (hcell 0 (by omega))
  · rw [hcell j (by omega)]; simp [List.getD, hj]

theorem frameWords_small (xs : List Int) (f : Int) : (frameWords xs f).2.length ≤ 640 := by
  unfold frameWords; split
  · simp [frameOf]; omega
  · simp
theorem length_putFrame {xs page : List Int} {m : Nat} (h : m * 16 + page.length ≤ xs.length) : (putFrame xs m page).length = xs.length := length_splice _ _ _ h
theorem writeFrame_small (xs : List Int) (f : Int) (page : List Int) : (writeFrame xs f page).2.length ≤ 640 := by
  unfold writeFrame; split
  · rename_i h
    obtain ⟨h1, h2, h3⟩ := frameFault_ok h
    have := arenaFault_ok h1
    split
    · split
      · simp only; rw [length_putFrame (by omega)]; omega
      · simp
    · simp
  · simp
theorem zeroFrame_small (xs : List Int) (f : Int) : (zeroFrame xs f).2.length ≤ 640 := by
  unfold zeroFrame; split
  · rename_i h
    obtain ⟨h1, h2, h3⟩ := frameFault_ok h
    have := arenaFault_ok h1
    simp only; rw [length_putFrame (by rw [List.length_replicate]; omega)]; omega
  · simp
theorem newArena_small (f : Int) : (newArena f).2.length ≤ 640 := by
  unfold newArena; split
  · rename_i h; simp [within] at h; simp; omega
  · simp

theorem byte_range {x : Int} (h : (Lit.int .u8 x).wf = true) : 0 ≤ x ∧ x ≤ 255 := by
  simpa [Lit.wf, IntKind.min, IntKind.max, IntKind.signed, IntKind.bits] using h

end Go.Proofs.Ytkikjoalhohlgaa
