/- Joined texts (Impl4b, Impl4c, App, Spec4c, Own4, Copy4, App2, Sort5, One5, One5b, One5c, Plain7, Spec7): steps of the proofs of chapter 5's laws. -/
import Derived.Maps.AppendAt
import Derived.Lib.SliceRun
import Derived.Deep.RegionLaw
import Derived.Lib.AppendZerosOnto
import Derived.Shelf.SortG.Plain
import Derived.Shelf.SortG.SortNone
import Derived.IntWalk
import Derived.Sort.OwnSortedInts
import Derived.Test.YtoaeglhjaandmaaM1
import Derived.Test.YtoaeglhjaandmaaM2
import Derived.Test.YtoaeglhjaandmaaM3
set_option linter.unusedVariables false
set_option linter.unusedSimpArgs false
/- Chapter 4 of the program: why pages are none. -/
namespace Go.Proofs.Ytoaeglhjaandmaa
open Go.RowKit

/-- What a call that answers a page leaves. -/
def GivesPg (w : World) (S : Nat → Prop) (n : Nat) (q : Pg) (e : Ending) (w' : World) : Prop := ∃ a m c, e = .returned (.agg #[.int .i64 q.kind, .int .i64 q.cls, .slice a m c, .int .i64 q.run]) ∧ m ≤ n ∧ Lst KBool w' S a m q.used ∧ Below w.heap.size w w'

/-- Two cells, and all that was there, are kept. -/
theorem keep2 {W a b : World} {p q : Addr} {x y : Value} (h : a.cell? p = some x ∧ a.cell? q = some y ∧ Below W.heap.size W a) (hb : Below a.heap.size a b) : b.cell? p = some x ∧ b.cell? q = some y ∧ Below W.heap.size W b :=
  ⟨(hb.cell (World.block_lt_of_cell? _ _ h.1)).trans h.1, (hb.cell (World.block_lt_of_cell? _ _ h.2.1)).trans h.2.1, h.2.2.trans (hb.mono h.2.2.size)⟩
/-- Of a box, its four cells; what was there is kept. -/
def Box4 (W : World) (b : Nat) (x0 x1 x2 x3 : Value) (w' : World) : Prop := w'.cell? ⟨b, 0, none⟩ = some x0 ∧ w'.cell? ⟨b, 1, none⟩ = some x1 ∧ w'.cell? ⟨b, 2, none⟩ = some x2 ∧ w'.cell? ⟨b, 3, none⟩ = some x3 ∧ Below W.heap.size W w'

end Go.Proofs.Ytoaeglhjaandmaa

/- Chapter 4 of the program: why pages are none, one by one and all of them. -/
namespace Go.Proofs.Ytoaeglhjaandmaa
open Go.RowKit

/-- A box behind a new block: it is there, and all else is as it was. -/
theorem below_box {w0 w w1 : World} {o : Obj} (hb : Below w0.heap.size w0 w) (h : Below (w.alloc o).heap.size (w.alloc o) w1) : Below w0.heap.size w0 w1 := hb.trans ((below_past h).mono hb.size)

end Go.Proofs.Ytoaeglhjaandmaa

/- Appending to what is owned: one element that owns its own, or elements that lead to nothing. -/
namespace Go.Proofs.Ytoaeglhjaandmaa
open Go.RowKit

/-- Data that lead to no further memory. -/
def Flat {α : Type} (K : Lay α) : Prop := ∀ w w' S S' cs x, K.rd w S cs x → K.own w' S' cs x
theorem flat_int : Flat KInt := fun _ _ _ _ _ _ h => h
theorem flat_bool : Flat KBool := fun _ _ _ _ _ _ h => h
/-- Its cells are plain ones. -/
def OneC {α : Type} (K : Lay α) : Prop := ∀ w S cs x, K.rd w S cs x → ∀ c ∈ cs, c.oneCell' = true
theorem one_int : OneC KInt := fun _ _ cs x h c hc => by rw [show cs = [.int .i64 x] from h] at hc; simp at hc; subst hc; rfl
theorem one_bool : OneC KBool := fun _ _ cs x h c hc => by rw [show cs = [.bool x] from h] at hc; simp at hc; subst hc; rfl
theorem one_slice {α : Type} (K : Lay α) (t : TypeId) : OneC (KSlice K t) := fun _ _ cs x ⟨_, _, _, h, _⟩ c hc => by rw [h] at hc; simp at hc; subst hc; rfl
theorem one_pair {α β : Type} {A : Lay α} {B : Lay β} (ha : OneC A) (hb : OneC B) : OneC (KPair A B) := fun w S cs x ⟨c1, c2, h, h1, h2⟩ c hc => by
  rw [h] at hc
  rcases List.mem_append.1 hc with hc | hc
  · exact ha w S c1 _ h1 c hc
  · exact hb w S c2 _ h2 c hc
theorem one_map {α β : Type} {A : Lay α} (f : β → α) (ha : OneC A) : OneC (KMap A f) := fun w S cs x h => ha w S cs (f x) h
theorem flat_pair {α β : Type} {A : Lay α} {B : Lay β} (ha : Flat A) (hb : Flat B) : Flat (KPair A B) := fun w w' _ S' _ _ ⟨c1, c2, h, h1, h2⟩ =>
  ⟨c1, c2, fun _ => False, fun _ => False, h, ha w w' _ _ _ _ h1, hb w w' _ _ _ _ h2, fun _ h => h.elim, fun _ h => h.elim, fun _ h => h.elim⟩
theorem flat_map {α β : Type} {A : Lay α} (f : β → α) (ha : Flat A) : Flat (KMap A f) := fun w w' S S' cs x h => ha w w' S S' cs (f x) h

section
variable {α : Type} {K : Lay α} {w w' : World} {S S' : Nat → Prop}
/-- The cells of a slice that reads, one behind the other. -/
theorem Lst.news {ao : Option Addr} {n : Nat} {xs : List α} (h : Lst K w S ao n xs) : ∃ news : List Value, news.length = n * K.sz ∧ (0 < n → ∃ b off, ao = some ⟨b, off, none⟩ ∧ ∀ j u, news[j]? = some u → w.cell? ⟨b, off + j, none⟩ = some u) ∧
    ∀ j x, xs[j]? = some x → ∃ cs, cs.length = K.sz ∧ (∀ i, i < K.sz → news[j * K.sz + i]? = cs[i]?) ∧ K.rd w S cs x := by
  have hl := h.1
  rcases Nat.eq_zero_or_pos n with rfl | h0
  · exact ⟨[], by simp, fun h => absurd h (by omega), fun j x hj => by have := (List.getElem?_eq_some_iff.1 hj).1; omega⟩
  · obtain ⟨b, off, rfl, hb, hs, hc⟩ := h.2 h0
    have hcell : ∀ j, j < n * K.sz → ∃ u, w.cell? ⟨b, off + j, none⟩ = some u := by
      intro j hj
      have hz : 0 < K.sz := Nat.pos_of_ne_zero (fun e => by rw [e] at hj; simp at hj)
      have hq : j / K.sz < n := Nat.div_lt_of_lt_mul (by rw [Nat.mul_comm]; exact hj)
      obtain ⟨cs, hcl, hcs, _⟩ := hc (j / K.sz) (xs[j / K.sz]'(by omega)) (List.getElem?_eq_getElem _)
      have h1 := hcs (j % K.sz) (Nat.mod_lt _ hz)
      rw [Nat.add_assoc, Nat.mul_comm, Nat.div_add_mod, List.getElem?_eq_getElem (by rw [hcl]; exact Nat.mod_lt _ hz)] at h1
      exact ⟨_, h1⟩
    refine ⟨(List.range (n * K.sz)).map fun j => (w.cell? ⟨b, off + j, none⟩).getD undef, by simp, fun _ => ⟨b, off, rfl, fun j u hj => ?_⟩, fun j x hj => ?_⟩
    · simp only [List.getElem?_map, Option.map_eq_some_iff] at hj
      obtain ⟨j', h1, h2⟩ := hj
      obtain ⟨hlt, rfl⟩ := List.getElem?_eq_some_iff.1 h1
      simp at hlt h2
      obtain ⟨u', hu⟩ := hcell j hlt
      rw [hu] at h2 ⊢; simp at h2; rw [h2]
    · obtain ⟨cs, hcl, hcs, hr⟩ := hc j x hj
      have hjl := (List.getElem?_eq_some_iff.1 hj).1
      refine ⟨cs, hcl, fun i hi => ?_, hr⟩
      have h1 := hcs i hi
      have h2 := Nat.mul_le_mul_right K.sz (show j + 1 ≤ n by omega)
      rw [Nat.add_mul] at h2
      rw [List.getElem?_map, List.getElem?_range (by omega)]
      simp only [Option.map_some]
      rw [← Nat.add_assoc, h1, List.getElem?_eq_getElem (by omega)]; rfl
end

theorem add_plain' (b off j : Nat) : (⟨b, off, none⟩ : Addr).add j = ⟨b, off + j, none⟩ := by unfold Addr.add; split <;> simp_all

section
variable {P : Program} {α : Type} {K : Lay α} {w : World} {S S' : Nat → Prop} {ops : Array Oper} {rest : List Oper} {o : Oper} {a : Act} {Q : Exit → Act → World → Prop}
/-- append(out, xs...), the elements flat. -/
theorem wpList_append_flat (hgd : o.guard = none) (s x : Operand) (t : TypeId) (ho : o.op = .call { callee := .builtin .append, args := #[s, x], argTypes := #[t, t] })
    (e : TypeId) (i : TypeInfo) (z : Value) (bytes : Nat) (ht : P.underlying t = some (.slice e)) (hi : P.info? e = some i) (hz : i.zero = some z)
    (hsize : i.size = K.sz) (hby : i.bytes = bytes) (hzs : z.cells.size = K.sz) (hsz : 0 < K.sz) (hK : Flat K) (hone : OneC K)
    {v : Value} {n m c : Nat} {xs ys : List α} {ao : Option Addr} (hs : a.eval s = v) (hown : Own K e w S v n xs) (hx : a.eval x = .slice ao m c) (hr : Lst K w S' ao m ys)
    (h63 : n + m ≤ maxLen) (hbytes : (n + m) * bytes ≤ 140737488355328)
    (h : ∀ v' w', Own K e w' (fun k => S k ∨ w.heap.size ≤ k) v' (n + m) (xs ++ ys) → Turn S w w' → wpList P ops Q rest (a.put o.dst v') w') : wpList P ops Q (o :: rest) a w := by
  obtain ⟨cells, hrow, hS, F, hF, hD, hc⟩ := hown.row
  obtain ⟨news, hnl, hnc, hne⟩ := hr.news
  have hxl := hown.1
  have hyl := hr.1
  have hone' : ∀ u ∈ news, u.oneCell' = true := by
    intro u hu
    obtain ⟨q, hq, rfl⟩ := List.getElem_of_mem hu
    have hqm : q / K.sz < m := Nat.div_lt_of_lt_mul (by rw [Nat.mul_comm]; omega)
    obtain ⟨cs, hcl, hcs, hrd⟩ := hne (q / K.sz) (ys[q / K.sz]'(by omega)) (List.getElem?_eq_getElem _)
    have h1 := hcs (q % K.sz) (Nat.mod_lt _ hsz)
    rw [Nat.mul_comm, Nat.div_add_mod, List.getElem?_eq_getElem hq] at h1
    exact hone _ _ _ _ hrd _ (List.mem_of_getElem? h1.symm)
  have hrun : ∃ v' w', (Builtin.append_ #[t, t] o.type #[v, .slice ao m c]).run P w = .ok v' w' ∧ w'.ownsRow 0 e K.sz v' (n + m) (cells ++ news) ∧ w.grownBy w' v.ownBlock ∧ (v'.ownBlock = v.ownBlock ∨ v'.ownBlock = some w.heap.size) := by
    cases ao with
    | none =>
      have hm : m = 0 := by
        rcases Nat.eq_zero_or_pos m with h0 | h0
        · exact h0
        · obtain ⟨_, _, h, _⟩ := hnc h0; cases h
      subst hm
      have hnn : news = [] := List.eq_nil_of_length_eq_zero (by simpa using hnl)
      subst hnn
      refine ⟨v, w, ?_, by simpa using hrow, ⟨rfl, rfl, rfl, Nat.le_refl _, fun _ _ _ => rfl⟩, .inl rfl⟩
      rcases hrow.2 with ⟨rfl, rfl⟩ | ⟨g, cap, cur, rfl, _, _, hcap, _⟩
      · simp [Builtin.append_, run_underlying ht, sizeOf, typeInfo, hi, Builtin.lenOf, Builtin.firstCells]
      · simp [Builtin.append_, run_underlying ht, sizeOf, typeInfo, hi, Builtin.lenOf, Builtin.firstCells, hcap, storeCells]
    | some ad =>
      have hcells : ∀ j u, news[j]? = some u → w.cell? (ad.add j) = some u := by
        intro j u hu
        rcases Nat.eq_zero_or_pos m with h0 | h0
        · subst h0
          have hnn : news = [] := List.eq_nil_of_length_eq_zero (by simpa using hnl)
          subst hnn; simp at hu
        · obtain ⟨b, off, he, hc'⟩ := hnc h0
          injection he with he; subst he
          rw [add_plain']; exact hc' j u hu
      obtain ⟨v', w', h1, h2, h3, _, h5⟩ := run_append_own_at (P := P) w 0 t o.type e i z K.sz bytes ht hi hz hsize hby hzs hsz v n cells hrow ad m c news hnl hcells hone' h63 hbytes (Nat.zero_le _)
      exact ⟨v', w', h1, h2, h3, h5⟩
  obtain ⟨v', w', hr1, h2, h3, h5⟩ := hrun
  refine wpList_plain hgd fun K' hK' => ?_
  unfold Oper.wp execOp
  simp only [ho, resolve, invoke, builtin, Sem.run_bind, Sem.run_pure, Result.andThen_ok, List.map_toArray, List.map_cons, List.map_nil, hs, hx, hr1]
  refine hK' _ _ (h v' w' ?_ ((Turn.of_grown h3).mono (fun k hk _ => hS k hk)))
  have hcl : cells.length = n * K.sz := hrow.1
  refine Own.of_row (F := fun _ _ => False) h2 (by simp [hxl, hyl]) (fun g hg => ?_) (fun _ _ h => h.elim) (fun _ _ _ h => h.elim) (fun j y hj => ?_)
  · rcases h5 with h6 | h6
    · exact .inl (hS g (by rw [← h6]; exact hg))
    · rw [hg] at h6; injection h6 with h6; exact .inr (by omega)
  · by_cases e : j < n
    · rw [List.getElem?_append_left (by omega)] at hj
      obtain ⟨cs, h6, h7, h8⟩ := hc j y hj
      have := Nat.mul_le_mul_right K.sz (show j + 1 ≤ n by omega)
      rw [Nat.add_mul] at this
      exact ⟨cs, h6, fun i hi => by rw [List.getElem?_append_left (by omega)]; exact h7 i hi, hK w w' _ _ _ _ (K.own_rd h8)⟩
    · rw [List.getElem?_append_right (by omega)] at hj
      obtain ⟨cs, h6, h7, h8⟩ := hne _ y hj
      refine ⟨cs, h6, fun i hi => ?_, hK w w' _ _ _ _ h8⟩
      have hle := Nat.mul_le_mul_right K.sz (show n ≤ j by omega)
      rw [List.getElem?_append_right (by omega), ← h7 i hi, hcl, hxl, Nat.sub_mul]
      congr 1; omega
/-- append(out, x): one element, whose cells lie at the head of block b. -/
theorem wpList_append_elem (hgd : o.guard = none) (s x : Operand) (t : TypeId) (ho : o.op = .call { callee := .builtin .append, args := #[s, x], argTypes := #[t, t] })
    (e : TypeId) (i : TypeInfo) (z : Value) (bytes : Nat) (ht : P.underlying t = some (.slice e)) (hi : P.info? e = some i) (hz : i.zero = some z)
    (hsize : i.size = K.sz) (hby : i.bytes = bytes) (hzs : z.cells.size = K.sz) (hsz : 0 < K.sz) (hone : OneC K)
    {v : Value} {n b c : Nat} {xs : List α} {y : α} {G : Nat → Prop} {cs : List Value} (hs : a.eval s = v) (hown : Own K e w S v n xs) (hx : a.eval x = .slice (some ⟨b, 0, none⟩) 1 c)
    (hcs : ∀ j u, cs[j]? = some u → w.cell? ⟨b, j, none⟩ = some u) (hy : K.own w G cs y) (hG : ∀ k, G k → k < w.heap.size → ¬ S k)
    (h63 : n + 1 ≤ maxLen) (hbytes : (n + 1) * bytes ≤ 140737488355328)
    (h : ∀ v' w', Own K e w' (fun k => S k ∨ G k ∨ w.heap.size ≤ k) v' (n + 1) (xs ++ [y]) → Turn S w w' → wpList P ops Q rest (a.put o.dst v') w') : wpList P ops Q (o :: rest) a w := by
  obtain ⟨cells, hrow, hS, F, hF, hD, hc⟩ := hown.row
  have hcl : cs.length = K.sz := K.rd_len (K.own_rd hy)
  obtain ⟨v', w', h1, h2, h3, _, h5⟩ := run_append_own_at (P := P) w 0 t o.type e i z K.sz bytes ht hi hz hsize hby hzs hsz v n cells hrow ⟨b, 0, none⟩ 1 c cs (by omega) (fun j u hu => by rw [add_plain', Nat.zero_add]; exact hcs j u hu) (hone _ _ _ _ (K.own_rd hy)) h63 hbytes (Nat.zero_le _)
  refine wpList_plain hgd fun K' hK' => ?_
  unfold Oper.wp execOp
  simp only [ho, resolve, invoke, builtin, Sem.run_bind, Sem.run_pure, Result.andThen_ok, List.map_toArray, List.map_cons, List.map_nil, hs, hx, h1]
  refine hK' _ _ (h v' w' ?_ ((Turn.of_grown h3).mono (fun k hk _ => hS k hk)))
  refine Own.snoc hown.1 hS hF hD hc hrow.1 hcl hy hG h2 h3 (fun g hg => ?_)
  rcases h5 with h6 | h6
  · exact .inl (by rw [← h6]; exact hg)
  · rw [hg] at h6; injection h6 with h6; exact .inr (by omega)
end
end Go.Proofs.Ytoaeglhjaandmaa

/- Chapter 4 of the model: copies of pages. -/
namespace Go.Proofs.Ytoaeglhjaandmaa
open Go.RowKit

theorem one_page : OneC KPage := one_map _ (one_pair one_int (one_pair one_int (one_pair (one_slice _ _) one_int)))
/-- An empty slice in a new block. -/
theorem Own.empty {α : Type} {K : Lay α} {t : TypeId} {w : World} {S : Nat → Prop} {b : Nat} (hr : Row w b t #[]) (hS : S b) : Own K t w S (.slice (some ⟨b, 0, none⟩) 0 0) 0 [] :=
  ⟨rfl, .inr ⟨b, 0, #[], fun _ _ => False, rfl, hS, hr, Nat.le_refl _, Nat.zero_le _, by simp, fun _ _ h => h.elim, fun _ _ _ h => h.elim, fun j x hj => by simp at hj⟩⟩

end Go.Proofs.Ytoaeglhjaandmaa

/- Pages that are owned: one of them turned. -/
namespace Go.Proofs.Ytoaeglhjaandmaa
open Go.RowKit

end Go.Proofs.Ytoaeglhjaandmaa

/- Chapter 4 of the program: copies of pages. -/
namespace Go.Proofs.Ytoaeglhjaandmaa
open Go.RowKit

/-- Plain cells of which nothing is said but what they are. -/
def KRaw (n : Nat) : Lay (List Value) where
  sz := n
  rd _ _ cs x := cs = x ∧ cs.length = n ∧ ∀ c ∈ cs, c.oneCell' = true
  own _ _ cs x := cs = x ∧ cs.length = n ∧ ∀ c ∈ cs, c.oneCell' = true
  rd_len h := h.2.1
  rd_turn h _ _ := h
  rd_mono h _ := h
  own_turn h _ _ := h
  own_mono h _ := h
  own_rd h := h
theorem flat_raw (n : Nat) : Flat (KRaw n) := fun _ _ _ _ _ _ h => h
theorem one_raw (n : Nat) : OneC (KRaw n) := fun _ _ _ _ h => h.2.2
theorem exists_list {α β : Type} {P : Nat → α → β → Prop} : ∀ {xs : List α}, (∀ j x, xs[j]? = some x → ∃ y, P j x y) → ∃ ys : List β, ys.length = xs.length ∧ ∀ j x, xs[j]? = some x → ∃ y, ys[j]? = some y ∧ P j x y
  | [], _ => ⟨[], rfl, fun j x h => by simp at h⟩
  | q :: r, h => by
    obtain ⟨y, hy⟩ := h 0 q (by simp)
    obtain ⟨ys, hl, hys⟩ := exists_list (P := fun j x y => P (j + 1) x y) (xs := r) (fun j x hj => h (j + 1) x (by simpa using hj))
    refine ⟨y :: ys, by simp [hl], fun j x hj => ?_⟩
    cases j with
    | zero => simp at hj; subst hj; exact ⟨y, by simp, hy⟩
    | succ j => obtain ⟨z, hz, hp⟩ := hys j x (by simpa using hj); exact ⟨z, by simpa using hz, hp⟩
theorem Lst.raw {α : Type} {K : Lay α} {w : World} {S : Nat → Prop} {ao : Option Addr} {n : Nat} {xs : List α} (h : Lst K w S ao n xs) (h1 : OneC K) :
    ∃ cks : List (List Value), Lst (KRaw K.sz) w S ao n cks ∧ ∀ (j : Nat) (x : α), xs[j]? = some x → ∃ cs, cks[j]? = some cs ∧ K.rd w S cs x := by
  have hl := h.1
  rcases Nat.eq_zero_or_pos n with rfl | h0
  · exact ⟨[], Lst.nil, fun j x hj => by have := (List.getElem?_eq_some_iff.1 hj).1; omega⟩
  · obtain ⟨b, off, rfl, hb, hs, hc⟩ := h.2 h0
    obtain ⟨cks, hcl, hck⟩ := exists_list (P := fun j x cs => cs.length = K.sz ∧ (∀ i, i < K.sz → w.cell? ⟨b, off + j * K.sz + i, none⟩ = cs[i]?) ∧ K.rd w S cs x) (xs := xs) hc
    refine ⟨cks, ⟨by omega, fun _ => ⟨b, off, rfl, hb, hs, fun j cs hj => ?_⟩⟩, fun j x hj => ?_⟩
    · have hjl := (List.getElem?_eq_some_iff.1 hj).1
      obtain ⟨cs', h2, h3, h4, h5⟩ := hck j (xs[j]'(by omega)) (List.getElem?_eq_getElem _)
      rw [hj] at h2; injection h2 with h2; subst h2
      exact ⟨cs, h3, h4, rfl, h3, h1 _ _ _ _ h5⟩
    · obtain ⟨cs', h2, h3, h4, h5⟩ := hck j x hj
      exact ⟨cs', h2, h5⟩
theorem Own.map {α β : Type} {K : Lay α} {K' : Lay β} {t : TypeId} {w : World} {S : Nat → Prop} {v : Value} {n : Nat} {xs : List α} {ys : List β} (h : Own K t w S v n xs) (hs : K'.sz = K.sz) (hl : ys.length = n)
    (hm : ∀ (w : World) (S : Nat → Prop) (cs : List Value) (j : Nat) (x : α) (y : β), xs[j]? = some x → ys[j]? = some y → K.own w S cs x → K'.own w S cs y) : Own K' t w S v n ys := by
  have hxl := h.1
  refine ⟨hl, ?_⟩
  rcases h.2 with h2 | ⟨g, cap, cur, F, hv, hg, hr, h1, h2, h3, hF, hD, hc⟩
  · exact .inl h2
  · refine .inr ⟨g, cap, cur, F, hv, hg, hr, h1, h2, by rw [hs]; exact h3, hF, hD, fun j y hj => ?_⟩
    have hjl := (List.getElem?_eq_some_iff.1 hj).1
    have hx : xs[j]? = some (xs[j]'(by omega)) := List.getElem?_eq_getElem _
    obtain ⟨cs, hcl, hcs, ho⟩ := hc j _ hx
    exact ⟨cs, by rw [hs]; exact hcl, by rw [hs]; exact hcs, hm _ _ _ _ _ _ hx hj ho⟩

theorem nil_none {α : Type} {K : Lay α} {w : World} {S : Nat → Prop} {n : Nat} {xs : List α} (h : Lst K w S none n xs) : n = 0 ∧ xs = [] := by
  have hn : n = 0 := by
    rcases Nat.eq_zero_or_pos n with h0 | h0
    · exact h0
    · obtain ⟨_, _, he, _⟩ := h.2 h0; cases he
  exact ⟨hn, List.eq_nil_of_length_eq_zero (by rw [h.1, hn])⟩

/-- Of the pages the first k are copied whole, of the others the cells alone. -/
def KMix : Lay (Pg ⊕ List Value) := KEither KPage (KRaw 4) rfl
def mixTo (ps : List Pg) (cks : List (List Value)) (k : Nat) : List (Pg ⊕ List Value) := (ps.take k).map .inl ++ (cks.drop k).map .inr
theorem length_mixTo {ps : List Pg} {cks : List (List Value)} {k : Nat} (h : cks.length = ps.length) (hk : k ≤ ps.length) : (mixTo ps cks k).length = ps.length := by simp [mixTo]; omega
theorem mixTo_at {ps : List Pg} {cks : List (List Value)} {k : Nat} {cs : List Value} (hk : k ≤ ps.length) (h : cks[k]? = some cs) : (mixTo ps cks k)[k]? = some (.inr cs) := by
  unfold mixTo
  rw [List.getElem?_append_right (by simp; omega)]
  simp only [List.length_map, List.length_take, Nat.min_eq_left hk, Nat.sub_self, List.getElem?_map, List.getElem?_drop, Nat.add_zero, h]; rfl
theorem mixTo_step {ps : List Pg} {cks : List (List Value)} {k : Nat} {p : Pg} (h : ps[k]? = some p) (hc : k < cks.length) : (mixTo ps cks k).set k (.inl p) = mixTo ps cks (k + 1) := by
  obtain ⟨hk, rfl⟩ := List.getElem?_eq_some_iff.1 h
  unfold mixTo
  have hl : ((ps.take k).map (Sum.inl (β := List Value))).length = k := by simp; omega
  rw [List.set_append_right _ _ (by omega), hl, Nat.sub_self, List.drop_eq_getElem_cons hc, List.map_cons, List.set_cons_zero, List.take_succ_eq_append_getElem hk, List.map_append, List.append_assoc]
  rfl

end Go.Proofs.Ytoaeglhjaandmaa

/- append(out, xs...) at a step of a region that draws its order. -/
namespace Go.Proofs.Ytoaeglhjaandmaa
open Go.RowKit

theorem Turn.drew_ (T : Nat → Prop) (w : World) : Turn T w w.drew := ⟨rfl, rfl, rfl, Nat.le_refl _, fun _ _ _ => rfl⟩
theorem Turn.undrew {T : Nat → Prop} {w w' : World} (h : Turn T w.drew w') : Turn T w w' := ⟨h.os, h.tape, h.output, h.size, h.block⟩
theorem Own.drew {α : Type} {K : Lay α} {t : TypeId} {w : World} {S : Nat → Prop} {v : Value} {n : Nat} {xs : List α} (h : Own K t w S v n xs) : Own K t w.drew S v n xs := h.turn (Turn.drew_ (fun _ => False) w) (fun _ _ _ h => h)
theorem Lst.drew {α : Type} {K : Lay α} {w : World} {S : Nat → Prop} {ao : Option Addr} {n : Nat} {xs : List α} (h : Lst K w S ao n xs) : Lst K w.drew S ao n xs := h.turn (Turn.drew_ (fun _ => False) w) (fun _ _ _ h => h)

section
variable {P : Program} {α : Type} {K : Lay α} {w : World} {S S' : Nat → Prop} {ops : Array Oper} {rest : List Oper} {o : Oper} {a : Act} {Q : Exit → Act → World → Prop} {K' : Act → World → Prop} {E : Prop}
/-- append(out, xs...), the elements flat. -/
theorem wp_append_flat (s x : Operand) (t : TypeId) (ho : o.op = .call { callee := .builtin .append, args := #[s, x], argTypes := #[t, t] })
    (e : TypeId) (i : TypeInfo) (z : Value) (bytes : Nat) (ht : P.underlying t = some (.slice e)) (hi : P.info? e = some i) (hz : i.zero = some z)
    (hsize : i.size = K.sz) (hby : i.bytes = bytes) (hzs : z.cells.size = K.sz) (hsz : 0 < K.sz) (hK : Flat K) (hone : OneC K)
    {v : Value} {n m c : Nat} {xs ys : List α} {ao : Option Addr} (hs : a.eval s = v) (hown : Own K e w S v n xs) (hx : a.eval x = .slice ao m c) (hr : Lst K w S' ao m ys)
    (h63 : n + m ≤ maxLen) (hbytes : (n + m) * bytes ≤ 140737488355328)
    (h : ∀ v' w', Own K e w' (fun k => S k ∨ w.heap.size ≤ k) v' (n + m) (xs ++ ys) → Turn S w w' → K' (a.put o.dst v') w') : Oper.wp P o a w K' Q := by
  obtain ⟨cells, hrow, hS, F, hF, hD, hc⟩ := hown.row
  obtain ⟨news, hnl, hnc, hne⟩ := hr.news
  have hxl := hown.1
  have hyl := hr.1
  have hone' : ∀ u ∈ news, u.oneCell' = true := by
    intro u hu
    obtain ⟨q, hq, rfl⟩ := List.getElem_of_mem hu
    have hqm : q / K.sz < m := Nat.div_lt_of_lt_mul (by rw [Nat.mul_comm]; omega)
    obtain ⟨cs, hcl, hcs, hrd⟩ := hne (q / K.sz) (ys[q / K.sz]'(by omega)) (List.getElem?_eq_getElem _)
    have h1 := hcs (q % K.sz) (Nat.mod_lt _ hsz)
    rw [Nat.mul_comm, Nat.div_add_mod, List.getElem?_eq_getElem hq] at h1
    exact hone _ _ _ _ hrd _ (List.mem_of_getElem? h1.symm)
  have hrun : ∃ v' w', (Builtin.append_ #[t, t] o.type #[v, .slice ao m c]).run P w = .ok v' w' ∧ w'.ownsRow 0 e K.sz v' (n + m) (cells ++ news) ∧ w.grownBy w' v.ownBlock ∧ (v'.ownBlock = v.ownBlock ∨ v'.ownBlock = some w.heap.size) := by
    cases ao with
    | none =>
      have hm : m = 0 := by
        rcases Nat.eq_zero_or_pos m with h0 | h0
        · exact h0
        · obtain ⟨_, _, h, _⟩ := hnc h0; cases h
      subst hm
      have hnn : news = [] := List.eq_nil_of_length_eq_zero (by simpa using hnl)
      subst hnn
      refine ⟨v, w, ?_, by simpa using hrow, ⟨rfl, rfl, rfl, Nat.le_refl _, fun _ _ _ => rfl⟩, .inl rfl⟩
      rcases hrow.2 with ⟨rfl, rfl⟩ | ⟨g, cap, cur, rfl, _, _, hcap, _⟩
      · simp [Builtin.append_, run_underlying ht, sizeOf, typeInfo, hi, Builtin.lenOf, Builtin.firstCells]
      · simp [Builtin.append_, run_underlying ht, sizeOf, typeInfo, hi, Builtin.lenOf, Builtin.firstCells, hcap, storeCells]
    | some ad =>
      have hcells : ∀ j u, news[j]? = some u → w.cell? (ad.add j) = some u := by
        intro j u hu
        rcases Nat.eq_zero_or_pos m with h0 | h0
        · subst h0
          have hnn : news = [] := List.eq_nil_of_length_eq_zero (by simpa using hnl)
          subst hnn; simp at hu
        · obtain ⟨b, off, he, hc'⟩ := hnc h0
          injection he with he; subst he
          rw [add_plain']; exact hc' j u hu
      obtain ⟨v', w', h1, h2, h3, _, h5⟩ := run_append_own_at (P := P) w 0 t o.type e i z K.sz bytes ht hi hz hsize hby hzs hsz v n cells hrow ad m c news hnl hcells hone' h63 hbytes (Nat.zero_le _)
      exact ⟨v', w', h1, h2, h3, h5⟩
  obtain ⟨v', w', hr1, h2, h3, h5⟩ := hrun
  unfold Oper.wp execOp
  simp only [ho, resolve, invoke, builtin, Sem.run_bind, Sem.run_pure, Result.andThen_ok, List.map_toArray, List.map_cons, List.map_nil, hs, hx, hr1]
  refine h v' w' ?_ ((Turn.of_grown h3).mono (fun k hk _ => hS k hk))
  have hcl : cells.length = n * K.sz := hrow.1
  refine Own.of_row (F := fun _ _ => False) h2 (by simp [hxl, hyl]) (fun g hg => ?_) (fun _ _ h => h.elim) (fun _ _ _ h => h.elim) (fun j y hj => ?_)
  · rcases h5 with h6 | h6
    · exact .inl (hS g (by rw [← h6]; exact hg))
    · rw [hg] at h6; injection h6 with h6; exact .inr (by omega)
  · by_cases e : j < n
    · rw [List.getElem?_append_left (by omega)] at hj
      obtain ⟨cs, h6, h7, h8⟩ := hc j y hj
      have := Nat.mul_le_mul_right K.sz (show j + 1 ≤ n by omega)
      rw [Nat.add_mul] at this
      exact ⟨cs, h6, fun i hi => by rw [List.getElem?_append_left (by omega)]; exact h7 i hi, hK w w' _ _ _ _ (K.own_rd h8)⟩
    · rw [List.getElem?_append_right (by omega)] at hj
      obtain ⟨cs, h6, h7, h8⟩ := hne _ y hj
      refine ⟨cs, h6, fun i hi => ?_, hK w w' _ _ _ _ h8⟩
      have hle := Nat.mul_le_mul_right K.sz (show n ≤ j by omega)
      rw [List.getElem?_append_right (by omega), ← h7 i hi, hcl, hxl, Nat.sub_mul]
      congr 1; omega
/-- The same at a step of a region that draws its order. -/
theorem step_append_flat (hgd : o.guard = none) (s x : Operand) (t : TypeId) (ho : o.op = .call { callee := .builtin .append, args := #[s, x], argTypes := #[t, t] })
    (e : TypeId) (i : TypeInfo) (z : Value) (bytes : Nat) (ht : P.underlying t = some (.slice e)) (hi : P.info? e = some i) (hz : i.zero = some z)
    (hsize : i.size = K.sz) (hby : i.bytes = bytes) (hzs : z.cells.size = K.sz) (hsz : 0 < K.sz) (hK : Flat K) (hone : OneC K)
    {v : Value} {n m c : Nat} {xs ys : List α} {ao : Option Addr} (hs : a.eval s = v) (hown : Own K e w S v n xs) (hx : a.eval x = .slice ao m c) (hr : Lst K w S' ao m ys)
    (h63 : n + m ≤ maxLen) (hbytes : (n + m) * bytes ≤ 140737488355328)
    (h : ∀ v' w', Own K e w' (fun k => S k ∨ w.heap.size ≤ k) v' (n + m) (xs ++ ys) → Turn S w w' → K' (a.put o.dst v') w') :
    if Region.wanted o (yielded ops a.tmps) = true then Oper.wp P o a w K' Q else E := by
  have hw : Region.wanted o (yielded ops a.tmps) = true := by simp [Region.wanted, hgd]
  rw [if_pos hw]
  exact wp_append_flat s x t ho e i z bytes ht hi hz hsize hby hzs hsz hK hone hs hown hx hr h63 hbytes h
end
end Go.Proofs.Ytoaeglhjaandmaa

namespace Go.Proofs.Ytoaeglhjaandmaa
open Go.RowKit

section
variable {P : Program} {α : Type} {K : Lay α} {w : World} {S : Nat → Prop} {ops : Array Oper} {rest : List Oper} {o : Oper} {a : Act} {Q : Exit → Act → World → Prop}
theorem wpList_append_zeros (hgd : o.guard = none) (s x : Operand) (t tn : TypeId) (ho : o.op = .call { callee := .builtin .append, args := #[s, x], argTypes := #[t, tn] })
    (e : TypeId) (i : TypeInfo) (z : Value) (bytes : Nat) (kn kq : IntKind) (ht : P.underlying t = some (.slice e)) (htn : P.underlying tn = some (.int kn)) (hi : P.info? e = some i) (hz : i.zero = some z)
    (hsize : i.size = K.sz) (hby : i.bytes = bytes) (hzs : z.cells.size = K.sz) (hsz : 0 < K.sz)
    {g n k : Nat} {xs : List α} {y : α} (hs : a.eval s = .slice (some ⟨g, 0, none⟩) n n) (hown : Own K e w S (.slice (some ⟨g, 0, none⟩) n n) n xs) (hx : a.eval x = .int kq k) (hy : ∀ w, K.own w (fun _ => False) z.cells.toList y)
    (h0 : 0 < k) (h63 : n + k ≤ maxLen) (hbytes : (n + k) * bytes ≤ 140737488355328)
    (h : ∀ v' w', Own K e w' (fun j => S j ∨ w.heap.size ≤ j) v' (n + k) (xs ++ List.replicate k y) → Below w.heap.size w w' → wpList P ops Q rest (a.put o.dst v') w') : wpList P ops Q (o :: rest) a w := by
  obtain ⟨cells, hrow, hS, F, hF, hD, hc⟩ := hown.row
  subst hby
  have hsmall : n + k ≤ 9223372036854775807 := by simp only [maxLen] at h63; omega
  have hkb : k * i.bytes ≤ 140737488355328 := Nat.le_trans (Nat.mul_le_mul_right _ (by omega)) hbytes
  have hrun := Lib.run_append_grow_zeros w t tn o.type e i z kq kn ht htn hi hz (some ⟨g, 0, none⟩) n n cells
    (run_firstCells_some (P := P) w.drew i.size n ⟨g, 0, none⟩ n n cells (by rw [hsize]; exact hrow.1) (by simpa using hrow.cells (g := g) rfl)) k h0 (by omega) (by omega) (by omega) (by omega) (growslice_fits (by omega) hbytes)
  refine wpList_plain hgd fun K' hK' => ?_
  unfold Oper.wp execOp
  simp only [ho, resolve, invoke, builtin, Sem.run_bind, Sem.run_pure, Result.andThen_ok, List.map_toArray, List.map_cons, List.map_nil, hs, hx, hrun]
  have hge := grownCap_ge w (n + k) n e
  have hle := grownCap_le_maxLen w (n + k) n e h63
  have hb : Below w.heap.size w (w.drew.alloc (.cells (cells.toArray ++ Builtin.zeroCells z.cells k ++ Builtin.zeroCells z.cells (grownCap w (n + k) n e - (n + k))) e)) := Turn.none_ ((Turn.drew_ _ w).trans (Turn.alloc _ w.drew _) (fun _ h _ => h))
  refine hK' _ _ (h _ _ ?_ hb)
  have hcl : cells.length = n * K.sz := hrow.1
  have hzl : (Builtin.zeroCells z.cells k).size = k * K.sz := by rw [size_zeroCells, hzs]
  have hzt : (Builtin.zeroCells z.cells k).toList.length = k * K.sz := hzl
  have hxl := hown.1
  refine Own.of_row (F := fun j q => q < w.heap.size ∧ F j q) (cells := cells ++ (Builtin.zeroCells z.cells k).toList) ⟨?_, .inr ⟨w.heap.size, _, _, rfl, Nat.zero_le _, heap_alloc_new w.drew _, hge, hle, ?_, ?_⟩⟩ (by simp [hxl]) (fun g' hg' => ?_) (fun j q hq => ⟨.inl (hF j q hq.2).1, fun e => ?_⟩) (fun i j q hi hj => hD i j q hi.2 hj.2) (fun j y' hj => ?_)
  · rw [List.length_append, hzt, hcl, Nat.add_mul]
  · simp only [Array.size_append, List.size_toArray, size_zeroCells, hzs, hcl, ← Nat.add_mul]; congr 1; omega
  · have e1 : (n + k) * K.sz = (cells ++ (Builtin.zeroCells z.cells k).toList).length := by rw [List.length_append, hzt, hcl, Nat.add_mul]
    simp only [Array.toList_append]
    rw [e1]; exact List.take_left
  · simp [Value.ownBlock] at hg'; exact .inr (by omega)
  · simp [Value.ownBlock] at e; omega
  · by_cases hjn : j < n
    · rw [List.getElem?_append_left (by omega)] at hj
      obtain ⟨cs, h6, h7, h8⟩ := hc j y' hj
      have := Nat.mul_le_mul_right K.sz (show j + 1 ≤ n by omega)
      rw [Nat.add_mul] at this
      refine ⟨cs, h6, fun i hi => by rw [List.getElem?_append_left (by omega)]; exact h7 i hi, ?_⟩
      exact K.own_turn (T := fun _ => False) (K.own_mono h8 (fun q hq hl => ⟨hl, hq⟩)) (Turn.of_below hb) (fun _ _ _ h => h)
    · rw [List.getElem?_append_right (by omega), List.getElem?_replicate] at hj
      split at hj
      · rename_i hjk
        injection hj with hj; subst hj
        refine ⟨z.cells.toList, by simpa using hzs, fun i hi => ?_, K.own_mono (hy _) (fun _ h _ => h.elim)⟩
        have hle := Nat.mul_le_mul_right K.sz (show n ≤ j by omega)
        rw [List.getElem?_append_right (by omega), hcl, show j * K.sz + i - n * K.sz = (j - xs.length) * K.sz + i by rw [hxl, Nat.sub_mul]; omega]
        have h2 := Nat.mul_le_mul_right K.sz (show j - xs.length + 1 ≤ k by omega)
        rw [Nat.add_mul] at h2
        have h3 : ((j - xs.length) * K.sz + i) % z.cells.size = i := by rw [hzs, Nat.mul_comm, Nat.mul_add_mod, Nat.mod_eq_of_lt hi]
        have h4 : (j - xs.length) * K.sz + i < k * z.cells.size := by rw [hzs]; omega
        simp only [hzs] at h3 h4
        simp [Builtin.zeroCells, hzs, hi]
        exact ⟨_, List.getElem?_range h4, by rw [h3]; simp [hzs, hi]⟩
      · cases hj
end
end Go.Proofs.Ytoaeglhjaandmaa

/- slices.Sort at []int64, by the library's contract: its functions and types at this program. -/
namespace Go.Proofs.Ytoaeglhjaandmaa
open Go.Shelf Go.RowKit
def sortInts_ren : Go.Shelf.Ren := ⟨fun | 53 => 96 | 64 => 112 | 63 => 111 | 78 => 123 | 79 => 124 | 70 => 114 | 71 => 115 | 72 => 116 | 73 => 117 | 74 => 118 | 75 => 119 | 59 => 120 | 76 => 121 | 77 => 122 | 88 => 125 | 89 => 126 | 90 => 127 | 91 => 128 | 92 => 129 | 68 => 130 | 96 => 131 | n => n, fun | 22 => 27 | 23 => 2 | 3 => 3 | 51 => 139 | 0 => 0 | 67 => 151 | 69 => 153 | 4 => 4 | 61 => 144 | 60 => 143 | 44 => 148 | 5 => 5 | 9 => 9 | 75 => 154 | 79 => 158 | 83 => 160 | 84 => 161 | n => n, fun | n => n⟩
theorem sortInts : Go.Proofs.SlLaysN.n53 Try.prog sortInts_ren := {
  mixed := by kernel_rfl
  f53 := ⟨Try.f96.name, by decide, Try.func96.trans (congrArg some (by kernel_rfl))⟩
  f59 := ⟨Try.f120.name, by decide, Try.func120.trans (congrArg some (by kernel_rfl))⟩
  f63 := ⟨Try.f111.name, by decide, Try.func111.trans (congrArg some (by kernel_rfl))⟩
  f64 := Try.func112.trans (congrArg some (by kernel_rfl))
  f68 := ⟨Try.f130.name, by decide, Try.func130.trans (congrArg some (by kernel_rfl))⟩
  f70 := ⟨Try.f114.name, by decide, Try.func114.trans (congrArg some (by kernel_rfl))⟩
  f71 := ⟨Try.f115.name, by decide, Try.func115.trans (congrArg some (by kernel_rfl))⟩
  f72 := ⟨Try.f116.name, by decide, Try.func116.trans (congrArg some (by kernel_rfl))⟩
  f73 := ⟨Try.f117.name, by decide, Try.func117.trans (congrArg some (by kernel_rfl))⟩
  f74 := ⟨Try.f118.name, by decide, Try.func118.trans (congrArg some (by kernel_rfl))⟩
  f75 := ⟨Try.f119.name, by decide, Try.func119.trans (congrArg some (by kernel_rfl))⟩
  f76 := ⟨Try.f121.name, by decide, Try.func121.trans (congrArg some (by kernel_rfl))⟩
  f77 := ⟨Try.f122.name, by decide, Try.func122.trans (congrArg some (by kernel_rfl))⟩
  f78 := Try.func123.trans (congrArg some (by kernel_rfl))
  f79 := Try.func124.trans (congrArg some (by kernel_rfl))
  f88 := ⟨Try.f125.name, by decide, Try.func125.trans (congrArg some (by kernel_rfl))⟩
  f89 := Try.func126.trans (congrArg some (by kernel_rfl))
  f90 := Try.func127.trans (congrArg some (by kernel_rfl))
  f91 := ⟨Try.f128.name, by decide, Try.func128.trans (congrArg some (by kernel_rfl))⟩
  f92 := ⟨Try.f129.name, by decide, Try.func129.trans (congrArg some (by kernel_rfl))⟩
  f96 := ⟨Try.f131.name, by decide, Try.func131.trans (congrArg some (by kernel_rfl))⟩
  t0 := Try.underlying0
  a0 := Try.isAgg0
  z0 := Try.sizeOf0
  v0 := Try.zeroValue0
  t3 := Try.underlying3
  a3 := Try.isAgg3
  z3 := Try.sizeOf3
  v3 := Try.zeroValue3
  t4 := Try.underlying4
  a4 := Try.isAgg4
  z4 := Try.sizeOf4
  v4 := Try.zeroValue4
  t5 := Try.underlying5
  a5 := Try.isAgg5
  z5 := Try.sizeOf5
  v5 := Try.zeroValue5
  t9 := Try.underlying9
  a9 := Try.isAgg9
  z9 := Try.sizeOf9
  v9 := Try.zeroValue9
  t22 := Try.underlying27
  a22 := Try.isAgg27
  z22 := Try.sizeOf27
  v22 := Try.zeroValue27
  t23 := Try.underlying2
  a23 := Try.isAgg2
  z23 := Try.sizeOf2
  v23 := Try.zeroValue2
  t44 := Try.underlying148
  a44 := Try.isAgg148
  z44 := Try.sizeOf148
  v44 := Try.zeroValue148
  t51 := Try.underlying139
  a51 := Try.isAgg139
  z51 := Try.sizeOf139
  v51 := Try.zeroValue139
  t60 := Try.underlying143
  a60 := Try.isAgg143
  z60 := Try.sizeOf143
  v60 := Try.zeroValue143
  t61 := Try.underlying144
  a61 := Try.isAgg144
  z61 := Try.sizeOf144
  v61 := Try.zeroValue144
  t67 := Try.underlying151
  a67 := Try.isAgg151
  z67 := Try.sizeOf151
  v67 := Try.zeroValue151
  t69 := Try.underlying153
  a69 := Try.isAgg153
  z69 := Try.sizeOf153
  v69 := Try.zeroValue153
  t75 := Try.underlying154
  a75 := Try.isAgg154
  z75 := Try.sizeOf154
  v75 := Try.zeroValue154
  t79 := Try.underlying158
  a79 := Try.isAgg158
  z79 := Try.sizeOf158
  v79 := Try.zeroValue158
  t83 := Try.underlying160
  a83 := Try.isAgg160
  z83 := Try.sizeOf160
  v83 := Try.zeroValue160
  t84 := Try.underlying161
  a84 := Try.isAgg161
  z84 := Try.sizeOf161
  v84 := Try.zeroValue161
}

open Go.Sort in
theorem sortInts_calls {b o n c : Nat} {xs : List Int} {w : World} (hH : Holds (Value.int .i64) w b o xs.toArray) (hb : b < w.heap.size) (hl : xs.length = n) (hn : n ≤ 17592186044416) :
    Calls Try.prog 96 #[.slice (some ⟨b, o, none⟩) n c] w fun e w' =>
      e = .returned (.tuple #[]) ∧ ∃ n os, w' = grow (putRow (Value.int .i64) (Sort.ahead w n) b o (xs.mergeSort fun x y => decide (x ≤ y)).toArray) os := by
  subst hl
  exact AnyG.slices_Sort_int (P := Try.prog) (ρ := sortInts_ren) sortInts b o c xs w hH hb (by omega)
theorem sortNone_calls {a : Option Addr} {c : Nat} {w : World} :
    Calls Try.prog 96 #[.slice a 0 c] w fun e w' => e = .returned (.tuple #[]) ∧ w = w' := by
  exact (AnyG.slices_Sort_int_none (P := Try.prog) (ρ := sortInts_ren) sortInts a c w).mono fun e w' h => ⟨h.1, h.2.symm⟩
end Go.Proofs.Ytoaeglhjaandmaa

/- Slices of whole numbers as chapter 5 of the program has them: copied, looked through, compared, joined; two that are alike. -/
namespace Go.Proofs.Ytoaeglhjaandmaa
open Go.RowKit

theorem Own.ints {t : TypeId} {w : World} {S : Nat → Prop} {ao : Option Addr} {m c n : Nat} {xs : List Int} (h : Own KInt t w S (.slice ao m c) n xs) : Ints w ao n xs := h.lst.2.2.2.ints
theorem Lst.of_ints {w : World} {S : Nat → Prop} {ao : Option Addr} {n : Nat} {xs : List Int} (h : Ints w ao n xs) (hS : ∀ k, k < w.heap.size → S k) : Lst KInt w S ao n xs := h.lst.mono (fun k _ hk => hS k hk)

theorem areWords_calls {a : Option Addr} {n c : Nat} {xs : List Int} {w : World} (ha : Ints w a n xs) (hx : n ≤ 17592186044416) :
    Calls Try.prog 88 #[.slice a n c] w fun e w' => e = .returned (.bool (within (-1000000000) 1000000000 xs)) ∧ w = w' := by
  have HL := Lib.hid ha.1
  go_enter Try.func88, Try.ntmps88
  go_wp2_with (go_at_call 54; refine (allWithin_calls ha hx).mono ?_; rintro e w' ⟨rfl, rfl⟩)
  go_ret
  exact ⟨rfl, rfl⟩

set_option maxHeartbeats 400000 in
theorem frameAt_calls {a : Option Addr} {n c f : Nat} {xs : List Int} {w : World} (ha : Ints w a n xs) (hf : (f + 1) * 16 ≤ n) (hc : n ≤ c) (hx : n ≤ 17592186044416) :
    Calls Try.prog 82 #[.slice a n c, .int .i64 f] w fun e w' => e = .returned (.agg ((frameOf xs f).map (Value.int .i64)).toArray) ∧ Below w.heap.size w w' := by
  obtain ⟨b, off, rfl, hb, hcell⟩ := ha.2 (by omega)
  have HL := Lib.hid ha.1
  have hsa := fun w c' => run_arrayAt Try.prog w 106 2 16 Try.underlying106 (some ⟨b, off + f * 16, none⟩) (n - f * 16) c' (by omega)
  have hr : w.rangeAt b (off + f * 16) ((frameOf xs f).map (Value.int .i64)) := by
    intro j v hv
    rw [List.getElem?_map] at hv
    have hj : j < 16 := by
      rcases Nat.lt_or_ge j 16 with h | h
      · exact h
      · rw [List.getElem?_eq_none (by rw [length_frameOf (by rw [HL.out]; exact hf)]; exact h)] at hv; cases hv
    have hg := getD_frameOf (xs := xs) (f := f) hj
    rw [List.getElem?_eq_getElem (by rw [length_frameOf (by rw [HL.out]; exact hf)]; exact hj)] at hv
    simp at hv
    rw [Nat.add_assoc, hcell (f * 16 + j) (by omega), ← hg, ← hv]
    simp [List.getD, length_frameOf (show (f + 1) * 16 ≤ xs.length by rw [HL.out]; exact hf), hj]
  have hlf : ((frameOf xs f).map (Value.int .i64)).length = 16 := by rw [List.length_map, length_frameOf (by rw [HL.out]; exact hf)]
  have HR := Lib.hid hr
  have HLF := Lib.hid hlf
  clear hr hlf
  obtain ⟨cs, hcs⟩ : ∃ cs, cs = (frameOf xs f).map (Value.int .i64) := ⟨_, rfl⟩
  rw [← hcs] at HR HLF
  have hone : ∀ v ∈ cs, v.oneCell' = true := by rw [hcs]; exact ints_oneCell _ _
  rw [← hcs]
  have HO := Lib.hid hone
  have HSZ : Hid (cs.toArray.size = 16) := by have := HLF.out; simpa [Hid] using this
  clear hone hcs
  go_enter Try.func82, Try.ntmps82
  go_wp2_with (first
    | (with_reducible refine wpList_load_mid rfl 106 (.tmp 9) rfl b (off + f * 16) rfl cs _ (World.rangeAt_alloc HR.out _) Try.underlying106 rfl (by rw [HLF.out]; kernel_rfl) ?_)
    | (refine wpList_store_row rfl 106 (.tmp 4) (.tmp 10) rfl w.heap.size cs.toArray rfl rfl _ _ (heap_alloc_new _ _) (by rw [HSZ.out]; kernel_rfl) (by exact HSZ.out.symm) (all_oneCell_toArray HO.out) ?_))
  have hrow := setRow_heap (w.alloc (.cells [Value.int .i64 0, .int .i64 0, .int .i64 0, .int .i64 0, .int .i64 0, .int .i64 0, .int .i64 0, .int .i64 0, .int .i64 0, .int .i64 0, .int .i64 0, .int .i64 0, .int .i64 0, .int .i64 0, .int .i64 0, .int .i64 0].toArray 106)) w.heap.size _ cs.toArray _ _ (heap_alloc_new _ _)
  refine bodyPost_ret (results_cell_row rfl _ _ w.heap.size _ cs.toArray _ _ rfl hrow Try.underlying106 rfl (by rw [HSZ.out]; kernel_rfl)) rfl ⟨rfl, ?_⟩
  exact below_setRow ((Below.refl _ _).alloc (Nat.le_refl _) _) (Nat.le_refl _) _

theorem cloneI_calls {a : Option Addr} {n c : Nat} {us : List Int} {S : Nat → Prop} {w : World} (hu : Lst KInt w S a n us) (hn : n ≤ 1099511627776) :
    Calls Try.prog 87 #[.slice a n c] w fun e w' => ∃ v, e = .returned v ∧ Own KInt 2 w' (fun k => w.heap.size ≤ k) v n us ∧ Below w.heap.size w w' := by
  obtain ⟨ib, hib, hb0, hb1, hb2⟩ := info_parts info64
  have qT : ∀ (w : World) (a : Option Addr) (n c n' c' : Nat), (binOp .eql 27 (.slice a n c) (.slice none n' c')).run Try.prog w = .ok (.bool a.isNone) w := fun w a n c n' c' => Lib.run_eql_slice_nil w _ _ a n c n' c' Try.underlying27
  rcases a with _ | ad
  · obtain ⟨rfl, rfl⟩ := nil_none hu
    go_enter Try.func87, Try.ntmps87
    go_wp2_with fail
    go_ret
    exact ⟨_, rfl, Own.nil, Below.refl _ _⟩
  · have hE : Own KInt 2 (w.alloc (.cells #[] 2)) (fun q => q = w.heap.size) (.slice (some ⟨w.heap.size, 0, none⟩) 0 0) 0 [] := Own.empty (heap_alloc_new w (.cells #[] 2)) rfl
    go_enter Try.func87, Try.ntmps87
    go_wp2_with (
      at_builtin
      refine wpList_append_flat (K := KInt) rfl (.tmp 5) (.tmp 6) 27 rfl 2 ib (.int .i64 0) 8 Try.underlying27 hib hb0 hb1 hb2 rfl (by decide) flat_int one_int (v := .slice (some ⟨w.heap.size, 0, none⟩) 0 0) (n := 0) (ao := some ad) (m := n) (c := c) rfl hE rfl (hu.alloc _) (by unfold maxLen; omega) (by omega) ?_
      intro v1 w1 ho1 ht1
      simp only [Nat.zero_add, List.nil_append] at ho1
      have H1 := Lib.hid (And.intro ho1 ht1)
      clear ho1 ht1)
    go_ret
    refine ⟨v1, rfl, H1.out.1.mono (fun k hk _ => by rcases hk with h | h <;> (try simp at h) <;> omega), H1.out.2.below ((Below.refl _ _).alloc (Nat.le_refl _) _) (by simp) (fun k hk => by omega)⟩

theorem l1Ints_calls {a : Option Addr} {n c : Nat} {us : List Int} {S : Nat → Prop} {w : World} (hu : Lst KInt w S a n us) (hn : n ≤ 1099511627776) :
    Calls Try.prog 85 #[.slice a n c] w fun e w' => ∃ v, e = .returned v ∧ Own KInt 2 w' (fun k => w.heap.size ≤ k) v n us ∧ Below w.heap.size w w' := by
  obtain ⟨ib, hib, hb0, hb1, hb2⟩ := info_parts info64
  have hE : Own KInt 2 (w.alloc (.cells #[] 2)) (fun q => q = w.heap.size) (.slice (some ⟨w.heap.size, 0, none⟩) 0 0) 0 [] := Own.empty (heap_alloc_new w (.cells #[] 2)) rfl
  go_enter Try.func85, Try.ntmps85
  go_wp2_with (
    at_builtin
    refine wpList_append_flat (K := KInt) rfl (.tmp 3) (.tmp 4) 27 rfl 2 ib (.int .i64 0) 8 Try.underlying27 hib hb0 hb1 hb2 rfl (by decide) flat_int one_int (v := .slice (some ⟨w.heap.size, 0, none⟩) 0 0) (n := 0) (ao := a) (m := n) (c := c) rfl hE rfl (hu.alloc _) (by unfold maxLen; omega) (by omega) ?_
    intro v1 w1 ho1 ht1
    simp only [Nat.zero_add, List.nil_append] at ho1
    have H1 := Lib.hid (And.intro ho1 ht1)
    clear ho1 ht1)
  go_ret
  refine ⟨v1, rfl, H1.out.1.mono (fun k hk _ => by rcases hk with h | h <;> (try simp at h) <;> omega), H1.out.2.below ((Below.refl _ _).alloc (Nat.le_refl _) _) (by simp) (fun k hk => by omega)⟩

/-- The first place of a number, or -1. -/
def idxI (v : Int) : List Int → Nat → Int
  | [], _ => -1
  | x :: r, k => if x = v then k else idxI v r (k + 1)
theorem idxI_hasIn (v : Int) : ∀ (xs : List Int) (k : Nat), decide (0 ≤ idxI v xs k) = hasIn xs v
  | [], k => by simp [idxI, hasIn]
  | x :: r, k => by
    unfold idxI
    by_cases h : x = v
    · subst h; simp [hasIn]
    · rw [if_neg h, idxI_hasIn v r (k + 1)]
      simp only [hasIn, List.contains_cons]
      simp; grind
theorem idx_contains {xs : List Int} {v : Int} (h : hasIn xs v = true) : 0 ≤ idxI v xs 0 := by have := idxI_hasIn v xs 0; rw [h] at this; simpa using this
theorem idx_lacks {xs : List Int} {v : Int} (h : hasIn xs v = false) : ¬ (0 ≤ idxI v xs 0) := by have := idxI_hasIn v xs 0; rw [h] at this; simpa using this

theorem indexI_calls {a : Option Addr} {n c : Nat} {v : Int} {us : List Int} {w : World} (hu : Ints w a n us) (hn : n ≤ 17592186044416) :
    Calls Try.prog 95 #[.slice a n c, .int .i64 v] w fun e w' => e = .returned (.int .i64 (idxI v us 0)) ∧ w = w' := by
  have HL := Lib.hid hu.1
  go_enter Try.func95, Try.ntmps95
  go_wp2_with fail
  go_loop [5, 8] (fun _ i => ∃ k : Nat, k ≤ n ∧ i = .int .i64 k ∧ Hid (idxI v us 0 = idxI v (us.drop k) k)) (fun _ i => n - (intOf i).toNat)
  case atStart => exact ⟨0, Nat.zero_le _, rfl, rfl⟩
  case round =>
    obtain ⟨k, hk, rfl, HW⟩ := hrel
    by_cases hlt : k < n
    · obtain ⟨ba, oa, rfl, hba, hca⟩ := hu.at_ hlt
      have hx : us[k]? = some (us.getD k 0) := by rw [List.getD_eq_getElem?_getD, List.getElem?_eq_getElem (by rw [HL.out]; exact hlt)]; rfl
      generalize us.getD k 0 = u at hca hx
      have HS : Hid (idxI v us 0 = if u = v then (k : Int) else idxI v (us.drop (k + 1)) (k + 1)) := by have := HW.out; rw [drop_at hx, idxI] at this; exact this
      clear hx
      by_cases huv : u = v
      · have HF : Hid (idxI v us 0 = k) := by have := HS.out; rw [if_pos huv] at this; exact this
        have hq : (v == u) = true := by simp [huv]
        clear huv
        go_wp2_with fail
        go_ret
        exact ⟨ret_int HF.out.symm, rfl⟩
      · have HF : Hid (idxI v us 0 = idxI v (us.drop (k + 1)) (k + 1)) := by have := HS.out; rw [if_neg huv] at this; exact this
        have hq : (v == u) = false := by simpa using fun h => huv h.symm
        clear huv
        go_wp2_with fail
        go_round
        case rel => exact ⟨k + 1, by omega, by go_num, HF⟩
        case measure => simp [intOf]; omega
    · have HF : Hid (idxI v us 0 = -1) := by have := HW.out; rw [drop_end (by rw [HL.out]; omega), idxI] at this; exact this
      go_wp2_with fail
      go_ret
      exact ⟨ret_int HF.out.symm, rfl⟩

theorem containsI_calls {a : Option Addr} {n c : Nat} {v : Int} {us : List Int} {w : World} (hu : Ints w a n us) (hn : n ≤ 17592186044416) :
    Calls Try.prog 65 #[.slice a n c, .int .i64 v] w fun e w' => e = .returned (.bool (hasIn us v)) ∧ w = w' := by
  rcases hx : hasIn us v with _ | _
  · have h0 := idx_lacks hx
    clear hx
    go_enter Try.func65, Try.ntmps65
    go_wp2_with fail
    refine (indexI_calls hu hn).mono ?_
    rintro e w1 ⟨rfl, rfl⟩
    go_wp2_with fail
    go_ret
    exact ⟨ret_bool (by simpa using h0), rfl⟩
  · have h0 := idx_contains hx
    clear hx
    go_enter Try.func65, Try.ntmps65
    go_wp2_with fail
    refine (indexI_calls hu hn).mono ?_
    rintro e w1 ⟨rfl, rfl⟩
    go_wp2_with fail
    go_ret
    exact ⟨ret_bool (by simp), rfl⟩
end Go.Proofs.Ytoaeglhjaandmaa

/- Lists of whole numbers compared; lists of lists; slices that are joined, sorted; two that are alike. -/
namespace Go.Proofs.Ytoaeglhjaandmaa
open Go.RowKit

set_option maxHeartbeats 1000000 in
theorem equalI_calls {a b : Option Addr} {n m c d : Nat} {us vs : List Int} {w : World} (ha : Ints w a n us) (hb : Ints w b m vs) (hn : n ≤ 17592186044416) (hm : m ≤ 17592186044416) :
    Calls Try.prog 61 #[.slice a n c, .slice b m d] w fun e w' => e = .returned (.bool (decide (us = vs))) ∧ Below w.heap.size w w' := by
  have HL := Lib.hid ha.1
  have HL2 := Lib.hid hb.1
  by_cases hnm : n = m
  rotate_left
  · have HF : Hid (decide (us = vs) = false) := by show _ = _; rw [decide_eq_false_iff_not]; rintro rfl; exact hnm (HL.out.symm.trans HL2.out)
    have hq : ((n : Int) != (m : Int)) = true := by simp; omega
    go_enter Try.func61, Try.ntmps61
    go_wp2_with fail
    go_ret
    exact ⟨ret_bool HF.out.symm, Below.refl _ _⟩
  subst hnm
  have hq : ((n : Int) != (n : Int)) = false := by simp
  go_enter Try.func61, Try.ntmps61
  go_wp2_with fail
  go_loopw [5, 13] (fun _ i wr => ∃ k : Nat, k ≤ n ∧ i = .int .i64 k ∧ Hid (SameUpto us vs k) ∧ Below w.heap.size w wr) (fun _ i _ => n - (intOf i).toNat)
  case atStart => exact ⟨0, Nat.zero_le _, rfl, fun j hj => by omega, Below.refl _ _⟩
  case round =>
    obtain ⟨k, hk, rfl, HJ, hbw⟩ := hrel
    by_cases hlt : k < n
    · obtain ⟨g0, s0, rfl, hg0, hc0⟩ := (ha.below hbw).at_ hlt
      obtain ⟨g1, s1, rfl, hg1, hc1⟩ := (hb.below hbw).at_ hlt
      have hx0 : us[k]? = some (us.getD k 0) := by rw [List.getD_eq_getElem?_getD, List.getElem?_eq_getElem (by rw [HL.out]; exact hlt)]; rfl
      have hx1 : vs[k]? = some (vs.getD k 0) := by rw [List.getD_eq_getElem?_getD, List.getElem?_eq_getElem (by rw [HL2.out]; exact hlt)]; rfl
      have HX := Lib.hid (And.intro hx0 hx1)
      generalize us.getD k 0 = u0 at hc0 HX
      generalize vs.getD k 0 = u1 at hc1 HX
      clear hx0 hx1
      by_cases hu : u0 = u1
      · have HN := Lib.hid (HJ.out.succ (HX.out.1.trans (by rw [hu]; exact HX.out.2.symm)))
        subst hu
        have hq2 : (u0 != u0) = false := by simp
        go_wp2_with (go_quiet (fail))
        go_roundw
        case rel => exact ⟨k + 1, by omega, by go_num, HN, below_drewN hbw _⟩
        case measure => simp [intOf]; omega
      · have HF : Hid (decide (us = vs) = false) := by
          show _ = _; rw [decide_eq_false_iff_not]; exact differ_at HX.out.1 HX.out.2 hu
        have hq2 : (u0 != u1) = true := by simpa using hu
        clear hu
        go_wp2_with (go_quiet (fail))
        go_ret
        exact ⟨ret_bool HF.out.symm, below_drewN hbw _⟩
    · have HF : Hid (decide (us = vs) = true) := by show _ = _; rw [decide_eq_true_iff]; exact HJ.out.all (by rw [HL.out]; omega) (by rw [HL2.out]; omega)
      go_wp2_with fail
      go_ret
      exact ⟨ret_bool HF.out.symm, hbw⟩

/-- A magazine: a slice of whole numbers in one cell. -/
def KMag : Lay (List Int) := KSlice KInt 2
theorem KMag_sz : KMag.sz = 1 := rfl
theorem one_mag : OneC KMag := one_slice KInt _
/-- No list of lists has a longer one than this. -/
def ShortM (N : Nat) (ms : List (List Int)) : Prop := ∀ m ∈ ms, m.length ≤ N
theorem ShortM.at_ {N : Nat} {ms : List (List Int)} (h : ShortM N ms) {k : Nat} {m : List Int} (hk : ms[k]? = some m) : m.length ≤ N := h m (List.mem_of_getElem? hk)
theorem ShortM.more {N M : Nat} {ms : List (List Int)} (h : ShortM N ms) (hM : N ≤ M) : ShortM M ms := fun p hp => Nat.le_trans (h p hp) hM
/-- One list of a list of lists, in its cell. -/
theorem Lst.mag_at {w : World} {S : Nat → Prop} {ao : Option Addr} {n : Nat} {ms : List (List Int)} (h : Lst KMag w S ao n ms) {j : Nat} (hj : j < n) :
    ∃ b off m a l c, ao = some ⟨b, off, none⟩ ∧ b < w.heap.size ∧ ms[j]? = some m ∧ w.cell? ⟨b, off + j, none⟩ = some (.slice a l c) ∧ l ≤ c ∧ c ≤ maxLen ∧ Lst KInt w S a l m := by
  obtain ⟨b, off, cs, x, rfl, hb, hs, hx, hl, hcs, ⟨a, l, c, rfl, h1, h2, h3⟩⟩ := h.at_ hj
  have h0 := hcs 0 (by rw [KMag_sz]; omega)
  rw [KMag_sz, Nat.mul_one] at h0
  exact ⟨b, off, x, a, l, c, rfl, hb, hx, h0, h1, h2, h3⟩
theorem KMag_rd_mk {w : World} {S : Nat → Prop} {m : List Int} {a : Option Addr} {n c : Nat} (hn : n ≤ c) (hc : c ≤ maxLen) (hl : Lst KInt w S a n m) : KMag.rd w S [.slice a n c] m := ⟨a, n, c, rfl, hn, hc, hl⟩
theorem KMag_own_mk {w : World} {S : Nat → Prop} {m : List Int} {v : Value} {n : Nat} (hl : Own KInt 2 w S v n m) : KMag.own w S [v] m := ⟨v, n, rfl, hl⟩

/-- Two of these are the same. -/
def alike (xs : List Int) : Bool := !decide xs.Nodup
theorem pairwise_rising {xs : List Int} (h : xs.Pairwise (· < ·)) : rising xs = true := by
  rw [rising_iff]
  intro i h1 h2
  have := List.pairwise_iff_getElem.1 h (i - 1) i (by omega) h2 (by omega)
  simpa [List.getD, h2, show i - 1 < xs.length by omega] using this
theorem rising_pairwise {xs : List Int} (h : rising xs = true) : xs.Pairwise (· < ·) := by
  rw [rising_iff] at h
  have key : ∀ d i, i + d + 1 < xs.length → xs.getD i 0 < xs.getD (i + d + 1) 0 := by
    intro d
    induction d with
    | zero => intro i hi; have := h (i + 1) (by omega) (by omega); simpa using this
    | succ d ih => intro i hi; have h1 := ih i (by omega); have h2 := h (i + (d + 1) + 1) (by omega) (by omega); simp only [Nat.add_sub_cancel] at h2; exact Int.lt_trans h1 h2
  refine List.pairwise_iff_getElem.2 fun i j hi hj hij => ?_
  have := key (j - i - 1) i (by omega)
  rw [show i + (j - i - 1) + 1 = j by omega] at this
  simpa [List.getD, hi, hj] using this
theorem rising_sorted (xs : List Int) : rising (xs.mergeSort fun x y => decide (x ≤ y)) = decide xs.Nodup := by
  have hp := List.mergeSort_perm xs (fun x y => decide (x ≤ y))
  have hs : (xs.mergeSort fun x y => decide (x ≤ y)).Pairwise (fun x y => decide (x ≤ y) = true) := List.pairwise_mergeSort (fun a b c h1 h2 => by simp at *; omega) (fun a b => by simp; omega) xs
  rcases hr : rising (xs.mergeSort fun x y => decide (x ≤ y)) with _ | _
  · symm
    rw [decide_eq_false_iff_not]
    intro hn
    have hn2 := hp.nodup_iff.2 hn
    have : (xs.mergeSort fun x y => decide (x ≤ y)).Pairwise (· < ·) := by
      refine (hs.and (List.nodup_iff_pairwise_ne.1 hn2)).imp ?_
      rintro a b ⟨h1, h2⟩
      simp at h1; omega
    rw [pairwise_rising this] at hr; cases hr
  · symm
    rw [decide_eq_true_iff]
    exact hp.nodup_iff.1 ((rising_pairwise hr).imp fun h => by omega)
end Go.Proofs.Ytoaeglhjaandmaa

/- Slices of whole numbers joined; two that are alike, as the program looks for them: it sorts. -/
namespace Go.Proofs.Ytoaeglhjaandmaa
open Go.RowKit Go.Sort

/-- A slice of numbers that is owned, as a row of cells. -/
theorem Own.rowI {t : TypeId} {w : World} {S : Nat → Prop} {g n cap : Nat} {xs : List Int} (h : Own KInt t w S (.slice (some ⟨g, 0, none⟩) n cap) n xs) :
    S g ∧ ∃ cur, Row w g t cur ∧ n ≤ cap ∧ cap ≤ maxLen ∧ cur.size = cap * 1 ∧ cur.toList.take n = xs.map (Value.int .i64) := by
  have hl := h.1
  rcases h.2 with ⟨h2, _⟩ | ⟨g', cap', cur, F, hv, hg, hr, h1, h2, h3, hF, hD, hc⟩
  · cases h2
  · cases hv
    refine ⟨hg, cur, hr, h1, h2, h3, ?_⟩
    apply List.ext_getElem?
    intro j
    by_cases hj : j < n
    · rw [List.getElem?_take_of_lt hj]
      obtain ⟨x, hx⟩ : ∃ x, xs[j]? = some x := ⟨_, List.getElem?_eq_getElem (by omega)⟩
      obtain ⟨cs, hcl, hcs, ho⟩ := hc j x hx
      obtain rfl : cs = [.int .i64 x] := ho
      have := hcs 0 (show 0 < 1 by omega)
      rw [show KInt.sz = 1 from rfl, Nat.mul_one, Nat.add_zero] at this
      rw [Array.getElem?_toList, this, List.getElem?_map, hx]; rfl
    · rw [List.getElem?_take_eq_none (by omega), List.getElem?_eq_none (by simp; omega)]
theorem Own.of_rowI {t : TypeId} {w : World} {S : Nat → Prop} {g n cap B : Nat} {xs : List Int} (h : w.ownsRow B t 1 (.slice (some ⟨g, 0, none⟩) n cap) n (xs.map (Value.int .i64))) (hg : S g) : Own KInt t w S (.slice (some ⟨g, 0, none⟩) n cap) n xs := by
  obtain ⟨h1, h2⟩ := h
  refine Own.of_row (cells := xs.map (Value.int .i64)) (F := fun _ _ => False) (K := KInt) ⟨h1, ?_⟩ (by simpa using h1) (fun g' h => by simp [Value.ownBlock] at h; exact h ▸ hg) (fun _ _ h => h.elim) (fun _ _ _ h => h.elim) (fun j x hj => ⟨[.int .i64 x], rfl, fun i hi => ?_, rfl⟩)
  · rcases h2 with h2 | ⟨g', cap', cur, hv, _, r⟩
    · exact .inl h2
    · exact .inr ⟨g', cap', cur, hv, Nat.zero_le _, r⟩
  · obtain rfl : i = 0 := by have : i < 1 := hi; omega
    rw [show KInt.sz = 1 from rfl, Nat.mul_one, Nat.add_zero, List.getElem?_map, hj]; rfl

theorem sortOwn_calls {v : Value} {n : Nat} {xs : List Int} {S : Nat → Prop} {w : World} (ho : Own KInt 2 w S v n xs) (hn : n ≤ 17592186044416) :
    Calls Try.prog 96 #[v] w fun e w' => e = .returned (.tuple #[]) ∧ Own KInt 2 w' S v n (xs.mergeSort fun x y => decide (x ≤ y)) ∧ Turn S w w' := by
  obtain ⟨ao, cap, rfl, hnc, hcm, hL⟩ := ho.shape
  have hl := ho.1
  rcases Nat.eq_zero_or_pos n with h0 | h0
  · subst h0
    refine sortNone_calls.mono ?_
    rintro e w1 ⟨rfl, rfl⟩
    obtain rfl := List.eq_nil_of_length_eq_zero hl
    exact ⟨rfl, by simpa using ho, Turn.refl _ _⟩
  · rcases ho.2 with ⟨_, h2⟩ | ⟨g, cap', cur0, F, hv, _⟩
    · omega
    · cases hv
      obtain ⟨hg, cur, hr, h1, h2, h3, h4⟩ := ho.rowI
      refine (sortInts_calls (holds_of_blockI hr (by rw [hl]; exact h4)) hr.lt hl hn).mono ?_
      rintro e w1 ⟨rfl, m, os, rfl⟩
      refine ⟨rfl, ?_, ?_⟩
      · have := ownsRow_sortedI (n := m) (os := os) (base := 0) (ss := xs) (ts := xs.mergeSort fun x y => decide (x ≤ y)) (by simp) (Nat.zero_le _) hr (by rw [hl]; exact h1) h2 h3
        rw [hl] at this
        exact Own.of_rowI this hg
      · exact (Turn.of_grown (v := .slice (some ⟨g, 0, none⟩) n cap) (grownBy_sortedI _)).mono (fun k hk _ => by simp [Value.ownBlock] at hk; exact hk ▸ hg)

theorem hasTwoAlike_calls {v : Value} {n : Nat} {xs : List Int} {S : Nat → Prop} {w : World} (ho : Own KInt 2 w S v n xs) (hn : n ≤ 17592186044416) :
    Calls Try.prog 66 #[v] w fun e w' => e = .returned (.bool (alike xs)) ∧ Turn S w w' := by
  obtain ⟨ao, cap, rfl, hnc, hcm, hL⟩ := ho.shape
  go_enter Try.func66, Try.ntmps66
  go_wp2_with fail
  refine (sortOwn_calls ho hn).mono ?_
  rintro e w1 ⟨rfl, ho1, ht1⟩
  have hi := ho1.ints
  have HT := Lib.hid ht1
  clear ho1 ht1
  go_wp2_with fail
  refine (isRising_calls hi hn).mono ?_
  rw [rising_sorted]
  rintro e w2 ⟨rfl, hb2⟩
  have HB := Lib.hid hb2
  clear hb2
  go_wp2_with fail
  go_ret
  exact ⟨ret_bool (by simp [alike]), HT.out.trans (Turn.of_below (T := fun _ => False) HB.out) (fun _ h _ => h.elim)⟩
end Go.Proofs.Ytoaeglhjaandmaa

namespace Go.Proofs.Ytoaeglhjaandmaa
open Go.RowKit
section
variable {P : Program} {α : Type} {K : Lay α} {w : World} {ops : Array Oper} {rest : List Oper} {o : Oper} {a : Act} {Q : Exit → Act → World → Prop}
/-- append(nil, make([]E, k)...): a new slice of k zeros. -/
theorem wpList_append_zeros_nil (hgd : o.guard = none) (s x : Operand) (t tn : TypeId) (ho : o.op = .call { callee := .builtin .append, args := #[s, x], argTypes := #[t, tn] })
    (e : TypeId) (i : TypeInfo) (z : Value) (bytes : Nat) (kn kq : IntKind) (ht : P.underlying t = some (.slice e)) (htn : P.underlying tn = some (.int kn)) (hi : P.info? e = some i) (hz : i.zero = some z)
    (hsize : i.size = K.sz) (hby : i.bytes = bytes) (hzs : z.cells.size = K.sz) (hsz : 0 < K.sz)
    {k : Nat} {y : α} (hs : a.eval s = .slice none 0 0) (hx : a.eval x = .int kq k) (hy : ∀ w, K.own w (fun _ => False) z.cells.toList y)
    (h0 : 0 < k) (h63 : k ≤ maxLen) (hbytes : k * bytes ≤ 140737488355328)
    (h : ∀ v' w', Own K e w' (fun j => w.heap.size ≤ j) v' k (List.replicate k y) → Below w.heap.size w w' → wpList P ops Q rest (a.put o.dst v') w') : wpList P ops Q (o :: rest) a w := by
  subst hby
  have hsmall : k ≤ 9223372036854775807 := by simp only [maxLen] at h63; omega
  have hrun := Lib.run_append_grow_zeros w t tn o.type e i z kq kn ht htn hi hz none 0 0 []
    (by simpa using Go.run_firstCells_none (P := P) (w := w.drew) i.size 0 0 0) k h0 (by omega) (by omega) (by omega) (by omega) (growslice_fits (by omega) (by rw [Nat.zero_add]; exact hbytes))
  refine wpList_plain hgd fun K' hK' => ?_
  unfold Oper.wp execOp
  simp only [ho, resolve, invoke, builtin, Sem.run_bind, Sem.run_pure, Result.andThen_ok, List.map_toArray, List.map_cons, List.map_nil, hs, hx, hrun]
  have hge := grownCap_ge w (0 + k) 0 e
  have hle := grownCap_le_maxLen w (0 + k) 0 e (by omega)
  have hb : Below w.heap.size w (w.drew.alloc (.cells (([] : List Value).toArray ++ Builtin.zeroCells z.cells k ++ Builtin.zeroCells z.cells (grownCap w (0 + k) 0 e - (0 + k))) e)) := Turn.none_ ((Turn.drew_ _ w).trans (Turn.alloc _ w.drew _) (fun _ h _ => h))
  refine hK' _ _ (h _ _ ?_ hb)
  have hzl : (Builtin.zeroCells z.cells k).size = k * K.sz := by rw [size_zeroCells, hzs]
  have hzt : (Builtin.zeroCells z.cells k).toList.length = k * K.sz := hzl
  rw [Nat.zero_add] at hge hle ⊢
  refine Own.of_row (F := fun _ _ => False) (cells := (Builtin.zeroCells z.cells k).toList) ⟨by rw [hzt], .inr ⟨w.heap.size, _, _, rfl, Nat.zero_le _, heap_alloc_new w.drew _, hge, hle, ?_, ?_⟩⟩ (by simp) (fun g' hg' => ?_) (fun j q hq => hq.elim) (fun i j q hi hj => hi.elim) (fun j y' hj => ?_)
  · simp only [Array.size_append, List.size_toArray, List.length_nil, size_zeroCells, hzs, Nat.zero_add, ← Nat.add_mul]; congr 1; omega
  · have e1 : k * K.sz = (Builtin.zeroCells z.cells k).toList.length := hzt.symm
    simp only [Array.toList_append, List.nil_append]
    rw [e1]; exact List.take_left
  · simp [Value.ownBlock] at hg'; omega
  · rw [List.getElem?_replicate] at hj
    split at hj
    · rename_i hjk
      injection hj with hj; subst hj
      refine ⟨z.cells.toList, by simpa using hzs, fun i hi => ?_, K.own_mono (hy _) (fun _ h _ => h.elim)⟩
      have h2 := Nat.mul_le_mul_right K.sz (show j + 1 ≤ k by omega)
      rw [Nat.add_mul] at h2
      have h3 : (j * K.sz + i) % z.cells.size = i := by rw [hzs, Nat.mul_comm, Nat.mul_add_mod, Nat.mod_eq_of_lt hi]
      have h4 : j * K.sz + i < k * z.cells.size := by rw [hzs]; omega
      simp only [hzs] at h3 h4
      simp [Builtin.zeroCells, hzs, hi, h3, h4]
    · cases hj
end
/-- The first elements of what is owned. -/
theorem Own.first {α : Type} {K : Lay α} {t : TypeId} {w : World} {S : Nat → Prop} {g n cap m : Nat} {xs : List α} (h : Own K t w S (.slice (some ⟨g, 0, none⟩) n cap) n xs) (hm : m ≤ n) : Own K t w S (.slice (some ⟨g, 0, none⟩) m cap) m (xs.take m) := by
  have hl := h.1
  rcases h.2 with ⟨h2, _⟩ | ⟨g', cap', cur, F, hv, hg, hr, h1, h2, h3, hF, hD, hc⟩
  · cases h2
  · cases hv
    refine ⟨by simp; omega, .inr ⟨g, cap, cur, F, rfl, hg, hr, by omega, h2, h3, hF, hD, fun j x hj => hc j x ?_⟩⟩
    rw [List.getElem?_take] at hj
    split at hj
    · exact hj
    · cases hj

end Go.Proofs.Ytoaeglhjaandmaa

namespace Go.Proofs.Ytoaeglhjaandmaa
open Go.RowKit
theorem flatten_snoc {α : Type} {ms : List (List α)} {k : Nat} {m : List α} (h : ms[k]? = some m) : (ms.take (k + 1)).flatten = (ms.take k).flatten ++ m := by
  obtain ⟨hk, rfl⟩ := List.getElem?_eq_some_iff.1 h
  rw [List.take_succ_eq_append_getElem hk, List.flatten_append]; simp [List.flatten]
theorem flatten_take_le {α : Type} (ms : List (List α)) (k : Nat) : (ms.take k).flatten.length ≤ ms.flatten.length := by
  have h : ms.flatten = (ms.take k).flatten ++ (ms.drop k).flatten := by rw [← List.flatten_append, List.take_append_drop]
  rw [h, List.length_append]; omega

end Go.Proofs.Ytoaeglhjaandmaa

/- Chapter 7, plain: the pages that have a frame, whose table is right, the lowest frame, the words of pages gathered. -/
namespace Go.Proofs.Ytoaeglhjaandmaa

/-- Of the first k pages those that have a frame, each with it. -/
def heldP (fr : List Int) (k : Nat) : List (Nat × Int) := ((List.range k).map fun i => (i, fr.getD i 0)).filter fun p => !(p.2 == -1)
theorem heldP_zero (fr : List Int) : heldP fr 0 = [] := rfl
theorem heldP_no {fr : List Int} {k : Nat} (h : fr.getD k 0 = -1) : heldP fr (k + 1) = heldP fr k := by
  have e : (!(fr.getD k 0 == -1)) = false := by rw [h]; rfl
  unfold heldP
  rw [List.range_succ, List.map_append, List.filter_append]
  simp only [List.map_cons, List.map_nil, List.filter_cons, e, List.filter_nil]; simp
theorem heldP_yes {fr : List Int} {k : Nat} (h : fr.getD k 0 ≠ -1) : heldP fr (k + 1) = heldP fr k ++ [(k, fr.getD k 0)] := by
  have e : (!(fr.getD k 0 == -1)) = true := by simp only [Bool.not_eq_true', beq_eq_false_iff_ne]; exact h
  unfold heldP
  rw [List.range_succ, List.map_append, List.filter_append]
  simp only [List.map_cons, List.map_nil, List.filter_cons, e, List.filter_nil]; simp
theorem length_heldP (fr : List Int) (k : Nat) : (heldP fr k).length ≤ k := by
  have := List.length_filter_le (fun p : Nat × Int => !(p.2 == -1)) ((List.range k).map fun i => (i, fr.getD i 0))
  simpa [heldP] using this
theorem mem_heldP {fr : List Int} {k i : Nat} {f : Int} : (i, f) ∈ heldP fr k ↔ i < k ∧ f = fr.getD i 0 ∧ f ≠ -1 := by
  unfold heldP
  simp only [List.mem_filter, List.mem_map, List.mem_range]
  constructor
  · rintro ⟨⟨j, hj, e⟩, h⟩
    simp only [Prod.mk.injEq] at e
    obtain ⟨rfl, rfl⟩ := e
    exact ⟨hj, rfl, by simpa using h⟩
  · rintro ⟨h0, rfl, h⟩; exact ⟨⟨i, h0, rfl⟩, by simpa using h⟩
/-- The frames that the table has. -/
def heldF (fr : List Int) : List Int := fr.filter fun f => !(f == -1)
theorem heldP_snd {fr : List Int} : ∀ {k : Nat}, k ≤ fr.length → (heldP fr k).map (·.2) = heldF (fr.take k) := by
  intro k
  induction k with
  | zero => intro _; rfl
  | succ k ih =>
    intro hk
    have hg : fr.getD k 0 = fr[k] := by simp [List.getD, show k < fr.length by omega]
    have hs : heldF (fr.take (k + 1)) = heldF (fr.take k) ++ heldF [fr.getD k 0] := by
      rw [List.take_succ_eq_append_getElem (by omega), hg]; unfold heldF; rw [List.filter_append]
    rw [hs, ← ih (by omega)]
    by_cases h : fr.getD k 0 = -1
    · rw [heldP_no h, h]; simp [heldF]
    · rw [heldP_yes h, List.map_append]
      have e : (!(fr.getD k 0 == -1)) = true := by simp only [Bool.not_eq_true', beq_eq_false_iff_ne]; exact h
      have : heldF [fr.getD k 0] = [fr.getD k 0] := by unfold heldF; rw [List.filter_cons, e]; rfl
      rw [this]; rfl
theorem heldP_held (fr : List Int) : (heldP fr fr.length).map (·.2) = heldF fr := by rw [heldP_snd (Nat.le_refl _), List.take_of_length_le (Nat.le_refl _)]
theorem hasIn_mem {xs : List Int} {v : Int} : hasIn xs v = true ↔ v ∈ xs := by unfold hasIn; exact List.contains_iff_mem
theorem hasIn_heldF {fr : List Int} {f : Int} (h : f ≠ -1) : hasIn (heldF fr) f = hasIn fr f := by
  rw [Bool.eq_iff_iff, hasIn_mem, hasIn_mem]; simp [heldF, h]

/-- Each frame of the table is one of these. -/
def allOwn (own fr : List Int) : Bool := fr.all fun f => (f == -1) || hasIn own f
theorem allOwn_no {own fr : List Int} {k : Nat} (hk : k < fr.length) (h : fr.getD k 0 ≠ -1) (h2 : hasIn own (fr.getD k 0) = false) : allOwn own fr = false := by
  rw [Bool.eq_false_iff]
  intro h3
  unfold allOwn at h3
  rw [List.all_eq_true] at h3
  have hg : fr.getD k 0 = fr[k] := by simp [List.getD, hk]
  have := h3 _ (List.getElem_mem hk)
  rw [← hg, h2, Bool.or_false] at this
  exact h (beq_iff_eq.1 this)
theorem allOwn_snoc {own fr : List Int} {k : Nat} (hk : k < fr.length) (h : allOwn own (fr.take k) = true) (h2 : fr.getD k 0 = -1 ∨ hasIn own (fr.getD k 0) = true) : allOwn own (fr.take (k + 1)) = true := by
  have hg : fr.getD k 0 = fr[k] := by simp [List.getD, hk]
  rw [hg] at h2
  unfold allOwn at *
  rw [List.take_succ_eq_append_getElem hk, List.all_append, h]
  rcases h2 with h2 | h2 <;> simp [h2]
theorem allOwn_held {own fr : List Int} : allOwn own fr = ((heldP fr fr.length).all fun p => hasIn own p.2) := by
  have : ((heldP fr fr.length).all fun p => hasIn own p.2) = (((heldP fr fr.length).map (·.2)).all fun f => hasIn own f) := by rw [List.all_map]; rfl
  rw [this, heldP_held]
  unfold allOwn heldF
  rw [List.all_filter]
  congr 1
  funext f
  cases h : f == -1 <;> simp

/-- A frame stands there that stands further ahead, too. -/
def twice (fr : List Int) : Bool := (List.range fr.length).any fun k => !(fr.getD k 0 == -1) && hasIn (fr.take k) (fr.getD k 0)
def twiceTo (fr : List Int) (n : Nat) : Bool := (List.range n).any fun k => !(fr.getD k 0 == -1) && hasIn (fr.take k) (fr.getD k 0)
theorem twiceTo_no {fr : List Int} {n : Nat} (h : twiceTo fr n = false) (h2 : fr.getD n 0 = -1 ∨ hasIn (fr.take n) (fr.getD n 0) = false) : twiceTo fr (n + 1) = false := by
  unfold twiceTo at *
  rw [List.range_succ, List.any_append, h]
  rcases h2 with h2 | h2
  · simp only [List.any_cons, List.any_nil, h2]; rfl
  · simp only [List.any_cons, List.any_nil, h2]; simp
theorem twice_yes {fr : List Int} {n : Nat} (hn : n < fr.length) (h : fr.getD n 0 ≠ -1) (h2 : hasIn (fr.take n) (fr.getD n 0) = true) : twice fr = true := by
  unfold twice
  rw [List.any_eq_true]
  refine ⟨n, List.mem_range.2 hn, ?_⟩
  rw [h2]
  simp only [Bool.and_true, Bool.not_eq_true', beq_eq_false_iff_ne]; exact h
theorem nodup_heldF {fr : List Int} : ∀ {k : Nat}, k ≤ fr.length → ((heldF (fr.take k)).Nodup ↔ twiceTo fr k = false) := by
  intro k
  induction k with
  | zero => intro _; simp [heldF, twiceTo]
  | succ k ih =>
    intro hk
    have hg : fr.getD k 0 = fr[k] := by simp [List.getD, show k < fr.length by omega]
    have hs : twiceTo fr (k + 1) = (twiceTo fr k || (!(fr.getD k 0 == -1) && hasIn (fr.take k) (fr.getD k 0))) := by
      unfold twiceTo; rw [List.range_succ, List.any_append]; simp
    have hs2 : heldF (fr.take (k + 1)) = heldF (fr.take k) ++ List.filter (fun f => !(f == -1)) [fr.getD k 0] := by
      rw [List.take_succ_eq_append_getElem (by omega), hg]; unfold heldF; rw [List.filter_append]
    rw [hs2, hs]
    by_cases h : fr.getD k 0 = -1
    · rw [h]; simpa using ih (by omega)
    · have e : List.filter (fun f => !(f == -1)) [fr.getD k 0] = [fr.getD k 0] := by rw [List.filter_cons]; simp only [beq_iff_eq, Bool.not_eq_true', beq_eq_false_iff_ne, List.filter_nil]; rw [if_pos h]
      rw [e, List.nodup_append]
      have hb : (!(fr.getD k 0 == -1)) = true := by simp only [Bool.not_eq_true', beq_eq_false_iff_ne]; exact h
      rw [hb, Bool.true_and, Bool.or_eq_false_iff, ← ih (by omega), ← hasIn_heldF h]
      constructor
      · rintro ⟨h1, _, h3⟩
        refine ⟨h1, ?_⟩
        rw [Bool.eq_false_iff, Ne, hasIn_mem]
        intro hm
        exact h3 _ hm _ (List.mem_singleton_self _) rfl
      · rintro ⟨h1, h3⟩
        refine ⟨h1, by simp, ?_⟩
        rw [Bool.eq_false_iff, Ne, hasIn_mem] at h3
        rintro a ha b hb rfl
        exact h3 (List.mem_singleton.1 hb ▸ ha)
theorem alike_heldF (fr : List Int) : alike (heldF fr) = twice fr := by
  have h := nodup_heldF (fr := fr) (Nat.le_refl _)
  rw [List.take_of_length_le (Nat.le_refl _)] at h
  unfold alike
  have : twice fr = twiceTo fr fr.length := rfl
  rw [this]
  cases ht : twiceTo fr fr.length
  · simp [h.2 ht]
  · have : ¬ (heldF fr).Nodup := fun hn => by rw [h.1 hn] at ht; cases ht
    simp [this]

/-- Why a table is none. -/
def tableFault (F C : Int) (ts : List (List Int × Int)) (tn : Int) (fr : List Int) : Int :=
  if (framesFor F C ts tn).1 = 0 then
    (if (framesFor F C ts tn).2.length < fr.length ∨ 40 < fr.length then 2
     else if allOwn (framesFor F C ts tn).2 fr = true then (if twice fr = true then 6 else 0) else 3)
  else (framesFor F C ts tn).1
theorem tableFault_code {F C : Int} {ts : List (List Int × Int)} {tn : Int} {fr : List Int} (h : (framesFor F C ts tn).1 ≠ 0) : tableFault F C ts tn fr = (framesFor F C ts tn).1 := by
  unfold tableFault; rw [if_neg h]
theorem tableFault_many {F C : Int} {ts : List (List Int × Int)} {tn : Int} {fr : List Int} (h : (framesFor F C ts tn).1 = 0) (h2 : (framesFor F C ts tn).2.length < fr.length ∨ 40 < fr.length) : tableFault F C ts tn fr = 2 := by
  unfold tableFault; rw [if_pos h, if_pos h2]
theorem tableFault_range {F C : Int} {ts : List (List Int × Int)} {tn : Int} {fr : List Int} (h : (framesFor F C ts tn).1 = 0) (h2 : ¬ ((framesFor F C ts tn).2.length < fr.length ∨ 40 < fr.length)) (h3 : allOwn (framesFor F C ts tn).2 fr = false) : tableFault F C ts tn fr = 3 := by
  unfold tableFault; rw [if_pos h, if_neg h2, if_neg (by rw [h3]; decide)]
theorem tableFault_rest {F C : Int} {ts : List (List Int × Int)} {tn : Int} {fr : List Int} (h : (framesFor F C ts tn).1 = 0) (h2 : ¬ ((framesFor F C ts tn).2.length < fr.length ∨ 40 < fr.length)) (h3 : allOwn (framesFor F C ts tn).2 fr = true) : tableFault F C ts tn fr = if twice fr = true then 6 else 0 := by
  unfold tableFault; rw [if_pos h, if_neg h2, if_pos h3]
theorem tableFault_ok {F C : Int} {ts : List (List Int × Int)} {tn : Int} {fr : List Int} (h : tableFault F C ts tn fr = 0) :
    (framesFor F C ts tn).1 = 0 ∧ fr.length ≤ (framesFor F C ts tn).2.length ∧ fr.length ≤ 40 ∧ allOwn (framesFor F C ts tn).2 fr = true ∧ twice fr = false := by
  unfold tableFault at h
  split at h
  · rename_i h1
    split at h
    · omega
    · rename_i h2
      split at h
      · rename_i h3
        split at h
        · omega
        · rename_i h4
          exact ⟨h1, by omega, by omega, h3, by simpa using h4⟩
      · omega
  · rename_i h1; exact absurd h h1
theorem framesFor_ok {F C : Int} {ts : List (List Int × Int)} {tn : Int} (h : (framesFor F C ts tn).1 = 0) :
    configFault F C ts = 0 ∧ 0 ≤ tn ∧ tn < ts.length ∧ (framesFor F C ts tn).2 = framesTo C (tenAt ts tn.toNat) F.toNat := by
  unfold framesFor at *
  split at h
  · rename_i h1
    split at h
    · rename_i h2
      rw [if_pos h1, if_pos h2]
      rw [within_one] at h2
      simp at h2
      exact ⟨h1, h2.1, by omega, rfl⟩
    · simp at h
  · rename_i h1; exact absurd h h1

/-- The code at a page. -/
def tablePageFault (F C : Int) (ts : List (List Int × Int)) (tn : Int) (fr : List Int) (p : Int) : Int :=
  if tableFault F C ts tn fr = 0 then (if within 0 ((fr.length : Int) - 1) [p] = true then 0 else 3) else tableFault F C ts tn fr
/-- The lowest of these that the table has not. -/
def lowestOf (own fr : List Int) : Int := (own.find? fun f => !hasIn fr f).getD (-1)
theorem lowestOf_at {own fr : List Int} {k : Nat} (hk : k < own.length) (h0 : ∀ j, j < k → hasIn fr (own.getD j 0) = true) (h : hasIn fr (own.getD k 0) = false) : lowestOf own fr = own.getD k 0 := by
  unfold lowestOf
  have hf : own.find? (fun f => !hasIn fr f) = some (own.getD k 0) := by
    rw [List.find?_eq_some_iff_append]
    refine ⟨by simpa using h, own.take k, own.drop (k + 1), ?_, ?_⟩
    · have : own.getD k 0 = own[k] := by simp [List.getD, hk]
      rw [this, List.getElem_cons_drop, List.take_append_drop]
    · intro a ha
      obtain ⟨j, hj, rfl⟩ := List.getElem_of_mem ha
      have hj2 : j < k := by simp at hj; omega
      have := h0 j hj2
      simp only [List.getElem_take]
      rw [show own.getD j 0 = own[j] by simp [List.getD, show j < own.length by omega]] at this
      simp [this]
  rw [hf]; rfl
theorem lowestOf_none {own fr : List Int} (h0 : ∀ j, j < own.length → hasIn fr (own.getD j 0) = true) : lowestOf own fr = -1 := by
  unfold lowestOf
  have hf : own.find? (fun f => !hasIn fr f) = none := by
    rw [List.find?_eq_none]
    intro x hx
    obtain ⟨j, hj, rfl⟩ := List.getElem_of_mem hx
    have := h0 j hj
    rw [show own.getD j 0 = own[j] by simp [List.getD, hj]] at this
    simp [this]
  rw [hf]; rfl
/-- The frames with another one at a page. -/
def grantPage (F C : Int) (ts : List (List Int × Int)) (tn : Int) (fr : List Int) (p : Int) : Int × Int × List Int :=
  if tablePageFault F C ts tn fr p = 0 then (if fr.getD p.toNat 0 = -1 then (0, tn, fr.set p.toNat (lowestOf (framesFor F C ts tn).2 fr)) else (6, 0, [])) else (tablePageFault F C ts tn fr p, 0, [])
def revokePage (F C : Int) (ts : List (List Int × Int)) (tn : Int) (fr : List Int) (p : Int) : Int × Int × List Int :=
  if tablePageFault F C ts tn fr p = 0 then (if fr.getD p.toNat 0 = -1 then (8, 0, []) else (0, tn, fr.set p.toNat (-1))) else (tablePageFault F C ts tn fr p, 0, [])
def translate (F C : Int) (ts : List (List Int × Int)) (tn : Int) (fr : List Int) (at_ : Int) : Int × Int :=
  if tableFault F C ts tn fr = 0 then
    (if within 0 ((fr.length : Int) * 16 - 1) [at_] = true then (if fr.getD (at_ / 16).toNat 0 = -1 then (4, 0) else (0, fr.getD (at_ / 16).toNat 0 * 16 + at_ % 16)) else (3, 0))
  else (tableFault F C ts tn fr, 0)
theorem tablePageFault_ok {F C : Int} {ts : List (List Int × Int)} {tn : Int} {fr : List Int} {p : Int} (h : tablePageFault F C ts tn fr p = 0) : tableFault F C ts tn fr = 0 ∧ 0 ≤ p ∧ p < fr.length := by
  unfold tablePageFault at h
  split at h
  · rename_i h1
    split at h
    · rename_i h2
      rw [within_one] at h2
      simp at h2
      exact ⟨h1, h2.1, by omega⟩
    · omega
  · rename_i h1; exact absurd h h1
theorem allOwn_at {own fr : List Int} {k : Nat} (h : allOwn own fr = true) (hk : k < fr.length) (hv : fr.getD k 0 ≠ -1) : hasIn own (fr.getD k 0) = true := by
  rcases hV : hasIn own (fr.getD k 0) with _ | _
  · rw [allOwn_no hk hv hV] at h; cases h
  · rfl
theorem table_frame {F C : Int} {ts : List (List Int × Int)} {tn : Int} {fr : List Int} {k : Nat} (h : tableFault F C ts tn fr = 0) (hk : k < fr.length) (hv : fr.getD k 0 ≠ -1) : 0 ≤ fr.getD k 0 ∧ fr.getD k 0 < F ∧ F ≤ 40 := by
  obtain ⟨h1, _, _, h2, _⟩ := tableFault_ok h
  obtain ⟨c1, _, _, c2⟩ := framesFor_ok h1
  have c3 := configFault_ok c1
  have := allOwn_at h2 hk hv
  rw [hasIn_mem, c2, mem_framesTo] at this
  exact ⟨this.1, by omega, c3.2.1⟩
end Go.Proofs.Ytoaeglhjaandmaa

/- Chapter 7 of the model: whether a table is one. -/
namespace Go.Proofs.Ytoaeglhjaandmaa
open Go.RowKit
set_option maxRecDepth 100000

theorem Ints.take {w : World} {ao : Option Addr} {n k : Nat} {xs : List Int} (h : Ints w ao n xs) (hk : k ≤ n) : Ints w ao k (xs.take k) := by
  have hl := h.1
  refine ⟨by simp; omega, fun h0 => ?_⟩
  obtain ⟨b, off, e, hb, hc⟩ := h.2 (by omega)
  refine ⟨b, off, e, hb, fun j hj => ?_⟩
  rw [hc j (by omega)]
  simp [List.getD, hj]

set_option maxHeartbeats 2000000 in
theorem sTableFault_calls {ao ta : Option Addr} {n cc m tc : Nat} {F C tn : Int} {ts : List (List Int × Int)} {fr : List Int} {w : World} (hT : Tens w ao n ts) (hS : Short 17592186044416 ts) (hcc : n ≤ cc) (hn : n ≤ 17592186044416) (hf : Ints w ta m fr) (hm : m ≤ 17592186044416) (hmc : m ≤ tc) :
    Calls Try.prog 24 #[.agg #[.int .i64 F, .int .i64 C, .slice ao n cc], .agg #[.int .i64 tn, .slice ta m tc]] w fun e w' => e = .returned (.int .i64 (tableFault F C ts tn fr)) ∧ Below w.heap.size w w' := by
  have HL := Lib.hid hf.1
  obtain ⟨r, hr⟩ : ∃ r, framesFor F C ts tn = r := ⟨_, rfl⟩
  obtain ⟨q, own⟩ := r
  have hsm := framesFor_small F C ts tn
  have hF1 : (framesFor F C ts tn).1 = q := by rw [hr]
  have hF2 : (framesFor F C ts tn).2 = own := by rw [hr]
  rw [hF2] at hsm
  go_enter Try.func24, Try.ntmps24
  go_wp2_with fail
  refine (sFramesFor_calls ((hT.alloc _).alloc _) hS hcc hn).mono ?_
  rintro e w1 ⟨v, k, rfl, hown, hb1⟩
  rw [hr] at hown ⊢
  dsimp only at hown ⊢
  have hk : k = own.length := hown.in_.lohi
  obtain ⟨vo, vc, rfl, hvc, _, _⟩ := hown.shape
  obtain ⟨W, hW⟩ : ∃ W, w1.alloc (.cells #[.int .i64 q, .slice vo k vc] 60) = W := ⟨_, rfl⟩
  have hbW : Below w1.heap.size w1 W := by rw [← hW]; exact (Below.refl _ _).alloc (Nat.le_refl _) _
  have hRW : Row W w1.heap.size 60 #[.int .i64 q, .slice vo k vc] := by rw [← hW]; exact heap_alloc_new _ _
  have hfI := (((hf.alloc _).alloc _).below hb1).below hbW
  have hoI := hown.ints.below hbW
  obtain ⟨h0, h1, hb, hs⟩ := two_new hb1
  have hk40 : k ≤ 40 := by omega
  have HOI := Lib.hid hoI
  have HFi := Lib.hid hfI
  have h1' := Row.below h1 hbW
  have HR1 := Lib.hid h1'
  have HRW := Lib.hid hRW
  have HB := Lib.hid (hb.trans (hbW.mono hb.size))
  have HK := Lib.hid hk
  have t0 := Row.cell h1' 0
  have t1 := Row.cell h1' 1
  have o0 := Row.cell hRW 0
  have o1 := Row.cell hRW 1
  simp at t0 t1 o0 o1
  clear hb1 hown hfI hoI h0 h1 hb hk hr h1' hbW
  by_cases hq : q = 0
  rotate_left
  · have HF := Lib.hid (show tableFault F C ts tn fr = q by rw [tableFault_code (by rw [hF1]; exact hq), hF1])
    have hqb : (q != 0) = true := by simpa using hq
    clear hq hF1 hF2 hsm
    go_wp2_with fail
    go_ret
    exact ⟨ret_int HF.out.symm, HB.out⟩
  subst hq
  have l40 : own.length ≤ 40 := by omega
  have hlm : fr.length = m := HL.out
  have hko : k = own.length := HK.out
  by_cases hmany : k < m
  · have HF := Lib.hid (show tableFault F C ts tn fr = 2 from tableFault_many hF1 (.inl (by rw [hF2]; omega)))
    have hml : (m : Int) > (k : Int) := by omega
    clear hF1 hF2 hsm l40 hlm hko
    go_wp2_with fail
    go_ret
    exact ⟨ret_int HF.out.symm, HB.out⟩
  have hnm : ¬ ((framesFor F C ts tn).2.length < fr.length ∨ 40 < fr.length) := by rw [hF2]; omega
  have HA1 := tableFault_rest hF1 hnm
  have HA2 := tableFault_range hF1 hnm
  rw [hF2] at HA1 HA2
  have HA1 := Lib.hid HA1
  have HA2 := Lib.hid HA2
  have hml : ¬ ((m : Int) > (k : Int)) := by omega
  have hm4 : ¬ ((m : Int) > 40) := by omega
  clear hF1 hF2 hsm l40 hlm hko hnm hmany
  go_wp2_with fail
  clear t0 t1 o0 o1
  go_loopw [6] (fun i wr => ∃ j : Nat, j ≤ m ∧ i = .int .i64 j ∧ Hid (allOwn own (fr.take j) = true) ∧ Below W.heap.size W wr) (fun i _ => m - (intOf i).toNat)
  case atStart => exact ⟨0, Nat.zero_le _, rfl, rfl, Below.refl _ _⟩
  case round =>
    obtain ⟨j, hj, rfl, HA, hbw⟩ := hrel
    have hfw := HFi.out.below hbw
    have t0 := Row.cell (HR1.out.below hbw) 0
    have t1 := Row.cell (HR1.out.below hbw) 1
    have o0 := Row.cell (HRW.out.below hbw) 0
    have o1 := Row.cell (HRW.out.below hbw) 1
    have hoI := HOI.out.below hbw
    simp at t0 t1 o0 o1
    by_cases hlt : j < m
    · obtain ⟨ba, oa, rfl, hba, hca⟩ := hfw.at_ hlt
      have hjf : j < fr.length := by have := HL.out; omega
      have hjm : (j : Int) < (m : Int) := by omega
      by_cases hv : fr.getD j 0 = -1
      · have HS := Lib.hid (allOwn_snoc hjf HA.out (.inl hv))
        rw [hv] at hca
        clear hv
        go_wp2_with (go_quiet (fail))
        go_roundw
        case rel => exact ⟨j + 1, by omega, by go_num, HS, below_drewN hbw _⟩
        case measure => simp [intOf]; omega
      · obtain ⟨y, hy⟩ : ∃ y, y = fr.getD j 0 := ⟨_, rfl⟩
        have hyn : (y != -1) = true := by rw [hy]; simpa using hv
        rcases hV : hasIn own y with _ | _
        · have HF := Lib.hid (show tableFault F C ts tn fr = 3 from HA2.out (allOwn_no hjf hv (by rw [← hy]; exact hV)))
          rw [← hy] at hca
          clear hv hy
          go_wp2_with (go_quiet ((go_at_call 68; go_must (refine (l1Has_calls (hoI.drewN _) (by omega)).mono ?_); rw [hV]; rintro e w' ⟨rfl, rfl⟩; exact ⟨rfl, _, rfl⟩)))
          go_ret
          exact ⟨ret_int HF.out.symm, HB.out.trans ((below_drewN hbw _).mono HB.out.size)⟩
        · have HS := Lib.hid (allOwn_snoc hjf HA.out (.inr (by rw [← hy]; exact hV)))
          rw [← hy] at hca
          clear hv hy
          go_wp2_with (go_quiet ((go_at_call 68; go_must (refine (l1Has_calls (hoI.drewN _) (by omega)).mono ?_); rw [hV]; rintro e w' ⟨rfl, rfl⟩; exact ⟨rfl, _, rfl⟩)))
          go_roundw
          case rel => exact ⟨j + 1, by omega, by go_num, HS, below_drewN hbw _⟩
          case measure => simp [intOf]; omega
    · obtain rfl : j = m := by omega
      have HAll : Hid (allOwn own fr = true) := by have h := HA.out; rw [List.take_of_length_le (by have := HL.out; omega)] at h; exact h
      have HFF := Lib.hid (HA1.out HAll.out)
      go_wp2_with fail
      clear t0 t1 o0 o1
      go_loopw [7] (fun i wr => ∃ l : Nat, l ≤ j ∧ i = .int .i64 l ∧ Hid (twiceTo fr l = false) ∧ Below W.heap.size W wr) (fun i _ => j - (intOf i).toNat)
      case atStart => exact ⟨0, Nat.zero_le _, rfl, rfl, hbw⟩
      case round =>
        obtain ⟨l, hl, rfl, HA3, hbw⟩ := hrel
        have hfw := HFi.out.below hbw
        have t0 := Row.cell (HR1.out.below hbw) 0
        have t1 := Row.cell (HR1.out.below hbw) 1
        simp at t0 t1
        by_cases hlt : l < j
        · have hft := hfw.take (Nat.le_of_lt hlt)
          obtain ⟨ba, oa, rfl, hba, hca⟩ := hfw.at_ hlt
          have hjf : l < fr.length := by have := HL.out; omega
          have hjm : (l : Int) < (j : Int) := by omega
          have hlc : (l : Int) ≤ (tc : Int) := by omega
          by_cases hv : fr.getD l 0 = -1
          · have HS := Lib.hid (twiceTo_no HA3.out (.inl hv))
            rw [hv] at hca
            clear hv
            go_wp2_with (go_quiet (fail))
            go_roundw
            case rel => exact ⟨l + 1, by omega, by go_num, HS, below_drewN hbw _⟩
            case measure => simp [intOf]; omega
          · obtain ⟨y, hy⟩ : ∃ y, y = fr.getD l 0 := ⟨_, rfl⟩
            have hyn : (y != -1) = true := by rw [hy]; simpa using hv
            rcases hV : hasIn (fr.take l) y with _ | _
            · have HS := Lib.hid (twiceTo_no HA3.out (.inr (by rw [← hy]; exact hV)))
              rw [← hy] at hca
              clear hv hy
              go_wp2_with (go_quiet ((go_at_call 68; go_must (refine (l1Has_calls (hft.drewN _) (by omega)).mono ?_); rw [hV]; rintro e w' ⟨rfl, rfl⟩; exact ⟨rfl, _, rfl⟩)))
              go_roundw
              case rel => exact ⟨l + 1, by omega, by go_num, HS, below_drewN hbw _⟩
              case measure => simp [intOf]; omega
            · have HF := Lib.hid (show tableFault F C ts tn fr = 6 by rw [HFF.out, twice_yes hjf hv (by rw [← hy]; exact hV)]; rfl)
              rw [← hy] at hca
              clear hv hy
              go_wp2_with (go_quiet ((go_at_call 68; go_must (refine (l1Has_calls (hft.drewN _) (by omega)).mono ?_); rw [hV]; rintro e w' ⟨rfl, rfl⟩; exact ⟨rfl, _, rfl⟩)))
              go_ret
              exact ⟨ret_int HF.out.symm, HB.out.trans ((below_drewN hbw _).mono HB.out.size)⟩
        · obtain rfl : l = j := by omega
          have HF := Lib.hid (show tableFault F C ts tn fr = 0 by
            have h := HA3.out
            rw [← HL.out] at h
            rw [HFF.out, show twice fr = false from h]; rfl)
          go_wp2_with fail
          go_ret
          exact ⟨ret_int HF.out.symm, HB.out.trans (hbw.mono HB.out.size)⟩
end Go.Proofs.Ytoaeglhjaandmaa
