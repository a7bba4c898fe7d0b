/- Joined texts (Own4, Copy4, App2, Sort5, One5, One5b, One5c, Spec4d, Spec4e, Whole4, App3): steps of the proofs of chapter 5's laws. -/
import Derived.Lib.SliceRun
import Derived.Deep.RegionLaw
import Derived.Lib.AppendZerosOnto
import Derived.Shelf.SortG.Plain
import Derived.Shelf.SortG.SortNone
import Derived.IntWalk
import Derived.Sort.OwnSortedInts
import Derived.Deep.RegionHeld3
import Derived.Laws.CopyRow
import Derived.Test.YtcnpckaacigbfaaM1
import Derived.Test.YtcnpckaacigbfaaM2
import Derived.Test.YtcnpckaacigbfaaM3
set_option linter.unusedVariables false
set_option linter.unusedSimpArgs false
/- Pages that are owned: one of them turned. -/
namespace Go.Proofs.Ytcnpckaacigbfaa
open Go.RowKit

/-- One page of those that are owned: its cells; another one in its place; other slots in it. -/
theorem Own.pg_at {w : World} {S : Nat → Prop} {v : Value} {n : Nat} {ps : List Pg} (h : Own KPage 60 w S v n ps) {j : Nat} (hj : j < n) :
    ∃ g cap p a l c F, v = .slice (some ⟨g, 0, none⟩) n cap ∧ g < w.heap.size ∧ S g ∧ ps[j]? = some p ∧
      (w.cell? ⟨g, j * 4, none⟩ = some (.int .i64 p.kind) ∧ w.cell? ⟨g, j * 4 + 1, none⟩ = some (.int .i64 p.cls) ∧ w.cell? ⟨g, j * 4 + 2, none⟩ = some (.slice a l c) ∧ w.cell? ⟨g, j * 4 + 3, none⟩ = some (.int .i64 p.run)) ∧
      (w.frozen? ⟨g, j * 4, none⟩ = false ∧ w.frozen? ⟨g, j * 4 + 1, none⟩ = false ∧ w.frozen? ⟨g, j * 4 + 2, none⟩ = false ∧ w.frozen? ⟨g, j * 4 + 3, none⟩ = false) ∧
      (Own KBool 4 w F (.slice a l c) l p.used ∧ (∀ k, F k → S k ∧ k ≠ g ∧ k < w.heap.size) ∧ l ≤ c ∧ c ≤ maxLen) ∧
      (∀ (w1 : World) (q : Pg) (vq : Value) (m : Nat) (G : Nat → Prop), Turn (fun _ => False) w w1 → Own KBool 4 w1 G vq m q.used → (∀ k, G k → k < w.heap.size → ¬ S k) →
        Own KPage 60 ((((w1.setCell ⟨g, j * 4, none⟩ (.int .i64 q.kind)).setCell ⟨g, j * 4 + 1, none⟩ (.int .i64 q.cls)).setCell ⟨g, j * 4 + 2, none⟩ vq).setCell ⟨g, j * 4 + 3, none⟩ (.int .i64 q.run)) (fun k => S k ∨ G k) v n (ps.set j q) ∧
        Turn S w ((((w1.setCell ⟨g, j * 4, none⟩ (.int .i64 q.kind)).setCell ⟨g, j * 4 + 1, none⟩ (.int .i64 q.cls)).setCell ⟨g, j * 4 + 2, none⟩ vq).setCell ⟨g, j * 4 + 3, none⟩ (.int .i64 q.run)) ∧
        ((((w1.setCell ⟨g, j * 4, none⟩ (.int .i64 q.kind)).setCell ⟨g, j * 4 + 1, none⟩ (.int .i64 q.cls)).setCell ⟨g, j * 4 + 2, none⟩ vq).setCell ⟨g, j * 4 + 3, none⟩ (.int .i64 q.run)).cell? ⟨g, j * 4 + 2, none⟩ = some vq) ∧
      (∀ (w1 : World) (us : List Bool), Turn F w w1 → Own KBool 4 w1 F (.slice a l c) l us → Own KPage 60 w1 S v n (ps.set j ⟨p.kind, p.cls, us, p.run⟩) ∧ Turn S w w1) := by
  obtain ⟨g, cap, cs, F, p, rfl, hg, hp, hcl, hu, ho, hF, hst⟩ := h.focus hj
  obtain ⟨v0, l, rfl, hU⟩ := KPage_own ho
  obtain ⟨a, c, rfl, hlc, hcm, _⟩ := hU.shape
  rw [KPage_sz] at hu hst
  obtain ⟨c0, c1, c2, c3, hcs, g0, q0, q1, q2, q3, f0, f1, f2, f3⟩ := hu.cells4 rfl
  injection hcs with e0 hcs; injection hcs with e1 hcs; injection hcs with e2 hcs; injection hcs with e3
  subst e0 e1 e2 e3
  refine ⟨g, cap, p, a, l, c, F, rfl, g0, hg, hp, ⟨q0, q1, q2, q3⟩, ⟨f0, f1, f2, f3⟩, ⟨hU, hF, hlc, hcm⟩, fun w1 q vq m G hT hQ hG => ?_, fun w1 us hT hQ => ⟨?_, ?_⟩⟩
  · have hb := hT.none_
    have hT4 := Turn.set4 (w1 := w1) (g := g) (o0 := j * 4) (o1 := j * 4 + 1) (o2 := j * 4 + 2) (o3 := j * 4 + 3) (a := .int .i64 q.kind) (b := .int .i64 q.cls) (c := vq) (d := .int .i64 q.run)
    have hT5 : Turn (fun k => k = g) w _ := (Turn.of_below hb).trans hT4 (fun _ h _ => h)
    have hu1 := hu.turn (T := fun _ => False) hT (fun h => h)
    refine ⟨?_, hT5.mono (fun k hk _ => by rw [hk]; exact hg), (hu1.set4 rfl).cell.2.1 2 (by simp)⟩
    have hQ2 := hQ.turn hT4 (fun k hk _ e => hG k hk (by omega) (e ▸ hg))
    exact hst _ G _ q rfl (hT5.mono (fun k hk _ => .inr hk)) (hu1.set4 rfl) (KPage_own_mk hQ2) (fun k hk => .inr (fun h => hG k hk h.2 h.1))
  · have h1 := hst w1 F [.int .i64 p.kind, .int .i64 p.cls, .slice a l c, .int .i64 p.run] ⟨p.kind, p.cls, us, p.run⟩ rfl (hT.mono (fun k hk _ => .inl hk)) (hu.turn hT (fun h => (hF g h).2.1 rfl)) (KPage_own_mk (p := ⟨p.kind, p.cls, us, p.run⟩) hQ) (fun k hk => .inl hk)
    exact h1.mono (fun k hk _ => hk.elim id (fun h => (hF k h).1))
  · exact hT.mono (fun k hk _ => (hF k hk).1)
end Go.Proofs.Ytcnpckaacigbfaa

/- Chapter 4 of the program: copies of pages. -/
namespace Go.Proofs.Ytcnpckaacigbfaa
open Go.RowKit

/-- Plain cells of which nothing is said but what they are. -/
def KRaw (n : Nat) : Lay (List Value) where
  sz := n
  rd _ _ cs x := cs = x ∧ cs.length = n ∧ ∀ c ∈ cs, c.oneCell' = true
  own _ _ cs x := cs = x ∧ cs.length = n ∧ ∀ c ∈ cs, c.oneCell' = true
  rd_len h := h.2.1
  rd_turn h _ _ := h
  rd_mono h _ := h
  own_turn h _ _ := h
  own_mono h _ := h
  own_rd h := h
theorem flat_raw (n : Nat) : Flat (KRaw n) := fun _ _ _ _ _ _ h => h
theorem one_raw (n : Nat) : OneC (KRaw n) := fun _ _ _ _ h => h.2.2
theorem exists_list {α β : Type} {P : Nat → α → β → Prop} : ∀ {xs : List α}, (∀ j x, xs[j]? = some x → ∃ y, P j x y) → ∃ ys : List β, ys.length = xs.length ∧ ∀ j x, xs[j]? = some x → ∃ y, ys[j]? = some y ∧ P j x y
  | [], _ => ⟨[], rfl, fun j x h => by simp at h⟩
  | q :: r, h => by
    obtain ⟨y, hy⟩ := h 0 q (by simp)
    obtain ⟨ys, hl, hys⟩ := exists_list (P := fun j x y => P (j + 1) x y) (xs := r) (fun j x hj => h (j + 1) x (by simpa using hj))
    refine ⟨y :: ys, by simp [hl], fun j x hj => ?_⟩
    cases j with
    | zero => simp at hj; subst hj; exact ⟨y, by simp, hy⟩
    | succ j => obtain ⟨z, hz, hp⟩ := hys j x (by simpa using hj); exact ⟨z, by simpa using hz, hp⟩
theorem Lst.raw {α : Type} {K : Lay α} {w : World} {S : Nat → Prop} {ao : Option Addr} {n : Nat} {xs : List α} (h : Lst K w S ao n xs) (h1 : OneC K) :
    ∃ cks : List (List Value), Lst (KRaw K.sz) w S ao n cks ∧ ∀ (j : Nat) (x : α), xs[j]? = some x → ∃ cs, cks[j]? = some cs ∧ K.rd w S cs x := by
  have hl := h.1
  rcases Nat.eq_zero_or_pos n with rfl | h0
  · exact ⟨[], Lst.nil, fun j x hj => by have := (List.getElem?_eq_some_iff.1 hj).1; omega⟩
  · obtain ⟨b, off, rfl, hb, hs, hc⟩ := h.2 h0
    obtain ⟨cks, hcl, hck⟩ := exists_list (P := fun j x cs => cs.length = K.sz ∧ (∀ i, i < K.sz → w.cell? ⟨b, off + j * K.sz + i, none⟩ = cs[i]?) ∧ K.rd w S cs x) (xs := xs) hc
    refine ⟨cks, ⟨by omega, fun _ => ⟨b, off, rfl, hb, hs, fun j cs hj => ?_⟩⟩, fun j x hj => ?_⟩
    · have hjl := (List.getElem?_eq_some_iff.1 hj).1
      obtain ⟨cs', h2, h3, h4, h5⟩ := hck j (xs[j]'(by omega)) (List.getElem?_eq_getElem _)
      rw [hj] at h2; injection h2 with h2; subst h2
      exact ⟨cs, h3, h4, rfl, h3, h1 _ _ _ _ h5⟩
    · obtain ⟨cs', h2, h3, h4, h5⟩ := hck j x hj
      exact ⟨cs', h2, h5⟩
theorem Own.map {α β : Type} {K : Lay α} {K' : Lay β} {t : TypeId} {w : World} {S : Nat → Prop} {v : Value} {n : Nat} {xs : List α} {ys : List β} (h : Own K t w S v n xs) (hs : K'.sz = K.sz) (hl : ys.length = n)
    (hm : ∀ (w : World) (S : Nat → Prop) (cs : List Value) (j : Nat) (x : α) (y : β), xs[j]? = some x → ys[j]? = some y → K.own w S cs x → K'.own w S cs y) : Own K' t w S v n ys := by
  have hxl := h.1
  refine ⟨hl, ?_⟩
  rcases h.2 with h2 | ⟨g, cap, cur, F, hv, hg, hr, h1, h2, h3, hF, hD, hc⟩
  · exact .inl h2
  · refine .inr ⟨g, cap, cur, F, hv, hg, hr, h1, h2, by rw [hs]; exact h3, hF, hD, fun j y hj => ?_⟩
    have hjl := (List.getElem?_eq_some_iff.1 hj).1
    have hx : xs[j]? = some (xs[j]'(by omega)) := List.getElem?_eq_getElem _
    obtain ⟨cs, hcl, hcs, ho⟩ := hc j _ hx
    exact ⟨cs, by rw [hs]; exact hcl, by rw [hs]; exact hcs, hm _ _ _ _ _ _ hx hj ho⟩

theorem nil_none {α : Type} {K : Lay α} {w : World} {S : Nat → Prop} {n : Nat} {xs : List α} (h : Lst K w S none n xs) : n = 0 ∧ xs = [] := by
  have hn : n = 0 := by
    rcases Nat.eq_zero_or_pos n with h0 | h0
    · exact h0
    · obtain ⟨_, _, he, _⟩ := h.2 h0; cases he
  exact ⟨hn, List.eq_nil_of_length_eq_zero (by rw [h.1, hn])⟩

/-- What a copy of pages leaves that shares what they lead to. -/
def Shallow (w : World) (S : Nat → Prop) (n : Nat) (ps : List Pg) (e : Ending) (w' : World) : Prop :=
  ∃ v cks, e = .returned v ∧ Own (KRaw 4) 60 w' (fun k => w.heap.size ≤ k) v n cks ∧ (∀ (j : Nat) (p : Pg), ps[j]? = some p → ∃ cs, cks[j]? = some cs ∧ KPage.rd w S cs p) ∧ Below w.heap.size w w'
/-- Of the pages the first k are copied whole, of the others the cells alone. -/
def KMix : Lay (Pg ⊕ List Value) := KEither KPage (KRaw 4) rfl
def mixTo (ps : List Pg) (cks : List (List Value)) (k : Nat) : List (Pg ⊕ List Value) := (ps.take k).map .inl ++ (cks.drop k).map .inr
theorem length_mixTo {ps : List Pg} {cks : List (List Value)} {k : Nat} (h : cks.length = ps.length) (hk : k ≤ ps.length) : (mixTo ps cks k).length = ps.length := by simp [mixTo]; omega
theorem mixTo_at {ps : List Pg} {cks : List (List Value)} {k : Nat} {cs : List Value} (hk : k ≤ ps.length) (h : cks[k]? = some cs) : (mixTo ps cks k)[k]? = some (.inr cs) := by
  unfold mixTo
  rw [List.getElem?_append_right (by simp; omega)]
  simp only [List.length_map, List.length_take, Nat.min_eq_left hk, Nat.sub_self, List.getElem?_map, List.getElem?_drop, Nat.add_zero, h]; rfl
theorem mixTo_step {ps : List Pg} {cks : List (List Value)} {k : Nat} {p : Pg} (h : ps[k]? = some p) (hc : k < cks.length) : (mixTo ps cks k).set k (.inl p) = mixTo ps cks (k + 1) := by
  obtain ⟨hk, rfl⟩ := List.getElem?_eq_some_iff.1 h
  unfold mixTo
  have hl : ((ps.take k).map (Sum.inl (β := List Value))).length = k := by simp; omega
  rw [List.set_append_right _ _ (by omega), hl, Nat.sub_self, List.drop_eq_getElem_cons hc, List.map_cons, List.set_cons_zero, List.take_succ_eq_append_getElem hk, List.map_append, List.append_assoc]
  rfl

end Go.Proofs.Ytcnpckaacigbfaa

/- append(out, xs...) at a step of a region that draws its order. -/
namespace Go.Proofs.Ytcnpckaacigbfaa
open Go.RowKit

theorem Turn.drew_ (T : Nat → Prop) (w : World) : Turn T w w.drew := ⟨rfl, rfl, rfl, Nat.le_refl _, fun _ _ _ => rfl⟩
theorem Turn.undrew {T : Nat → Prop} {w w' : World} (h : Turn T w.drew w') : Turn T w w' := ⟨h.os, h.tape, h.output, h.size, h.block⟩
theorem Own.drew {α : Type} {K : Lay α} {t : TypeId} {w : World} {S : Nat → Prop} {v : Value} {n : Nat} {xs : List α} (h : Own K t w S v n xs) : Own K t w.drew S v n xs := h.turn (Turn.drew_ (fun _ => False) w) (fun _ _ _ h => h)
theorem Lst.drew {α : Type} {K : Lay α} {w : World} {S : Nat → Prop} {ao : Option Addr} {n : Nat} {xs : List α} (h : Lst K w S ao n xs) : Lst K w.drew S ao n xs := h.turn (Turn.drew_ (fun _ => False) w) (fun _ _ _ h => h)

section
variable {P : Program} {α : Type} {K : Lay α} {w : World} {S S' : Nat → Prop} {ops : Array Oper} {rest : List Oper} {o : Oper} {a : Act} {Q : Exit → Act → World → Prop} {K' : Act → World → Prop} {E : Prop}
/-- append(out, xs...), the elements flat. -/
theorem wp_append_flat (s x : Operand) (t : TypeId) (ho : o.op = .call { callee := .builtin .append, args := #[s, x], argTypes := #[t, t] })
    (e : TypeId) (i : TypeInfo) (z : Value) (bytes : Nat) (ht : P.underlying t = some (.slice e)) (hi : P.info? e = some i) (hz : i.zero = some z)
    (hsize : i.size = K.sz) (hby : i.bytes = bytes) (hzs : z.cells.size = K.sz) (hsz : 0 < K.sz) (hK : Flat K) (hone : OneC K)
    {v : Value} {n m c : Nat} {xs ys : List α} {ao : Option Addr} (hs : a.eval s = v) (hown : Own K e w S v n xs) (hx : a.eval x = .slice ao m c) (hr : Lst K w S' ao m ys)
    (h63 : n + m ≤ maxLen) (hbytes : (n + m) * bytes ≤ 140737488355328)
    (h : ∀ v' w', Own K e w' (fun k => S k ∨ w.heap.size ≤ k) v' (n + m) (xs ++ ys) → Turn S w w' → K' (a.put o.dst v') w') : Oper.wp P o a w K' Q := by
  obtain ⟨cells, hrow, hS, F, hF, hD, hc⟩ := hown.row
  obtain ⟨news, hnl, hnc, hne⟩ := hr.news
  have hxl := hown.1
  have hyl := hr.1
  have hone' : ∀ u ∈ news, u.oneCell' = true := by
    intro u hu
    obtain ⟨q, hq, rfl⟩ := List.getElem_of_mem hu
    have hqm : q / K.sz < m := Nat.div_lt_of_lt_mul (by rw [Nat.mul_comm]; omega)
    obtain ⟨cs, hcl, hcs, hrd⟩ := hne (q / K.sz) (ys[q / K.sz]'(by omega)) (List.getElem?_eq_getElem _)
    have h1 := hcs (q % K.sz) (Nat.mod_lt _ hsz)
    rw [Nat.mul_comm, Nat.div_add_mod, List.getElem?_eq_getElem hq] at h1
    exact hone _ _ _ _ hrd _ (List.mem_of_getElem? h1.symm)
  have hrun : ∃ v' w', (Builtin.append_ #[t, t] o.type #[v, .slice ao m c]).run P w = .ok v' w' ∧ w'.ownsRow 0 e K.sz v' (n + m) (cells ++ news) ∧ w.grownBy w' v.ownBlock ∧ (v'.ownBlock = v.ownBlock ∨ v'.ownBlock = some w.heap.size) := by
    cases ao with
    | none =>
      have hm : m = 0 := by
        rcases Nat.eq_zero_or_pos m with h0 | h0
        · exact h0
        · obtain ⟨_, _, h, _⟩ := hnc h0; cases h
      subst hm
      have hnn : news = [] := List.eq_nil_of_length_eq_zero (by simpa using hnl)
      subst hnn
      refine ⟨v, w, ?_, by simpa using hrow, ⟨rfl, rfl, rfl, Nat.le_refl _, fun _ _ _ => rfl⟩, .inl rfl⟩
      rcases hrow.2 with ⟨rfl, rfl⟩ | ⟨g, cap, cur, rfl, _, _, hcap, _⟩
      · simp [Builtin.append_, run_underlying ht, sizeOf, typeInfo, hi, Builtin.lenOf, Builtin.firstCells]
      · simp [Builtin.append_, run_underlying ht, sizeOf, typeInfo, hi, Builtin.lenOf, Builtin.firstCells, hcap, storeCells]
    | some ad =>
      have hcells : ∀ j u, news[j]? = some u → w.cell? (ad.add j) = some u := by
        intro j u hu
        rcases Nat.eq_zero_or_pos m with h0 | h0
        · subst h0
          have hnn : news = [] := List.eq_nil_of_length_eq_zero (by simpa using hnl)
          subst hnn; simp at hu
        · obtain ⟨b, off, he, hc'⟩ := hnc h0
          injection he with he; subst he
          rw [add_plain']; exact hc' j u hu
      obtain ⟨v', w', h1, h2, h3, _, h5⟩ := run_append_own_at (P := P) w 0 t o.type e i z K.sz bytes ht hi hz hsize hby hzs hsz v n cells hrow ad m c news hnl hcells hone' h63 hbytes (Nat.zero_le _)
      exact ⟨v', w', h1, h2, h3, h5⟩
  obtain ⟨v', w', hr1, h2, h3, h5⟩ := hrun
  unfold Oper.wp execOp
  simp only [ho, resolve, invoke, builtin, Sem.run_bind, Sem.run_pure, Result.andThen_ok, List.map_toArray, List.map_cons, List.map_nil, hs, hx, hr1]
  refine h v' w' ?_ ((Turn.of_grown h3).mono (fun k hk _ => hS k hk))
  have hcl : cells.length = n * K.sz := hrow.1
  refine Own.of_row (F := fun _ _ => False) h2 (by simp [hxl, hyl]) (fun g hg => ?_) (fun _ _ h => h.elim) (fun _ _ _ h => h.elim) (fun j y hj => ?_)
  · rcases h5 with h6 | h6
    · exact .inl (hS g (by rw [← h6]; exact hg))
    · rw [hg] at h6; injection h6 with h6; exact .inr (by omega)
  · by_cases e : j < n
    · rw [List.getElem?_append_left (by omega)] at hj
      obtain ⟨cs, h6, h7, h8⟩ := hc j y hj
      have := Nat.mul_le_mul_right K.sz (show j + 1 ≤ n by omega)
      rw [Nat.add_mul] at this
      exact ⟨cs, h6, fun i hi => by rw [List.getElem?_append_left (by omega)]; exact h7 i hi, hK w w' _ _ _ _ (K.own_rd h8)⟩
    · rw [List.getElem?_append_right (by omega)] at hj
      obtain ⟨cs, h6, h7, h8⟩ := hne _ y hj
      refine ⟨cs, h6, fun i hi => ?_, hK w w' _ _ _ _ h8⟩
      have hle := Nat.mul_le_mul_right K.sz (show n ≤ j by omega)
      rw [List.getElem?_append_right (by omega), ← h7 i hi, hcl, hxl, Nat.sub_mul]
      congr 1; omega
/-- The same at a step of a region that draws its order. -/
theorem step_append_flat (hgd : o.guard = none) (s x : Operand) (t : TypeId) (ho : o.op = .call { callee := .builtin .append, args := #[s, x], argTypes := #[t, t] })
    (e : TypeId) (i : TypeInfo) (z : Value) (bytes : Nat) (ht : P.underlying t = some (.slice e)) (hi : P.info? e = some i) (hz : i.zero = some z)
    (hsize : i.size = K.sz) (hby : i.bytes = bytes) (hzs : z.cells.size = K.sz) (hsz : 0 < K.sz) (hK : Flat K) (hone : OneC K)
    {v : Value} {n m c : Nat} {xs ys : List α} {ao : Option Addr} (hs : a.eval s = v) (hown : Own K e w S v n xs) (hx : a.eval x = .slice ao m c) (hr : Lst K w S' ao m ys)
    (h63 : n + m ≤ maxLen) (hbytes : (n + m) * bytes ≤ 140737488355328)
    (h : ∀ v' w', Own K e w' (fun k => S k ∨ w.heap.size ≤ k) v' (n + m) (xs ++ ys) → Turn S w w' → K' (a.put o.dst v') w') :
    if Region.wanted o (yielded ops a.tmps) = true then Oper.wp P o a w K' Q else E := by
  have hw : Region.wanted o (yielded ops a.tmps) = true := by simp [Region.wanted, hgd]
  rw [if_pos hw]
  exact wp_append_flat s x t ho e i z bytes ht hi hz hsize hby hzs hsz hK hone hs hown hx hr h63 hbytes h
end
end Go.Proofs.Ytcnpckaacigbfaa

namespace Go.Proofs.Ytcnpckaacigbfaa
open Go.RowKit

section
variable {P : Program} {α : Type} {K : Lay α} {w : World} {S : Nat → Prop} {ops : Array Oper} {rest : List Oper} {o : Oper} {a : Act} {Q : Exit → Act → World → Prop}
theorem wpList_append_zeros (hgd : o.guard = none) (s x : Operand) (t tn : TypeId) (ho : o.op = .call { callee := .builtin .append, args := #[s, x], argTypes := #[t, tn] })
    (e : TypeId) (i : TypeInfo) (z : Value) (bytes : Nat) (kn kq : IntKind) (ht : P.underlying t = some (.slice e)) (htn : P.underlying tn = some (.int kn)) (hi : P.info? e = some i) (hz : i.zero = some z)
    (hsize : i.size = K.sz) (hby : i.bytes = bytes) (hzs : z.cells.size = K.sz) (hsz : 0 < K.sz)
    {g n k : Nat} {xs : List α} {y : α} (hs : a.eval s = .slice (some ⟨g, 0, none⟩) n n) (hown : Own K e w S (.slice (some ⟨g, 0, none⟩) n n) n xs) (hx : a.eval x = .int kq k) (hy : ∀ w, K.own w (fun _ => False) z.cells.toList y)
    (h0 : 0 < k) (h63 : n + k ≤ maxLen) (hbytes : (n + k) * bytes ≤ 140737488355328)
    (h : ∀ v' w', Own K e w' (fun j => S j ∨ w.heap.size ≤ j) v' (n + k) (xs ++ List.replicate k y) → Below w.heap.size w w' → wpList P ops Q rest (a.put o.dst v') w') : wpList P ops Q (o :: rest) a w := by
  obtain ⟨cells, hrow, hS, F, hF, hD, hc⟩ := hown.row
  subst hby
  have hsmall : n + k ≤ 9223372036854775807 := by simp only [maxLen] at h63; omega
  have hkb : k * i.bytes ≤ 140737488355328 := Nat.le_trans (Nat.mul_le_mul_right _ (by omega)) hbytes
  have hrun := Lib.run_append_grow_zeros w t tn o.type e i z kq kn ht htn hi hz (some ⟨g, 0, none⟩) n n cells
    (run_firstCells_some (P := P) w.drew i.size n ⟨g, 0, none⟩ n n cells (by rw [hsize]; exact hrow.1) (by simpa using hrow.cells (g := g) rfl)) k h0 (by omega) (by omega) (by omega) (by omega) (growslice_fits (by omega) hbytes)
  refine wpList_plain hgd fun K' hK' => ?_
  unfold Oper.wp execOp
  simp only [ho, resolve, invoke, builtin, Sem.run_bind, Sem.run_pure, Result.andThen_ok, List.map_toArray, List.map_cons, List.map_nil, hs, hx, hrun]
  have hge := grownCap_ge w (n + k) n e
  have hle := grownCap_le_maxLen w (n + k) n e h63
  have hb : Below w.heap.size w (w.drew.alloc (.cells (cells.toArray ++ Builtin.zeroCells z.cells k ++ Builtin.zeroCells z.cells (grownCap w (n + k) n e - (n + k))) e)) := Turn.none_ ((Turn.drew_ _ w).trans (Turn.alloc _ w.drew _) (fun _ h _ => h))
  refine hK' _ _ (h _ _ ?_ hb)
  have hcl : cells.length = n * K.sz := hrow.1
  have hzl : (Builtin.zeroCells z.cells k).size = k * K.sz := by rw [size_zeroCells, hzs]
  have hzt : (Builtin.zeroCells z.cells k).toList.length = k * K.sz := hzl
  have hxl := hown.1
  refine Own.of_row (F := fun j q => q < w.heap.size ∧ F j q) (cells := cells ++ (Builtin.zeroCells z.cells k).toList) ⟨?_, .inr ⟨w.heap.size, _, _, rfl, Nat.zero_le _, heap_alloc_new w.drew _, hge, hle, ?_, ?_⟩⟩ (by simp [hxl]) (fun g' hg' => ?_) (fun j q hq => ⟨.inl (hF j q hq.2).1, fun e => ?_⟩) (fun i j q hi hj => hD i j q hi.2 hj.2) (fun j y' hj => ?_)
  · rw [List.length_append, hzt, hcl, Nat.add_mul]
  · simp only [Array.size_append, List.size_toArray, size_zeroCells, hzs, hcl, ← Nat.add_mul]; congr 1; omega
  · have e1 : (n + k) * K.sz = (cells ++ (Builtin.zeroCells z.cells k).toList).length := by rw [List.length_append, hzt, hcl, Nat.add_mul]
    simp only [Array.toList_append]
    rw [e1]; exact List.take_left
  · simp [Value.ownBlock] at hg'; exact .inr (by omega)
  · simp [Value.ownBlock] at e; omega
  · by_cases hjn : j < n
    · rw [List.getElem?_append_left (by omega)] at hj
      obtain ⟨cs, h6, h7, h8⟩ := hc j y' hj
      have := Nat.mul_le_mul_right K.sz (show j + 1 ≤ n by omega)
      rw [Nat.add_mul] at this
      refine ⟨cs, h6, fun i hi => by rw [List.getElem?_append_left (by omega)]; exact h7 i hi, ?_⟩
      exact K.own_turn (T := fun _ => False) (K.own_mono h8 (fun q hq hl => ⟨hl, hq⟩)) (Turn.of_below hb) (fun _ _ _ h => h)
    · rw [List.getElem?_append_right (by omega), List.getElem?_replicate] at hj
      split at hj
      · rename_i hjk
        injection hj with hj; subst hj
        refine ⟨z.cells.toList, by simpa using hzs, fun i hi => ?_, K.own_mono (hy _) (fun _ h _ => h.elim)⟩
        have hle := Nat.mul_le_mul_right K.sz (show n ≤ j by omega)
        rw [List.getElem?_append_right (by omega), hcl, show j * K.sz + i - n * K.sz = (j - xs.length) * K.sz + i by rw [hxl, Nat.sub_mul]; omega]
        have h2 := Nat.mul_le_mul_right K.sz (show j - xs.length + 1 ≤ k by omega)
        rw [Nat.add_mul] at h2
        have h3 : ((j - xs.length) * K.sz + i) % z.cells.size = i := by rw [hzs, Nat.mul_comm, Nat.mul_add_mod, Nat.mod_eq_of_lt hi]
        have h4 : (j - xs.length) * K.sz + i < k * z.cells.size := by rw [hzs]; omega
        simp only [hzs] at h3 h4
        simp [Builtin.zeroCells, hzs, hi]
        exact ⟨_, List.getElem?_range h4, by rw [h3]; simp [hzs, hi]⟩
      · cases hj
end
end Go.Proofs.Ytcnpckaacigbfaa

/- slices.Sort at []int64, by the library's contract: its functions and types at this program. -/
namespace Go.Proofs.Ytcnpckaacigbfaa
open Go.Shelf Go.RowKit
def sortInts_ren : Go.Shelf.Ren := ⟨fun | 53 => 74 | 64 => 100 | 63 => 99 | 78 => 119 | 79 => 120 | 70 => 110 | 71 => 111 | 72 => 112 | 73 => 113 | 74 => 114 | 75 => 115 | 59 => 116 | 76 => 117 | 77 => 118 | 88 => 124 | 89 => 125 | 90 => 126 | 91 => 127 | 92 => 128 | 68 => 129 | 96 => 130 | n => n, fun | 22 => 23 | 23 => 2 | 3 => 3 | 51 => 122 | 0 => 0 | 67 => 137 | 69 => 139 | 4 => 4 | 61 => 130 | 60 => 129 | 44 => 134 | 5 => 5 | 9 => 9 | 75 => 143 | 79 => 147 | 83 => 149 | 84 => 150 | n => n, fun | n => n⟩
theorem sortInts : Go.Proofs.SlLaysN.n53 Try.prog sortInts_ren := {
  mixed := by kernel_rfl
  f53 := ⟨Try.f74.name, by decide, Try.func74.trans (congrArg some (by kernel_rfl))⟩
  f59 := ⟨Try.f116.name, by decide, Try.func116.trans (congrArg some (by kernel_rfl))⟩
  f63 := ⟨Try.f99.name, by decide, Try.func99.trans (congrArg some (by kernel_rfl))⟩
  f64 := Try.func100.trans (congrArg some (by kernel_rfl))
  f68 := ⟨Try.f129.name, by decide, Try.func129.trans (congrArg some (by kernel_rfl))⟩
  f70 := ⟨Try.f110.name, by decide, Try.func110.trans (congrArg some (by kernel_rfl))⟩
  f71 := ⟨Try.f111.name, by decide, Try.func111.trans (congrArg some (by kernel_rfl))⟩
  f72 := ⟨Try.f112.name, by decide, Try.func112.trans (congrArg some (by kernel_rfl))⟩
  f73 := ⟨Try.f113.name, by decide, Try.func113.trans (congrArg some (by kernel_rfl))⟩
  f74 := ⟨Try.f114.name, by decide, Try.func114.trans (congrArg some (by kernel_rfl))⟩
  f75 := ⟨Try.f115.name, by decide, Try.func115.trans (congrArg some (by kernel_rfl))⟩
  f76 := ⟨Try.f117.name, by decide, Try.func117.trans (congrArg some (by kernel_rfl))⟩
  f77 := ⟨Try.f118.name, by decide, Try.func118.trans (congrArg some (by kernel_rfl))⟩
  f78 := Try.func119.trans (congrArg some (by kernel_rfl))
  f79 := Try.func120.trans (congrArg some (by kernel_rfl))
  f88 := ⟨Try.f124.name, by decide, Try.func124.trans (congrArg some (by kernel_rfl))⟩
  f89 := Try.func125.trans (congrArg some (by kernel_rfl))
  f90 := Try.func126.trans (congrArg some (by kernel_rfl))
  f91 := ⟨Try.f127.name, by decide, Try.func127.trans (congrArg some (by kernel_rfl))⟩
  f92 := ⟨Try.f128.name, by decide, Try.func128.trans (congrArg some (by kernel_rfl))⟩
  f96 := ⟨Try.f130.name, by decide, Try.func130.trans (congrArg some (by kernel_rfl))⟩
  t0 := Try.underlying0
  a0 := Try.isAgg0
  z0 := Try.sizeOf0
  v0 := Try.zeroValue0
  t3 := Try.underlying3
  a3 := Try.isAgg3
  z3 := Try.sizeOf3
  v3 := Try.zeroValue3
  t4 := Try.underlying4
  a4 := Try.isAgg4
  z4 := Try.sizeOf4
  v4 := Try.zeroValue4
  t5 := Try.underlying5
  a5 := Try.isAgg5
  z5 := Try.sizeOf5
  v5 := Try.zeroValue5
  t9 := Try.underlying9
  a9 := Try.isAgg9
  z9 := Try.sizeOf9
  v9 := Try.zeroValue9
  t22 := Try.underlying23
  a22 := Try.isAgg23
  z22 := Try.sizeOf23
  v22 := Try.zeroValue23
  t23 := Try.underlying2
  a23 := Try.isAgg2
  z23 := Try.sizeOf2
  v23 := Try.zeroValue2
  t44 := Try.underlying134
  a44 := Try.isAgg134
  z44 := Try.sizeOf134
  v44 := Try.zeroValue134
  t51 := Try.underlying122
  a51 := Try.isAgg122
  z51 := Try.sizeOf122
  v51 := Try.zeroValue122
  t60 := Try.underlying129
  a60 := Try.isAgg129
  z60 := Try.sizeOf129
  v60 := Try.zeroValue129
  t61 := Try.underlying130
  a61 := Try.isAgg130
  z61 := Try.sizeOf130
  v61 := Try.zeroValue130
  t67 := Try.underlying137
  a67 := Try.isAgg137
  z67 := Try.sizeOf137
  v67 := Try.zeroValue137
  t69 := Try.underlying139
  a69 := Try.isAgg139
  z69 := Try.sizeOf139
  v69 := Try.zeroValue139
  t75 := Try.underlying143
  a75 := Try.isAgg143
  z75 := Try.sizeOf143
  v75 := Try.zeroValue143
  t79 := Try.underlying147
  a79 := Try.isAgg147
  z79 := Try.sizeOf147
  v79 := Try.zeroValue147
  t83 := Try.underlying149
  a83 := Try.isAgg149
  z83 := Try.sizeOf149
  v83 := Try.zeroValue149
  t84 := Try.underlying150
  a84 := Try.isAgg150
  z84 := Try.sizeOf150
  v84 := Try.zeroValue150
}

open Go.Sort in
theorem sortInts_calls {b o n c : Nat} {xs : List Int} {w : World} (hH : Holds (Value.int .i64) w b o xs.toArray) (hb : b < w.heap.size) (hl : xs.length = n) (hn : n ≤ 17592186044416) :
    Calls Try.prog 74 #[.slice (some ⟨b, o, none⟩) n c] w fun e w' =>
      e = .returned (.tuple #[]) ∧ ∃ n os, w' = grow (putRow (Value.int .i64) (Sort.ahead w n) b o (xs.mergeSort fun x y => decide (x ≤ y)).toArray) os := by
  subst hl
  exact AnyG.slices_Sort_int (P := Try.prog) (ρ := sortInts_ren) sortInts b o c xs w hH hb (by omega)
theorem sortNone_calls {a : Option Addr} {c : Nat} {w : World} :
    Calls Try.prog 74 #[.slice a 0 c] w fun e w' => e = .returned (.tuple #[]) ∧ w = w' := by
  exact (AnyG.slices_Sort_int_none (P := Try.prog) (ρ := sortInts_ren) sortInts a c w).mono fun e w' h => ⟨h.1, h.2.symm⟩
end Go.Proofs.Ytcnpckaacigbfaa

/- Slices of whole numbers as chapter 5 of the program has them: copied, looked through, compared, joined; two that are alike. -/
namespace Go.Proofs.Ytcnpckaacigbfaa
open Go.RowKit

theorem Own.ints {t : TypeId} {w : World} {S : Nat → Prop} {ao : Option Addr} {m c n : Nat} {xs : List Int} (h : Own KInt t w S (.slice ao m c) n xs) : Ints w ao n xs := h.lst.2.2.2.ints
theorem Lst.of_ints {w : World} {S : Nat → Prop} {ao : Option Addr} {n : Nat} {xs : List Int} (h : Ints w ao n xs) (hS : ∀ k, k < w.heap.size → S k) : Lst KInt w S ao n xs := h.lst.mono (fun k _ hk => hS k hk)

theorem areWords_calls {a : Option Addr} {n c : Nat} {xs : List Int} {w : World} (ha : Ints w a n xs) (hx : n ≤ 17592186044416) :
    Calls Try.prog 40 #[.slice a n c] w fun e w' => e = .returned (.bool (within (-1000000000) 1000000000 xs)) ∧ w = w' := by
  have HL := Lib.hid ha.1
  go_enter Try.func40, Try.ntmps40
  go_wp2_with (go_at_call 51; refine (allWithin_calls ha hx).mono ?_; rintro e w' ⟨rfl, rfl⟩)
  go_ret
  exact ⟨rfl, rfl⟩

set_option maxHeartbeats 400000 in
theorem frameAt_calls {a : Option Addr} {n c f : Nat} {xs : List Int} {w : World} (ha : Ints w a n xs) (hf : (f + 1) * 16 ≤ n) (hc : n ≤ c) (hx : n ≤ 17592186044416) :
    Calls Try.prog 77 #[.slice a n c, .int .i64 f] w fun e w' => e = .returned (.agg ((frameOf xs f).map (Value.int .i64)).toArray) ∧ Below w.heap.size w w' := by
  obtain ⟨b, off, rfl, hb, hcell⟩ := ha.2 (by omega)
  have HL := Lib.hid ha.1
  have hsa := fun w c' => run_arrayAt Try.prog w 101 2 16 Try.underlying101 (some ⟨b, off + f * 16, none⟩) (n - f * 16) c' (by omega)
  have hr : w.rangeAt b (off + f * 16) ((frameOf xs f).map (Value.int .i64)) := by
    intro j v hv
    rw [List.getElem?_map] at hv
    have hj : j < 16 := by
      rcases Nat.lt_or_ge j 16 with h | h
      · exact h
      · rw [List.getElem?_eq_none (by rw [length_frameOf (by rw [HL.out]; exact hf)]; exact h)] at hv; cases hv
    have hg := getD_frameOf (xs := xs) (f := f) hj
    rw [List.getElem?_eq_getElem (by rw [length_frameOf (by rw [HL.out]; exact hf)]; exact hj)] at hv
    simp at hv
    rw [Nat.add_assoc, hcell (f * 16 + j) (by omega), ← hg, ← hv]
    simp [List.getD, length_frameOf (show (f + 1) * 16 ≤ xs.length by rw [HL.out]; exact hf), hj]
  have hlf : ((frameOf xs f).map (Value.int .i64)).length = 16 := by rw [List.length_map, length_frameOf (by rw [HL.out]; exact hf)]
  have HR := Lib.hid hr
  have HLF := Lib.hid hlf
  clear hr hlf
  obtain ⟨cs, hcs⟩ : ∃ cs, cs = (frameOf xs f).map (Value.int .i64) := ⟨_, rfl⟩
  rw [← hcs] at HR HLF
  have hone : ∀ v ∈ cs, v.oneCell' = true := by rw [hcs]; exact ints_oneCell _ _
  rw [← hcs]
  have HO := Lib.hid hone
  have HSZ : Hid (cs.toArray.size = 16) := by have := HLF.out; simpa [Hid] using this
  clear hone hcs
  go_enter Try.func77, Try.ntmps77
  go_wp2_with (first
    | (with_reducible refine wpList_load_mid rfl 101 (.tmp 9) rfl b (off + f * 16) rfl cs _ (World.rangeAt_alloc HR.out _) Try.underlying101 rfl (by rw [HLF.out]; kernel_rfl) ?_)
    | (refine wpList_store_row rfl 101 (.tmp 4) (.tmp 10) rfl w.heap.size cs.toArray rfl rfl _ _ (heap_alloc_new _ _) (by rw [HSZ.out]; kernel_rfl) (by exact HSZ.out.symm) (all_oneCell_toArray HO.out) ?_))
  have hrow := setRow_heap (w.alloc (.cells [Value.int .i64 0, .int .i64 0, .int .i64 0, .int .i64 0, .int .i64 0, .int .i64 0, .int .i64 0, .int .i64 0, .int .i64 0, .int .i64 0, .int .i64 0, .int .i64 0, .int .i64 0, .int .i64 0, .int .i64 0, .int .i64 0].toArray 101)) w.heap.size _ cs.toArray _ _ (heap_alloc_new _ _)
  refine bodyPost_ret (results_cell_row rfl _ _ w.heap.size _ cs.toArray _ _ rfl hrow Try.underlying101 rfl (by rw [HSZ.out]; kernel_rfl)) rfl ⟨rfl, ?_⟩
  exact below_setRow ((Below.refl _ _).alloc (Nat.le_refl _) _) (Nat.le_refl _) _

theorem cloneI_calls {a : Option Addr} {n c : Nat} {us : List Int} {S : Nat → Prop} {w : World} (hu : Lst KInt w S a n us) (hn : n ≤ 1099511627776) :
    Calls Try.prog 71 #[.slice a n c] w fun e w' => ∃ v, e = .returned v ∧ Own KInt 2 w' (fun k => w.heap.size ≤ k) v n us ∧ Below w.heap.size w w' := by
  obtain ⟨ib, hib, hb0, hb1, hb2⟩ := info_parts info64
  have qT : ∀ (w : World) (a : Option Addr) (n c n' c' : Nat), (binOp .eql 23 (.slice a n c) (.slice none n' c')).run Try.prog w = .ok (.bool a.isNone) w := fun w a n c n' c' => Lib.run_eql_slice_nil w _ _ a n c n' c' Try.underlying23
  rcases a with _ | ad
  · obtain ⟨rfl, rfl⟩ := nil_none hu
    go_enter Try.func71, Try.ntmps71
    go_wp2_with fail
    go_ret
    exact ⟨_, rfl, Own.nil, Below.refl _ _⟩
  · have hE : Own KInt 2 (w.alloc (.cells #[] 2)) (fun q => q = w.heap.size) (.slice (some ⟨w.heap.size, 0, none⟩) 0 0) 0 [] := Own.empty (heap_alloc_new w (.cells #[] 2)) rfl
    go_enter Try.func71, Try.ntmps71
    go_wp2_with (
      at_builtin
      refine wpList_append_flat (K := KInt) rfl (.tmp 5) (.tmp 6) 23 rfl 2 ib (.int .i64 0) 8 Try.underlying23 hib hb0 hb1 hb2 rfl (by decide) flat_int one_int (v := .slice (some ⟨w.heap.size, 0, none⟩) 0 0) (n := 0) (ao := some ad) (m := n) (c := c) rfl hE rfl (hu.alloc _) (by unfold maxLen; omega) (by omega) ?_
      intro v1 w1 ho1 ht1
      simp only [Nat.zero_add, List.nil_append] at ho1
      have H1 := Lib.hid (And.intro ho1 ht1)
      clear ho1 ht1)
    go_ret
    refine ⟨v1, rfl, H1.out.1.mono (fun k hk _ => by rcases hk with h | h <;> (try simp at h) <;> omega), H1.out.2.below ((Below.refl _ _).alloc (Nat.le_refl _) _) (by simp) (fun k hk => by omega)⟩

theorem l1Ints_calls {a : Option Addr} {n c : Nat} {us : List Int} {S : Nat → Prop} {w : World} (hu : Lst KInt w S a n us) (hn : n ≤ 1099511627776) :
    Calls Try.prog 67 #[.slice a n c] w fun e w' => ∃ v, e = .returned v ∧ Own KInt 2 w' (fun k => w.heap.size ≤ k) v n us ∧ Below w.heap.size w w' := by
  obtain ⟨ib, hib, hb0, hb1, hb2⟩ := info_parts info64
  have hE : Own KInt 2 (w.alloc (.cells #[] 2)) (fun q => q = w.heap.size) (.slice (some ⟨w.heap.size, 0, none⟩) 0 0) 0 [] := Own.empty (heap_alloc_new w (.cells #[] 2)) rfl
  go_enter Try.func67, Try.ntmps67
  go_wp2_with (
    at_builtin
    refine wpList_append_flat (K := KInt) rfl (.tmp 3) (.tmp 4) 23 rfl 2 ib (.int .i64 0) 8 Try.underlying23 hib hb0 hb1 hb2 rfl (by decide) flat_int one_int (v := .slice (some ⟨w.heap.size, 0, none⟩) 0 0) (n := 0) (ao := a) (m := n) (c := c) rfl hE rfl (hu.alloc _) (by unfold maxLen; omega) (by omega) ?_
    intro v1 w1 ho1 ht1
    simp only [Nat.zero_add, List.nil_append] at ho1
    have H1 := Lib.hid (And.intro ho1 ht1)
    clear ho1 ht1)
  go_ret
  refine ⟨v1, rfl, H1.out.1.mono (fun k hk _ => by rcases hk with h | h <;> (try simp at h) <;> omega), H1.out.2.below ((Below.refl _ _).alloc (Nat.le_refl _) _) (by simp) (fun k hk => by omega)⟩

/-- The first place of a number, or -1. -/
def idxI (v : Int) : List Int → Nat → Int
  | [], _ => -1
  | x :: r, k => if x = v then k else idxI v r (k + 1)
theorem idxI_hasIn (v : Int) : ∀ (xs : List Int) (k : Nat), decide (0 ≤ idxI v xs k) = hasIn xs v
  | [], k => by simp [idxI, hasIn]
  | x :: r, k => by
    unfold idxI
    by_cases h : x = v
    · subst h; simp [hasIn]
    · rw [if_neg h, idxI_hasIn v r (k + 1)]
      simp only [hasIn, List.contains_cons]
      simp; grind
theorem idx_contains {xs : List Int} {v : Int} (h : hasIn xs v = true) : 0 ≤ idxI v xs 0 := by have := idxI_hasIn v xs 0; rw [h] at this; simpa using this
theorem idx_lacks {xs : List Int} {v : Int} (h : hasIn xs v = false) : ¬ (0 ≤ idxI v xs 0) := by have := idxI_hasIn v xs 0; rw [h] at this; simpa using this

theorem indexI_calls {a : Option Addr} {n c : Nat} {v : Int} {us : List Int} {w : World} (hu : Ints w a n us) (hn : n ≤ 17592186044416) :
    Calls Try.prog 105 #[.slice a n c, .int .i64 v] w fun e w' => e = .returned (.int .i64 (idxI v us 0)) ∧ w = w' := by
  have HL := Lib.hid hu.1
  go_enter Try.func105, Try.ntmps105
  go_wp2_with fail
  go_loop [5, 8] (fun _ i => ∃ k : Nat, k ≤ n ∧ i = .int .i64 k ∧ Hid (idxI v us 0 = idxI v (us.drop k) k)) (fun _ i => n - (intOf i).toNat)
  case atStart => exact ⟨0, Nat.zero_le _, rfl, rfl⟩
  case round =>
    obtain ⟨k, hk, rfl, HW⟩ := hrel
    by_cases hlt : k < n
    · obtain ⟨ba, oa, rfl, hba, hca⟩ := hu.at_ hlt
      have hx : us[k]? = some (us.getD k 0) := by rw [List.getD_eq_getElem?_getD, List.getElem?_eq_getElem (by rw [HL.out]; exact hlt)]; rfl
      generalize us.getD k 0 = u at hca hx
      have HS : Hid (idxI v us 0 = if u = v then (k : Int) else idxI v (us.drop (k + 1)) (k + 1)) := by have := HW.out; rw [drop_at hx, idxI] at this; exact this
      clear hx
      by_cases huv : u = v
      · have HF : Hid (idxI v us 0 = k) := by have := HS.out; rw [if_pos huv] at this; exact this
        have hq : (v == u) = true := by simp [huv]
        clear huv
        go_wp2_with fail
        go_ret
        exact ⟨ret_int HF.out.symm, rfl⟩
      · have HF : Hid (idxI v us 0 = idxI v (us.drop (k + 1)) (k + 1)) := by have := HS.out; rw [if_neg huv] at this; exact this
        have hq : (v == u) = false := by simpa using fun h => huv h.symm
        clear huv
        go_wp2_with fail
        go_round
        case rel => exact ⟨k + 1, by omega, by go_num, HF⟩
        case measure => simp [intOf]; omega
    · have HF : Hid (idxI v us 0 = -1) := by have := HW.out; rw [drop_end (by rw [HL.out]; omega), idxI] at this; exact this
      go_wp2_with fail
      go_ret
      exact ⟨ret_int HF.out.symm, rfl⟩

theorem containsI_calls {a : Option Addr} {n c : Nat} {v : Int} {us : List Int} {w : World} (hu : Ints w a n us) (hn : n ≤ 17592186044416) :
    Calls Try.prog 86 #[.slice a n c, .int .i64 v] w fun e w' => e = .returned (.bool (hasIn us v)) ∧ w = w' := by
  rcases hx : hasIn us v with _ | _
  · have h0 := idx_lacks hx
    clear hx
    go_enter Try.func86, Try.ntmps86
    go_wp2_with fail
    refine (indexI_calls hu hn).mono ?_
    rintro e w1 ⟨rfl, rfl⟩
    go_wp2_with fail
    go_ret
    exact ⟨ret_bool (by simpa using h0), rfl⟩
  · have h0 := idx_contains hx
    clear hx
    go_enter Try.func86, Try.ntmps86
    go_wp2_with fail
    refine (indexI_calls hu hn).mono ?_
    rintro e w1 ⟨rfl, rfl⟩
    go_wp2_with fail
    go_ret
    exact ⟨ret_bool (by simp), rfl⟩
end Go.Proofs.Ytcnpckaacigbfaa

/- Lists of whole numbers compared; lists of lists; slices that are joined, sorted; two that are alike. -/
namespace Go.Proofs.Ytcnpckaacigbfaa
open Go.RowKit

set_option maxHeartbeats 1000000 in
theorem equalI_calls {a b : Option Addr} {n m c d : Nat} {us vs : List Int} {w : World} (ha : Ints w a n us) (hb : Ints w b m vs) (hn : n ≤ 17592186044416) (hm : m ≤ 17592186044416) :
    Calls Try.prog 62 #[.slice a n c, .slice b m d] w fun e w' => e = .returned (.bool (decide (us = vs))) ∧ Below w.heap.size w w' := by
  have HL := Lib.hid ha.1
  have HL2 := Lib.hid hb.1
  by_cases hnm : n = m
  rotate_left
  · have HF : Hid (decide (us = vs) = false) := by show _ = _; rw [decide_eq_false_iff_not]; rintro rfl; exact hnm (HL.out.symm.trans HL2.out)
    have hq : ((n : Int) != (m : Int)) = true := by simp; omega
    go_enter Try.func62, Try.ntmps62
    go_wp2_with fail
    go_ret
    exact ⟨ret_bool HF.out.symm, Below.refl _ _⟩
  subst hnm
  have hq : ((n : Int) != (n : Int)) = false := by simp
  go_enter Try.func62, Try.ntmps62
  go_wp2_with fail
  go_loopw [5, 13] (fun _ i wr => ∃ k : Nat, k ≤ n ∧ i = .int .i64 k ∧ Hid (SameUpto us vs k) ∧ Below w.heap.size w wr) (fun _ i _ => n - (intOf i).toNat)
  case atStart => exact ⟨0, Nat.zero_le _, rfl, fun j hj => by omega, Below.refl _ _⟩
  case round =>
    obtain ⟨k, hk, rfl, HJ, hbw⟩ := hrel
    by_cases hlt : k < n
    · obtain ⟨g0, s0, rfl, hg0, hc0⟩ := (ha.below hbw).at_ hlt
      obtain ⟨g1, s1, rfl, hg1, hc1⟩ := (hb.below hbw).at_ hlt
      have hx0 : us[k]? = some (us.getD k 0) := by rw [List.getD_eq_getElem?_getD, List.getElem?_eq_getElem (by rw [HL.out]; exact hlt)]; rfl
      have hx1 : vs[k]? = some (vs.getD k 0) := by rw [List.getD_eq_getElem?_getD, List.getElem?_eq_getElem (by rw [HL2.out]; exact hlt)]; rfl
      have HX := Lib.hid (And.intro hx0 hx1)
      generalize us.getD k 0 = u0 at hc0 HX
      generalize vs.getD k 0 = u1 at hc1 HX
      clear hx0 hx1
      by_cases hu : u0 = u1
      · have HN := Lib.hid (HJ.out.succ (HX.out.1.trans (by rw [hu]; exact HX.out.2.symm)))
        subst hu
        have hq2 : (u0 != u0) = false := by simp
        go_wp2_with (go_quiet (fail))
        go_roundw
        case rel => exact ⟨k + 1, by omega, by go_num, HN, below_drewN hbw _⟩
        case measure => simp [intOf]; omega
      · have HF : Hid (decide (us = vs) = false) := by
          show _ = _; rw [decide_eq_false_iff_not]; exact differ_at HX.out.1 HX.out.2 hu
        have hq2 : (u0 != u1) = true := by simpa using hu
        clear hu
        go_wp2_with (go_quiet (fail))
        go_ret
        exact ⟨ret_bool HF.out.symm, below_drewN hbw _⟩
    · have HF : Hid (decide (us = vs) = true) := by show _ = _; rw [decide_eq_true_iff]; exact HJ.out.all (by rw [HL.out]; omega) (by rw [HL2.out]; omega)
      go_wp2_with fail
      go_ret
      exact ⟨ret_bool HF.out.symm, hbw⟩

/-- A magazine: a slice of whole numbers in one cell. -/
def KMag : Lay (List Int) := KSlice KInt 2
theorem KMag_sz : KMag.sz = 1 := rfl
theorem one_mag : OneC KMag := one_slice KInt _
/-- No list of lists has a longer one than this. -/
def ShortM (N : Nat) (ms : List (List Int)) : Prop := ∀ m ∈ ms, m.length ≤ N
theorem ShortM.at_ {N : Nat} {ms : List (List Int)} (h : ShortM N ms) {k : Nat} {m : List Int} (hk : ms[k]? = some m) : m.length ≤ N := h m (List.mem_of_getElem? hk)
theorem ShortM.more {N M : Nat} {ms : List (List Int)} (h : ShortM N ms) (hM : N ≤ M) : ShortM M ms := fun p hp => Nat.le_trans (h p hp) hM
/-- One list of a list of lists, in its cell. -/
theorem Lst.mag_at {w : World} {S : Nat → Prop} {ao : Option Addr} {n : Nat} {ms : List (List Int)} (h : Lst KMag w S ao n ms) {j : Nat} (hj : j < n) :
    ∃ b off m a l c, ao = some ⟨b, off, none⟩ ∧ b < w.heap.size ∧ ms[j]? = some m ∧ w.cell? ⟨b, off + j, none⟩ = some (.slice a l c) ∧ l ≤ c ∧ c ≤ maxLen ∧ Lst KInt w S a l m := by
  obtain ⟨b, off, cs, x, rfl, hb, hs, hx, hl, hcs, ⟨a, l, c, rfl, h1, h2, h3⟩⟩ := h.at_ hj
  have h0 := hcs 0 (by rw [KMag_sz]; omega)
  rw [KMag_sz, Nat.mul_one] at h0
  exact ⟨b, off, x, a, l, c, rfl, hb, hx, h0, h1, h2, h3⟩
theorem KMag_rd_mk {w : World} {S : Nat → Prop} {m : List Int} {a : Option Addr} {n c : Nat} (hn : n ≤ c) (hc : c ≤ maxLen) (hl : Lst KInt w S a n m) : KMag.rd w S [.slice a n c] m := ⟨a, n, c, rfl, hn, hc, hl⟩
theorem KMag_own_mk {w : World} {S : Nat → Prop} {m : List Int} {v : Value} {n : Nat} (hl : Own KInt 2 w S v n m) : KMag.own w S [v] m := ⟨v, n, rfl, hl⟩

set_option maxRecDepth 100000 in
set_option maxHeartbeats 2000000 in
theorem equalMags_calls {a b : Option Addr} {n m c d : Nat} {ps qs : List (List Int)} {S S' : Nat → Prop} {w : World} (ha : Lst KMag w S a n ps) (hb : Lst KMag w S' b m qs) (hS : ShortM 17592186044416 ps) (hS2 : ShortM 17592186044416 qs) (hn : n ≤ 17592186044416) (hm : m ≤ 17592186044416) :
    Calls Try.prog 63 #[.slice a n c, .slice b m d, .func (Fn.func 62) #[] #[]] w fun e w' => e = .returned (.bool (decide (ps = qs))) ∧ Below w.heap.size w w' := by
  have HL := Lib.hid ha.1
  have HL2 := Lib.hid hb.1
  have HS := Lib.hid hS
  have HS2 := Lib.hid hS2
  by_cases hnm : n = m
  rotate_left
  · have HF : Hid (decide (ps = qs) = false) := by show _ = _; rw [decide_eq_false_iff_not]; rintro rfl; exact hnm (HL.out.symm.trans HL2.out)
    have hq : ((n : Int) != (m : Int)) = true := by simp; omega
    go_enter Try.func63, Try.ntmps63
    go_wp2_with fail
    go_ret
    exact ⟨ret_bool HF.out.symm, Below.refl _ _⟩
  subst hnm
  have hq : ((n : Int) != (n : Int)) = false := by simp
  go_enter Try.func63, Try.ntmps63
  go_wp2_with fail
  clear hq
  go_loopw [7, 8, 9, 17] (fun _ _ _ i wr => ∃ k : Nat, k ≤ n ∧ i = .int .i64 k ∧ Hid (SameUpto ps qs k) ∧ Below w.heap.size w wr) (fun _ _ _ i _ => n - (intOf i).toNat)
  case atStart => exact ⟨0, Nat.zero_le _, rfl, fun j hj => by omega, Below.refl _ _⟩
  case round =>
    obtain ⟨k, hk, rfl, HK, hbw⟩ := hrel
    by_cases hlt : k < n
    · obtain ⟨b0, o0, p, a0, l0, c0, rfl, d0, hp, e0, hlc0, hcm0, hu0⟩ := (ha.below hbw).mag_at hlt
      obtain ⟨b1, o1, q, a1, l1, c1, rfl, d1, hp', f0, hlc1, hcm1, hu1⟩ := (hb.below hbw).mag_at hlt
      have HP := Lib.hid hp
      have HP2 := Lib.hid hp'
      have hl : l0 ≤ 17592186044416 := by have := HS.out.at_ hp; have := hu0.1; omega
      have hl1 : l1 ≤ 17592186044416 := by have := HS2.out.at_ hp'; have := hu1.1; omega
      clear hp hp' hcm0 hcm1
      rcases hd : decide (p = q) with _ | _
      · have HF : Hid (decide (ps = qs) = false) := by
          show _ = _; rw [decide_eq_false_iff_not]; exact differ_at HP.out HP2.out (by simpa using hd)
        go_wp2_with fail
        refine (equalI_calls hu0.ints hu1.ints hl hl1).mono ?_
        rw [hd]
        rintro e w1 ⟨rfl, hx⟩
        have hb2 := hbw.trans (hx.mono hbw.size)
        clear hx
        go_wp2_with fail
        go_ret
        exact ⟨ret_bool HF.out.symm, hb2⟩
      · have HN := Lib.hid (HK.out.succ (HP.out.trans (by rw [HP2.out, show p = q by simpa using hd])))
        go_wp2_with fail
        refine (equalI_calls hu0.ints hu1.ints hl hl1).mono ?_
        rw [hd]
        rintro e w1 ⟨rfl, hx⟩
        have hb2 := hbw.trans (hx.mono hbw.size)
        clear hx
        go_wp2_with fail
        go_roundw
        case rel => exact ⟨k + 1, by omega, by go_num, HN, hb2⟩
        case measure => simp [intOf]; omega
    · have HF : Hid (decide (ps = qs) = true) := by show _ = _; rw [decide_eq_true_iff]; exact HK.out.all (by rw [HL.out]; omega) (by rw [HL2.out]; omega)
      go_wp2_with fail
      go_ret
      exact ⟨ret_bool HF.out.symm, hbw⟩

set_option maxHeartbeats 400000 in
theorem isRising_calls {a : Option Addr} {n c : Nat} {xs : List Int} {w : World} (ha : Ints w a n xs) (hx : n ≤ 17592186044416) :
    Calls Try.prog 75 #[.slice a n c] w fun e w' => e = .returned (.bool (rising xs)) ∧ Below w.heap.size w w' := by
  have HL := Lib.hid ha.1
  go_enter Try.func75, Try.ntmps75
  go_wp2
  go_loopw [3] (fun i wr => ∃ k : Nat, 1 ≤ k ∧ (k ≤ n ∨ k = 1) ∧ i = .int .i64 k ∧ Hid (risingTo xs k) ∧ Below w.heap.size w wr) (fun i _ => n - (intOf i).toNat)
  case atStart => exact ⟨1, Nat.le_refl _, .inr rfl, rfl, fun i h1 h2 => by omega, Below.refl _ _⟩
  case round =>
    obtain ⟨k, hk1, hk, rfl, HW, hbw⟩ := hrel
    by_cases hlt : k < n
    · obtain ⟨ba, oa, rfl, hba, hca⟩ := (ha.below hbw).at_ hlt
      obtain ⟨ba', oa', he, _, hcb⟩ := (ha.below hbw).at_ (show k - 1 < n by omega)
      simp only [Option.some.injEq, Addr.mk.injEq, and_true] at he
      obtain ⟨rfl, rfl⟩ := he
      have hkx : k < xs.length := by rw [HL.out]; exact hlt
      have hkx' : k - 1 < xs.length := by omega
      have e1 : xs.getD k 0 = xs[k] := by simp [List.getD, hkx]
      have e2 : xs.getD (k - 1) 0 = xs[k - 1] := by simp [List.getD, hkx']
      have q1 : IntKind.i64.wrap ((k : Int) - 1) = (k : Int) - 1 := IntWalk.i64_in _ (by omega)
      have q2 : (0 : Int) ≤ (k : Int) - 1 := by omega
      have q3 : ((k : Int) - 1).toNat = k - 1 := by omega
      have q4 : (k : Int) - 1 < (n : Int) := by omega
      by_cases hlv : xs[k] ≤ xs[k - 1]
      · have HF := Lib.hid (rising_no hk1 hkx (by rw [e1, e2]; omega))
        clear e1 e2
        go_wp2_with (go_quiet (fail))
        go_ret
        exact ⟨ret_bool HF.out.symm, below_drewN hbw _⟩
      · have HS := Lib.hid (risingTo_succ HW.out (by rw [e1, e2]; omega))
        clear e1 e2
        go_wp2_with (go_quiet (fail))
        go_roundw
        case rel => exact ⟨k + 1, by omega, by omega, by go_num, HS, below_drewN hbw _⟩
        case measure => simp [intOf]; omega
    · have HF := Lib.hid (show rising xs = true by
        rw [rising_iff]
        intro i i1 i2
        exact HW.out i i1 (by have := HL.out; omega))
      go_wp2
      go_ret
      exact ⟨ret_bool HF.out.symm, hbw⟩

/-- Two of these are the same. -/
def alike (xs : List Int) : Bool := !decide xs.Nodup
theorem pairwise_rising {xs : List Int} (h : xs.Pairwise (· < ·)) : rising xs = true := by
  rw [rising_iff]
  intro i h1 h2
  have := List.pairwise_iff_getElem.1 h (i - 1) i (by omega) h2 (by omega)
  simpa [List.getD, h2, show i - 1 < xs.length by omega] using this
theorem rising_pairwise {xs : List Int} (h : rising xs = true) : xs.Pairwise (· < ·) := by
  rw [rising_iff] at h
  have key : ∀ d i, i + d + 1 < xs.length → xs.getD i 0 < xs.getD (i + d + 1) 0 := by
    intro d
    induction d with
    | zero => intro i hi; have := h (i + 1) (by omega) (by omega); simpa using this
    | succ d ih => intro i hi; have h1 := ih i (by omega); have h2 := h (i + (d + 1) + 1) (by omega) (by omega); simp only [Nat.add_sub_cancel] at h2; exact Int.lt_trans h1 h2
  refine List.pairwise_iff_getElem.2 fun i j hi hj hij => ?_
  have := key (j - i - 1) i (by omega)
  rw [show i + (j - i - 1) + 1 = j by omega] at this
  simpa [List.getD, hi, hj] using this
theorem rising_sorted (xs : List Int) : rising (xs.mergeSort fun x y => decide (x ≤ y)) = decide xs.Nodup := by
  have hp := List.mergeSort_perm xs (fun x y => decide (x ≤ y))
  have hs : (xs.mergeSort fun x y => decide (x ≤ y)).Pairwise (fun x y => decide (x ≤ y) = true) := List.pairwise_mergeSort (fun a b c h1 h2 => by simp at *; omega) (fun a b => by simp; omega) xs
  rcases hr : rising (xs.mergeSort fun x y => decide (x ≤ y)) with _ | _
  · symm
    rw [decide_eq_false_iff_not]
    intro hn
    have hn2 := hp.nodup_iff.2 hn
    have : (xs.mergeSort fun x y => decide (x ≤ y)).Pairwise (· < ·) := by
      refine (hs.and (List.nodup_iff_pairwise_ne.1 hn2)).imp ?_
      rintro a b ⟨h1, h2⟩
      simp at h1; omega
    rw [pairwise_rising this] at hr; cases hr
  · symm
    rw [decide_eq_true_iff]
    exact hp.nodup_iff.1 ((rising_pairwise hr).imp fun h => by omega)
end Go.Proofs.Ytcnpckaacigbfaa

/- Slices of whole numbers joined; two that are alike, as the program looks for them: it sorts. -/
namespace Go.Proofs.Ytcnpckaacigbfaa
open Go.RowKit Go.Sort

/-- A slice of numbers that is owned, as a row of cells. -/
theorem Own.rowI {t : TypeId} {w : World} {S : Nat → Prop} {g n cap : Nat} {xs : List Int} (h : Own KInt t w S (.slice (some ⟨g, 0, none⟩) n cap) n xs) :
    S g ∧ ∃ cur, Row w g t cur ∧ n ≤ cap ∧ cap ≤ maxLen ∧ cur.size = cap * 1 ∧ cur.toList.take n = xs.map (Value.int .i64) := by
  have hl := h.1
  rcases h.2 with ⟨h2, _⟩ | ⟨g', cap', cur, F, hv, hg, hr, h1, h2, h3, hF, hD, hc⟩
  · cases h2
  · cases hv
    refine ⟨hg, cur, hr, h1, h2, h3, ?_⟩
    apply List.ext_getElem?
    intro j
    by_cases hj : j < n
    · rw [List.getElem?_take_of_lt hj]
      obtain ⟨x, hx⟩ : ∃ x, xs[j]? = some x := ⟨_, List.getElem?_eq_getElem (by omega)⟩
      obtain ⟨cs, hcl, hcs, ho⟩ := hc j x hx
      obtain rfl : cs = [.int .i64 x] := ho
      have := hcs 0 (show 0 < 1 by omega)
      rw [show KInt.sz = 1 from rfl, Nat.mul_one, Nat.add_zero] at this
      rw [Array.getElem?_toList, this, List.getElem?_map, hx]; rfl
    · rw [List.getElem?_take_eq_none (by omega), List.getElem?_eq_none (by simp; omega)]
theorem Own.of_rowI {t : TypeId} {w : World} {S : Nat → Prop} {g n cap B : Nat} {xs : List Int} (h : w.ownsRow B t 1 (.slice (some ⟨g, 0, none⟩) n cap) n (xs.map (Value.int .i64))) (hg : S g) : Own KInt t w S (.slice (some ⟨g, 0, none⟩) n cap) n xs := by
  obtain ⟨h1, h2⟩ := h
  refine Own.of_row (cells := xs.map (Value.int .i64)) (F := fun _ _ => False) (K := KInt) ⟨h1, ?_⟩ (by simpa using h1) (fun g' h => by simp [Value.ownBlock] at h; exact h ▸ hg) (fun _ _ h => h.elim) (fun _ _ _ h => h.elim) (fun j x hj => ⟨[.int .i64 x], rfl, fun i hi => ?_, rfl⟩)
  · rcases h2 with h2 | ⟨g', cap', cur, hv, _, r⟩
    · exact .inl h2
    · exact .inr ⟨g', cap', cur, hv, Nat.zero_le _, r⟩
  · obtain rfl : i = 0 := by have : i < 1 := hi; omega
    rw [show KInt.sz = 1 from rfl, Nat.mul_one, Nat.add_zero, List.getElem?_map, hj]; rfl

theorem sortOwn_calls {v : Value} {n : Nat} {xs : List Int} {S : Nat → Prop} {w : World} (ho : Own KInt 2 w S v n xs) (hn : n ≤ 17592186044416) :
    Calls Try.prog 74 #[v] w fun e w' => e = .returned (.tuple #[]) ∧ Own KInt 2 w' S v n (xs.mergeSort fun x y => decide (x ≤ y)) ∧ Turn S w w' := by
  obtain ⟨ao, cap, rfl, hnc, hcm, hL⟩ := ho.shape
  have hl := ho.1
  rcases Nat.eq_zero_or_pos n with h0 | h0
  · subst h0
    refine sortNone_calls.mono ?_
    rintro e w1 ⟨rfl, rfl⟩
    obtain rfl := List.eq_nil_of_length_eq_zero hl
    exact ⟨rfl, by simpa using ho, Turn.refl _ _⟩
  · rcases ho.2 with ⟨_, h2⟩ | ⟨g, cap', cur0, F, hv, _⟩
    · omega
    · cases hv
      obtain ⟨hg, cur, hr, h1, h2, h3, h4⟩ := ho.rowI
      refine (sortInts_calls (holds_of_blockI hr (by rw [hl]; exact h4)) hr.lt hl hn).mono ?_
      rintro e w1 ⟨rfl, m, os, rfl⟩
      refine ⟨rfl, ?_, ?_⟩
      · have := ownsRow_sortedI (n := m) (os := os) (base := 0) (ss := xs) (ts := xs.mergeSort fun x y => decide (x ≤ y)) (by simp) (Nat.zero_le _) hr (by rw [hl]; exact h1) h2 h3
        rw [hl] at this
        exact Own.of_rowI this hg
      · exact (Turn.of_grown (v := .slice (some ⟨g, 0, none⟩) n cap) (grownBy_sortedI _)).mono (fun k hk _ => by simp [Value.ownBlock] at hk; exact hk ▸ hg)

theorem hasTwoAlike_calls {v : Value} {n : Nat} {xs : List Int} {S : Nat → Prop} {w : World} (ho : Own KInt 2 w S v n xs) (hn : n ≤ 17592186044416) :
    Calls Try.prog 43 #[v] w fun e w' => e = .returned (.bool (alike xs)) ∧ Turn S w w' := by
  obtain ⟨ao, cap, rfl, hnc, hcm, hL⟩ := ho.shape
  go_enter Try.func43, Try.ntmps43
  go_wp2_with fail
  refine (sortOwn_calls ho hn).mono ?_
  rintro e w1 ⟨rfl, ho1, ht1⟩
  have hi := ho1.ints
  have HT := Lib.hid ht1
  clear ho1 ht1
  go_wp2_with fail
  refine (isRising_calls hi hn).mono ?_
  rw [rising_sorted]
  rintro e w2 ⟨rfl, hb2⟩
  have HB := Lib.hid hb2
  clear hb2
  go_wp2_with fail
  go_ret
  exact ⟨ret_bool (by simp [alike]), HT.out.trans (Turn.of_below (T := fun _ => False) HB.out) (fun _ h _ => h.elim)⟩
end Go.Proofs.Ytcnpckaacigbfaa

namespace Go.Proofs.Ytcnpckaacigbfaa
open Go.RowKit
section
variable {P : Program} {α : Type} {K : Lay α} {w : World} {ops : Array Oper} {rest : List Oper} {o : Oper} {a : Act} {Q : Exit → Act → World → Prop}
/-- append(nil, make([]E, k)...): a new slice of k zeros. -/
theorem wpList_append_zeros_nil (hgd : o.guard = none) (s x : Operand) (t tn : TypeId) (ho : o.op = .call { callee := .builtin .append, args := #[s, x], argTypes := #[t, tn] })
    (e : TypeId) (i : TypeInfo) (z : Value) (bytes : Nat) (kn kq : IntKind) (ht : P.underlying t = some (.slice e)) (htn : P.underlying tn = some (.int kn)) (hi : P.info? e = some i) (hz : i.zero = some z)
    (hsize : i.size = K.sz) (hby : i.bytes = bytes) (hzs : z.cells.size = K.sz) (hsz : 0 < K.sz)
    {k : Nat} {y : α} (hs : a.eval s = .slice none 0 0) (hx : a.eval x = .int kq k) (hy : ∀ w, K.own w (fun _ => False) z.cells.toList y)
    (h0 : 0 < k) (h63 : k ≤ maxLen) (hbytes : k * bytes ≤ 140737488355328)
    (h : ∀ v' w', Own K e w' (fun j => w.heap.size ≤ j) v' k (List.replicate k y) → Below w.heap.size w w' → wpList P ops Q rest (a.put o.dst v') w') : wpList P ops Q (o :: rest) a w := by
  subst hby
  have hsmall : k ≤ 9223372036854775807 := by simp only [maxLen] at h63; omega
  have hrun := Lib.run_append_grow_zeros w t tn o.type e i z kq kn ht htn hi hz none 0 0 []
    (by simpa using Go.run_firstCells_none (P := P) (w := w.drew) i.size 0 0 0) k h0 (by omega) (by omega) (by omega) (by omega) (growslice_fits (by omega) (by rw [Nat.zero_add]; exact hbytes))
  refine wpList_plain hgd fun K' hK' => ?_
  unfold Oper.wp execOp
  simp only [ho, resolve, invoke, builtin, Sem.run_bind, Sem.run_pure, Result.andThen_ok, List.map_toArray, List.map_cons, List.map_nil, hs, hx, hrun]
  have hge := grownCap_ge w (0 + k) 0 e
  have hle := grownCap_le_maxLen w (0 + k) 0 e (by omega)
  have hb : Below w.heap.size w (w.drew.alloc (.cells (([] : List Value).toArray ++ Builtin.zeroCells z.cells k ++ Builtin.zeroCells z.cells (grownCap w (0 + k) 0 e - (0 + k))) e)) := Turn.none_ ((Turn.drew_ _ w).trans (Turn.alloc _ w.drew _) (fun _ h _ => h))
  refine hK' _ _ (h _ _ ?_ hb)
  have hzl : (Builtin.zeroCells z.cells k).size = k * K.sz := by rw [size_zeroCells, hzs]
  have hzt : (Builtin.zeroCells z.cells k).toList.length = k * K.sz := hzl
  rw [Nat.zero_add] at hge hle ⊢
  refine Own.of_row (F := fun _ _ => False) (cells := (Builtin.zeroCells z.cells k).toList) ⟨by rw [hzt], .inr ⟨w.heap.size, _, _, rfl, Nat.zero_le _, heap_alloc_new w.drew _, hge, hle, ?_, ?_⟩⟩ (by simp) (fun g' hg' => ?_) (fun j q hq => hq.elim) (fun i j q hi hj => hi.elim) (fun j y' hj => ?_)
  · simp only [Array.size_append, List.size_toArray, List.length_nil, size_zeroCells, hzs, Nat.zero_add, ← Nat.add_mul]; congr 1; omega
  · have e1 : k * K.sz = (Builtin.zeroCells z.cells k).toList.length := hzt.symm
    simp only [Array.toList_append, List.nil_append]
    rw [e1]; exact List.take_left
  · simp [Value.ownBlock] at hg'; omega
  · rw [List.getElem?_replicate] at hj
    split at hj
    · rename_i hjk
      injection hj with hj; subst hj
      refine ⟨z.cells.toList, by simpa using hzs, fun i hi => ?_, K.own_mono (hy _) (fun _ h _ => h.elim)⟩
      have h2 := Nat.mul_le_mul_right K.sz (show j + 1 ≤ k by omega)
      rw [Nat.add_mul] at h2
      have h3 : (j * K.sz + i) % z.cells.size = i := by rw [hzs, Nat.mul_comm, Nat.mul_add_mod, Nat.mod_eq_of_lt hi]
      have h4 : j * K.sz + i < k * z.cells.size := by rw [hzs]; omega
      simp only [hzs] at h3 h4
      simp [Builtin.zeroCells, hzs, hi, h3, h4]
    · cases hj
end
/-- The first elements of what is owned. -/
theorem Own.first {α : Type} {K : Lay α} {t : TypeId} {w : World} {S : Nat → Prop} {g n cap m : Nat} {xs : List α} (h : Own K t w S (.slice (some ⟨g, 0, none⟩) n cap) n xs) (hm : m ≤ n) : Own K t w S (.slice (some ⟨g, 0, none⟩) m cap) m (xs.take m) := by
  have hl := h.1
  rcases h.2 with ⟨h2, _⟩ | ⟨g', cap', cur, F, hv, hg, hr, h1, h2, h3, hF, hD, hc⟩
  · cases h2
  · cases hv
    refine ⟨by simp; omega, .inr ⟨g, cap, cur, F, rfl, hg, hr, by omega, h2, h3, hF, hD, fun j x hj => hc j x ?_⟩⟩
    rw [List.getElem?_take] at hj
    split at hj
    · exact hj
    · cases hj

set_option maxRecDepth 100000 in
theorem growNil_calls {n : Nat} {w : World} (hn : n ≤ 17592186044416) :
    Calls Try.prog 76 #[.slice none 0 0, .int .i64 n] w fun e w' => ∃ v, e = .returned v ∧ Own KInt 2 w' (fun k => w.heap.size ≤ k) v 0 [] ∧ Below w.heap.size w w' := by
  obtain ⟨ib, hib, hb0, hb1, hb2⟩ := info_parts info64
  have h1 : ¬ ((n : Int) < 0) := by omega
  by_cases h0 : 0 < n
  · have h2 : ((n : Int) > 0) := by omega
    go_enter Try.func76, Try.ntmps76
    go_wp2_with (
      at_builtin
      go_must (refine wpList_append_zeros_nil (K := KInt) rfl (.tmp 20) (.tmp 21) 23 3 rfl 2 ib (.int .i64 0) 8 .i64 .i64 Try.underlying23 Try.underlying3 hib hb0 hb1 hb2 rfl (by decide) (k := n) (y := (0 : Int)) rfl rfl (fun _ => rfl) h0 (by unfold maxLen; omega) (by omega) ?_)
      intro v1 w1 ho1 hb1
      obtain ⟨ao, cap, rfl, hnc, hcm, _⟩ := ho1.shape
      obtain ⟨g, rfl⟩ : ∃ g, ao = some ⟨g, 0, none⟩ := by
        rcases ho1.2 with ⟨_, h2⟩ | ⟨g, _, _, _, hv, _⟩
        · omega
        · cases hv; exact ⟨g, rfl⟩
      have H1 := Lib.hid (And.intro (ho1.first (Nat.zero_le n)) hb1)
      clear ho1 hb1)
    go_ret
    exact ⟨_, rfl, by simpa using H1.out.1, H1.out.2⟩
  · obtain rfl : n = 0 := by omega
    go_enter Try.func76, Try.ntmps76
    go_wp2_with fail
    go_ret
    exact ⟨_, rfl, Own.nil, Below.refl _ _⟩
end Go.Proofs.Ytcnpckaacigbfaa

namespace Go.Proofs.Ytcnpckaacigbfaa
open Go.RowKit
theorem flatten_snoc {α : Type} {ms : List (List α)} {k : Nat} {m : List α} (h : ms[k]? = some m) : (ms.take (k + 1)).flatten = (ms.take k).flatten ++ m := by
  obtain ⟨hk, rfl⟩ := List.getElem?_eq_some_iff.1 h
  rw [List.take_succ_eq_append_getElem hk, List.flatten_append]; simp [List.flatten]
theorem flatten_take_le {α : Type} (ms : List (List α)) (k : Nat) : (ms.take k).flatten.length ≤ ms.flatten.length := by
  have h : ms.flatten = (ms.take k).flatten ++ (ms.drop k).flatten := by rw [← List.flatten_append, List.take_append_drop]
  rw [h, List.length_append]; omega

set_option maxRecDepth 100000 in
set_option maxHeartbeats 1000000 in
theorem concat_calls {a : Option Addr} {n c : Nat} {ms : List (List Int)} {S : Nat → Prop} {w : World} (hT : Lst KMag w S a n ms) (hn : n ≤ 17592186044416) (hF : ms.flatten.length ≤ 1048576) :
    Calls Try.prog 44 #[.slice a n c] w fun e w' => ∃ v t, e = .returned v ∧ Own KInt 2 w' (fun k => w.heap.size ≤ k) v t ms.flatten ∧ Below w.heap.size w w' := by
  obtain ⟨ib, hib, hb0, hb1, hb2⟩ := info_parts info64
  have HL := Lib.hid hT.1
  have HF := Lib.hid hF
  clear hF
  go_enter Try.func44, Try.ntmps44
  go_wp2_with fail
  go_loopw [3, 5, 11] (fun z _ i wr => ∃ k s : Nat, k ≤ n ∧ i = .int .i64 k ∧ z = .int .i64 s ∧ Hid (s = (ms.take k).flatten.length) ∧ Below w.heap.size w wr) (fun _ _ i _ => n - (intOf i).toNat)
  case atStart => exact ⟨0, 0, Nat.zero_le _, rfl, rfl, by simp [Hid], Below.refl _ _⟩
  case round =>
    obtain ⟨k, s, hk, rfl, rfl, HS, hbw⟩ := hrel
    have hs : s ≤ 1048576 := by have := flatten_take_le ms k; have := HS.out; have := HF.out; omega
    by_cases hlt : k < n
    · obtain ⟨b0, o0, m, a0, l0, c0, rfl, d0, hp, e0, hlc0, hcm0, hu0⟩ := (hT.below hbw).mag_at hlt
      have HN : Hid (s + l0 = (ms.take (k + 1)).flatten.length) := by
        show _ = _; rw [flatten_snoc hp, List.length_append, ← HS.out, hu0.1]
      have hs2 : s + l0 ≤ 1048576 := by have := flatten_take_le ms (k + 1); have := HN.out; have := HF.out; omega
      have hneg : ¬ ((s : Int) + (l0 : Int) < 0) := by omega
      clear hp hu0 hcm0
      go_wp2_with fail
      go_roundw
      case rel => exact ⟨k + 1, s + l0, by omega, by go_num, by go_num, HN, hbw⟩
      case measure => simp [intOf]; omega
    · have HE : Hid (s = ms.flatten.length) := by
        have := HS.out; rwa [List.take_of_length_le (by have := HL.out; omega)] at this
      go_wp2_with fail
      refine (growNil_calls (by omega)).mono ?_
      rintro e w1 ⟨v, rfl, ho1, hb1⟩
      have hB1 := hbw.trans (hb1.mono hbw.size)
      have hO1 := ho1.fresh hbw.size
      clear ho1 hb1 hbw
      go_wp2_with fail
      go_loopw [6, 8, 27] (fun v _ i wr => ∃ k s : Nat, k ≤ n ∧ i = .int .i64 k ∧ Hid (s = (ms.take k).flatten.length) ∧ Own KInt 2 wr (fun k => w.heap.size ≤ k) v s (ms.take k).flatten ∧ Below w.heap.size w wr) (fun _ _ i _ => n - (intOf i).toNat)
      case atStart => exact ⟨0, 0, Nat.zero_le _, rfl, by simp [Hid], by simpa using hO1, hB1⟩
      case round =>
        clear hO1 hB1
        obtain ⟨k, s, hk, rfl, HS, hO, hbw⟩ := hrel
        obtain ⟨vo, vc, rfl, _, _, _⟩ := hO.shape
        have hs : s ≤ 1048576 := by have := flatten_take_le ms k; have := HS.out; have := HF.out; omega
        by_cases hlt : k < n
        · obtain ⟨b0, o0, m, a0, l0, c0, rfl, d0, hp, e0, hlc0, hcm0, hu0⟩ := (hT.below hbw).mag_at hlt
          have HN : Hid (s + l0 = (ms.take (k + 1)).flatten.length) := by
            show _ = _; rw [flatten_snoc hp, List.length_append, ← HS.out, hu0.1]
          have hs2 : s + l0 ≤ 1048576 := by have := flatten_take_le ms (k + 1); have := HN.out; have := HF.out; omega
          have HP := Lib.hid hp
          clear hp hcm0
          have HO := Lib.hid hO
          have HB := Lib.hid hbw
          clear hO hbw
          go_wp2_with (
            at_builtin
            go_must (refine wpList_append_flat (K := KInt) rfl (.tmp 31) (.tmp 32) 23 rfl 2 ib (.int .i64 0) 8 Try.underlying23 hib hb0 hb1 hb2 rfl (by decide) flat_int one_int (n := s) (m := l0) (c := c0) rfl HO.out rfl hu0 (by unfold maxLen; omega) (by omega) ?_)
            intro v1 w1 ho1 ht1
            have H1 : Hid (Own KInt 2 w1 (fun k => w.heap.size ≤ k) v1 (s + l0) (ms.take (k + 1)).flatten ∧ Below w.heap.size w w1) := by
              refine ⟨?_, ht1.below HB.out HB.out.size (fun k h => h)⟩
              rw [flatten_snoc HP.out]
              exact ho1.mono (fun q hq _ => hq.elim id (fun h => Nat.le_trans HB.out.size h))
            clear ho1 ht1)
          go_roundw
          case rel => exact ⟨k + 1, s + l0, by omega, by go_num, HN, H1.out.1, H1.out.2⟩
          case measure => simp [intOf]; omega
        · have HE2 : Hid (Own KInt 2 wr (fun k => w.heap.size ≤ k) (.slice vo s vc) s ms.flatten ∧ Below w.heap.size w wr) := by
            rw [List.take_of_length_le (by have := HL.out; omega)] at hO
            exact ⟨hO, hbw⟩
          clear hO hbw
          go_wp2_with fail
          go_ret
          exact ⟨_, _, rfl, HE2.out.1, HE2.out.2⟩
end Go.Proofs.Ytcnpckaacigbfaa

/- Chapter 4 of the model: runs that are found and taken; pages that are counted; how great a block is. -/
namespace Go.Proofs.Ytcnpckaacigbfaa
open Go.RowKit

/-- The first run of n free pages, or -1. -/
def runAt (n : Nat) (ps : List Pg) : Int := match runFrom n 0 ps with
  | some i => (i : Int)
  | none => -1
theorem freeN_snoc : ∀ {f : Nat} {ps : List Pg} {p : Pg}, freeN f ps = true → ps[f]? = some p → p.kind = 0 → freeN (f + 1) ps = true
  | 0, [], p, _, h, _ => by simp at h
  | 0, q :: r, p, _, h, h0 => by simp at h; subst h; simp [freeN, h0]
  | f + 1, [], p, _, h, _ => by simp at h
  | f + 1, q :: r, p, h1, h, h0 => by
    rw [freeN] at h1 ⊢
    simp only [Bool.and_eq_true] at h1 ⊢
    exact ⟨h1.1, freeN_snoc h1.2 (by simpa using h) h0⟩
theorem freeN_no : ∀ {n f : Nat} {ps : List Pg} {p : Pg}, f < n → ps[f]? = some p → p.kind ≠ 0 → freeN n ps = false
  | 0, f, ps, p, h, _, _ => by omega
  | n + 1, f, [], p, _, h, _ => by simp at h
  | n + 1, 0, q :: r, p, _, h, h0 => by simp at h; subst h; simp [freeN, h0]
  | n + 1, f + 1, q :: r, p, hf, h, h0 => by
    rw [freeN, freeN_no (n := n) (f := f) (by omega) (by simpa using h) h0]; simp
theorem freeN_short : ∀ {n : Nat} {ps : List Pg}, ps.length < n → freeN n ps = false
  | 0, ps, h => by omega
  | n + 1, [], _ => rfl
  | n + 1, q :: r, h => by rw [freeN, freeN_short (n := n) (by simpa using h)]; simp
theorem runFrom_skip {n : Nat} : ∀ {f k : Nat} {ps : List Pg} {p : Pg}, f < n → ps[f]? = some p → p.kind ≠ 0 → runFrom n k ps = runFrom n (k + f + 1) (ps.drop (f + 1))
  | f, k, [], p, _, h, _ => by simp at h
  | 0, k, q :: r, p, hf, h, h0 => by
    rw [runFrom, freeN_no hf h h0]; simp
  | f + 1, k, q :: r, p, hf, h, h0 => by
    rw [runFrom, freeN_no hf h h0]
    simp only [Bool.false_eq_true, if_false, List.drop_succ_cons]
    rw [runFrom_skip (f := f) (by omega) (by simpa using h) h0]
    congr 1; omega
theorem runFrom_short {n : Nat} : ∀ {k : Nat} {ps : List Pg}, ps.length < n → runFrom n k ps = none
  | k, [], _ => rfl
  | k, q :: r, h => by
    rw [runFrom, freeN_short h]
    simp only [Bool.false_eq_true, if_false]
    exact runFrom_short (by simp at h; omega)

end Go.Proofs.Ytcnpckaacigbfaa

/- Chapter 4 of the model: blocks that are dropped. -/
namespace Go.Proofs.Ytcnpckaacigbfaa
open Go.RowKit

/-- What is dropped at a place: the slot, or the run of the page. -/
def dropAt (ps : List Pg) (st : Nat) : List Pg := match ps[st / 16]? with
  | none => ps
  | some p => if p.kind = 1 then ps.set (st / 16) (freeSlot p (st % 16 / (sizeW p.cls).toNat)) else setMany ps (st / 16) Pg.free p.run.toNat

end Go.Proofs.Ytcnpckaacigbfaa

/- Chapter 4: runs of pages are whole; what is held at a place. -/
namespace Go.Proofs.Ytcnpckaacigbfaa
open Go.RowKit

/-- How many pages a run lacks behind the first k. -/
def leftFrom (l : Int) : List Pg → Nat → Int
  | _, 0 => l
  | [], _ + 1 => l
  | p :: r, k + 1 => leftFrom (nextLeft l p) r k
theorem leftFrom_zero (l : Int) (ps : List Pg) : leftFrom l ps 0 = l := by cases ps <;> rfl
theorem leftFrom_succ : ∀ {ps : List Pg} {l : Int} {k : Nat} {p : Pg}, ps[k]? = some p → leftFrom l ps (k + 1) = nextLeft (leftFrom l ps k) p
  | [], l, k, p, h => by simp at h
  | q :: r, l, 0, p, h => by simp at h; subst h; simp [leftFrom, leftFrom_zero]
  | q :: r, l, k + 1, p, h => by
    have := leftFrom_succ (ps := r) (l := nextLeft l q) (k := k) (p := p) (by simpa using h)
    simpa [leftFrom] using this
theorem whole_iff : ∀ (ps : List Pg) (l : Int), whole l ps = true ↔ (∀ k p, ps[k]? = some p → decide (p.kind = 3) = decide (0 < leftFrom l ps k)) ∧ leftFrom l ps ps.length = 0
  | [], l => by simp [whole, leftFrom]
  | q :: r, l => by
    unfold whole
    constructor
    · intro h
      split at h
      · rename_i h1
        obtain ⟨h2, h3⟩ := (whole_iff r _).1 h
        refine ⟨fun k p hk => ?_, by simpa [leftFrom] using h3⟩
        cases k with
        | zero => simp at hk; subst hk; exact h1
        | succ k => exact h2 k p (by simpa using hk)
      · cases h
    · rintro ⟨h1, h2⟩
      have h3 := h1 0 q (by simp)
      rw [leftFrom_zero] at h3
      rw [if_pos h3]
      exact (whole_iff r _).2 ⟨fun k p hk => h1 (k + 1) p (by simpa using hk), by simpa [leftFrom] using h2⟩
def leftN (ps : List Pg) (k : Nat) : Int := leftFrom 0 ps k
theorem leftN_succ {ps : List Pg} {k : Nat} {p : Pg} (h : ps[k]? = some p) : leftN ps (k + 1) = nextLeft (leftN ps k) p := leftFrom_succ h
theorem leftN_zero (ps : List Pg) : leftN ps 0 = 0 := leftFrom_zero 0 ps
/-- It is the one function that goes so. -/
theorem leftN_of {ps : List Pg} {L : Nat → Int} (h0 : L 0 = 0) (h : ∀ k p, ps[k]? = some p → L (k + 1) = nextLeft (L k) p) : ∀ k, k ≤ ps.length → leftN ps k = L k
  | 0, _ => by rw [leftN_zero, h0]
  | k + 1, hk => by
    have hx := List.getElem?_eq_getElem (l := ps) (i := k) (by omega)
    rw [leftN_succ hx, leftN_of h0 h k (by omega), ← h k _ hx]

section
variable {ps : List Pg} (hv : pagesFault ps = 0)
include hv
theorem ok_page {k : Nat} {p : Pg} (h : ps[k]? = some p) : pageFault p = 0 := (pagesFault_ok hv).2.1 p (List.mem_of_getElem? h)
theorem ok_rest {k : Nat} {p : Pg} (h : ps[k]? = some p) : p.kind = 3 ↔ 0 < leftN ps k := by
  have := ((whole_iff ps 0).1 (pagesFault_ok hv).2.2).1 k p h
  simpa [leftN] using this
theorem ok_end : leftN ps ps.length = 0 := ((whole_iff ps 0).1 (pagesFault_ok hv).2.2).2
theorem ok_run {k : Nat} {p : Pg} (h : ps[k]? = some p) (h2 : p.kind = 2) : 1 ≤ p.run ∧ p.run ≤ 4 := by
  rcases pageFault_ok (ok_page hv h) with h | h | h <;> omega
/-- Where a run lacks pages, one begins it. -/
theorem run_head : ∀ k, k ≤ ps.length → 0 < leftN ps k → ∃ h q, h < k ∧ ps[h]? = some q ∧ q.kind = 2 ∧ leftN ps k = q.run - ((k : Int) - h) ∧ ∀ j p, h < j → j < k → ps[j]? = some p → p.kind = 3
  | 0, _, h => by rw [leftN_zero] at h; omega
  | k + 1, hk, h => by
    have hx := List.getElem?_eq_getElem (l := ps) (i := k) (by omega)
    have hs := leftN_succ hx
    have hr := ok_rest hv hx
    by_cases h2 : (ps[k]).kind = 2
    · refine ⟨k, _, by omega, hx, h2, ?_, fun j p h1 h2 => by omega⟩
      rw [hs, nextLeft, if_pos h2]; omega
    · by_cases h3 : (ps[k]).kind = 3
      · have hl := hr.1 h3
        obtain ⟨g, q, h4, h5, h6, h7, h8⟩ := run_head k (by omega) hl
        refine ⟨g, q, by omega, h5, h6, ?_, fun j p h9 h10 hj => ?_⟩
        · rw [hs, nextLeft, if_neg h2, if_pos h3, h7]; omega
        · by_cases e : j = k
          · subst e; rw [hx] at hj; injection hj with hj; rw [← hj]; exact h3
          · exact h8 j p h9 (by omega) hj
      · rw [hs, nextLeft, if_neg h2, if_neg h3] at h
        exact absurd (hr.2 h) h3
theorem head_of_rest {k : Nat} {p : Pg} (h : ps[k]? = some p) (h3 : p.kind = 3) : ∃ g q, g < k ∧ ps[g]? = some q ∧ q.kind = 2 ∧ (k : Int) - g < q.run ∧ headOf ps k = g := by
  have hk := (List.getElem?_eq_some_iff.1 h).1
  have hl := (ok_rest hv h).1 h3
  obtain ⟨g, q, h4, h5, h6, h7, h8⟩ := run_head hv k (by omega) hl
  refine ⟨g, q, h4, h5, h6, by omega, ?_⟩
  have : ∀ j, g ≤ j → j ≤ k → headOf ps j = g := by
    intro j
    induction j with
    | zero => intro h1 _; have : g = 0 := by omega
              subst this; rfl
    | succ j ih =>
      intro h1 h2
      unfold headOf
      by_cases e : g = j + 1
      · subst e; rw [h5]; simp [h6]
      · have hx := List.getElem?_eq_getElem (l := ps) (i := j + 1) (by omega)
        have hk3 : (ps[j + 1]).kind = 3 := by
          by_cases e2 : j + 1 = k
          · subst e2; rw [hx] at h; injection h with h; rw [h]; exact h3
          · exact h8 _ _ (by omega) (by omega) hx
        rw [hx]; simp only [Option.map_some, hk3, if_true]
        exact ih (by omega) (by omega)
  exact this k (by omega) (Nat.le_refl _)
/-- A run has all its pages. -/
theorem run_whole {g : Nat} {q : Pg} (h : ps[g]? = some q) (h2 : q.kind = 2) : ∀ j : Nat, (j : Int) ≤ q.run - 1 → g + 1 + j ≤ ps.length ∧ leftN ps (g + 1 + j) = q.run - 1 - j ∧ ∀ i p, g < i → i < g + 1 + j → ps[i]? = some p → p.kind = 3
  | 0, _ => by
    have hk := (List.getElem?_eq_some_iff.1 h).1
    refine ⟨by omega, ?_, fun i p h1 h2 => by omega⟩
    rw [Nat.add_zero, leftN_succ h, nextLeft, if_pos h2]; simp
  | j + 1, hj => by
    obtain ⟨h3, h4, h5⟩ := run_whole h h2 j (by omega)
    have hlt : g + 1 + j < ps.length := by
      rcases Nat.lt_or_ge (g + 1 + j) ps.length with h6 | h6
      · exact h6
      · have e : g + 1 + j = ps.length := by omega
        rw [e, ok_end hv] at h4; omega
    have hx := List.getElem?_eq_getElem (l := ps) (i := g + 1 + j) hlt
    have hk3 := (ok_rest hv hx).2 (by omega)
    refine ⟨by omega, ?_, fun i p h6 h7 hi => ?_⟩
    · rw [show g + 1 + (j + 1) = g + 1 + j + 1 by omega, leftN_succ hx, nextLeft, if_neg (by omega), if_pos hk3, h4]; omega
    · by_cases e : i = g + 1 + j
      · subst e; rw [hx] at hi; injection hi with hi; rw [← hi]; exact hk3
      · exact h5 i p h6 (by omega) hi
theorem run_fits {g : Nat} {q : Pg} (h : ps[g]? = some q) (h2 : q.kind = 2) : (g : Int) + q.run ≤ ps.length := by
  have hr := ok_run hv h h2
  obtain ⟨h1, _, _⟩ := run_whole hv h h2 (q.run - 1).toNat (by omega)
  omega

/-- What is held at a place, by the kind of its page. -/
theorem held_no {a : Int} (h : within 0 ((ps.length : Int) * 16 - 1) [a] = false) : heldAt ps a = (3, none) := by unfold heldAt; rw [if_pos hv, h]; rfl
theorem held_free {a : Nat} {p : Pg} (ha : a < ps.length * 16) (h : ps[a / 16]? = some p) (h0 : p.kind = 0) : heldAt ps a = (4, none) := by
  have hh : headOf ps (a / 16) = a / 16 := by
    cases hk : a / 16 with
    | zero => rfl
    | succ k => unfold headOf; rw [← hk, h]; simp [h0]
  unfold heldAt
  rw [if_pos hv, if_pos (within_yes1 (by omega) (by omega)), Int.toNat_natCast]
  unfold blockAt
  rw [hh, h]; simp [h0]
theorem held_slot {a : Nat} {p : Pg} (ha : a < ps.length * 16) (h : ps[a / 16]? = some p) (h1 : p.kind = 1) :
    heldAt ps a = if p.used[a % 16 / (sizeW p.cls).toNat]? = some true then (0, some (.slot (a / 16) p.cls (a % 16 / (sizeW p.cls).toNat))) else (4, none) := by
  have hh : headOf ps (a / 16) = a / 16 := by
    cases hk : a / 16 with
    | zero => rfl
    | succ k => unfold headOf; rw [← hk, h]; simp [h1]
  unfold heldAt
  rw [if_pos hv, if_pos (within_yes1 (by omega) (by omega)), Int.toNat_natCast]
  unfold blockAt
  rw [hh, h]
  simp only [h1]
  by_cases hu : p.used[a % 16 / (sizeW p.cls).toNat]? = some true
  · rw [if_pos hu]; simp [hu]
  · rw [if_neg hu]; simp [hu]
theorem held_run {a : Nat} {p : Pg} (ha : a < ps.length * 16) (h : ps[a / 16]? = some p) (h2 : p.kind = 2 ∨ p.kind = 3) :
    ∃ q, ps[headOf ps (a / 16)]? = some q ∧ q.kind = 2 ∧ heldAt ps a = (0, some (.run (headOf ps (a / 16)) q.run)) := by
  have key : ∃ q, ps[headOf ps (a / 16)]? = some q ∧ q.kind = 2 := by
    rcases h2 with h2 | h3
    · have hh : headOf ps (a / 16) = a / 16 := by
        cases hk : a / 16 with
        | zero => rfl
        | succ k => unfold headOf; rw [← hk, h]; simp [h2]
      exact ⟨p, by rw [hh]; exact h, h2⟩
    · obtain ⟨g, q, _, h5, h6, _, h7⟩ := head_of_rest hv h h3
      exact ⟨q, by rw [h7]; exact h5, h6⟩
  obtain ⟨q, h5, h6⟩ := key
  refine ⟨q, h5, h6, ?_⟩
  unfold heldAt
  rw [if_pos hv, if_pos (within_yes1 (by omega) (by omega)), Int.toNat_natCast]
  unfold blockAt
  rw [h5]; simp [h6]
/-- What is known of what is held. -/
theorem held_info {a : Int} {c : Int} {b : Blk} (h : heldAt ps a = (c, some b)) : c = 0 ∧ 0 ≤ a ∧ a < ps.length * 16 ∧ ((∃ i k s p, b = .slot i k s ∧ ps[i]? = some p ∧ p.kind = 1 ∧ p.cls = k ∧ 0 ≤ k ∧ k ≤ 3 ∧ p.used[s]? = some true ∧ (p.used.length : Int) = 16 / sizeW k ∧ p.run = 0 ∧ i = a.toNat / 16 ∧ s = a.toNat % 16 / (sizeW k).toNat) ∨
    ∃ i p, b = .run i p.run ∧ ps[i]? = some p ∧ p.kind = 2 ∧ i = headOf ps (a.toNat / 16)) := by
  unfold heldAt at h
  rw [if_pos hv] at h
  split at h
  · rename_i hw
    have hw := within_range hw
    cases hb : blockAt ps a.toNat with
    | none => rw [hb] at h; simp at h
    | some b' =>
      rw [hb] at h
      simp at h
      obtain ⟨rfl, rfl⟩ := h
      refine ⟨rfl, hw.1, by omega, ?_⟩
      unfold blockAt at hb
      cases hp : ps[headOf ps (a.toNat / 16)]? with
      | none => rw [hp] at hb; simp at hb
      | some p =>
        rw [hp] at hb
        simp only at hb
        split at hb
        · rename_i h2
          simp at hb
          exact .inr ⟨_, p, hb.symm, hp, h2, rfl⟩
        · split at hb
          · rename_i h1
            split at hb
            · rename_i hu
              simp at hb
              have hf := ok_page hv hp
              rcases pageFault_ok hf with h | h | h
              · have he : headOf ps (a.toNat / 16) = a.toNat / 16 := by
                  have hx := List.getElem?_eq_getElem (l := ps) (i := a.toNat / 16) (by omega)
                  by_cases h3 : (ps[a.toNat / 16]).kind = 3
                  · obtain ⟨g, q, _, hg, hg2, _, hg3⟩ := head_of_rest hv hx h3
                    rw [hg3, hg] at hp; injection hp with hp; rw [hp] at hg2; omega
                  · cases hk : a.toNat / 16 with
                    | zero => rfl
                    | succ k => unfold headOf; rw [← hk, hx]; simp [h3]
                exact .inl ⟨_, _, _, p, hb.symm, hp, h1, rfl, h.2.1, h.2.2.1, hu, h.2.2.2.2.1, h.2.2.2.1, he, rfl⟩
              · omega
              · omega
            · simp at hb
          · simp at hb
  · simp at h
theorem held_code {a : Int} {c : Int} (h : heldAt ps a = (c, none)) : c = 3 ∨ c = 4 := by
  unfold heldAt at h
  rw [if_pos hv] at h
  split at h
  · split at h
    · simp at h
    · simp at h; omega
  · simp at h; omega
end
end Go.Proofs.Ytcnpckaacigbfaa

/- copy(new, old), the elements of any number of cells: what the old ones own goes over to the new slice. A make as an equation. -/
namespace Go.Proofs.Ytcnpckaacigbfaa
open Go.RowKit

/-- Of a list the first n; where it has not so many, others behind it. -/
def fitTo {α : Type} (d : α) (xs : List α) (n : Nat) : List α := xs.take n ++ List.replicate (n - xs.length) d
theorem length_fitTo {α : Type} (d : α) (xs : List α) (n : Nat) : (fitTo d xs n).length = n := by simp [fitTo]; omega
theorem fitTo_at {α : Type} {d : α} {xs : List α} {n j : Nat} (hj : j < n) : (fitTo d xs n)[j]? = if j < xs.length then xs[j]? else some d := by
  unfold fitTo
  by_cases h : j < xs.length
  · rw [if_pos h, List.getElem?_append_left (by simp; omega), List.getElem?_take, if_pos hj]
  · rw [if_neg h, List.getElem?_append_right (by simp; omega), List.getElem?_replicate, if_pos (by simp; omega)]

/-- Cells of a row that was made: n times the same. -/
def ZeroRow (zs : List Value) (m : Nat) (cur : Array Value) : Prop := cur.size = m * zs.length ∧ ∀ j i, j < m → i < zs.length → cur[j * zs.length + i]? = zs[i]?
theorem zero_made (z : Array Value) (m : Nat) : ZeroRow z.toList m (madeCells z (m * z.size)) := by
  refine ⟨by simp [size_madeCells], fun j i hj hi => ?_⟩
  have hi' : i < z.size := by simpa using hi
  have h1 := Nat.mul_le_mul_right z.size (show j + 1 ≤ m by omega)
  rw [Nat.add_mul] at h1
  have h2 : (j * z.size + i) % z.size = i := by rw [Nat.mul_comm, Nat.mul_add_mod, Nat.mod_eq_of_lt hi']
  simp only [Array.length_toList]
  simp [madeCells, h2, show j * z.size + i < m * z.size by omega, hi']

section
variable {P : Program} {α : Type} {K : Lay α} {w : World} {S : Nat → Prop} {ops : Array Oper} {rest : List Oper} {o : Oper} {a : Act} {Q : Exit → Act → World → Prop}
theorem wpList_copy_fit (hgd : o.guard = none) (s x : Operand) (t : TypeId) (ho : o.op = .call { callee := .builtin .copy, args := #[s, x], argTypes := #[t, t] })
    (e : TypeId) (ht : P.underlying t = some (.slice e)) (hi : (P.info? e).map (·.size) = some K.sz) (hone : OneC K)
    {n c m g : Nat} {xs : List α} {ao : Option Addr} {cur : Array Value} {zs : List Value} {d : α} (hs : a.eval s = .slice (some ⟨g, 0, none⟩) m m) (hx : a.eval x = .slice ao n c) (hown : Own K e w S (.slice ao n c) n xs)
    (hr : Row w g e cur) (hz : ZeroRow zs m cur) (hzl : zs.length = K.sz) (hd : ∀ w, K.own w (fun _ => False) zs d) (hg : ¬ S g) (hm : m ≤ maxLen)
    (h : ∀ w', Own K e w' (fun k => S k ∨ k = g) (.slice (some ⟨g, 0, none⟩) m m) m (fitTo d xs m) → Turn (fun k => k = g) w w' → wpList P ops Q rest (a.put o.dst (goInt (Nat.min n m))) w') : wpList P ops Q (o :: rest) a w := by
  have hxl := hown.1
  obtain ⟨_, _, _, hlst⟩ := hown.lst
  obtain ⟨news, hnl, hnc, hne⟩ := hlst.news
  have hone' : ∀ u ∈ news, u.oneCell' = true := by
    intro u hu
    obtain ⟨q, hq, rfl⟩ := List.getElem_of_mem hu
    have hsz : 0 < K.sz := Nat.pos_of_ne_zero (fun e => by rw [e] at hnl; omega)
    have hqm : q / K.sz < n := Nat.div_lt_of_lt_mul (by rw [Nat.mul_comm]; omega)
    obtain ⟨cs, hcl, hcs, hrd⟩ := hne (q / K.sz) (xs[q / K.sz]'(by omega)) (List.getElem?_eq_getElem _)
    have h1 := hcs (q % K.sz) (Nat.mod_lt _ hsz)
    rw [Nat.mul_comm, Nat.div_add_mod, List.getElem?_eq_getElem hq] at h1
    exact hone _ _ _ _ hrd _ (List.mem_of_getElem? h1.symm)
  obtain ⟨hzs, hzc⟩ := hz
  rw [hzl] at hzs hzc
  obtain ⟨cs, hcs⟩ : ∃ cs, cs = news.take (Nat.min n m * K.sz) := ⟨_, rfl⟩
  have hle : Nat.min n m * K.sz ≤ n * K.sz := Nat.mul_le_mul_right _ (Nat.min_le_left _ _)
  have hle2 : Nat.min n m * K.sz ≤ m * K.sz := Nat.mul_le_mul_right _ (Nat.min_le_right _ _)
  have hcl : cs.length = Nat.min n m * K.sz := by rw [hcs, List.length_take, hnl, Nat.min_eq_left hle]
  have hfirst : (Builtin.firstCells K.sz (Nat.min n m) (.slice ao n c)).run P w = .ok cs.toArray w := by
    cases ao with
    | none =>
      have hn : n = 0 := by
        rcases Nat.eq_zero_or_pos n with h0 | h0
        · exact h0
        · obtain ⟨_, _, h, _⟩ := hnc h0; cases h
      have : cs = [] := List.eq_nil_of_length_eq_zero (by rw [hcl, hn]; simp)
      rw [this]; exact Go.run_firstCells_none (P := P) (w := w) _ _ _ _
    | some ad =>
      refine Go.run_firstCells_some (P := P) (w := w) K.sz (Nat.min n m) ad n c cs hcl (fun j u hu => ?_)
      have hjl : j < cs.length := (List.getElem?_eq_some_iff.1 hu).1
      rcases Nat.eq_zero_or_pos n with h0 | h0
      · exfalso; rw [hcl, h0] at hjl; simp at hjl
      · obtain ⟨b, off, he, hc'⟩ := hnc h0
        injection he with he; subst he
        rw [add_plain']
        refine hc' j u ?_
        rw [hcs, List.getElem?_take, if_pos (by omega)] at hu
        exact hu
  have hstore := run_storeCells_at (P := P) g 0 e cs 0 cur w hr (by omega) (fun u hu => hone' u (by rw [hcs] at hu; exact List.mem_of_mem_take hu))
  simp only [Nat.add_zero, Nat.zero_add, List.take_zero, List.nil_append] at hstore
  obtain ⟨i, hi1, hi2⟩ := Option.map_eq_some_iff.1 hi
  have hsz : (Go.sizeOf e).run P w = .ok K.sz w := by simp [Go.sizeOf, typeInfo, hi1, hi2]
  have hrun : (Builtin.copy_ #[t, t] o.type #[.slice (some ⟨g, 0, none⟩) m m, .slice ao n c]).run P w = .ok (goInt (Nat.min n m)) (w.setRow g (cs ++ cur.toList.drop cs.length).toArray) := by
    simp only [Builtin.copy_, run_underlying ht, Sem.run_bind, Sem.run_pure, Result.andThen_ok, List.getElem?_toArray, List.getElem?_cons_zero, List.getElem?_cons_succ, hsz, Builtin.lenOf, hfirst, hstore]
  refine wpList_plain hgd fun K' hK' => ?_
  unfold Oper.wp execOp
  simp only [ho, resolve, invoke, builtin, Sem.run_bind, Sem.run_pure, Result.andThen_ok, List.map_toArray, List.map_cons, List.map_nil, hs, hx, hrun]
  refine hK' _ _ (h _ ?_ (Turn.setRow w g _))
  have hcur : (cs ++ cur.toList.drop cs.length).length = m * K.sz := by
    have h1 : cur.toList.length = m * K.sz := by rw [Array.length_toList, hzs]
    rw [List.length_append, List.length_drop, h1, hcl]; omega
  have hdrop : ∀ q, cs.length ≤ q → (cs ++ cur.toList.drop cs.length)[q]? = cur[q]? := fun q hq => by
    rw [List.getElem?_append_right hq, List.getElem?_drop, Array.getElem?_toList]; congr 1; omega
  have hrow' : Row (w.setRow g (cs ++ cur.toList.drop cs.length).toArray) g e (cs ++ cur.toList.drop cs.length).toArray := setRow_heap w g cur _ e _ hr
  have key : ∃ F : Nat → Nat → Prop, (∀ j k, F j k → S k) ∧ (∀ i j k, F i k → F j k → i = j) ∧ ∀ j x, xs[j]? = some x → ∃ c1, c1.length = K.sz ∧ (∀ i, i < K.sz → news[j * K.sz + i]? = c1[i]?) ∧ K.own w (F j) c1 x := by
    rcases hown.2 with ⟨h1, h2⟩ | ⟨g', cap, cu, F, hv, hgS, hr', h1, h2, h3, hF, hD, hc⟩
    · refine ⟨fun _ _ => False, fun _ _ h => h.elim, fun _ _ _ h => h.elim, fun j x hj => ?_⟩
      have := (List.getElem?_eq_some_iff.1 hj).1; omega
    · refine ⟨F, fun j k hk => (hF j k hk).1, hD, fun j x hj => ?_⟩
      obtain ⟨c1, hc1, hc2, hc3⟩ := hc j x hj
      refine ⟨c1, hc1, fun i hi => ?_, hc3⟩
      have hjl := (List.getElem?_eq_some_iff.1 hj).1
      obtain ⟨b, off, he, hc'⟩ := hnc (by omega)
      injection hv with hv1 hv2 hv3
      rw [he] at hv1; injection hv1 with hv1; injection hv1 with e1 e2; subst e1 e2
      have hmul := Nat.mul_le_mul_right K.sz (show j + 1 ≤ n by omega)
      rw [Nat.add_mul] at hmul
      obtain ⟨u, hu⟩ : ∃ u, news[j * K.sz + i]? = some u := ⟨_, List.getElem?_eq_getElem (by omega)⟩
      have h5 := hc' _ u hu
      rw [Nat.zero_add, hr'.cell] at h5
      rw [hu, ← h5]; exact hc2 i hi
  obtain ⟨F, hF, hD, hFc⟩ := key
  refine ⟨length_fitTo _ _ _, .inr ⟨g, m, _, fun j k => j < n ∧ F j k, rfl, .inr rfl, hrow', Nat.le_refl _, hm, by simpa using hcur, fun j k hk => ⟨.inl (hF j k hk.2), fun e => hg (e ▸ hF j k hk.2)⟩, fun i j k hi hj => hD i j k hi.2 hj.2, fun j y hj => ?_⟩⟩
  have hjm : j < m := by have := (List.getElem?_eq_some_iff.1 hj).1; rwa [length_fitTo] at this
  rw [fitTo_at hjm] at hj
  have hmulm := Nat.mul_le_mul_right K.sz (show j + 1 ≤ m by omega)
  rw [Nat.add_mul] at hmulm
  by_cases hjn : j < xs.length
  · rw [if_pos hjn] at hj
    obtain ⟨c1, hc1, hc2, hc3⟩ := hFc j y hj
    have hmul := Nat.mul_le_mul_right K.sz (show j + 1 ≤ Nat.min n m from Nat.le_min.2 ⟨by omega, by omega⟩)
    rw [Nat.add_mul] at hmul
    refine ⟨c1, hc1, fun i hi => ?_, K.own_turn (K.own_mono hc3 (S' := fun k => j < n ∧ F j k) (fun k hk _ => ⟨by omega, hk⟩)) (Turn.setRow w g _) (fun k hk _ e => hg (e ▸ hF j k hk.2))⟩
    rw [List.getElem?_toArray, List.getElem?_append_left (by omega), hcs, List.getElem?_take, if_pos (by omega)]
    exact hc2 i hi
  · rw [if_neg hjn] at hj
    injection hj with hj; subst hj
    have hmin : Nat.min n m = n := Nat.min_eq_left (by omega)
    have hmul := Nat.mul_le_mul_right K.sz (show n ≤ j by omega)
    refine ⟨zs, hzl, fun i hi => ?_, K.own_mono (hd _) (fun _ h _ => h.elim)⟩
    rw [List.getElem?_toArray, hdrop _ (by rw [hcl, hmin]; omega)]
    exact hzc j i hjm hi
end

/-- make([]E, n), as an equation: the walk and a region that draws take it. -/
theorem make_eq {P : Program} {t e : TypeId} {i : TypeInfo} {z : Value} {k : Nat} (ht : P.underlying t = some (.slice e)) (hi : P.info? e = some i) (hz : i.zero = some z) (hsize : i.size = k) (hk : z.cells.size = k) (n : Nat) (hb : i.bytes * n ≤ 281474976710656) (h63 : n ≤ 9223372036854775807) :
    ∃ cur, ZeroRow z.cells.toList n cur ∧ ∀ w : World, (Instr.makeSlice t (.int .i64 (n : Int)) (.int .i64 (n : Int))).run P w = .ok (.slice (some ⟨w.heap.size, 0, none⟩) n n) (w.alloc (.cells cur e)) := by
  refine ⟨madeCells z.cells (n * i.size), by rw [hsize, ← hk]; exact zero_made _ _, fun w => ?_⟩
  have := run_make (P := P) (w := w) t e i z ht hi hz .i64 .i64 n n (by omega) (Int.le_refl _) (by rw [← Int.natCast_mul]; omega) (by omega)
  simpa using this
end Go.Proofs.Ytcnpckaacigbfaa
