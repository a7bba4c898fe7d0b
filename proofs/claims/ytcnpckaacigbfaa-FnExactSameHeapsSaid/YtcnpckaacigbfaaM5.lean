/- Joined texts (Plain5, Help5, Help5b, Help5c, Help5d, Hold5, Blk4, Run4, Spec4f, Spec4g, Spec4h): steps of the proofs of chapter 5's laws. -/
import Derived.Handy
import Derived.Deep.LoopGhost
import Derived.Test.YtcnpckaacigbfaaM2
import Derived.Test.YtcnpckaacigbfaaM3
import Derived.Test.YtcnpckaacigbfaaM4
set_option linter.unusedVariables false
set_option linter.unusedSimpArgs false
/- Chapter 5: what its functions answer, in plain words. -/
namespace Go.Proofs.Ytcnpckaacigbfaa
open Go.RowKit

/-- A heap, in plain words. -/
structure Hp where
  pages : List Pg
  words : List Int
  mags : List (List Int)
theorem Hp.ext_ {p q : Hp} (h1 : p.pages = q.pages) (h2 : p.words = q.words) (h3 : p.mags = q.mags) : p = q := by
  cases p; cases q; simp_all
instance : DecidableEq Hp := fun p q => decidable_of_iff (p.pages = q.pages ∧ p.words = q.words ∧ p.mags = q.mags) ⟨fun ⟨h1, h2, h3⟩ => Hp.ext_ h1 h2 h3, fun h => by subst h; exact ⟨rfl, rfl, rfl⟩⟩
def Hp.zero : Hp := ⟨[], [], []⟩
def Hp.kept (h : Hp) : List Int := h.mags.flatten

/-- A slot of this class begins at a place. -/
def isSlotAt (ps : List Pg) (c a : Int) : Bool := match heldAt ps a with
  | (_, some (.slot i k s)) => decide (k = c) && decide ((Blk.slot i k s).start = a)
  | _ => false
def magFault (ps : List Pg) (c : Int) (m : List Int) : Int := if 2 < m.length then 2 else if m.all (isSlotAt ps c) = true then 0 else 1
def magsFault (ps : List Pg) : Nat → List (List Int) → Int
  | _, [] => 0
  | k, m :: r => if magFault ps ((k % 4 : Nat) : Int) m = 0 then magsFault ps (k + 1) r else magFault ps ((k % 4 : Nat) : Int) m
def freeZero (ws : List Int) : Nat → List Pg → Bool
  | _, [] => true
  | k, p :: r => (decide (p.kind ≠ 0) || decide (frameOf ws k = List.replicate 16 0)) && freeZero ws (k + 1) r
def magCount (n : Nat) : Bool := decide (n % 4 = 0 ∧ 4 ≤ n ∧ n ≤ 8)
def heapFault (h : Hp) : Int :=
  if pagesFault h.pages = 0 then
    (if h.words.length = h.pages.length * 16 ∧ magCount h.mags.length = true then
      (if within (-1000000000) 1000000000 h.words = true then
        (if magsFault h.pages 0 h.mags = 0 then (if alike h.kept = false then (if freeZero h.words 0 h.pages = true then 0 else 8) else 6) else magsFault h.pages 0 h.mags)
      else 3)
    else 2)
  else pagesFault h.pages
theorem heapFault_ok {h : Hp} (hf : heapFault h = 0) : pagesFault h.pages = 0 ∧ h.words.length = h.pages.length * 16 ∧ magCount h.mags.length = true ∧ within (-1000000000) 1000000000 h.words = true ∧ magsFault h.pages 0 h.mags = 0 ∧ alike h.kept = false ∧ freeZero h.words 0 h.pages = true := by
  unfold heapFault at hf
  by_cases h1 : pagesFault h.pages = 0
  · rw [if_pos h1] at hf
    by_cases h2 : h.words.length = h.pages.length * 16 ∧ magCount h.mags.length = true
    · rw [if_pos h2] at hf
      by_cases h3 : within (-1000000000) 1000000000 h.words = true
      · rw [if_pos h3] at hf
        by_cases h4 : magsFault h.pages 0 h.mags = 0
        · rw [if_pos h4] at hf
          by_cases h5 : alike h.kept = false
          · rw [if_pos h5] at hf
            by_cases h6 : freeZero h.words 0 h.pages = true
            · exact ⟨h1, h2.1, h2.2, h3, h4, h5, h6⟩
            · rw [if_neg h6] at hf; omega
          · rw [if_neg h5] at hf; omega
        · rw [if_neg h4] at hf; exact absurd hf h4
      · rw [if_neg h3] at hf; omega
    · rw [if_neg h2] at hf; omega
  · rw [if_neg h1] at hf; exact absurd hf h1
theorem heapFault_of {h : Hp} (h1 : pagesFault h.pages = 0) (h2 : h.words.length = h.pages.length * 16) (h3 : magCount h.mags.length = true) (h4 : within (-1000000000) 1000000000 h.words = true) (h5 : magsFault h.pages 0 h.mags = 0) (h6 : alike h.kept = false) (h7 : freeZero h.words 0 h.pages = true) : heapFault h = 0 := by
  unfold heapFault
  rw [if_pos h1, if_pos ⟨h2, h3⟩, if_pos h4, if_pos h5, if_pos h6, if_pos h7]

def newHp (p c : Nat) : Hp := ⟨List.replicate p Pg.free, List.replicate (p * 16) 0, List.replicate (4 * c) []⟩
def newHeap (p c : Int) : Int × Hp := if within 0 40 [p] = true ∧ within 1 2 [c] = true then (0, newHp p.toNat c.toNat) else (3, Hp.zero)
/-- Where the block that lives at a place begins. -/
def liveIn (h : Hp) (a : Int) : Int × Int := match blockStart h.pages a with
  | (c, s) => if c = 0 then (if hasIn h.kept s = true then (4, 0) else (0, s)) else (c, 0)
def liveAt (h : Hp) (a : Int) : Int × Int := if heapFault h = 0 then liveIn h a else (heapFault h, 0)
/-- The places below this one at which blocks begin that live. -/
def blocksTo (h : Hp) : Nat → List Int
  | 0 => []
  | k + 1 => blocksTo h k ++ (if liveIn h (k : Int) = (0, (k : Int)) then [(k : Int)] else [])
def blocksIn (h : Hp) : List Int := blocksTo h h.words.length
def liveBlocks (h : Hp) : Int × List Int := if heapFault h = 0 then (0, blocksIn h) else (heapFault h, [])
def heldIn (h : Hp) : Int × Int := if heapFault h = 0 then (0, (h.kept.length : Int)) else (heapFault h, 0)
/-- The pages when these places are dropped, one behind the other. -/
def dropAll (ps : List Pg) : List Int → List Pg
  | [] => ps
  | a :: r => dropAll (dropAt ps a.toNat) r
/-- Words with zeros in all free pages. -/
def sweepW : List Int → Nat → List Pg → List Int
  | ws, _, [] => ws
  | ws, k, p :: r => sweepW (if p.kind = 0 then putFrame ws k (List.replicate 16 0) else ws) (k + 1) r
def drainHp (h : Hp) : Hp := ⟨dropAll h.pages h.kept, sweepW h.words 0 (dropAll h.pages h.kept), List.replicate h.mags.length []⟩
def drainHeap (h : Hp) : Int × Hp := if heapFault h = 0 then (0, drainHp h) else (heapFault h, Hp.zero)
def fitHp (h : Hp) (p : Nat) : Hp := ⟨fitTo Pg.free h.pages p, fitTo 0 h.words (p * 16), h.mags⟩
def anyUsed (ps : List Pg) : Bool := ps.any fun p => decide (p.kind ≠ 0)
def resizeHeap (h : Hp) (p : Int) : Int × Hp :=
  if heapFault h = 0 then (if within 0 40 [p] = true then (if anyUsed ((drainHp h).pages.drop p.toNat) = true then (8, Hp.zero) else (0, fitHp (drainHp h) p.toNat)) else (3, Hp.zero)) else (heapFault h, Hp.zero)

theorem length_dropAll : ∀ (xs : List Int) (ps : List Pg), (dropAll ps xs).length = ps.length
  | [], _ => rfl
  | a :: r, ps => by
    rw [dropAll, length_dropAll r]
    unfold dropAt
    split
    · rfl
    · split
      · rw [List.length_set]
      · rw [length_setMany]
theorem dropAll_snoc : ∀ (xs : List Int) (ps : List Pg) (a : Int), dropAll ps (xs ++ [a]) = dropAt (dropAll ps xs) a.toNat
  | [], _, _ => rfl
  | x :: r, ps, a => by rw [List.cons_append, dropAll, dropAll, dropAll_snoc r]
theorem dropAll_append : ∀ (xs ys : List Int) (ps : List Pg), dropAll ps (xs ++ ys) = dropAll (dropAll ps xs) ys
  | [], _, _ => rfl
  | x :: r, ys, ps => by rw [List.cons_append, dropAll, dropAll, dropAll_append r]
theorem length_sweepW : ∀ (ps : List Pg) (ws : List Int) (k : Nat), ws.length = (k + ps.length) * 16 → (sweepW ws k ps).length = ws.length
  | [], _, _, _ => rfl
  | p :: r, ws, k, h => by
    simp only [List.length_cons] at h
    have hp : (if p.kind = 0 then putFrame ws k (List.replicate 16 0) else ws).length = ws.length := by
      split
      · exact length_putFrame (by rw [List.length_replicate]; omega)
      · rfl
    rw [sweepW, length_sweepW r _ _ (by rw [hp]; omega), hp]
theorem sweepW_take {ws : List Int} {ps : List Pg} {k : Nat} {p : Pg} (h : ps[k]? = some p) : sweepW ws 0 (ps.take (k + 1)) = if p.kind = 0 then putFrame (sweepW ws 0 (ps.take k)) k (List.replicate 16 0) else sweepW ws 0 (ps.take k) := by
  have key : ∀ (qs : List Pg) (ws : List Int) (j : Nat), sweepW ws j (qs ++ [p]) = if p.kind = 0 then putFrame (sweepW ws j qs) (j + qs.length) (List.replicate 16 0) else sweepW ws j qs := by
    intro qs
    induction qs with
    | nil => intro ws j; simp [sweepW]
    | cons q r ih => intro ws j; rw [List.cons_append, sweepW, ih, sweepW, List.length_cons, show j + 1 + r.length = j + (r.length + 1) by omega]
  have hk := (List.getElem?_eq_some_iff.1 h).1
  have e : ps.take (k + 1) = ps.take k ++ [p] := by rw [List.take_add_one, h]; rfl
  rw [e, key, Nat.zero_add, List.length_take, Nat.min_eq_left (by omega)]

/-- A heap in three cells. -/
def KHeap : Lay Hp := KMap (KPair (KSlice KPage 60) (KPair (KSlice KInt 2) (KSlice KMag 23))) fun h => (h.pages, h.words, h.mags)
theorem KHeap_sz : KHeap.sz = 3 := rfl
/-- The three slices of a heap read so. -/
structure HpR (w : World) (S : Nat → Prop) (pa : Option Addr) (pn pc : Nat) (wa : Option Addr) (wn wc : Nat) (ma : Option Addr) (mn mc : Nat) (h : Hp) : Prop where
  pg : Lst KPage w S pa pn h.pages
  wd : Lst KInt w S wa wn h.words
  mg : Lst KMag w S ma mn h.mags
  p1 : pn ≤ pc
  p2 : pc ≤ maxLen
  w1 : wn ≤ wc
  w2 : wc ≤ maxLen
  m1 : mn ≤ mc
  m2 : mc ≤ maxLen
theorem HpR.turn {w w' : World} {S T : Nat → Prop} {pa wa ma : Option Addr} {pn pc wn wc mn mc : Nat} {h : Hp} (hr : HpR w S pa pn pc wa wn wc ma mn mc h) (ht : Turn T w w') (hd : ∀ k, S k → k < w.heap.size → ¬ T k) : HpR w' S pa pn pc wa wn wc ma mn mc h :=
  ⟨hr.pg.turn ht hd, hr.wd.turn ht hd, hr.mg.turn ht hd, hr.p1, hr.p2, hr.w1, hr.w2, hr.m1, hr.m2⟩
theorem HpR.below {w w' : World} {S : Nat → Prop} {pa wa ma : Option Addr} {pn pc wn wc mn mc : Nat} {h : Hp} (hr : HpR w S pa pn pc wa wn wc ma mn mc h) (hb : Below w.heap.size w w') : HpR w' S pa pn pc wa wn wc ma mn mc h :=
  hr.turn (T := fun _ => False) (Turn.of_below hb) (fun _ _ _ h => h)
theorem HpR.alloc {w : World} {S : Nat → Prop} {pa wa ma : Option Addr} {pn pc wn wc mn mc : Nat} {h : Hp} (hr : HpR w S pa pn pc wa wn wc ma mn mc h) (o : Obj) : HpR (w.alloc o) S pa pn pc wa wn wc ma mn mc h := hr.below ((Below.refl _ _).alloc (Nat.le_refl _) o)
theorem HpR.mono {w : World} {S S' : Nat → Prop} {pa wa ma : Option Addr} {pn pc wn wc mn mc : Nat} {h : Hp} (hr : HpR w S pa pn pc wa wn wc ma mn mc h) (hS : ∀ k, S k → k < w.heap.size → S' k) : HpR w S' pa pn pc wa wn wc ma mn mc h :=
  ⟨hr.pg.mono hS, hr.wd.mono hS, hr.mg.mono hS, hr.p1, hr.p2, hr.w1, hr.w2, hr.m1, hr.m2⟩
theorem KHeap_rd {w : World} {S : Nat → Prop} {cs : List Value} {h : Hp} (hr : KHeap.rd w S cs h) : ∃ pa pn pc wa wn wc ma mn mc, cs = [.slice pa pn pc, .slice wa wn wc, .slice ma mn mc] ∧ HpR w S pa pn pc wa wn wc ma mn mc h := by
  obtain ⟨c1, c2, rfl, ⟨pa, pn, pc, rfl, p1, p2, hp⟩, c3, c4, rfl, ⟨wa, wn, wc, rfl, w1, w2, hw⟩, ma, mn, mc, rfl, m1, m2, hm⟩ := hr
  exact ⟨pa, pn, pc, wa, wn, wc, ma, mn, mc, rfl, hp, hw, hm, p1, p2, w1, w2, m1, m2⟩
/-- The three slices of a heap are owned so, in blocks apart. -/
structure HpO (w : World) (S : Nat → Prop) (vp : Value) (np : Nat) (vw : Value) (nw : Nat) (vm : Value) (nm : Nat) (h : Hp) : Prop where
  ex : ∃ S1 S2 S3 : Nat → Prop, Own KPage 60 w S1 vp np h.pages ∧ Own KInt 2 w S2 vw nw h.words ∧ Own KMag 23 w S3 vm nm h.mags ∧
    (∀ k, S1 k → S k) ∧ (∀ k, S2 k → S k) ∧ (∀ k, S3 k → S k) ∧ (∀ k, S1 k → ¬ S2 k) ∧ (∀ k, S1 k → ¬ S3 k) ∧ ∀ k, S2 k → ¬ S3 k
theorem HpO.turn {w w' : World} {S T : Nat → Prop} {vp vw vm : Value} {np nw nm : Nat} {h : Hp} (ho : HpO w S vp np vw nw vm nm h) (ht : Turn T w w') (hd : ∀ k, S k → k < w.heap.size → ¬ T k) : HpO w' S vp np vw nw vm nm h := by
  obtain ⟨S1, S2, S3, h1, h2, h3, d1, d2, d3, e1, e2, e3⟩ := ho.ex
  exact ⟨S1, S2, S3, h1.turn ht (fun k hk => hd k (d1 k hk)), h2.turn ht (fun k hk => hd k (d2 k hk)), h3.turn ht (fun k hk => hd k (d3 k hk)), d1, d2, d3, e1, e2, e3⟩
theorem HpO.below {w w' : World} {S : Nat → Prop} {vp vw vm : Value} {np nw nm : Nat} {h : Hp} (ho : HpO w S vp np vw nw vm nm h) (hb : Below w.heap.size w w') : HpO w' S vp np vw nw vm nm h := ho.turn (T := fun _ => False) (Turn.of_below hb) (fun _ _ _ h => h)
theorem HpO.mono {w : World} {S S' : Nat → Prop} {vp vw vm : Value} {np nw nm : Nat} {h : Hp} (ho : HpO w S vp np vw nw vm nm h) (hS : ∀ k, S k → k < w.heap.size → S' k) : HpO w S' vp np vw nw vm nm h := by
  obtain ⟨S1, S2, S3, h1, h2, h3, d1, d2, d3, e1, e2, e3⟩ := ho.ex
  exact ⟨fun k => S1 k ∧ k < w.heap.size, fun k => S2 k ∧ k < w.heap.size, fun k => S3 k ∧ k < w.heap.size, h1.here, h2.here, h3.here, fun k hk => hS k (d1 k hk.1) hk.2, fun k hk => hS k (d2 k hk.1) hk.2, fun k hk => hS k (d3 k hk.1) hk.2, fun k hk hq => e1 k hk.1 hq.1, fun k hk hq => e2 k hk.1 hq.1, fun k hk hq => e3 k hk.1 hq.1⟩
theorem HpO.fresh {w : World} {B B' : Nat} {vp vw vm : Value} {np nw nm : Nat} {h : Hp} (ho : HpO w (fun k => B ≤ k) vp np vw nw vm nm h) (hB : B' ≤ B) : HpO w (fun k => B' ≤ k) vp np vw nw vm nm h := ho.mono (fun _ hk _ => Nat.le_trans hB hk)
theorem HpO.shape {w : World} {S : Nat → Prop} {vp vw vm : Value} {np nw nm : Nat} {h : Hp} (ho : HpO w S vp np vw nw vm nm h) : ∃ pa pc wa wc ma mc, vp = .slice pa np pc ∧ vw = .slice wa nw wc ∧ vm = .slice ma nm mc ∧ HpR w S pa np pc wa nw wc ma nm mc h := by
  obtain ⟨S1, S2, S3, h1, h2, h3, d1, d2, d3, e1, e2, e3⟩ := ho.ex
  obtain ⟨pa, pc, rfl, p1, p2, hp⟩ := h1.shape
  obtain ⟨wa, wc, rfl, w1, w2, hw⟩ := h2.shape
  obtain ⟨ma, mc, rfl, m1, m2, hm⟩ := h3.shape
  exact ⟨pa, pc, wa, wc, ma, mc, rfl, rfl, rfl, hp.mono (fun k hk _ => d1 k hk), hw.mono (fun k hk _ => d2 k hk), hm.mono (fun k hk _ => d3 k hk), p1, p2, w1, w2, m1, m2⟩
theorem HpO.rd {w : World} {S : Nat → Prop} {pa wa ma : Option Addr} {pc wc mc pn wn mn np nw nm : Nat} {h : Hp} (ho : HpO w S (.slice pa pn pc) np (.slice wa wn wc) nw (.slice ma mn mc) nm h) : HpR w S pa pn pc wa wn wc ma mn mc h := by
  obtain ⟨pa', pc', wa', wc', ma', mc', e1, e2, e3, hr⟩ := ho.shape
  cases e1; cases e2; cases e3
  exact hr
/-- Of three kinds of blocks apart, each owns its own. -/
theorem HpO.mk3 {w : World} {S : Nat → Prop} {A B C : Nat → Prop} {vp vw vm : Value} {np nw nm : Nat} {h : Hp} (h1 : Own KPage 60 w A vp np h.pages) (h2 : Own KInt 2 w B vw nw h.words) (h3 : Own KMag 23 w C vm nm h.mags)
    (a : ∀ k, A k → S k) (b : ∀ k, B k → S k) (c : ∀ k, C k → S k) (ab : ∀ k, A k → ¬ B k) (ac : ∀ k, A k → ¬ C k) (bc : ∀ k, B k → ¬ C k) : HpO w S vp np vw nw vm nm h := ⟨A, B, C, h1, h2, h3, a, b, c, ab, ac, bc⟩

/-- No list in a heap is longer than is good for any walk. -/
structure HpS (N : Nat) (h : Hp) : Prop where
  p : h.pages.length ≤ N
  u : ShortP N h.pages
  w : h.words.length ≤ N
  m : h.mags.length ≤ N
  k : ShortM N h.mags
theorem HpS.more {N M : Nat} {h : Hp} (hs : HpS N h) (hM : N ≤ M) : HpS M h := ⟨Nat.le_trans hs.p hM, fun p hp => Nat.le_trans (hs.u p hp) hM, Nat.le_trans hs.w hM, Nat.le_trans hs.m hM, hs.k.more hM⟩

/-- A result of a code and a heap, in new memory; the reply is zero. -/
def RetsHeap (w : World) (r : Int × Hp) (e : Ending) (w' : World) : Prop :=
  ∃ vp np vw nw vm nm, e = .returned (.agg #[.int .i64 r.1, vp, vw, vm, .int .i64 0, .int .i64 0]) ∧ HpO w' (fun k => w.heap.size ≤ k) vp np vw nw vm nm r.2 ∧ Below w.heap.size w w'
theorem HpO.zero {w : World} {S : Nat → Prop} : HpO w S (.slice none 0 0) 0 (.slice none 0 0) 0 (.slice none 0 0) 0 Hp.zero := ⟨fun _ => False, fun _ => False, fun _ => False, Own.nil, Own.nil, Own.nil, fun _ h => h.elim, fun _ h => h.elim, fun _ h => h.elim, fun _ h => h.elim, fun _ h => h.elim, fun _ h => h.elim⟩
theorem heap_done {w w1 : World} {r : Int × Hp} {x : Int} {h : Hp} {g np nw nm : Nat} {vp vw vm : Value} (hb : Below w.heap.size w w1) (hg : w.heap.size ≤ g) (ho : HpO w1 (fun k => g < k) vp np vw nw vm nm h) (cs : Array Value) (hr : r = (x, h)) :
    RetsHeap w r (.returned (.agg #[.int .i64 x, vp, vw, vm, .int .i64 0, .int .i64 0])) (w1.setRow g cs) := by
  subst hr
  exact ⟨vp, np, vw, nw, vm, nm, rfl, (ho.turn (Turn.setRow w1 g cs) (fun k hk _ e => by have : k = g := e; omega)).mono (fun k hk _ => by omega), below_setRow hb hg cs⟩
theorem Own.of_zero {α : Type} {K : Lay α} {t : TypeId} {w : World} {g n : Nat} {cur : Array Value} {zs : List Value} {d : α} (hr : Row w g t cur) (hz : ZeroRow zs n cur) (hzl : zs.length = K.sz) (ho : K.own w (fun _ => False) zs d) (hn : n ≤ maxLen) : Own K t w (fun k => k = g) (.slice (some ⟨g, 0, none⟩) n n) n (List.replicate n d) := by
  obtain ⟨h1, h2⟩ := hz
  rw [hzl] at h1 h2
  exact Own.made hr rfl hn h1 hzl h2 ho
/-- A heap in new memory. -/
def MakesHeap (w : World) (h : Hp) (e : Ending) (w' : World) : Prop :=
  ∃ vp np vw nw vm nm, e = .returned (.agg #[vp, vw, vm]) ∧ HpO w' (fun k => w.heap.size ≤ k) vp np vw nw vm nm h ∧ Below w.heap.size w w'
end Go.Proofs.Ytcnpckaacigbfaa

/- The laws' helpers over heaps: how great they are, their copy, whether two are the same. -/
namespace Go.Proofs.Ytcnpckaacigbfaa
open Go.RowKit

theorem szW_calls {a : Option Addr} {n c : Nat} {r : Int} {w : World} (hn : n ≤ 9223372036854775807) (h0 : 0 ≤ r) (h1 : r ≤ 1048576) :
    Calls Try.prog 26 #[.slice a n c, .int .i64 r] w fun e w' => e = .returned (.int .i64 (if r - n < 0 then -1 else r - n)) ∧ w = w' := by
  by_cases h : r - (n : Int) < 0
  · rw [if_pos h]
    go_enter Try.func26, Try.ntmps26
    go_wp2
    go_ret
    exact ⟨rfl, rfl⟩
  · rw [if_neg h]
    go_enter Try.func26, Try.ntmps26
    go_wp2
    go_ret
    exact ⟨rfl, rfl⟩

set_option maxHeartbeats 400000 in
theorem toW_calls {a : Option Addr} {n c : Nat} {xs : List Int} {S : Nat → Prop} {w : World} (ha : Lst KInt w S a n xs) (hx : n ≤ 17592186044416) :
    Calls Try.prog 36 #[.slice a n c] w fun e w' => ∃ v, e = .returned v ∧ Own KInt 2 w' (fun k => w.heap.size ≤ k) v n xs ∧ Below w.heap.size w w' := by
  obtain ⟨i0, hi, hz0, hz1, hz2⟩ := info_parts info64
  have HL := Lib.hid ha.1
  go_enter Try.func36, Try.ntmps36
  go_wp2_with (at_make; go_must (refine wpList_make_full _ rfl _ _ 23 rfl w.heap.size 2 i0 (.int .i64 0) 1 Try.underlying23 hi hz0 hz1 _ _ _ _ n rfl rfl rfl rfl (by rw [hz2]; omega) (by unfold maxLen; omega) (Nat.le_refl _) ?_); intro w1 hown hg)
  have hb1 : Below w.heap.size w w1 := (Below.refl _ _).grown hg (Nat.le_refl _) (by simp)
  have hown1 : Own KInt 2 w1 (fun k => w.heap.size ≤ k) (.slice (some ⟨w.heap.size, 0, none⟩) n n) n (fillD (0 : Int) xs 0) := by
    rw [fillD_zero, HL.out]
    exact Own.of_made (z := .int .i64 0) (by simpa [KInt] using hown) (Nat.le_refl _) rfl rfl
  clear hown hg
  go_loopw [4] (fun i wr => ∃ k : Nat, k ≤ n ∧ i = .int .i64 k ∧ Below w.heap.size w wr ∧ Own KInt 2 wr (fun k => w.heap.size ≤ k) (.slice (some ⟨w.heap.size, 0, none⟩) n n) n (fillD (0 : Int) xs k)) (fun i _ => n - (intOf i).toNat)
  case atStart => exact ⟨0, Nat.zero_le _, rfl, hb1, hown1⟩
  case round =>
    obtain ⟨k, hk, rfl, hbw, HO⟩ := hrel
    by_cases hlt : k < n
    · obtain ⟨ba, oa, rfl, hba, hca⟩ := (ha.below hbw).ints.at_ hlt
      have hkx : k < xs.length := by rw [HL.out]; exact hlt
      obtain ⟨g, cap, he, -, -, hcl, hfr, hst⟩ := HO.int_at hlt
      obtain rfl : w.heap.size = g := by simpa [Value.ownBlock] using congrArg Value.ownBlock he
      clear he
      have H2 := Lib.hid (hst xs[k])
      rw [fillD_step (List.getElem?_eq_getElem hkx)] at H2
      generalize (fillD (0 : Int) xs k).getD k 0 = u0 at hcl
      clear hst HO
      go_wp2
      go_roundw
      case rel => exact ⟨k + 1, by omega, by go_num, hbw.setCell (Nat.le_refl _) _, H2.out.1⟩
      case measure => simp [intOf]; omega
    · obtain rfl : k = n := by omega
      have H : Hid (Own KInt 2 wr (fun k => w.heap.size ≤ k) (.slice (some ⟨w.heap.size, 0, none⟩) k k) k xs) := by
        have := HO; rw [← HL.out, fillD_full, HL.out] at this; exact this
      clear HO
      go_wp2
      go_ret
      exact ⟨_, rfl, H.out, hbw⟩

set_option maxHeartbeats 400000 in
theorem markW_calls {v : Value} {n : Nat} {xs : List Int} {K : Int} {S : Nat → Prop} {w : World} (ho : Own KInt 2 w S v n xs) (hx : n ≤ 17592186044416) (h0 : 0 ≤ K) (hK : K ≤ 1125899906842624) :
    Calls Try.prog 80 #[v, .int .i64 K] w fun e w' => e = .returned (.int .i64 (K + n)) ∧ Own KInt 2 w' S v n (marks K n) ∧ Turn S w w' := by
  have HL := Lib.hid ho.1
  obtain ⟨ao, c, rfl, hnc, hcm, _⟩ := ho.shape
  go_enter Try.func80, Try.ntmps80
  go_wp2
  go_loopw [1, 5] (fun q i wr => ∃ k : Nat, k ≤ n ∧ i = .int .i64 k ∧ q = .int .i64 (K + k) ∧ Own KInt 2 wr S (.slice ao n c) n (markedTo xs K k) ∧ Turn S w wr) (fun _ i _ => n - (intOf i).toNat)
  case atStart => exact ⟨0, Nat.zero_le _, rfl, by simp, by rw [markedTo_zero]; exact ho, Turn.refl _ _⟩
  case round =>
    obtain ⟨k, hk, rfl, rfl, HO, HT⟩ := hrel
    by_cases hlt : k < n
    · obtain ⟨g, cap, he, hg, hlo, hcl, hfr, hst⟩ := HO.int_at hlt
      injection he with he _ hcap
      subst he
      have HS := Lib.hid (And.intro (hst (K + k)) HT)
      rw [markedTo_step xs K (by rw [HL.out]; exact hlt)] at HS
      clear hst HO HT
      go_wp2
      go_roundw
      case rel => exact ⟨k + 1, by omega, by go_num, by go_num, HS.out.1.1, HS.out.2.trans HS.out.1.2 (fun _ h _ => h)⟩
      case measure => simp [intOf]; omega
    · obtain rfl : k = n := by omega
      have HF : Hid (Own KInt 2 wr S (.slice ao k c) k (marks K k) ∧ Turn S w wr) := by
        have := markedTo_full xs K
        rw [HL.out] at this
        rw [this] at HO
        exact ⟨HO, HT⟩
      clear HO HT
      go_wp2
      go_ret
      exact ⟨rfl, HF.out.1, HF.out.2⟩

/-- What the sizes tell of lists of lists. -/
def SizedM (n : Nat) (ms : List (List Int)) (w : World) (e : Ending) (w' : World) : Prop :=
  (e = .returned (.int .i64 (-1)) ∨ ∃ r : Int, e = .returned (.int .i64 r) ∧ 0 ≤ r ∧ r ≤ 1048576 ∧ n ≤ 1048576 ∧ ShortM 1048576 ms) ∧ w = w'
set_option maxHeartbeats 400000 in
theorem szMags_calls {ao : Option Addr} {n cc : Nat} {ms : List (List Int)} {S : Nat → Prop} {q : Int} {w : World} (hT : Lst KMag w S ao n ms) (hn : n ≤ 9223372036854775807) (h0 : 0 ≤ q) (hq : q ≤ 1048576) :
    Calls Try.prog 27 #[.slice ao n cc, .int .i64 q] w (SizedM n ms w) := by
  have HL := Lib.hid hT.1
  by_cases h : q - (n : Int) < 0
  · go_enter Try.func27, Try.ntmps27
    go_wp2_with fail
    go_ret
    exact ⟨.inl rfl, rfl⟩
  have hbig : n ≤ 1048576 := by omega
  go_enter Try.func27, Try.ntmps27
  go_wp2_with fail
  go_loop [1, 5] (fun q i => ∃ k r : Nat, k ≤ n ∧ i = .int .i64 k ∧ r ≤ 1048576 ∧ q = .int .i64 r ∧ Hid (∀ j m, j < k → ms[j]? = some m → m.length ≤ 1048576)) (fun _ i => n - (intOf i).toNat)
  case atStart => exact ⟨0, (q - n).toNat, Nat.zero_le _, rfl, by omega, by rw [Int.toNat_of_nonneg (by omega)], fun j p hj => by omega⟩
  case round =>
    obtain ⟨k, r, hk, rfl, hr, rfl, HW⟩ := hrel
    by_cases hlt : k < n
    · obtain ⟨b0, o0, m, a, l, c, rfl, d0, hp, e0, hlc, hcm, hu⟩ := hT.mag_at hlt
      have HU := Lib.hid hu.1
      have HP := Lib.hid hp
      have hl : l ≤ 9223372036854775807 := by unfold maxLen at hcm; omega
      clear hu hp hcm
      by_cases hneg : (r : Int) - (l : Int) < 0
      · have HE := Lib.hid (show (if (r : Int) - (l : Int) < 0 then (-1 : Int) else r - l) = -1 from if_pos hneg)
        go_wp2_with fail
        refine (szW_calls hl (by omega) (by omega)).mono ?_
        rintro e w1 ⟨rfl, rfl⟩
        rw [HE.out]
        go_wp2_with fail
        go_ret
        exact ⟨.inl rfl, rfl⟩
      · have HE := Lib.hid (show (if (r : Int) - (l : Int) < 0 then (-1 : Int) else r - l) = ((r - l : Nat) : Int) by rw [if_neg hneg]; omega)
        have HH : Hid (∀ j m, j < k + 1 → ms[j]? = some m → m.length ≤ 1048576) := fun j p' hj hp' => by
          by_cases e : j = k
          · subst e
            have := HP.out.symm.trans hp'
            injection this with this; subst this
            rw [HU.out]; omega
          · exact HW.out j p' (by omega) hp'
        have hge : ¬ (((r - l : Nat) : Int) < 0) := by omega
        go_wp2_with fail
        refine (szW_calls hl (by omega) (by omega)).mono ?_
        rintro e w1 ⟨rfl, rfl⟩
        rw [HE.out]
        go_wp2_with fail
        go_round
        case rel => exact ⟨k + 1, r - l, by omega, by go_num, by omega, rfl, HH⟩
        case measure => simp [intOf]; omega
    · have HF : Hid (ShortM 1048576 ms) := by
        intro p hp
        obtain ⟨j, hj, rfl⟩ := List.getElem_of_mem hp
        exact HW.out j _ (by have := HL.out; omega) (List.getElem?_eq_getElem hj)
      go_wp2_with fail
      go_ret
      exact ⟨.inr ⟨_, rfl, by omega, by omega, hbig, HF.out⟩, rfl⟩

/-- What the sizes tell of a heap. -/
def SizedH (h : Hp) (w : World) (e : Ending) (w' : World) : Prop :=
  (e = .returned (.int .i64 (-1)) ∨ ∃ r : Int, e = .returned (.int .i64 r) ∧ 0 ≤ r ∧ r ≤ 1048576 ∧ HpS 1048576 h) ∧ Below w.heap.size w w'
set_option maxHeartbeats 400000 in
theorem szHeap_calls {pa wa ma : Option Addr} {pn pc wn wk mn mc : Nat} {h : Hp} {S : Nat → Prop} {q : Int} {w : World} (hr : HpR w S pa pn pc wa wn wk ma mn mc h) (h0 : 0 ≤ q) (hq : q ≤ 1048576) :
    Calls Try.prog 8 #[.agg #[.slice pa pn pc, .slice wa wn wk, .slice ma mn mc], .int .i64 q] w (SizedH h w) := by
  have HR := Lib.hid hr
  have HL := Lib.hid (And.intro hr.pg.1 (And.intro hr.wd.1 hr.mg.1))
  have hM : maxLen ≤ 9223372036854775807 := by decide
  have n1 : pn ≤ 9223372036854775807 := Nat.le_trans hr.p1 (Nat.le_trans hr.p2 hM)
  have n2 : wn ≤ 9223372036854775807 := Nat.le_trans hr.w1 (Nat.le_trans hr.w2 hM)
  have n3 : mn ≤ 9223372036854775807 := Nat.le_trans hr.m1 (Nat.le_trans hr.m2 hM)
  clear hr hM
  go_enter Try.func8, Try.ntmps8
  go_wp2_with fail
  refine (szPgs_calls (HR.out.pg.alloc _) n1 h0 hq).mono ?_
  rintro e w1 ⟨hc, hb1⟩
  have R1 := Row.new hb1
  have B1 := Lib.hid (below_past hb1)
  have q1 := R1.cell 1
  have q2 := R1.cell 2
  have ql := R1.lt
  simp at q1 q2
  clear hb1 R1
  rcases hc with rfl | ⟨r, rfl, r0, r1, s1, s2⟩
  · go_wp2_with fail
    go_ret
    exact ⟨.inl rfl, B1.out⟩
  have HP := Lib.hid (And.intro s1 s2)
  have hge : ¬ (r < 0) := by omega
  clear s1 s2
  by_cases hw : r - (wn : Int) < 0
  · have HE := Lib.hid (show (if r - (wn : Int) < 0 then (-1 : Int) else r - wn) = -1 from if_pos hw)
    go_wp2_with fail
    refine (szW_calls n2 r0 r1).mono ?_
    rintro e w2 ⟨rfl, rfl⟩
    rw [HE.out]
    go_wp2_with fail
    go_ret
    exact ⟨.inl rfl, B1.out⟩
  have HE := Lib.hid (show (if r - (wn : Int) < 0 then (-1 : Int) else r - wn) = ((r - wn).toNat : Int) by rw [if_neg hw]; omega)
  have hwn : wn ≤ 1048576 := by omega
  obtain ⟨u, hu⟩ : ∃ u, u = (r - wn).toNat := ⟨_, rfl⟩
  rw [← hu] at HE
  have hu2 : u ≤ 1048576 := by omega
  have hge2 : ¬ ((u : Int) < 0) := by omega
  clear hu
  go_wp2_with fail
  refine (szW_calls n2 r0 r1).mono ?_
  rintro e w2 ⟨rfl, rfl⟩
  rw [HE.out]
  clear hw hge
  go_wp2_with fail
  refine (szMags_calls (HR.out.below B1.out).mg n3 (by omega) (by omega)).mono ?_
  rintro e w3 ⟨hc, rfl⟩
  rcases hc with rfl | ⟨r', rfl, r0', r1', s1, s2⟩
  · go_wp2_with fail
    go_ret
    exact ⟨.inl rfl, B1.out⟩
  have HM := Lib.hid (And.intro s1 s2)
  have hge3 : ¬ (r' < 0) := by omega
  clear s1 s2
  go_wp2_with fail
  go_ret
  exact ⟨.inr ⟨_, rfl, r0', r1', by rw [HL.out.1]; exact HP.out.1, HP.out.2, by rw [HL.out.2.1]; exact hwn, by rw [HL.out.2.2]; exact HM.out.1, HM.out.2⟩, B1.out⟩

/-- One of several lists in focus, to be replaced. -/
theorem Own.mag_put {w : World} {S : Nat → Prop} {v : Value} {n : Nat} {ms : List (List Int)} (h : Own KMag 23 w S v n ms) {j : Nat} (hj : j < n) :
    ∃ g cap m, v = .slice (some ⟨g, 0, none⟩) n cap ∧ S g ∧ g < w.heap.size ∧ ms[j]? = some m ∧ (∃ a l c, w.cell? ⟨g, j, none⟩ = some (.slice a l c)) ∧ w.frozen? ⟨g, j, none⟩ = false ∧
      ∀ (x : List Int) (y : Value) (l : Nat) (T : Nat → Prop), Own KInt 2 w T y l x → (∀ k, T k → k < w.heap.size → ¬ S k) → Own KMag 23 (w.setCell ⟨g, j, none⟩ y) (fun k => S k ∨ T k) v n (ms.set j x) := by
  obtain ⟨g, cap, cs, F, m, rfl, hg, hm, hcl, hu, ho, hF, hst⟩ := h.here.focus hj
  obtain ⟨y0, l0, rfl, hy0⟩ := ho
  obtain ⟨h1, h2, h3⟩ := hu.cell
  have h4 := h2 0 (by simp)
  rw [show KMag.sz = 1 from rfl, Nat.mul_one] at h4 hu hst
  simp only [Nat.add_zero, List.getElem?_cons_zero] at h4
  obtain ⟨a0, c0, rfl, _, _, _⟩ := hy0.shape
  refine ⟨g, cap, m, rfl, hg.1, h1, hm, ⟨a0, l0, c0, h4⟩, h3 _, fun x y l T hy hT => ?_⟩
  have hnT : ¬ T g := fun ht => hT g ht hg.2 hg.1
  have hy2 : Own KInt 2 (w.setCell ⟨g, j, none⟩ y) (fun k => T k ∧ k < w.heap.size) y l x := hy.here.turn (Turn.set w ⟨g, j, none⟩ y) (fun k hk _ e => hnT (by rw [← show k = g from e]; exact hk.1))
  have h5 := hst (w.setCell ⟨g, j, none⟩ y) (fun k => T k ∧ k < w.heap.size) [y] x rfl ((Turn.set w ⟨g, j, none⟩ y).mono (fun k hk _ => .inr hk)) (by have := hu.set (i := 0) (u := y) (by simp); simpa using this) (KMag_own_mk hy2) (fun k hk => .inr (fun hs => hT k hk.1 hk.2 hs.1.1))
  exact h5.mono (fun k hk _ => hk.elim (fun h => .inl h.1) (fun h => .inr h.1))

set_option maxHeartbeats 1000000 in
theorem toMags_calls {ao : Option Addr} {n cc : Nat} {ms : List (List Int)} {S : Nat → Prop} {w : World} (hT : Lst KMag w S ao n ms) (hS : ShortM 17592186044416 ms) (hn : n ≤ 1048576) :
    Calls Try.prog 37 #[.slice ao n cc] w fun e w' => ∃ a, e = .returned (.slice a n n) ∧ Own KMag 23 w' (fun k => w.heap.size ≤ k) (.slice a n n) n ms ∧ Below w.heap.size w w' := by
  have hinfo : (Try.prog.info? 23).map (fun i => (i.zero, i.size, i.bytes)) = some (some (.slice none 0 0), 1, 24) := by kernel_rfl
  obtain ⟨i0, hi, hz0, hz1, hz2⟩ := info_parts hinfo
  have HL := Lib.hid hT.1
  have HS := Lib.hid hS
  go_enter Try.func37, Try.ntmps37
  go_wp2_with (at_make; go_must (refine wpList_make_full _ rfl _ _ 24 rfl w.heap.size 23 i0 (.slice none 0 0) 1 Try.underlying24 hi hz0 hz1 _ _ _ _ n rfl rfl rfl rfl (by rw [hz2]; omega) (by unfold maxLen; omega) (Nat.le_refl _) ?_); intro w1 hown hg)
  have hb1 : Below w.heap.size w w1 := (Below.refl _ _).grown hg (Nat.le_refl _) (by simp)
  have hO : Own KMag 23 w1 (fun k => w.heap.size ≤ k) (.slice (some ⟨w.heap.size, 0, none⟩) n n) n (fillD [] ms 0) := by
    rw [fillD_zero, HL.out]
    exact Own.of_made (K := KMag) (z := .slice none 0 0) (by simpa [show KMag.sz = 1 from rfl] using hown) (Nat.le_refl _) rfl (KMag_own_mk Own.nil)
  clear hown hg
  go_loopw [4] (fun i wr => ∃ k : Nat, k ≤ n ∧ i = .int .i64 k ∧ Own KMag 23 wr (fun k => w.heap.size ≤ k) (.slice (some ⟨w.heap.size, 0, none⟩) n n) n (fillD [] ms k) ∧ Below w.heap.size w wr) (fun i _ => n - (intOf i).toNat)
  case atStart => exact ⟨0, Nat.zero_le _, rfl, hO, hb1⟩
  case round =>
    obtain ⟨k, hk, rfl, hO, hbw⟩ := hrel
    by_cases hlt : k < n
    · obtain ⟨b, off, m, a, l, c, rfl, d0, hp, e0, hlc, hcm, hu⟩ := (hT.below hbw).mag_at hlt
      have HP := Lib.hid hp
      have hl : l ≤ 17592186044416 := by have := HS.out.at_ hp; have := hu.1; omega
      clear hp hcm
      go_wp2_with fail
      refine (toW_calls hu hl).mono ?_
      rintro e w2 ⟨v, rfl, hown, hb2⟩
      have HV := Lib.hid hown
      obtain ⟨vo, vc, rfl, _, _, _⟩ := HV.out.shape
      obtain ⟨g, cap, m0, he, hgS, hgl, hm0, ⟨xa, xl, xc, hcell⟩, hfr, hst⟩ := (hO.here.below hb2).mag_put hlt
      obtain rfl : w.heap.size = g := by simpa [Value.ownBlock] using congrArg Value.ownBlock he
      clear he hm0
      have hO2 := hst m (.slice vo l vc) l (fun k => wr.heap.size ≤ k) HV.out (fun k hk _ h => by have := h.2; omega)
      rw [fillD_step HP.out] at hO2
      have H2 := Lib.hid (And.intro (hO2.mono (S' := fun k => w.heap.size ≤ k) (fun k hk _ => hk.elim (fun h => h.1) (fun h => Nat.le_trans hbw.size h))) (show Below w.heap.size w (w2.setCell ⟨w.heap.size, k, none⟩ (.slice vo l vc)) from (hbw.trans (hb2.mono hbw.size)).setCell (Nat.le_refl _) _))
      clear hO2 hst hO hown hgS hgl
      go_wp2_with fail
      go_roundw
      case rel => exact ⟨k + 1, by omega, by go_num, H2.out.1, H2.out.2⟩
      case measure => simp [intOf]; omega
    · obtain rfl : k = n := by omega
      have F : Hid (Own KMag 23 wr (fun k => w.heap.size ≤ k) (.slice (some ⟨w.heap.size, 0, none⟩) k k) k ms ∧ Below w.heap.size w wr) := by
        have := hO; rw [← HL.out, fillD_full, HL.out] at this; exact ⟨this, hbw⟩
      clear hO hbw
      go_wp2_with fail
      go_ret
      exact ⟨_, rfl, F.out.1, F.out.2⟩
end Go.Proofs.Ytcnpckaacigbfaa

/- The laws' helpers over heaps: copied, compared. -/
namespace Go.Proofs.Ytcnpckaacigbfaa
open Go.RowKit

theorem Row.upd {w : World} {g i : Nat} {t : TypeId} {cs : Array Value} (h : Row w g t cs) (u : Value) : Row (w.setCell ⟨g, i, none⟩ u) g t (cs.setIfInBounds i u) := heap_setCell_same w g i _ _ u h
set_option maxHeartbeats 2000000 in
theorem toHeap_calls {pa wa ma : Option Addr} {pn pc wn wk mn mc : Nat} {h : Hp} {S : Nat → Prop} {w : World} (hr : HpR w S pa pn pc wa wn wk ma mn mc h) (hs : HpS 1048576 h) :
    Calls Try.prog 10 #[.agg #[.slice pa pn pc, .slice wa wn wk, .slice ma mn mc]] w (MakesHeap w h) := by
  have HR := Lib.hid hr
  have HS := Lib.hid hs
  have n1 : pn ≤ 1048576 := by have := hr.pg.1; have := hs.p; omega
  have n2 : wn ≤ 1048576 := by have := hr.wd.1; have := hs.w; omega
  have n3 : mn ≤ 1048576 := by have := hr.mg.1; have := hs.m; omega
  clear hr hs
  go_enter Try.func10, Try.ntmps10
  go_wp2_with fail
  refine (toPgs_calls (((HR.out.pg.alloc _).alloc _).alloc _) (fun p hp => Nat.le_trans (HS.out.u p hp) (by decide)) n1).mono ?_
  rintro e w1 ⟨a1, rfl, oP, hb1⟩
  obtain ⟨R0', R1', R2', B1, hs1⟩ := three_new hb1
  have R0 : Row w1 w.heap.size 26 #[.slice pa pn pc, .slice wa wn wk, .slice ma mn mc] := R0'
  have R1 : Row w1 (w.heap.size + 1) 31 #[.slice none 0 0, .slice none 0 0, .slice none 0 0] := R1'
  have R2 : Row w1 (w.heap.size + 1 + 1) 31 #[.slice none 0 0, .slice none 0 0, .slice none 0 0] := R2'
  have oP' := oP.mono (S' := fun k => w.heap.size + 3 ≤ k) (fun k hk _ => by simpa using hk)
  obtain ⟨g, hg⟩ : ∃ g, g = w.heap.size + 1 + 1 := ⟨_, rfl⟩
  rw [← hg] at R2 ⊢
  have HG := Lib.hid hg
  have q1 := R0.cell 1
  have q2 := R0.cell 2
  have ql := R0.lt
  have z0 := R2.cell 0
  have zf := frozen_of_row _ _ 0 _ _ R2
  have zl := R2.lt
  simp at q1 q2 z0
  have s2 := R2.upd (i := 0) (.slice a1 pn pn)
  have tS1 := Turn.set w1 ⟨g, 0, none⟩ (.slice a1 pn pn)
  have HQ := Lib.hid (And.intro (tS1.row R0 (fun e => by have e : w.heap.size = g := e; omega)) (And.intro (tS1.row R1 (fun e => by have e : w.heap.size + 1 = g := e; omega)) (And.intro (show Row (w1.setCell ⟨g, 0, none⟩ (.slice a1 pn pn)) g 31 #[.slice a1 pn pn, .slice none 0 0, .slice none 0 0] by simpa using s2) (And.intro (tS1.below B1 (by omega) (fun k e => by have e : k = g := e; omega)) (And.intro (oP'.here.turn tS1 (fun k hk _ e => by have e : k = g := e; have := hk.1; omega)) (show w1.heap.size = (w1.setCell ⟨g, 0, none⟩ (.slice a1 pn pn)).heap.size by simp))))))
  clear R0' R1' R2' R0 R1 R2 s2 tS1 hb1 oP oP' B1 hs1 hg
  go_wp2_with fail
  obtain ⟨R0, R1, R2, B1, oP, hs1'⟩ := HQ.out
  generalize w1.setCell ⟨g, 0, none⟩ (.slice a1 pn pn) = v1 at R0 R1 R2 B1 oP hs1' ⊢
  clear HQ q1 q2 ql z0 zf zl
  have hgv1 := R2.lt
  refine (toW_calls (HR.out.below B1).wd (by omega)).mono ?_
  rintro e w2 ⟨vW, rfl, oW, hb2⟩
  obtain ⟨a2, c2, rfl, _, _, _⟩ := oW.shape
  have hs2 := hb2.size
  have R0 := R0.below hb2
  have R1 := R1.below hb2
  have R2 := R2.below hb2
  have q2 := R0.cell 2
  have ql := R0.lt
  have z1 := R2.cell 1
  have zf := frozen_of_row _ _ 1 _ _ R2
  have zl := R2.lt
  simp at q2 z1
  have s2 := R2.upd (i := 1) (.slice a2 wn c2)
  have tS1 := Turn.set w2 ⟨g, 1, none⟩ (.slice a2 wn c2)
  have hw1 := B1.size
  have hgl : g = w.heap.size + 1 + 1 := HG.out
  have HQ := Lib.hid (And.intro (tS1.row R0 (fun e => by have e : w.heap.size = g := e; omega)) (And.intro (tS1.row R1 (fun e => by have e : w.heap.size + 1 = g := e; omega)) (And.intro (show Row (w2.setCell ⟨g, 1, none⟩ (.slice a2 wn c2)) g 31 #[.slice a1 pn pn, .slice a2 wn c2, .slice none 0 0] by simpa using s2) (And.intro (tS1.below (B1.trans (hb2.mono hw1)) (by omega) (fun k e => by have e : k = g := e; omega)) (And.intro ((oP.below hb2).turn tS1 (fun k hk _ e => by have e : k = g := e; have := hk.1; omega)) (And.intro (oW.here.turn tS1 (fun k hk _ e => by have e : k = g := e; have := hk.1; omega)) (And.intro hs2 (show w2.heap.size = (w2.setCell ⟨g, 1, none⟩ (.slice a2 wn c2)).heap.size by simp))))))))
  clear R0 R1 R2 s2 tS1 hb2 oP oW B1 hs2 hgl hw1
  go_wp2_with fail
  obtain ⟨R0, R1, R2, B1, oP, oW, hs2, hs2'⟩ := HQ.out
  generalize w2.setCell ⟨g, 1, none⟩ (.slice a2 wn c2) = v2 at R0 R1 R2 B1 oP oW hs2' ⊢
  clear HQ q2 ql z1 zf zl
  have hgv2 := R2.lt
  refine (toMags_calls (HR.out.below B1).mg (fun m hm => Nat.le_trans (HS.out.k m hm) (by decide)) n3).mono ?_
  rintro e w3 ⟨a3, rfl, oM, hb3⟩
  have hs3 := hb3.size
  have R1 := R1.below hb3
  have R2 := R2.below hb3
  have z0 := R2.cell 0
  have z1 := R2.cell 1
  have z2 := R2.cell 2
  have zf := frozen_of_row _ _ 2 _ _ R2
  have zl := R2.lt
  simp at z0 z1 z2
  have tS1 := Turn.set w3 ⟨g, 2, none⟩ (.slice a3 mn mn)
  have hgl : g = w.heap.size + 1 + 1 := HG.out
  have hres := tS1.row R1 (fun e => by have e : w.heap.size + 1 = g := e; omega)
  have HQ := Lib.hid (And.intro (tS1.below (B1.trans (hb3.mono B1.size)) (by omega) (fun k e => by have e : k = g := e; omega)) (And.intro ((oP.below hb3).turn tS1 (fun k hk _ e => by have e : k = g := e; have := hk.1; omega)) (And.intro ((oW.below hb3).turn tS1 (fun k hk _ e => by have e : k = g := e; have := hk.1; omega)) (oM.here.turn tS1 (fun k hk _ e => by have e : k = g := e; have := hk.1; omega)))))
  have HZ := Lib.hid (And.intro hs2 (And.intro hs2' (And.intro B1.size (And.intro hs3 zl))))
  clear R0 R1 R2 oP oW oM B1 hb3 hs2 hs2' hs3 hgl tS1
  go_wp2_with (refine wpList_store_row rfl 31 _ _ rfl (w.heap.size + 1) _ rfl rfl _ _ hres (by kernel_rfl) (by rfl) (by simp [Value.oneCell']) ?_)
  refine bodyPost_ret (results_cell_row rfl _ _ (w.heap.size + 1) _ _ _ _ rfl (setRow_heap _ _ _ _ _ _ hres) Try.underlying31 rfl (by kernel_rfl)) rfl ?_
  obtain ⟨B, oP, oW, oM⟩ := HQ.out
  obtain ⟨k1, k2, k3, k4, _⟩ := HZ.out
  have k5 := HG.out
  refine ⟨_, pn, _, wn, _, mn, rfl, HpO.mk3 (A := fun k => w.heap.size + 3 ≤ k ∧ k < w1.heap.size) (B := fun k => v1.heap.size ≤ k ∧ k < w2.heap.size) (C := fun k => v2.heap.size ≤ k ∧ k < w3.heap.size) (oP.turn (Turn.setRow _ _ _) ?_) (oW.turn (Turn.setRow _ _ _) ?_) (oM.turn (Turn.setRow _ _ _) ?_) ?_ ?_ ?_ ?_ ?_ ?_, below_setRow B (by omega) _⟩
  · intro k hk _ e; have e : k = w.heap.size + 1 := e; omega
  · intro k hk _ e; have e : k = w.heap.size + 1 := e; omega
  · intro k hk _ e; have e : k = w.heap.size + 1 := e; omega
  · intro k hk; have := hk.1; show w.heap.size ≤ k; omega
  · intro k hk; have := hk.1; show w.heap.size ≤ k; omega
  · intro k hk; have := hk.1; show w.heap.size ≤ k; omega
  · intro k hk hq; have := hk.2; have := hq.1; omega
  · intro k hk hq; have := hk.2; have := hq.1; omega
  · intro k hk hq; have := hk.2; have := hq.1; omega
end Go.Proofs.Ytcnpckaacigbfaa

/- The laws' helpers over heaps: whether two are the same. -/
namespace Go.Proofs.Ytcnpckaacigbfaa
open Go.RowKit

/-- Two cells, and all that was there, are kept. -/
theorem keepM2 {W a b : World} {p q : Addr} {x y : Value} (h : a.cell? p = some x ∧ a.cell? q = some y ∧ Below W.heap.size W a) (hb : Below a.heap.size a b) :
    b.cell? p = some x ∧ b.cell? q = some y ∧ Below W.heap.size W b := by
  obtain ⟨h1, h2, h4⟩ := h
  exact ⟨(hb.cell (World.block_lt_of_cell? _ _ h1)).trans h1, (hb.cell (World.block_lt_of_cell? _ _ h2)).trans h2, h4.trans (hb.mono h4.size)⟩

set_option maxHeartbeats 800000 in
theorem eqMags_calls {a b : Option Addr} {n m c d : Nat} {ms : List (List Int)} {S S' : Nat → Prop} {w : World} (ha : Lst KMag w S a n ms) (hb : Lst KMag w S' b m ms) (hS : ShortM 17592186044416 ms) (hn : n ≤ 1048576) :
    Calls Try.prog 48 #[.slice a n c, .slice b m d] w fun e w' => e = .returned (.bool true) ∧ Below w.heap.size w w' := by
  obtain rfl : n = m := ha.1.symm.trans hb.1
  have h1 : ((n : Int) != (n : Int)) = false := by simp
  have HL := Lib.hid ha.1
  have HS := Lib.hid hS
  go_enter Try.func48, Try.ntmps48
  go_wp2
  go_loopw [5] (fun i wr => ∃ k : Nat, k ≤ n ∧ i = .int .i64 k ∧ Below w.heap.size w wr) (fun i _ => n - (intOf i).toNat)
  case atStart => exact ⟨0, Nat.zero_le _, rfl, Below.refl _ _⟩
  case round =>
    obtain ⟨k, hk, rfl, hbw⟩ := hrel
    by_cases hlt : k < n
    · obtain ⟨b0, o0, m0, a0, l0, c0, rfl, d0, hp, e0, hlc0, hcm0, hu0⟩ := (ha.below hbw).mag_at hlt
      obtain ⟨b1, o1, m1, a1, l1, c1, rfl, d1, hp', e1, hlc1, hcm1, hu1⟩ := (hb.below hbw).mag_at hlt
      obtain rfl : m0 = m1 := by rw [hp] at hp'; injection hp'
      have hl : l0 ≤ 17592186044416 := by have := HS.out.at_ hp; have := hu0.1; omega
      have kB := Below.refl wr.heap.size wr
      clear hp hp'
      go_wp2_with fail
      go_region_held3 (fun w' => w'.cell? ⟨b0, o0 + k, none⟩ = some (.slice a0 l0 c0) ∧ w'.cell? ⟨b1, o1 + k, none⟩ = some (.slice a1 l1 c1) ∧ Below wr.heap.size wr w') (first | assumption | exact ⟨e0, e1, kB.drew⟩)
        ((go_at_call 47; obtain ⟨x0, x1, kb⟩ := ‹_ ∧ _ ∧ Below _ _ _›; refine (eq_calls (hu0.below kb).ints (hu1.below kb).ints hl).mono ?_; rintro e w' ⟨rfl, b1⟩; have hS' := keepM2 ⟨x0, x1, kb⟩ b1))
      have kb2 := hbw.trans (hS'.2.2.mono hbw.size)
      clear hS'
      go_wp2_with fail
      go_roundw
      case rel => exact ⟨k + 1, by omega, by go_num, kb2⟩
      case measure => simp [intOf]; omega
    · go_wp2
      go_ret
      exact ⟨rfl, hbw⟩

set_option maxHeartbeats 800000 in
theorem eqHeap_calls {pa wa ma pa' wa' ma' : Option Addr} {pn pc wn wk mn mc pn' pc' wn' wk' mn' mc' : Nat} {h : Hp} {S S' : Nat → Prop} {w : World} (hg : HpR w S pa pn pc wa wn wk ma mn mc h) (hh : HpR w S' pa' pn' pc' wa' wn' wk' ma' mn' mc' h) (hs : HpS 1048576 h) :
    Calls Try.prog 12 #[.agg #[.slice pa pn pc, .slice wa wn wk, .slice ma mn mc], .agg #[.slice pa' pn' pc', .slice wa' wn' wk', .slice ma' mn' mc']] w fun e w' => e = .returned (.bool true) ∧ Below w.heap.size w w' := by
  have HG := Lib.hid hg
  have HH := Lib.hid hh
  have HS := Lib.hid hs
  have n1 : pn ≤ 1048576 := by have := hg.pg.1; have := hs.p; omega
  have n2 : wn ≤ 1048576 := by have := hg.wd.1; have := hs.w; omega
  have n3 : mn ≤ 1048576 := by have := hg.mg.1; have := hs.m; omega
  have hB0 : Below w.heap.size w ((w.alloc (.cells #[.slice pa pn pc, .slice wa wn wk, .slice ma mn mc] 31)).alloc (.cells #[.slice pa' pn' pc', .slice wa' wn' wk', .slice ma' mn' mc'] 31)) := ((Below.refl _ _).alloc (Nat.le_refl _) _).alloc (by simp) _
  have HB0 := Lib.hid hB0
  clear hg hh hs hB0
  go_enter Try.func12, Try.ntmps12
  go_wp2_with fail
  refine (eqPgs_calls (HG.out.below HB0.out).pg (HH.out.below HB0.out).pg (fun p hp => Nat.le_trans (HS.out.u p hp) (by decide)) n1).mono ?_
  rintro e w1 ⟨rfl, hb1⟩
  obtain ⟨R0, R1, B1, _⟩ := two_new hb1
  have R0 : Row w1 w.heap.size 31 #[.slice pa pn pc, .slice wa wn wk, .slice ma mn mc] := R0
  have R1 : Row w1 (w.heap.size + 1) 31 #[.slice pa' pn' pc', .slice wa' wn' wk', .slice ma' mn' mc'] := R1
  have HB1 := Lib.hid B1
  clear hb1 B1
  have a1 := R0.cell 1
  have b1 := R1.cell 1
  have al := R0.lt
  have bl := R1.lt
  simp at a1 b1
  go_wp2_with fail
  refine (eq_calls (HG.out.below HB1.out).wd.ints (HH.out.below HB1.out).wd.ints (by omega)).mono ?_
  rintro e w2 ⟨rfl, hb2⟩
  have R2 := R0.below hb2
  have R3 := R1.below hb2
  have HB2 := Lib.hid (HB1.out.trans (hb2.mono HB1.out.size))
  clear hb2 R0 R1 a1 b1 al bl
  have a1 := R2.cell 2
  have b1 := R3.cell 2
  have al := R2.lt
  have bl := R3.lt
  simp at a1 b1
  go_wp2_with fail
  refine (eqMags_calls (HG.out.below HB2.out).mg (HH.out.below HB2.out).mg (fun m hm => Nat.le_trans (HS.out.k m hm) (by decide)) n3).mono ?_
  rintro e w3 ⟨rfl, hb3⟩
  have HB3 := Lib.hid (HB2.out.trans (hb3.mono HB2.out.size))
  clear hb3
  go_wp2_with fail
  go_ret
  exact ⟨rfl, HB3.out⟩

theorem eqReply_calls {x y : Int} {w : World} :
    Calls Try.prog 53 #[.agg #[.int .i64 x, .int .i64 y], .agg #[.int .i64 x, .int .i64 y]] w fun e w' => e = .returned (.bool true) ∧ Below w.heap.size w w' := by
  have h1 : (x != x) = false := by simp
  have h2 : (y != y) = false := by simp
  go_enter Try.func53, Try.ntmps53
  go_wp2_with fail
  go_ret
  exact ⟨rfl, ((Below.refl _ _).alloc (Nat.le_refl _) _).alloc (by simp) _⟩

set_option maxHeartbeats 800000 in
theorem eqHR_calls {pa wa ma pa' wa' ma' : Option Addr} {pn pc wn wk mn mc pn' pc' wn' wk' mn' mc' : Nat} {q : Int} {h : Hp} {S S' : Nat → Prop} {w : World} (hg : HpR w S pa pn pc wa wn wk ma mn mc h) (hh : HpR w S' pa' pn' pc' wa' wn' wk' ma' mn' mc' h) (hs : HpS 1048576 h) :
    Calls Try.prog 15 #[.agg #[.int .i64 q, .slice pa pn pc, .slice wa wn wk, .slice ma mn mc, .int .i64 0, .int .i64 0], .agg #[.int .i64 q, .slice pa' pn' pc', .slice wa' wn' wk', .slice ma' mn' mc', .int .i64 0, .int .i64 0]] w fun e w' => e = .returned (.bool true) ∧ Below w.heap.size w w' := by
  have HG := Lib.hid hg
  have HH := Lib.hid hh
  have HS := Lib.hid hs
  have hq : (q != q) = false := by simp
  have hB0 : Below w.heap.size w ((w.alloc (.cells #[.int .i64 q, .slice pa pn pc, .slice wa wn wk, .slice ma mn mc, .int .i64 0, .int .i64 0] 38)).alloc (.cells #[.int .i64 q, .slice pa' pn' pc', .slice wa' wn' wk', .slice ma' mn' mc', .int .i64 0, .int .i64 0] 38)) := ((Below.refl _ _).alloc (Nat.le_refl _) _).alloc (by simp) _
  have HB0 := Lib.hid hB0
  clear hg hh hs hB0
  go_enter Try.func15, Try.ntmps15
  go_wp2_with fail
  refine (eqHeap_calls (HG.out.below HB0.out) (HH.out.below HB0.out) HS.out).mono ?_
  rintro e w1 ⟨rfl, hb1⟩
  obtain ⟨R0, R1, B1, _⟩ := two_new hb1
  have R0 : Row w1 w.heap.size 38 #[.int .i64 q, .slice pa pn pc, .slice wa wn wk, .slice ma mn mc, .int .i64 0, .int .i64 0] := R0
  have R1 : Row w1 (w.heap.size + 1) 38 #[.int .i64 q, .slice pa' pn' pc', .slice wa' wn' wk', .slice ma' mn' mc', .int .i64 0, .int .i64 0] := R1
  have HB1 := Lib.hid B1
  clear hb1 B1
  have a4 := R0.cell 4
  have a5 := R0.cell 5
  have b4 := R1.cell 4
  have b5 := R1.cell 5
  have al := R0.lt
  have bl := R1.lt
  simp at a4 a5 b4 b5
  go_wp2_with fail
  refine eqReply_calls.mono ?_
  rintro e w2 ⟨rfl, hb2⟩
  have HB2 := Lib.hid (HB1.out.trans (hb2.mono HB1.out.size))
  clear hb2
  go_wp2_with fail
  go_ret
  exact ⟨rfl, HB2.out⟩
end Go.Proofs.Ytcnpckaacigbfaa

/- The laws' helpers over heaps: marked, held. -/
namespace Go.Proofs.Ytcnpckaacigbfaa
open Go.RowKit

/-- Lists of lists that are marked from K on. -/
def marksM : List (List Int) → Int → List (List Int)
  | [], _ => []
  | m :: r, K => marks K m.length :: marksM r (K + (m.length : Int))
theorem length_marksM : ∀ (ms : List (List Int)) (K : Int), (marksM ms K).length = ms.length
  | [], _ => rfl
  | m :: r, K => by simp [marksM, length_marksM r]
theorem marksM_at : ∀ {ms : List (List Int)} {k : Nat} {m : List Int} {K : Int}, ms[k]? = some m → (marksM ms K)[k]? = some (marks (K + ((ms.take k).flatten.length : Int)) m.length)
  | [], k, m, K, h => by simp at h
  | q :: r, 0, m, K, h => by simp at h; subst h; simp [marksM]
  | q :: r, k + 1, m, K, h => by
    have := marksM_at (ms := r) (k := k) (m := m) (K := K + (q.length : Int)) (by simpa using h)
    simp only [marksM, List.getElem?_cons_succ, List.take_succ_cons, List.flatten_cons, List.length_append, this]
    congr 2; omega
def markedM (ms : List (List Int)) (K : Int) (k : Nat) : List (List Int) := (marksM ms K).take k ++ ms.drop k
theorem markedM_zero (ms : List (List Int)) (K : Int) : markedM ms K 0 = ms := by simp [markedM]
theorem markedM_full (ms : List (List Int)) (K : Int) : markedM ms K ms.length = marksM ms K := by simp [markedM, ← length_marksM ms K]
theorem markedM_at {ms : List (List Int)} {K : Int} {k : Nat} {m : List Int} (h : ms[k]? = some m) : (markedM ms K k)[k]? = some m := by
  have hk := (List.getElem?_eq_some_iff.1 h).1
  unfold markedM
  rw [List.getElem?_append_right (by simp; omega), List.length_take, length_marksM, Nat.min_eq_left (by omega), Nat.sub_self, List.getElem?_drop, Nat.add_zero, h]
theorem markedM_step {ms : List (List Int)} {K : Int} {k : Nat} {m : List Int} (h : ms[k]? = some m) : (markedM ms K k).set k (marks (K + ((ms.take k).flatten.length : Int)) m.length) = markedM ms K (k + 1) := by
  have hk := (List.getElem?_eq_some_iff.1 h).1
  have hl : ((marksM ms K).take k).length = k := by rw [List.length_take, length_marksM]; omega
  unfold markedM
  rw [List.set_append_right _ _ (by omega), hl, Nat.sub_self, drop_at h, List.set_cons_zero, List.take_add_one, marksM_at h, List.append_assoc]
  rfl
theorem flatten_bound {N : Nat} : ∀ {ms : List (List Int)}, ShortM N ms → ms.flatten.length ≤ ms.length * N
  | [], _ => by simp
  | m :: r, h => by
    have h1 := h m (by simp)
    have h2 := flatten_bound (N := N) (ms := r) (fun q hq => h q (by simp [hq]))
    simp only [List.flatten_cons, List.length_append, List.length_cons, Nat.add_mul]; omega
theorem cntM_bound {ms : List (List Int)} (h : ShortM 1048576 ms) (hn : ms.length ≤ 1048576) (k : Nat) : (ms.take k).flatten.length ≤ 1099511627776 := by
  have h1 := flatten_bound (N := 1048576) (ms := ms.take k) (fun q hq => h q (List.mem_of_mem_take hq))
  have h2 : (ms.take k).length ≤ 1048576 := by rw [List.length_take]; omega
  have := Nat.mul_le_mul_right 1048576 h2
  omega
theorem cntM_take {ms : List (List Int)} {k : Nat} {m : List Int} (h : ms[k]? = some m) : (ms.take (k + 1)).flatten.length = (ms.take k).flatten.length + m.length := by
  rw [List.take_add_one, h]; simp

set_option maxHeartbeats 1000000 in
theorem markMags_calls {v : Value} {n t : Nat} {ms : List (List Int)} {K : Int} {S : Nat → Prop} {w : World} (ho : Own KMag 23 w S v n ms) (ht : ms.flatten.length = t) (hS : ShortM 1048576 ms) (hn : n ≤ 1048576) (h0 : 0 ≤ K) (hK : K ≤ 4398046511104) :
    Calls Try.prog 81 #[v, .int .i64 K] w fun e w' => e = .returned (.int .i64 (K + t)) ∧ Own KMag 23 w' S v n (marksM ms K) ∧ Turn S w w' := by
  have HL := Lib.hid ho.1
  have HS := Lib.hid hS
  have HTt := Lib.hid ht
  clear ht
  obtain ⟨ao, c, rfl, hnc, hcm, _⟩ := ho.shape
  go_enter Try.func81, Try.ntmps81
  go_wp2
  go_loopw [1, 5] (fun q i wr => ∃ k r : Nat, k ≤ n ∧ i = .int .i64 k ∧ q = .int .i64 (K + r) ∧ Hid (r = (ms.take k).flatten.length) ∧ Own KMag 23 wr S (.slice ao n c) n (markedM ms K k) ∧ Turn S w wr) (fun _ i _ => n - (intOf i).toNat)
  case atStart => exact ⟨0, 0, Nat.zero_le _, rfl, by simp, by simp [Hid], by rw [markedM_zero]; exact ho, Turn.refl _ _⟩
  case round =>
    obtain ⟨k, r, hk, rfl, rfl, HR, HO, HT⟩ := hrel
    have hr : r ≤ 1099511627776 := by rw [HR.out]; exact cntM_bound HS.out (by rw [HL.out]; exact hn) k
    by_cases hlt : k < n
    · obtain ⟨g, cap, cs, F, m, he, hgS, hp, hcl, hu0, ho0, hF, hst⟩ := HO.focus hlt
      cases he
      have HP : Hid (ms[k]? = some m) := by
        have h1 : k < ms.length := by rw [HL.out]; exact hlt
        have h2 := markedM_at (K := K) (List.getElem?_eq_getElem h1)
        rw [h2] at hp
        show ms[k]? = some m
        rw [List.getElem?_eq_getElem h1]; exact hp
      obtain ⟨y0, l, rfl, hU⟩ := ho0
      obtain ⟨av, cv, rfl, hlv, hcv, _⟩ := hU.shape
      have hl : l ≤ 1048576 := by have := HS.out.at_ HP.out; have := hU.1; omega
      have HUL := Lib.hid hU.1
      obtain ⟨z1, z2, z3⟩ := hu0.cell
      have q0 := z2 0 (by simp)
      rw [show KMag.sz = 1 from rfl, Nat.mul_one] at q0 hu0 hst
      simp only [Nat.add_zero, List.getElem?_cons_zero] at q0
      clear z2 z3
      go_wp2_with fail
      refine (markW_calls hU (by omega) (by omega) (by omega)).mono ?_
      rintro e w1 ⟨rfl, ho2, ht2⟩
      have hFg : ¬ F g := fun h => (hF g h).2.1 rfl
      have U2 := hu0.turn ht2 hFg
      have hO2 := hst _ F _ (marks (K + r) l) rfl (ht2.mono (fun k hk _ => .inl hk)) U2 (KMag_own_mk ho2) (fun k h => .inl h)
      have hlm : m.length = l := HUL.out
      rw [HR.out, ← hlm, markedM_step HP.out] at hO2
      have HE := cntM_take HP.out
      rw [← HR.out, hlm] at HE
      have H2 := Lib.hid (And.intro (hO2.mono (S' := S) (fun k hk _ => hk.elim id (fun h => (hF k h).1))) (HT.trans ht2 (fun k hk _ => (hF k hk).1)))
      have H3 := Lib.hid HE.symm
      clear hO2 HE hlm U2 hst hF hU hu0 HO HT hp ho2 ht2
      go_wp2_with fail
      go_roundw
      case rel => exact ⟨k + 1, r + l, by omega, by go_num, by go_num, H3.out, H2.out.1, H2.out.2⟩
      case measure => simp [intOf]; omega
    · obtain rfl : k = n := by omega
      have HF : Hid (r = t ∧ Own KMag 23 wr S (.slice ao k c) k (marksM ms K) ∧ Turn S w wr) := by
        have h1 := markedM_full ms K
        rw [HL.out] at h1
        rw [h1] at HO
        have h2 := HR.out
        rw [List.take_of_length_le (by rw [HL.out]; omega)] at h2
        exact ⟨h2.trans HTt.out, HO, HT⟩
      clear HO HT
      go_wp2_with fail
      go_ret
      exact ⟨ret_int (by rw [HF.out.1]), HF.out.2.1, HF.out.2.2⟩

set_option maxHeartbeats 800000 in
theorem heldMags_calls {ao : Option Addr} {n c t : Nat} {ms : List (List Int)} {K : Int} {S : Nat → Prop} {w : World} (ha : Lst KMag w S ao n (marksM ms K)) (ht : ms.flatten.length = t) (hS : ShortM 1048576 ms) (hn : n ≤ 1048576) (h0 : 0 ≤ K) (hK : K ≤ 4398046511104) :
    Calls Try.prog 84 #[.slice ao n c, .int .i64 K] w fun e w' => e = .returned (.int .i64 (K + t)) ∧ w = w' := by
  have HL := Lib.hid ((length_marksM ms K).symm.trans ha.1)
  have HS := Lib.hid hS
  have HTt := Lib.hid ht
  clear ht
  go_enter Try.func84, Try.ntmps84
  go_wp2
  go_loop [1, 5] (fun q i => ∃ k r : Nat, k ≤ n ∧ i = .int .i64 k ∧ q = .int .i64 (K + r) ∧ Hid (r = (ms.take k).flatten.length)) (fun _ i => n - (intOf i).toNat)
  case atStart => exact ⟨0, 0, Nat.zero_le _, rfl, by simp, by simp [Hid]⟩
  case round =>
    obtain ⟨k, r, hk, rfl, rfl, HR⟩ := hrel
    have hr : r ≤ 1099511627776 := by rw [HR.out]; exact cntM_bound HS.out (by rw [HL.out]; exact hn) k
    by_cases hlt : k < n
    · have h1 : k < ms.length := by rw [HL.out]; exact hlt
      obtain ⟨b0, o0, m, a, l, c', rfl, d0, hp, e0, hlc, hcm, hu⟩ := ha.mag_at hlt
      have hp0 : ms[k]? = some ms[k] := List.getElem?_eq_getElem h1
      rw [marksM_at hp0, ← HR.out] at hp
      injection hp with hp
      subst hp
      have hl : l = ms[k].length := by have := hu.1; rw [length_marks] at this; omega
      have hl2 : l ≤ 1048576 := by have := HS.out.at_ hp0; omega
      have H3 := Lib.hid (show r + l = (ms.take (k + 1)).flatten.length by rw [cntM_take hp0, ← HR.out, hl])
      rw [← hl] at hu
      have HU := Lib.hid hu.ints
      clear hl hp0 hu
      have hge : ¬ (K + (r : Int) + l < 0) := by omega
      go_wp2_with fail
      refine (held_calls HU.out (by omega) (by omega) (by omega)).mono ?_
      rintro e w1 ⟨rfl, rfl⟩
      go_wp2_with fail
      go_round
      case rel => exact ⟨k + 1, r + l, by omega, by go_num, by go_num, H3.out⟩
      case measure => simp [intOf]; omega
    · obtain rfl : k = n := by omega
      have HF : Hid (r = t) := by
        have h2 := HR.out
        rw [List.take_of_length_le (by rw [HL.out]; omega)] at h2
        exact h2.trans HTt.out
      go_wp2_with fail
      go_ret
      exact ⟨ret_int (by rw [HF.out]), rfl⟩

/-- A heap that is marked from K on; how many marks it takes. -/
def markHp (h : Hp) (K : Int) : Hp := ⟨marksP h.pages K, marks (K + cntP h.pages) h.words.length, marksM h.mags (K + cntP h.pages + h.words.length)⟩
def cntH (h : Hp) : Nat := cntP h.pages + h.words.length + h.mags.flatten.length
theorem cntH_le {h : Hp} (hs : HpS 1048576 h) : cntP h.pages ≤ 1099514773504 ∧ h.words.length ≤ 1048576 ∧ h.mags.flatten.length ≤ 1099511627776 := by
  refine ⟨?_, hs.w, ?_⟩
  · have := cntP_bound hs.u hs.p h.pages.length; rwa [List.take_length] at this
  · have := cntM_bound hs.k hs.m h.mags.length; rwa [List.take_length] at this

set_option maxHeartbeats 800000 in
theorem markHeap_calls {vp vw vm : Value} {np nw nm : Nat} {h : Hp} {K : Int} {S : Nat → Prop} {w : World} (ho : HpO w S vp np vw nw vm nm h) (hs : HpS 1048576 h) (h0 : 0 ≤ K) (hK : K ≤ 1048576) :
    Calls Try.prog 54 #[.agg #[vp, vw, vm], .int .i64 K] w fun e w' => e = .returned (.int .i64 (K + cntH h)) ∧ HpO w' S vp np vw nw vm nm (markHp h K) ∧ Turn S w w' := by
  obtain ⟨S1, S2, S3, o1, o2, o3, d1, d2, d3, e1, e2, e3⟩ := ho.ex
  obtain ⟨pa, pc, rfl, _, _, _⟩ := o1.shape
  obtain ⟨wa, wc, rfl, _, _, _⟩ := o2.shape
  obtain ⟨ma, mc, rfl, _, _, _⟩ := o3.shape
  have HS := Lib.hid hs
  have n1 : np ≤ 1048576 := by have := o1.1; have := hs.p; omega
  have n2 : nw ≤ 1048576 := by have := o2.1; have := hs.w; omega
  have n3 : nm ≤ 1048576 := by have := o3.1; have := hs.m; omega
  obtain ⟨c1, hc1⟩ : ∃ c, c = cntP h.pages := ⟨_, rfl⟩
  have hc1b : c1 ≤ 1099514773504 := by rw [hc1]; exact (cntH_le hs).1
  have HC1 := Lib.hid hc1
  have HW := Lib.hid o2.1
  have O1 := Lib.hid o1.here
  have O2 := Lib.hid o2.here
  have O3 := Lib.hid o3.here
  have HD := Lib.hid (And.intro d1 (And.intro d2 (And.intro d3 (And.intro e1 (And.intro e2 e3)))))
  clear ho o1 o2 o3 d1 d2 d3 e1 e2 e3 hs hc1
  go_enter Try.func54, Try.ntmps54
  go_wp2_with fail
  have hrow : Row (w.alloc (.cells #[.slice pa np pc, .slice wa nw wc, .slice ma nm mc] 31)) w.heap.size 31 #[.slice pa np pc, .slice wa nw wc, .slice ma nm mc] := heap_alloc_new _ _
  refine (markPgs_calls (O1.out.alloc _) HS.out.u n1 h0 hK).mono ?_
  rintro e w1 ⟨rfl, p1, t1⟩
  rw [← HC1.out]
  have R1 := t1.row hrow (fun hq => by have := hq.2; omega)
  have tA := (Turn.alloc (fun q => S1 q ∧ q < w.heap.size) w (.cells #[.slice pa np pc, .slice wa nw wc, .slice ma nm mc] 31)).trans t1 (fun _ h _ => h)
  have H1 := Lib.hid (And.intro p1 (And.intro (O2.out.turn tA (fun q hq _ h => HD.out.2.2.2.1 q h.1 hq.1)) (And.intro (O3.out.turn tA (fun q hq _ h => HD.out.2.2.2.2.1 q h.1 hq.1)) tA)))
  have q1 := R1.cell 1
  have q2 := R1.cell 2
  have ql := R1.lt
  simp at q1 q2
  clear hrow p1 t1 tA
  go_wp2_with fail
  refine (markW_calls H1.out.2.1 (by omega) (by omega) (by omega)).mono ?_
  rintro e w2 ⟨rfl, p2, t2⟩
  have R2 := t2.row R1 (fun hq => by have := hq.2; omega)
  have H2 := Lib.hid (And.intro (H1.out.1.turn t2 (fun q hq _ h => HD.out.2.2.2.1 q hq.1 h.1)) (And.intro p2 (And.intro (H1.out.2.2.1.turn t2 (fun q hq _ h => HD.out.2.2.2.2.2 q h.1 hq.1)) t2)))
  clear q1 q2 ql R1 p2 t2
  have q2 := R2.cell 2
  have ql := R2.lt
  simp at q2
  go_wp2_with fail
  obtain ⟨c3, hc3⟩ : ∃ c, c = h.mags.flatten.length := ⟨_, rfl⟩
  have hc3b : c3 ≤ 1099511627776 := by rw [hc3]; exact (cntH_le HS.out).2.2
  have HC3 := Lib.hid hc3
  refine (markMags_calls H2.out.2.2.1 hc3.symm HS.out.k n3 (by omega) (by omega)).mono ?_
  rintro e w3 ⟨rfl, p3, t3⟩
  have HE : Hid (HpO w3 S (.slice pa np pc) np (.slice wa nw wc) nw (.slice ma nm mc) nm (markHp h K) ∧ Turn S w w3) := by
    obtain ⟨d1, d2, d3, e1, e2, e3⟩ := HD.out
    refine ⟨HpO.mk3 (A := fun q => S1 q ∧ q < w.heap.size) (B := fun q => S2 q ∧ q < w.heap.size) (C := fun q => S3 q ∧ q < w.heap.size) (H2.out.1.turn t3 (fun q hq _ h => e2 q hq.1 h.1)) ?_ ?_ (fun q hq => d1 q hq.1) (fun q hq => d2 q hq.1) (fun q hq => d3 q hq.1) (fun q hq h => e1 q hq.1 h.1) (fun q hq h => e2 q hq.1 h.1) (fun q hq h => e3 q hq.1 h.1), ?_⟩
    · have := H2.out.2.1.turn t3 (fun q hq _ h => e3 q hq.1 h.1)
      simp only [markHp]
      rw [← HC1.out, HW.out]; exact this
    · simp only [markHp]
      rw [← HC1.out, HW.out]; exact p3
    · exact ((H1.out.2.2.2.mono (U := S) (fun q hq _ => d1 q hq.1)).trans (H2.out.2.2.2.mono (U := S) (fun q hq _ => d2 q hq.1)) (fun q hq _ => hq)).trans (t3.mono (U := S) (fun q hq _ => d3 q hq.1)) (fun q hq _ => hq)
  clear p3 t3 hc3
  go_wp2_with fail
  go_ret
  refine ⟨ret_int ?_, HE.out.1, HE.out.2⟩
  unfold cntH
  rw [← HC1.out, HW.out, ← HC3.out]
  omega

set_option maxHeartbeats 800000 in
theorem heldHeap_calls {pa wa ma : Option Addr} {pn pc wn wk mn mc : Nat} {h : Hp} {K : Int} {S : Nat → Prop} {w : World} (hr : HpR w S pa pn pc wa wn wk ma mn mc (markHp h K)) (hs : HpS 1048576 h) (h0 : 0 ≤ K) (hK : K ≤ 1048576) :
    Calls Try.prog 55 #[.agg #[.slice pa pn pc, .slice wa wn wk, .slice ma mn mc], .int .i64 K] w fun e w' => e = .returned (.int .i64 (K + cntH h)) ∧ Below w.heap.size w w' := by
  have HR := Lib.hid hr
  have HS := Lib.hid hs
  have n1 : pn ≤ 1048576 := by have := hs.p; have h2 := hr.pg.1; simp only [markHp, length_marksP] at h2; omega
  have hwl : h.words.length = wn := by have h2 := hr.wd.1; simp only [markHp, length_marks] at h2; exact h2
  have n2 : wn ≤ 1048576 := by have := hs.w; omega
  have n3 : mn ≤ 1048576 := by have h2 := hr.mg.1; simp only [markHp, length_marksM] at h2; have := hs.m; omega
  obtain ⟨c1, hc1⟩ : ∃ c, c = cntP h.pages := ⟨_, rfl⟩
  have hc1b : c1 ≤ 1099514773504 := by rw [hc1]; exact (cntH_le hs).1
  have HC1 := Lib.hid hc1
  have HW := Lib.hid hwl
  clear hr hs hc1 hwl
  have g1 : ¬ (K + (c1 : Int) < 0) := by omega
  have g2 : ¬ (K + (c1 : Int) + wn < 0) := by omega
  go_enter Try.func55, Try.ntmps55
  go_wp2_with fail
  refine (heldPgs_calls (HR.out.pg.alloc _) HS.out.u n1 h0 hK).mono ?_
  rintro e w1 ⟨rfl, hb1⟩
  rw [← HC1.out]
  have R1 := Row.new hb1
  have B1 := Lib.hid (below_past hb1)
  have q1 := R1.cell 1
  have q2 := R1.cell 2
  have ql := R1.lt
  simp at q1 q2
  clear hb1 R1
  go_wp2_with fail
  refine (held_calls (K := K + c1) (by have := (HR.out.below B1.out).wd.ints; simp only [markHp] at this; rw [← HC1.out, HW.out] at this; exact this) (by omega) (by omega) (by omega)).mono ?_
  rintro e w2 ⟨rfl, rfl⟩
  go_wp2_with fail
  obtain ⟨c3, hc3⟩ : ∃ c, c = h.mags.flatten.length := ⟨_, rfl⟩
  have hc3b : c3 ≤ 1099511627776 := by rw [hc3]; exact (cntH_le HS.out).2.2
  have HC3 := Lib.hid hc3
  refine (heldMags_calls (ms := h.mags) (K := K + c1 + wn) (t := c3) (by have := (HR.out.below B1.out).mg; simp only [markHp] at this; rw [← HC1.out, HW.out] at this; exact this) hc3.symm HS.out.k n3 (by omega) (by omega)).mono ?_
  rintro e w3 ⟨rfl, rfl⟩
  clear hc3
  have g3 : ¬ (K + (c1 : Int) + wn + c3 < 0) := by omega
  go_wp2_with fail
  go_ret
  refine ⟨ret_int ?_, B1.out⟩
  unfold cntH
  rw [← HC1.out, HW.out, ← HC3.out]
  omega

set_option maxHeartbeats 800000 in
theorem markHR_calls {vp vw vm : Value} {np nw nm : Nat} {h : Hp} {q K : Int} {S : Nat → Prop} {w : World} (ho : HpO w S vp np vw nw vm nm h) (hs : HpS 1048576 h) (h0 : 0 ≤ K) (hK : K ≤ 1048576) :
    Calls Try.prog 16 #[.agg #[.int .i64 q, vp, vw, vm, .int .i64 0, .int .i64 0], .int .i64 K] w fun e w' => e = .returned (.int .i64 (K + cntH h)) ∧ HpO w' S vp np vw nw vm nm (markHp h K) ∧ Turn S w w' := by
  obtain ⟨pa, pc, wa, wc, ma, mc, rfl, rfl, rfl, _⟩ := ho.shape
  have HO := Lib.hid (ho.mono (S' := fun k => S k ∧ k < w.heap.size) (fun k hk hl => ⟨hk, hl⟩))
  have HS := Lib.hid hs
  clear ho hs
  go_enter Try.func16, Try.ntmps16
  go_wp2_with fail
  refine (markHeap_calls (HO.out.below ((Below.refl _ _).alloc (Nat.le_refl _) _)) HS.out h0 hK).mono ?_
  rintro e w1 ⟨rfl, ho2, ht⟩
  obtain ⟨c, hc⟩ : ∃ c, c = cntH h := ⟨_, rfl⟩
  have HC := Lib.hid hc
  rw [← hc]
  have hcb : c ≤ 2199027449856 := by rw [hc]; have := cntH_le HS.out; unfold cntH; omega
  have HO2 := Lib.hid (And.intro (ho2.mono (S' := S) (fun k hk _ => hk.1)) ((Turn.alloc S w _).trans ht (fun k hk _ => hk.1)))
  clear ho2 ht hc
  go_wp2_with fail
  go_ret
  exact ⟨ret_int (by rw [HC.out]), HO2.out.1, HO2.out.2⟩

theorem heldHR_calls {pa wa ma : Option Addr} {pn pc wn wk mn mc : Nat} {h : Hp} {q K : Int} {S : Nat → Prop} {w : World} (hr : HpR w S pa pn pc wa wn wk ma mn mc (markHp h K)) (hs : HpS 1048576 h) (h0 : 0 ≤ K) (hK : K ≤ 1048576) :
    Calls Try.prog 17 #[.agg #[.int .i64 q, .slice pa pn pc, .slice wa wn wk, .slice ma mn mc, .int .i64 0, .int .i64 0], .int .i64 K] w fun e w' => e = .returned (.int .i64 (K + cntH h)) ∧ Below w.heap.size w w' := by
  have HR := Lib.hid hr
  have HS := Lib.hid hs
  clear hr hs
  go_enter Try.func17, Try.ntmps17
  go_wp2_with fail
  refine (heldHeap_calls (HR.out.below ((Below.refl _ _).alloc (Nat.le_refl _) _)) HS.out h0 hK).mono ?_
  rintro e w1 ⟨rfl, hb1⟩
  obtain ⟨c, hc⟩ : ∃ c, c = cntH h := ⟨_, rfl⟩
  have HC := Lib.hid hc
  rw [← hc]
  have hcb : c ≤ 2199027449856 := by rw [hc]; have := cntH_le HS.out; unfold cntH; omega
  have hlt : ¬ (K + (c : Int) < 0) := by omega
  clear hc
  go_wp2_with fail
  go_ret
  exact ⟨ret_int (by rw [HC.out]), below_past hb1⟩
end Go.Proofs.Ytcnpckaacigbfaa

/- What the exact laws of chapter 5 have in their hands. -/
namespace Go.Proofs.Ytcnpckaacigbfaa
open Go.RowKit

theorem MakesHeap.open_ {w w' : World} {h : Hp} {e : Ending} (hm : MakesHeap w h e w') : ∃ pa pn pc wa wn wk ma mn mc, e = .returned (.agg #[.slice pa pn pc, .slice wa wn wk, .slice ma mn mc]) ∧ HpO w' (fun k => w.heap.size ≤ k) (.slice pa pn pc) pn (.slice wa wn wk) wn (.slice ma mn mc) mn h ∧ Below w.heap.size w w' := by
  obtain ⟨vp, np, vw, nw, vm, nm, rfl, ho, hb⟩ := hm
  obtain ⟨pa, pc, wa, wc, ma, mc, rfl, rfl, rfl, _⟩ := ho.shape
  exact ⟨_, _, _, _, _, _, _, _, _, rfl, ho, hb⟩
/-- The heap that came in, in its box. -/
structure InH (w W : World) (pa : Option Addr) (pn pc : Nat) (wa : Option Addr) (wn wk : Nat) (ma : Option Addr) (mn mc : Nat) (h : Hp) : Prop where
  bel : Below w.heap.size w W
  row : Row W w.heap.size 26 #[.slice pa pn pc, .slice wa wn wk, .slice ma mn mc]
  rd : HpR W (fun k => k < w.heap.size) pa pn pc wa wn wk ma mn mc h
theorem InH.below {w W W' : World} {pa wa ma : Option Addr} {pn pc wn wk mn mc : Nat} {h : Hp} (hi : InH w W pa pn pc wa wn wk ma mn mc h) (hb : Below W.heap.size W W') : InH w W' pa pn pc wa wn wk ma mn mc h :=
  ⟨hi.bel.trans (hb.mono hi.bel.size), hi.row.below hb, hi.rd.below hb⟩
theorem InH.start {w : World} {S : Nat → Prop} {pa wa ma : Option Addr} {pn pc wn wk mn mc : Nat} {h : Hp} (hT : HpR w S pa pn pc wa wn wk ma mn mc h) : InH w (w.alloc (.cells #[.slice pa pn pc, .slice wa wn wk, .slice ma mn mc] 26)) pa pn pc wa wn wk ma mn mc h :=
  ⟨(Below.refl _ _).alloc (Nat.le_refl _) _, heap_alloc_new _ _, (hT.mono (fun k _ hk => hk)).alloc _⟩
theorem InH.turn {w W W' : World} {T : Nat → Prop} {pa wa ma : Option Addr} {pn pc wn wk mn mc : Nat} {h : Hp} (hi : InH w W pa pn pc wa wn wk ma mn mc h) (ht : Turn T W W') (hT : ∀ k, T k → w.heap.size < k) : InH w W' pa pn pc wa wn wk ma mn mc h :=
  ⟨ht.below hi.bel hi.bel.size (fun k hk => Nat.le_of_lt (hT k hk)), ht.row hi.row (fun hk => Nat.lt_irrefl _ (hT _ hk)), hi.rd.turn ht (fun k hk _ h => by have := hT k h; omega)⟩
/-- Six cells, and all that was there, are kept. -/
theorem keepHH {W a b : World} {p1 p2 p3 p4 p5 p6 : Addr} {x1 x2 x3 x4 x5 x6 : Value} (h : a.cell? p1 = some x1 ∧ a.cell? p2 = some x2 ∧ a.cell? p3 = some x3 ∧ a.cell? p4 = some x4 ∧ a.cell? p5 = some x5 ∧ a.cell? p6 = some x6 ∧ Below W.heap.size W a) (hb : Below a.heap.size a b) :
    b.cell? p1 = some x1 ∧ b.cell? p2 = some x2 ∧ b.cell? p3 = some x3 ∧ b.cell? p4 = some x4 ∧ b.cell? p5 = some x5 ∧ b.cell? p6 = some x6 ∧ Below W.heap.size W b := by
  obtain ⟨h1, h2, h3, h4, h5, h6, h⟩ := h
  have k := fun (p : Addr) (x : Value) (e : a.cell? p = some x) => (hb.cell (World.block_lt_of_cell? _ _ e)).trans e
  exact ⟨k _ _ h1, k _ _ h2, k _ _ h3, k _ _ h4, k _ _ h5, k _ _ h6, h.trans (hb.mono h.size)⟩
end Go.Proofs.Ytcnpckaacigbfaa

/- Chapter 4 of the program: what holds a block. -/
namespace Go.Proofs.Ytcnpckaacigbfaa
open Go.RowKit

def blkV : Blk → Value
  | .slot i c s => .iface 118 (.agg #[.int .i64 i, .int .i64 c, .int .i64 s])
  | .run i n => .iface 141 (.agg #[.int .i64 i, .int .i64 n])
def blkO : Option Blk → Value
  | none => .nilIface
  | some b => blkV b

theorem slotSize_calls {i c s : Int} {w : World} (h0 : 0 ≤ c) (h3 : c ≤ 3) :
    Calls Try.prog 109 #[.agg #[.int .i64 i, .int .i64 c, .int .i64 s]] w fun e w' => e = .returned (.int .i64 (sizeW c)) ∧ Below w.heap.size w w' := by
  go_enter Try.func109, Try.ntmps109
  go_wp2_with fail
  refine (wordsOfClass_calls h0 h3).mono ?_
  rintro e w' ⟨rfl, rfl⟩
  go_wp2_with fail
  go_ret
  exact ⟨rfl, (Below.refl _ _).alloc (Nat.le_refl _) _⟩

theorem runStart_calls {i n : Int} {w : World} (h0 : 0 ≤ i) (h3 : i ≤ 40) :
    Calls Try.prog 147 #[.agg #[.int .i64 i, .int .i64 n]] w fun e w' => e = .returned (.int .i64 (i * 16)) ∧ Below w.heap.size w w' := by
  go_enter Try.func147, Try.ntmps147
  go_wp2_with fail
  go_ret
  exact ⟨rfl, (Below.refl _ _).alloc (Nat.le_refl _) _⟩

/-- Three cells, and all that was there, are kept. -/
theorem keep3 {W a b : World} {p q r : Addr} {x y z : Value} (h : a.cell? p = some x ∧ a.cell? q = some y ∧ a.cell? r = some z ∧ Below W.heap.size W a) (hb : Below a.heap.size a b) : b.cell? p = some x ∧ b.cell? q = some y ∧ b.cell? r = some z ∧ Below W.heap.size W b :=
  ⟨(hb.cell (World.block_lt_of_cell? _ _ h.1)).trans h.1, (hb.cell (World.block_lt_of_cell? _ _ h.2.1)).trans h.2.1, (hb.cell (World.block_lt_of_cell? _ _ h.2.2.1)).trans h.2.2.1, h.2.2.2.trans (hb.mono h.2.2.2.size)⟩

set_option maxHeartbeats 1000000 in
theorem slotStart_calls {i c s : Int} {w : World} (h0 : 0 ≤ c) (h3 : c ≤ 3) (hi0 : 0 ≤ i) (hi : i ≤ 40) (hs0 : 0 ≤ s) (hs : s ≤ 15) :
    Calls Try.prog 98 #[.agg #[.int .i64 i, .int .i64 c, .int .i64 s]] w fun e w' => e = .returned (.int .i64 (i * 16 + s * sizeW c)) ∧ Below w.heap.size w w' := by
  have hsz := sizeW_small c
  have hm0 : 0 ≤ s * sizeW c := Int.mul_nonneg hs0 (by omega)
  have hm1 : s * sizeW c ≤ 120 := by
    have := Int.mul_le_mul hs hsz.2 (by omega) (by omega)
    omega
  have hw1 : IntKind.i64.wrap (i * 16) = i * 16 := by rw [IntKind.wrap_i64]; omega
  have hw2 : IntKind.i64.wrap (s * sizeW c) = s * sizeW c := by rw [IntKind.wrap_i64]; omega
  have hw3 : IntKind.i64.wrap (i * 16 + s * sizeW c) = i * 16 + s * sizeW c := by rw [IntKind.wrap_i64]; omega
  obtain ⟨o, ho⟩ : ∃ o, o = Obj.cells #[.int .i64 i, .int .i64 c, .int .i64 s] 118 := ⟨_, rfl⟩
  have hrow : Row (w.alloc o) w.heap.size 118 #[.int .i64 i, .int .i64 c, .int .i64 s] := by rw [ho]; exact heap_alloc_new _ _
  have q0 : (w.alloc o).cell? ⟨w.heap.size, 0, none⟩ = some (.int .i64 i) := by rw [hrow.cell]; rfl
  have q1 : (w.alloc o).cell? ⟨w.heap.size, 1, none⟩ = some (.int .i64 c) := by rw [hrow.cell]; rfl
  have q2 : (w.alloc o).cell? ⟨w.heap.size, 2, none⟩ = some (.int .i64 s) := by rw [hrow.cell]; rfl
  have kB : Below w.heap.size w (w.alloc o) := (Below.refl _ _).alloc (Nat.le_refl _) o
  have kS : w.heap.size < (w.alloc o).heap.size := by simp
  subst ho
  go_enter Try.func98, Try.ntmps98
  go_wp2_with fail
  go_region_held3 (fun w' => w'.cell? ⟨w.heap.size, 0, none⟩ = some (.int .i64 i) ∧ w'.cell? ⟨w.heap.size, 1, none⟩ = some (.int .i64 c) ∧ w'.cell? ⟨w.heap.size, 2, none⟩ = some (.int .i64 s) ∧ Below w.heap.size w w') (first | assumption | exact ⟨q0, q1, q2, kB.drew⟩)
    ((go_at_call 109; obtain ⟨x0, x1, x2, kb⟩ := ‹_ ∧ _ ∧ _ ∧ Below _ _ _›; refine (slotSize_calls h0 h3).mono ?_; rintro e w' ⟨rfl, b1⟩; have hS' := keep3 ⟨x0, x1, x2, kb⟩ b1))
  have kb2 := hS'.2.2.2
  clear hS'
  go_wp2_with fail
  go_ret
  exact ⟨rfl, kb2⟩
end Go.Proofs.Ytcnpckaacigbfaa

/- Chapter 4 of the program: a slot that is searched for; runs that are free. -/
namespace Go.Proofs.Ytcnpckaacigbfaa
open Go.RowKit

theorem ret_val {a b : Value} (h : a = b) : Ending.returned a = .returned b := by rw [h]
/-- What is found so far, as a block. -/
def fv (c : Int) (f : Option (Nat × Nat)) : Value := blkO (f.map fun x => Blk.slot x.1 c x.2)

theorem freeN_take : ∀ {m : Nat} {ps : List Pg}, freeN m (ps.take m) = freeN m ps
  | 0, ps => rfl
  | m + 1, [] => rfl
  | m + 1, q :: r => by rw [List.take_succ_cons, freeN, freeN, freeN_take]
theorem freeN_all {m : Nat} {ps : List Pg} (h1 : m ≤ ps.length) (h : ∀ i p, i < m → ps[i]? = some p → p.kind = 0) : freeN m ps = true := by
  induction m generalizing ps with
  | zero => rfl
  | succ m ih =>
    cases ps with
    | nil => simp at h1
    | cons q r =>
      rw [freeN, h 0 q (by omega) (by simp), ih (by simpa using h1) (fun i p hi hp => h (i + 1) p (by omega) (by simpa using hp))]; simp
theorem runFrom_skip1 {m k : Nat} {ps : List Pg} (h : freeN m (ps.drop k) = false) (hk : k < ps.length) : runFrom m k (ps.drop k) = runFrom m (k + 1) (ps.drop (k + 1)) := by
  rw [List.drop_eq_getElem_cons hk] at h ⊢
  rw [runFrom, h]; simp
theorem runFrom_hit {m k : Nat} {ps : List Pg} (h : freeN m (ps.drop k) = true) (hk : k < ps.length) : runFrom m k (ps.drop k) = some k := by
  rw [List.drop_eq_getElem_cons hk] at h ⊢
  rw [runFrom, h]; simp
/-- What 'freeRun' answers. -/
def runV (x : Option Nat) : Value := match x with
  | some i => .tuple #[.int .i64 i, .bool true]
  | none => .tuple #[.int .i64 0, .bool false]

end Go.Proofs.Ytcnpckaacigbfaa

/- Chapter 4 of the model: a slot that is taken. -/
namespace Go.Proofs.Ytcnpckaacigbfaa
open Go.RowKit

/-- The place of the slot that is taken next, or -1; the pages with it. -/
def slotAt (ps : List Pg) (c : Int) : Int := match slotFor ps c with
  | some (i, s) => (i : Int) * 16 + s * sizeW c
  | none => -1
def slotPut (ps : List Pg) (c : Int) : List Pg := match slotFor ps c with
  | some (i, s) => putSlot ps c i s
  | none => ps
theorem slotFor_gap {ps : List Pg} {c : Int} {x : Nat × Nat} (h : gapIn c 0 ps = some x) : slotFor ps c = some x := by unfold slotFor; rw [h]
theorem slotFor_free {ps : List Pg} {c : Int} (h : gapIn c 0 ps = none) : slotFor ps c = (freeIn 0 ps).map fun i => (i, 0) := by unfold slotFor; rw [h]

end Go.Proofs.Ytcnpckaacigbfaa

/- Chapter 4 of the model: its exported functions that answer a code and a number. -/
namespace Go.Proofs.Ytcnpckaacigbfaa
open Go.RowKit

theorem findRun_eq (ps : List Pg) (m : Int) (hv : pagesFault ps = 0) (h : within 1 4 [m] = true) : findRun ps m = if runAt m.toNat ps < 0 then (7, 0) else (0, runAt m.toNat ps) := by
  unfold findRun runAt
  rw [if_pos hv, if_pos h]
  cases hr : runFrom m.toNat 0 ps with
  | none => simp
  | some i => simp only; rw [if_neg (by omega)]

end Go.Proofs.Ytcnpckaacigbfaa

/- Chapter 4 of the model: where a block begins, how great it is. -/
namespace Go.Proofs.Ytcnpckaacigbfaa
open Go.RowKit

theorem slot_small {p : Pg} {a : Nat} (h0 : 0 ≤ p.cls) (h3 : p.cls ≤ 3) (hl : (p.used.length : Int) = 16 / sizeW p.cls) : a % 16 / (sizeW p.cls).toNat < p.used.length := by
  rcases (show p.cls = 0 ∨ p.cls = 1 ∨ p.cls = 2 ∨ p.cls = 3 by omega) with e | e | e | e <;> rw [e] at hl ⊢ <;> simp [sizeW] at hl ⊢ <;> omega
theorem slot_int {c : Int} {a : Nat} (h0 : 0 < sizeW c) : (a : Int) % 16 / sizeW c = ((a % 16 / (sizeW c).toNat : Nat) : Int) := by
  obtain ⟨z, hz⟩ : ∃ z : Nat, sizeW c = z := ⟨(sizeW c).toNat, by omega⟩
  rw [hz, Int.toNat_natCast]; push_cast; rfl

theorem ret_two {a b c d : Int} (h1 : a = c) (h2 : b = d) : Ending.returned (.tuple #[.int .i64 a, .int .i64 b]) = .returned (.tuple #[.int .i64 c, .int .i64 d]) := by rw [h1, h2]
theorem headOf_self {ps : List Pg} {k : Nat} {p : Pg} (h : ps[k]? = some p) (h3 : p.kind ≠ 3) : headOf ps k = k := by
  cases k with
  | zero => rfl
  | succ k => unfold headOf; rw [h]; simp [h3]
theorem headOf_back {ps : List Pg} {k : Nat} {p : Pg} (h : ps[k + 1]? = some p) (h3 : p.kind = 3) : headOf ps (k + 1) = headOf ps k := by
  conv => lhs; unfold headOf
  rw [h]; simp [h3]

set_option maxRecDepth 100000 in
set_option maxHeartbeats 1000000 in
theorem l4Start_calls {ao : Option Addr} {n cc : Nat} {at_ : Int} {ps : List Pg} {S : Nat → Prop} {w : World} (hT : Lst KPage w S ao n ps) (hv : pagesFault ps = 0) :
    Calls Try.prog 66 #[.slice ao n cc, .int .i64 at_] w fun e w' => e = .returned (.tuple #[.int .i64 (blockStart ps at_).2, .int .i64 (blockStart ps at_).1]) ∧ w = w' := by
  have HL := Lib.hid hT.1
  have HV := Lib.hid hv
  have hn : n ≤ 40 := by have := (pagesFault_ok hv).1; have := hT.1; omega
  rcases hw : within 0 ((n : Int) * 16 - 1) [at_] with _ | _
  · have HR : Hid (blockStart ps at_ = (3, 0)) := by show _ = _; unfold blockStart; rw [held_no hv (by rw [HL.out]; exact hw)]
    have HW := Lib.hid hw
    clear hw hv
    go_enter Try.func66, Try.ntmps66
    go_wp2_with fail
    refine l1In_calls.mono ?_
    rw [HW.out]
    rintro e w2 ⟨rfl, rfl⟩
    go_wp2_with fail
    go_ret2
    exact ⟨ret_two (by rw [HR.out]) (by rw [HR.out]), rfl⟩
  have hw1 := within_range hw
  obtain ⟨a, ha⟩ : ∃ a : Nat, at_ = a := ⟨at_.toNat, by omega⟩
  subst ha
  have hal : a < n * 16 := by omega
  have HW := Lib.hid hw
  obtain ⟨i, hi⟩ : ∃ i, i = a / 16 := ⟨_, rfl⟩
  have hin : i < n := by omega
  obtain ⟨b, off, p, ad, l, c, rfl, d0, hp, e0, e1, e2, e3, hlc, hcm, hu⟩ := hT.pg_at hin
  have HP := Lib.hid hp
  have hpa : ps[a / 16]? = some p := by rw [← hi]; exact hp
  have hal' : a < ps.length * 16 := by rw [HL.out]; exact hal
  have hx1 : ((a : Int) / 16).toNat = i := by omega
  have hx2 : (a : Int) / 16 = (i : Int) := by omega
  have HI := Lib.hid hi
  rcases pageFault_kind (ok_page hv hp) with k0 | k1 | k2 | k3
  · have HR : Hid (blockStart ps a = (4, 0)) := by show _ = _; unfold blockStart; rw [held_free hv hal' hpa k0]
    rw [k0] at e0
    clear hw hv hw1 hp hpa hal' k0 hi
    go_enter Try.func66, Try.ntmps66
    go_wp2_with fail
    refine l1In_calls.mono ?_
    rw [HW.out]
    rintro e w2 ⟨rfl, rfl⟩
    go_wp2_with fail
    go_ret2
    exact ⟨ret_two (by rw [HR.out]) (by rw [HR.out]), rfl⟩
  · have hk := pageFault_ok (ok_page hv hp)
    obtain ⟨_, h0, h3, _, hl, _⟩ : p.kind = 1 ∧ 0 ≤ p.cls ∧ p.cls ≤ 3 ∧ p.run = 0 ∧ (p.used.length : Int) = 16 / sizeW p.cls ∧ anyB p.used = true := by
      rcases hk with h | h | h
      · exact h
      · omega
      · omega
    have hsz := sizeW_small p.cls
    have hsl := slot_small (a := a) h0 h3 hl
    have hsi := slot_int (c := p.cls) (a := a) (by omega)
    have hH := held_slot hv hal' hpa k1
    obtain ⟨s, hs⟩ : ∃ s, s = a % 16 / (sizeW p.cls).toNat := ⟨_, rfl⟩
    rw [← hs] at hsl hsi hH
    rw [← hi] at hH
    have hll : l = p.used.length := by have := hu.1; omega
    have hs16 : s ≤ 15 := by rw [hs]; have := Nat.div_le_self (a % 16) (sizeW p.cls).toNat; omega
    rw [← hll] at hsl
    obtain ⟨b2, o2, rfl, hb2, hcl⟩ := hu.bool_at hsl
    obtain ⟨u0, hgx⟩ : ∃ u0, p.used[s]? = some u0 := ⟨_, List.getElem?_eq_getElem (by omega)⟩
    rw [List.getD_eq_getElem?_getD, hgx] at hcl
    simp only [Option.getD_some] at hcl
    rw [k1] at e0
    have hsb : 0 ≤ (s : Int) * sizeW p.cls ∧ (s : Int) * sizeW p.cls ≤ 120 := by
      have := Int.mul_le_mul (show (s : Int) ≤ 15 by omega) hsz.2 (by omega) (by omega)
      exact ⟨Int.mul_nonneg (by omega) (by omega), by omega⟩
    have HSI := Lib.hid hsi
    have HH := Lib.hid hH
    have HGX := Lib.hid hgx
    have HLL := Lib.hid hll
    obtain ⟨hsb0, hsb1⟩ := hsb
    clear hk hl hsi hH hgx hll hs hw hv hw1 hp hpa hal' k1 hi hu
    rcases u0 with _ | _
    · have HR : Hid (blockStart ps a = (4, 0)) := by
        show _ = _; unfold blockStart; rw [HH.out, HGX.out]; rfl
      go_enter Try.func66, Try.ntmps66
      go_wp2_with fail
      refine l1In_calls.mono ?_
      rw [HW.out]
      rintro e w2 ⟨rfl, rfl⟩
      go_wp2_with fail
      refine (l3Size_calls h0 h3).mono ?_
      rintro e w2 ⟨rfl, rfl⟩
      have hne : (sizeW p.cls == 0) = false := by simp; omega
      have hx := HSI.out
      go_wp2_with fail
      go_ret2
      exact ⟨ret_two (by rw [HR.out]) (by rw [HR.out]), rfl⟩
    · have HR : Hid (blockStart ps a = (0, (i : Int) * 16 + s * sizeW p.cls)) := by
        show _ = _; unfold blockStart; rw [HH.out, HGX.out]; rfl
      go_enter Try.func66, Try.ntmps66
      go_wp2_with fail
      refine l1In_calls.mono ?_
      rw [HW.out]
      rintro e w2 ⟨rfl, rfl⟩
      go_wp2_with fail
      refine (l3Size_calls h0 h3).mono ?_
      rintro e w2 ⟨rfl, rfl⟩
      have hne : (sizeW p.cls == 0) = false := by simp; omega
      have hx := HSI.out
      go_wp2_with fail
      refine (l3Size_calls h0 h3).mono ?_
      rintro e w2 ⟨rfl, rfl⟩
      go_wp2_with fail
      go_ret2
      exact ⟨ret_two (by rw [HR.out]) (by rw [HR.out]), rfl⟩
  · obtain ⟨q, hq1, hq2, hq3⟩ := held_run hv hal' hpa (.inl k2)
    have HR : Hid (blockStart ps a = (0, (headOf ps i : Int) * 16)) := by show _ = _; unfold blockStart; rw [hq3, ← hi]; rfl
    have hhi := headOf_le ps i
    rw [k2] at e0
    clear hw hv hw1 hp hpa hal' k2 hi hq1 hq2 hq3 e1 e2 e3 hu
    go_enter Try.func66, Try.ntmps66
    go_wp2_with fail
    refine l1In_calls.mono ?_
    rw [HW.out]
    rintro e w2 ⟨rfl, rfl⟩
    go_wp2_with fail
    clear e0
    go_loop [6] (fun x => ∃ m : Nat, m ≤ i ∧ x = .int .i64 m ∧ Hid (headOf ps m = headOf ps i)) (fun x => (intOf x).toNat)
    case atStart => exact ⟨i, Nat.le_refl _, rfl, rfl⟩
    case round =>
      obtain ⟨m, hm, rfl, HM⟩ := hrel
      obtain ⟨b', off', p', ad', l', c', he, d0', hp', e0', _⟩ := hT.pg_at (j := m) (by omega)
      cases he
      by_cases m3 : p'.kind = 3
      · obtain ⟨g, q, hg, _⟩ := head_of_rest HV.out hp' m3
        obtain ⟨m', rfl⟩ : ∃ m', m = m' + 1 := ⟨m - 1, by omega⟩
        have HN : Hid (headOf ps m' = headOf ps i) := by show _ = _; rw [← HM.out, headOf_back hp' m3]
        rw [m3] at e0'
        clear hp' m3 hg
        go_wp2_with fail
        go_round
        case rel => exact ⟨m', by omega, by go_num, HN⟩
        case measure => simp [intOf]
      · have HN : Hid (headOf ps i = m) := by show _ = _; rw [← HM.out, headOf_self hp' m3]
        have hq : (p'.kind == 3) = false := by simpa using m3
        clear hp' m3
        go_wp2_with fail
        go_ret2
        exact ⟨ret_two (by rw [HR.out, HN.out]) (by rw [HR.out]), rfl⟩
  · obtain ⟨q, hq1, hq2, hq3⟩ := held_run hv hal' hpa (.inr k3)
    have HR : Hid (blockStart ps a = (0, (headOf ps i : Int) * 16)) := by show _ = _; unfold blockStart; rw [hq3, ← hi]; rfl
    have hhi := headOf_le ps i
    rw [k3] at e0
    clear hw hv hw1 hp hpa hal' k3 hi hq1 hq2 hq3 e1 e2 e3 hu
    go_enter Try.func66, Try.ntmps66
    go_wp2_with fail
    refine l1In_calls.mono ?_
    rw [HW.out]
    rintro e w2 ⟨rfl, rfl⟩
    go_wp2_with fail
    clear e0
    go_loop [6] (fun x => ∃ m : Nat, m ≤ i ∧ x = .int .i64 m ∧ Hid (headOf ps m = headOf ps i)) (fun x => (intOf x).toNat)
    case atStart => exact ⟨i, Nat.le_refl _, rfl, rfl⟩
    case round =>
      obtain ⟨m, hm, rfl, HM⟩ := hrel
      obtain ⟨b', off', p', ad', l', c', he, d0', hp', e0', _⟩ := hT.pg_at (j := m) (by omega)
      cases he
      by_cases m3 : p'.kind = 3
      · obtain ⟨g, q, hg, _⟩ := head_of_rest HV.out hp' m3
        obtain ⟨m', rfl⟩ : ∃ m', m = m' + 1 := ⟨m - 1, by omega⟩
        have HN : Hid (headOf ps m' = headOf ps i) := by show _ = _; rw [← HM.out, headOf_back hp' m3]
        rw [m3] at e0'
        clear hp' m3 hg
        go_wp2_with fail
        go_round
        case rel => exact ⟨m', by omega, by go_num, HN⟩
        case measure => simp [intOf]
      · have HN : Hid (headOf ps i = m) := by show _ = _; rw [← HM.out, headOf_self hp' m3]
        have hq : (p'.kind == 3) = false := by simpa using m3
        clear hp' m3
        go_wp2_with fail
        go_ret2
        exact ⟨ret_two (by rw [HR.out, HN.out]) (by rw [HR.out]), rfl⟩

/-- How many words a block has that begins in this page. -/
def sizeIn (p : Pg) : Int := if p.kind = 1 then sizeW p.cls else p.run * 16
theorem blockStart_fault {ps : List Pg} {a : Int} (h : pagesFault ps ≠ 0) : blockStart ps a = (pagesFault ps, 0) := by unfold blockStart heldAt; rw [if_neg h]
theorem blockSize_fault {ps : List Pg} {a : Int} (h : (blockStart ps a).1 ≠ 0) : blockSize ps a = ((blockStart ps a).1, (blockStart ps a).2) := by
  unfold blockSize blockStart at *
  split <;> simp_all
/-- Where no code is told, something is held. -/
theorem blockStart_held {ps : List Pg} {a : Int} (h : (blockStart ps a).1 = 0) : ∃ b, heldAt ps a = (0, some b) ∧ pagesFault ps = 0 ∧ (blockStart ps a).2 = b.start := by
  have hv : pagesFault ps = 0 := by
    rcases Int.lt_trichotomy (pagesFault ps) 0 with h1 | h1 | h1
    · rw [blockStart_fault (by omega)] at h; exact h
    · exact h1
    · rw [blockStart_fault (by omega)] at h; exact h
  unfold blockStart at *
  rcases hh : heldAt ps a with ⟨c, b⟩
  rw [hh] at h
  cases b with
  | none => have := held_code hv hh; simp at h; omega
  | some b => exact ⟨b, by rw [(held_info hv hh).1], hv, rfl⟩

end Go.Proofs.Ytcnpckaacigbfaa
