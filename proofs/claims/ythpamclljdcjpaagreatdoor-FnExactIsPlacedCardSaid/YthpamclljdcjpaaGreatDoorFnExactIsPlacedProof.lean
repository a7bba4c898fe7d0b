/- FnExactIsPlaced: at every argument the law answers true, and each argument reads behind the call as it read before. The variable that the row lists reads as the project's text lays it; no other condition. -/
import Derived.Test.YthpamclljdcjpaaGreatDoorCards
import Derived.Test.YthpamclljdcjpaaGreatDoorTie
import Derived.WalkKit
import Derived.ProofKit
import Derived.OpenShut
import Derived.ShutString
import Derived.ChangeOld
import Derived.ChangeVars
import Derived.LaidLaws
import Derived.Below
import Derived.Stop.Joined
import Derived.Stop.Texts
import Derived.Stop.LaidErr
import Derived.Deep.DeepHandedRow
import Derived.Test.YthpamclljdcjpaaGreatDoorM13
import Derived.Test.YthpamclljdcjpaaGreatDoorM14
namespace Go.Proofs.YthpamclljdcjpaaGreatDoor.fnExactIsPlaced
open Go.ChangeShapes Go.WideShapes Go.ChangeAt Go.RowKit
open Go.ChangeMaps (open_string shut_string)
set_option linter.unusedVariables false

theorem own : ownKnob Tryz.prog.godebug = none := by kernel_rfl
theorem laidOut : laidOutB Tryz.prog = true := by kernel_rfl
theorem gP : Tryz.prog.globalNamed "loop.example/g00729/impl.errNoPlace" = some 2 := by kernel_rfl
theorem gPType : (Tryz.prog.globals[2]?).map (·.type) = some 98 := by kernel_rfl
theorem cellsE : Tryz.prog.cellsOf 310 = 1 := by kernel_rfl
theorem cellsS : Tryz.prog.cellsOf 9 = 1 := by kernel_rfl
theorem star : "*" ++ "errors.errorString" = "*errors.errorString" := by decide
theorem rowE (u : TypeId) (h : Tryz.prog.typeName? 3 u = some "*errors.errorString") : u = 289 :=
  typeName_ptr_named (nm := "errors.errorString") (by rw [star]; kernel_rfl) (by kernel_rfl) (by decide) u (by rw [star]; exact h)

/-- What the row's list gives: the variable's cell. -/
theorem sentinel {W : World} (h : laidMetH Tryz.prog Rows.fnExactIsPlacedRow.laid W) : ∃ a : Addr, W.var? Tryz.prog "loop.example/g00729/impl.errNoPlace" = some #[.iface 289 (.pointer (some a))] := by
  obtain ⟨a, s, h1, _⟩ := laid_sentinel (W := W) h gP gPType Tryz.underlying98 rowE Tryz.underlying289 Tryz.underlying310 rfl rfl Tryz.underlying9 cellsE cellsS
  exact ⟨a, h1⟩

abbrev text : ByteArray := { data := #[116, 104, 101, 114, 101, 32, 105, 115, 32, 110, 111, 32, 112, 108, 97, 99, 101, 32, 102, 111, 114, 32, 115, 111, 32, 109, 97, 110, 121, 32, 119, 111, 114, 100, 115] }
noncomputable def low : Nat := (World.holding Tryz.prog default ⟨#[], #[], []⟩).heap.size
noncomputable def laidWorld (os : Os) : World :=
  let w0 := World.holding Tryz.prog os ⟨#[.cells #[.string text] 310], #[], []⟩
  { w0 with heap := w0.heap.modify 2 fun
      | .cells _ t frozen => .cells #[.iface 289 (.pointer (some ⟨low, 0, none⟩))] t frozen
      | o => o }
set_option maxRecDepth 100000 in
theorem laid_met (os : Os) (args : Array Value) : laidMetH Tryz.prog Rows.fnExactIsPlacedRow.laid ((laidWorld os).forCall (fun _ _ => 0) ⟨#[], args, []⟩).memory :=
  laidMet_of_run (l := Rows.fnExactIsPlacedRow.laid) (ps := [.cell 2 0, .cell low 0]) 8 (by kernel_rfl) (by kernel_rfl) (by kernel_rfl)

set_option maxRecDepth 100000 in
theorem contract (H : Type) (enc : TypeId × Value → H) (W : World) (base : Nat) (args : Array Value) (ds gs : List (DataW H)) (before : List MemPlace)
    (hval0 : ∀ (j : Nat) t v, Tryz.f9.params[j]? = some t → args[j]? = some v → Value.okWide Tryz.prog W .any base t v)
    (hW : DataW.Whole enc Tryz.prog Tryz.f9.params.toList Rows.fnExactIsPlacedSpec.vars false W args.toList ds gs before) (hL : laidMetH Tryz.prog Rows.fnExactIsPlacedRow.laid W) :
    Calls Tryz.prog 9 args W fun e W' => ∃ v, e = .returned v ∧ Rows.fnExactIsPlacedSpec.post enc Tryz.prog Tryz.f9 false true false false W args v W' := by
  have hval := hval0
  have hW' := hW
  obtain ⟨p, q, hA0, hV0, rfl, hfz, hnd⟩ := hW
  have hA : DataW.TrodAll enc Tryz.prog W 0 (fun _ => true) true Tryz.f9.params.toList args.toList ds p := hA0
  have hV : DataW.TrodVars enc Tryz.prog W (fun _ => true) ["loop.example/g00729/impl.errNoPlace"] gs q := hV0
  rw [Tryz.params9] at hA hval
  obtain ⟨v0, vs0, d0, ds0, p0, q0, hargs, rfl, rfl, h0, r0⟩ := trodAll_cons hA
  obtain ⟨v1, vs1, d1, ds1, p1, q1, rfl, rfl, rfl, h1, r1⟩ := trodAll_cons r0
  obtain ⟨rfl, rfl, rfl⟩ := trodAll_nil r1
  obtain rfl : args = #[v0, v1] := by cases args; simp_all
  obtain ⟨a2, hv⟩ := sentinel hL
  have vr : ∀ {X : World}, X.var? Tryz.prog "loop.example/g00729/impl.errNoPlace" = some #[.iface 289 (.pointer (some a2))] → ∀ sp : Nat → Bool, DataW.TrodVars enc Tryz.prog X sp ["loop.example/g00729/impl.errNoPlace"] [tok enc (.iface 289 (.pointer (some a2)))] [.cell 2 0] :=
    fun x0 sp => vars_read1 enc gP gPType Tryz.underlying98 x0 trivial sp
  obtain ⟨rfl, rfl⟩ := hV.unique (vr hv _)
  have hE : W.cell? ⟨2, 0, none⟩ = some (.iface 289 (.pointer (some a2))) := by simpa using World.var?_cell gP hv 0
  have k0 := h0
  have lt0 : ∀ x ∈ p0, x.block < W.heap.size := by obtain ⟨m, hm⟩ := k0; exact DataW.trod_lt m _ _ _ hm
  obtain ⟨q0, pa0, pn0, pc0, wa0, wn0, wk0, ma0, mn0, mc0, rfl, hT0⟩ := open_heap (hval 0 _ v0 rfl rfl) h0
  obtain ⟨a1, rfl, rfl, rfl, w1⟩ := open_int Tryz.underlying2 (hval 1 _ v1 rfl rfl) h1
  clear hA0 hval0
  refine (lawIsPlaced hE hT0).mono fun e W' ⟨he, bel⟩ => ?_
  subst he
  exact ⟨_, rfl, _, _, _, [], _, [.cell 2 0], hW', trodAll_mk1 (shut_bool Tryz.underlying4 _), (trodAll_cons_mk (Below.trod laidOut (by kernel_rfl) (of_decide_eq_true (by kernel_rfl)) k0 bel lt0) (trodAll_cons_mk (shut_int Tryz.underlying2 w1) trodAll_mk0)), vr (var?_below hv bel) _, bel.frame _, fun h => by cases h⟩

set_option maxRecDepth 100000 in
theorem lifted (os : Os) (started : os.Started) (H : Type) (enc : TypeId × Value → H) (F : Stop.Interp) :
    ReturnsInHanded {} Tryz.checked os 9 .any ((OpenSpec.ofChange Rows.fnExactIsPlacedSpec).preRow enc Tryz.prog Tryz.f9 Rows.fnExactIsPlacedRow.domain false Rows.fnExactIsPlacedRow.laid) (((OpenSpec.ofChange Rows.fnExactIsPlacedSpec).at F).post enc Tryz.prog Tryz.f9 false true false false) := by
  refine returnsInHanded_of_row (C := Tryz.checked) (s := OpenSpec.ofChange Rows.fnExactIsPlacedSpec) own started (by kernel_rfl) Tryz.func9
    (witness_row_at (enc := enc) (C := Tryz.checked) false (laidWorld os) #[.agg #[.slice none 0 0, .slice none 0 0, .slice none 0 0], .int .i64 0] rfl (by kernel_rfl) (by kernel_rfl) (by kernel_rfl)
      (OpenSpec.preRow_of_B rfl 8 (by kernel_rfl) (by kernel_rfl) (laid_met os _))) ?_
  intro W base args ds gs before hval hW _ _ _ hL _ _
  exact contract H enc W base args ds gs before hval hW hL

theorem said : Rows.FnExactIsPlacedSaid :=
  OpenClaim.holds_of_cond 9 Tryz.f9 rfl rfl rfl rfl rfl rfl rfl ⟨rfl, rfl, rfl, rfl, rfl⟩ rfl rfl rfl rfl rfl (by kernel_rfl) Tryz.func9 (by kernel_rfl)
    (of_decide_eq_true (by kernel_rfl)) (by unfold Func.isWrapper; first | (rw [if_pos (by decide +kernel)]; kernel_rfl) | (rw [if_neg (by decide +kernel)]; exact ⟨rfl, rfl⟩))
    (fun os started H enc _ F => by rw [OpenClaim.pre_eq_preRow]; exact lifted os started H enc F)

theorem plain (f : FuncId) (fn : Func) (hf : Tryz.pinned.checked.prog.funcNamed "loop.example/g00729/laws.FnExactIsPlaced" = some f) (hfn : Tryz.pinned.checked.prog.funcs[f]? = some fn) :
    true = Tryz.pinned.checked.prog.looks [] ∧ ∀ (j : Nat) t, fn.params[j]? = some t → Tryz.pinned.checked.prog.wantsStandIn t = false := by
  obtain rfl : f = 9 := Option.some.inj ((show Tryz.prog.funcNamed "loop.example/g00729/laws.FnExactIsPlaced" = some 9 by kernel_rfl).symm.trans hf) |>.symm
  obtain rfl : fn = Tryz.f9 := (Option.some.inj (Tryz.func9.symm.trans hfn)).symm
  refine ⟨by kernel_rfl, fun j t ht => ?_⟩
  have h9 : (Tryz.f9.params.toList.all fun t => ! Tryz.prog.wantsStandIn t) = true := by kernel_rfl
  have h8 := List.all_eq_true.1 h9 t (by simpa using Array.mem_of_getElem? ht)
  have h7 : Tryz.prog.wantsStandIn t = false := by simpa using h8
  exact h7

theorem card : Rows.FnExactIsPlacedCardSaid :=
  Claim7.holds_tied_plain_at .later [] _ _ _ _ said (fun _ h => by cases h) (by kernel_rfl) (fun _ h => by cases h) fnExactIsPlaced_row_tie rfl ⟨rfl, rfl⟩ (by kernel_rfl) rfl plain (by kernel_rfl)
#print axioms card
end Go.Proofs.YthpamclljdcjpaaGreatDoor.fnExactIsPlaced
