/- The exact law of chapter 16 on texts of cubes holds: for every input the law returns true and its arguments read behind the call as they read before. No conditions but those of the card: the listed tables of the library hold what their initialisers lay. -/
import Derived.Test.YtkcjbjkccafekaaDoor16t
import Derived.Test.YtkcjbjkccafekaaDoorCards
import Derived.Test.YtkcjbjkccafekaaDoorTie
import Derived.Deep.DeepHandedRow
import Derived.Lib.LaidTab
import Derived.Stop.LaidErr
import Derived.MakeChecks
import Derived.Test.YtkcjbjkccafekaaDoorCbL
import Derived.Test.YtkcjbjkccafekaaDoorL01b
import Derived.Test.YtkcjbjkccafekaaDoorVarB
import Derived.Test.YtkcjbjkccafekaaDoorRows
import Derived.ChangeOld
namespace Go.Proofs.YtkcjbjkccafekaaDoor.cubeTextLaw
open Go.ChangeMaps (open_string shut_string)
open Go.ChangeShapes Go.WideShapes Go.ChangeAt Go.RowKit
set_option linter.unusedVariables false
set_option linter.unusedSimpArgs false
set_option maxRecDepth 4000

def lay (vs : Array Value) : Obj → Obj
  | .cells _ t frozen => .cells vs t frozen
  | o => o
/-- A world for the witness: the settled one, each listed table holding what its initialiser lays. -/
noncomputable def lowBlock : Nat := (World.holding Tryd.prog default ⟨#[], #[], []⟩).heap.size
noncomputable def laidWorld (os : Os) : World :=
  { World.holding Tryd.prog os ⟨#[], #[], []⟩ with heap := ((((World.holding Tryd.prog os ⟨#[], #[], []⟩).heap.modify 1 (lay #[.int .u8 0, .int .u8 1, .int .u8 28, .int .u8 2, .int .u8 29, .int .u8 14, .int .u8 24, .int .u8 3, .int .u8 30, .int .u8 22, .int .u8 20, .int .u8 15, .int .u8 25, .int .u8 17, .int .u8 4, .int .u8 8, .int .u8 31, .int .u8 27, .int .u8 13, .int .u8 23, .int .u8 21, .int .u8 19, .int .u8 16, .int .u8 7, .int .u8 26, .int .u8 12, .int .u8 18, .int .u8 6, .int .u8 11, .int .u8 5, .int .u8 10, .int .u8 9])).modify 2 (lay #[.int .u8 0, .int .u8 1, .int .u8 56, .int .u8 2, .int .u8 57, .int .u8 49, .int .u8 28, .int .u8 3, .int .u8 61, .int .u8 58, .int .u8 42, .int .u8 50, .int .u8 38, .int .u8 29, .int .u8 17, .int .u8 4, .int .u8 62, .int .u8 47, .int .u8 59, .int .u8 36, .int .u8 45, .int .u8 43, .int .u8 51, .int .u8 22, .int .u8 53, .int .u8 39, .int .u8 33, .int .u8 30, .int .u8 24, .int .u8 18, .int .u8 12, .int .u8 5, .int .u8 63, .int .u8 55, .int .u8 48, .int .u8 27, .int .u8 60, .int .u8 41, .int .u8 37, .int .u8 16, .int .u8 46, .int .u8 35, .int .u8 44, .int .u8 21, .int .u8 52, .int .u8 32, .int .u8 23, .int .u8 11, .int .u8 54, .int .u8 26, .int .u8 40, .int .u8 15, .int .u8 34, .int .u8 20, .int .u8 31, .int .u8 10, .int .u8 25, .int .u8 14, .int .u8 19, .int .u8 9, .int .u8 13, .int .u8 8, .int .u8 7, .int .u8 6])).modify 0 (lay #[.int .u64 1, .int .u64 10, .int .u64 100, .int .u64 1000, .int .u64 10000, .int .u64 100000, .int .u64 1000000, .int .u64 10000000, .int .u64 100000000, .int .u64 1000000000, .int .u64 10000000000, .int .u64 100000000000, .int .u64 1000000000000, .int .u64 10000000000000, .int .u64 100000000000000, .int .u64 1000000000000000, .int .u64 10000000000000000, .int .u64 100000000000000000, .int .u64 1000000000000000000, .int .u64 10000000000000000000])) }
theorem t10_of {W : World} (hL : laidMetH Tryd.prog Rows.fnExactCubeTextRow.laid W) : T10c W := by
  have hL1 : laidMet Tryd.prog Rows.fnExactCubeTextRow.laid W := by
    rw [← Go.MakeChecks.laidMetH_plain _ _ _ (by kernel_rfl)]
    exact hL
  exact Lib.tabIs_of_head (by kernel_rfl) (show (Tryd.prog.globals[0]?).map (·.type) = some 71 by kernel_rfl) Tryd.underlying71 Tryd.underlying52 (by kernel_rfl) (by kernel_rfl) (rest := _) ((hL1.tail).tail)
set_option maxRecDepth 8000 in
set_option maxHeartbeats 2000000 in
theorem fnExactCubeText_walk (v o : Int) (w : World) (ht : T10c w) :
    Calls Tryd.prog 4 #[.agg #[.int .i64 v, .int .i64 o]] w fun e w' => e = .returned (.bool true) ∧ Below w.heap.size w w' := by
    have BC := Blk.new w #[.int .i64 v, .int .i64 o] 31
    have hb : Below w.heap.size w (w.alloc (.cells #[.int .i64 v, .int .i64 o] 31)) := (Below.refl _ _).alloc (Nat.le_refl _) _
    replace ht := ht.below hb
    have hsp := fun W => specCubeText_any v o W
    have him := fun W t => cubeText_any v o W t
    obtain ⟨T, hT⟩ : ∃ T : ByteArray, ⟨(ctT v o).toArray⟩ = T := ⟨_, rfl⟩
    rw [hT] at hsp him
    have HSP := Lib.hid hsp
    have HIM := Lib.hid him
    clear hsp him hT
    go_enter Tryd.func4, Tryd.ntmps4
    go_wp2_with fail
    generalize (w.alloc (.cells #[.int .i64 v, .int .i64 o] 31)) = v0 at *
    obtain ⟨q0_BC, q1_BC, qf_BC, ql_BC⟩ := BC.two
    go_wp2_with fail
    clear q0_BC q1_BC qf_BC ql_BC
    refine (toCube_any _ _ _).mono ?_
    rintro e w1 ⟨rfl, hb1⟩
    replace BC := BC.below hb1
    replace ht := ht.below hb1
    have hz1 := hb1.size
    replace hb := chain hb hb1
    clear hb1
    obtain ⟨q0_BC, q1_BC, qf_BC, ql_BC⟩ := BC.two
    go_wp2_with fail
    clear q0_BC q1_BC qf_BC ql_BC
    refine (HSP.out _).mono ?_
    rintro e w2 ⟨rfl, hb2⟩
    replace BC := BC.below hb2
    replace ht := ht.below hb2
    have hz2 := hb2.size
    replace hb := chain hb hb2
    clear hb2
    obtain ⟨q0_BC, q1_BC, qf_BC, ql_BC⟩ := BC.two
    go_wp2_with fail
    clear q0_BC q1_BC qf_BC ql_BC
    refine (toCube_any _ _ _).mono ?_
    rintro e w3 ⟨rfl, hb3⟩
    replace BC := BC.below hb3
    replace ht := ht.below hb3
    have hz3 := hb3.size
    replace hb := chain hb hb3
    clear hb3
    obtain ⟨q0_BC, q1_BC, qf_BC, ql_BC⟩ := BC.two
    go_wp2_with fail
    clear q0_BC q1_BC qf_BC ql_BC
    refine (HIM.out _ ht).mono ?_
    rintro e w4 ⟨rfl, hb4⟩
    replace BC := BC.below hb4
    replace ht := ht.below hb4
    have hz4 := hb4.size
    replace hb := chain hb hb4
    clear hb4
    obtain ⟨q0_BC, q1_BC, qf_BC, ql_BC⟩ := BC.two
    go_wp2_with fail
    go_ret
    exact ⟨rfl, hb⟩
set_option maxRecDepth 100000 in
theorem fnExactCubeText_contract (H : Type) (enc : TypeId × Value → H) (W : World) (base : Nat) (args : Array Value) (ds gs : List (DataW H)) (before : List MemPlace)
    (hval : ∀ (j : Nat) t v, Tryd.f4.params[j]? = some t → args[j]? = some v → Value.okWide Tryd.prog W .any base t v)
    (hW : DataW.Whole enc Tryd.prog Tryd.f4.params.toList Rows.fnExactCubeTextSpec.vars false W args.toList ds gs before) (hL : laidMetH Tryd.prog Rows.fnExactCubeTextRow.laid W) :
    Calls Tryd.prog 4 args W fun e W' => ∃ v, e = .returned v ∧ Rows.fnExactCubeTextSpec.post enc Tryd.prog Tryd.f4 false true false false W args v W' := by
  have hT := t10_of hL
  have hW' := hW
  obtain ⟨p, q, hA0, hV, rfl, hfz, hnd⟩ := hW
  have hA : DataW.TrodAll enc Tryd.prog W 0 (fun _ => true) true Tryd.f4.params.toList args.toList ds p := hA0
  rw [Tryd.params4] at hA hval
  obtain ⟨v0, vs0, d0, ds0, p0, q0, hargs, rfl, rfl, h0, r0⟩ := trodAll_cons hA
  obtain ⟨rfl, rfl, rfl⟩ := trodAll_nil r0
  obtain rfl : args = #[v0] := by cases args; simp_all
  obtain ⟨rfl, rfl⟩ := trodVars_none hV
  have k0 := h0
  have lt0 : ∀ x ∈ p0, x.block < W.heap.size := by obtain ⟨m, hm⟩ := k0; exact DataW.trod_lt m _ _ _ hm
  obtain ⟨x0_0, x1_0, y0_0, y1_0, m_0, rfl, _, _, hy0_0, hy1_0⟩ := Joins.open_agg2 Tryd.underlying31 (by kernel_rfl) (show Tryd.prog.cellsOf 31 = 2 by kernel_rfl) (hval 0 31 v0 rfl rfl) h0
  obtain ⟨a0_0, e0_0, _, wa0_0⟩ := DataW.trod_int Tryd.underlying2 hy0_0
  obtain ⟨a1_0, e1_0, _, wa1_0⟩ := DataW.trod_int Tryd.underlying2 hy1_0
  simp at e0_0 e1_0
  subst e0_0 e1_0
  clear hA0
  refine (fnExactCubeText_walk a0_0 a1_0 W hT).mono fun e W' ⟨he, bel⟩ => ?_
  subst he
  exact ⟨_, rfl, _, _, _, [], _, [], hW', trodAll_mk1 (shut_bool Tryd.underlying4 _), (trodAll_cons_mk (Below.trod laidOut (by kernel_rfl) (of_decide_eq_true (by kernel_rfl)) k0 bel lt0) trodAll_mk0), rfl, bel.frame _, fun h => by cases h⟩
theorem fnExactCubeText_laid (os : Os) : laidMet Tryd.prog Rows.fnExactCubeTextRow.laid ((laidWorld os).forCall (fun _ _ => 0) ⟨#[], #[.agg #[.int .i64 0, .int .i64 0]], []⟩).memory :=
  laidMet_of_run' 8 (by kernel_rfl) (by kernel_rfl)
theorem fnExactCubeText_reads (os : Os) {H : Type} (enc : TypeId × Value → H) : ∃ places, DataW.whole enc Tryd.prog ((laidWorld os).forCall (fun _ _ => 0) ⟨#[], #[.agg #[.int .i64 0, .int .i64 0]], []⟩).memory Tryd.f4.params.toList Rows.fnExactCubeTextSpec.vars false (#[.agg #[.int .i64 0, .int .i64 0]] : Array Value).toList 8 = some ([.agg [.lit (.int .i64 0), .lit (.int .i64 0)]], [], places) :=
  ⟨[], by kernel_rfl⟩
set_option maxRecDepth 100000 in
theorem fnExactCubeText_lifted (os : Os) (started : os.Started) (H : Type) (enc : TypeId × Value → H) (F : Stop.Interp) :
    ReturnsInHanded {} Tryd.checked os 4 .any ((OpenSpec.ofChange Rows.fnExactCubeTextSpec).preRow enc Tryd.prog Tryd.f4 Rows.fnExactCubeTextRow.domain false Rows.fnExactCubeTextRow.laid) (((OpenSpec.ofChange Rows.fnExactCubeTextSpec).at F).post enc Tryd.prog Tryd.f4 false true false false) := by
  obtain ⟨places, hx⟩ := fnExactCubeText_reads os enc
  refine returnsInHanded_of_row (C := Tryd.checked) (s := OpenSpec.ofChange Rows.fnExactCubeTextSpec) own started (by kernel_rfl) Tryd.func4
    (witness_row_at (enc := enc) (C := Tryd.checked) false (laidWorld os) #[.agg #[.int .i64 0, .int .i64 0]] rfl (by kernel_rfl) (by kernel_rfl) (by kernel_rfl)
      (OpenSpec.preRow_of_cond 8 hx (by kernel_rfl) (fun k hk => by cases hk) (by kernel_rfl) (fnExactCubeText_laid os))) ?_
  intro W base args ds gs before hval hW _ _ _ hL _ _
  exact fnExactCubeText_contract H enc W base args ds gs before hval hW hL
theorem fnExactCubeText_said : Rows.FnExactCubeTextSaid :=
  OpenClaim.holds_of_cond 4 Tryd.f4 rfl rfl rfl rfl rfl rfl rfl ⟨rfl, rfl, rfl, rfl, rfl⟩ rfl rfl rfl rfl rfl (by kernel_rfl) Tryd.func4 (by kernel_rfl)
    (of_decide_eq_true (by kernel_rfl)) (by unfold Func.isWrapper; first | (rw [if_pos (by decide +kernel)]; kernel_rfl) | (rw [if_neg (by decide +kernel)]; exact ⟨rfl, rfl⟩))
    (fun os started H enc _ F => by rw [OpenClaim.pre_eq_preRow]; exact fnExactCubeText_lifted os started H enc F)
/-- No parameter wants a stand-in; the program's own looks are off: what the card asks. -/
theorem fnExactCubeText_plain (f : FuncId) (fn : Func) (hf : Tryd.pinned.checked.prog.funcNamed "loop.example/g00885/laws.FnExactCubeText" = some f) (hfn : Tryd.pinned.checked.prog.funcs[f]? = some fn) :
    false = Tryd.pinned.checked.prog.looks [] ∧ ∀ (j : Nat) t, fn.params[j]? = some t → Tryd.pinned.checked.prog.wantsStandIn t = false := by
  obtain rfl : f = 4 := Option.some.inj ((show Tryd.prog.funcNamed "loop.example/g00885/laws.FnExactCubeText" = some 4 by kernel_rfl).symm.trans hf) |>.symm
  obtain rfl : fn = Tryd.f4 := (Option.some.inj (Tryd.func4.symm.trans hfn)).symm
  refine ⟨by kernel_rfl, fun j t ht => ?_⟩
  rw [Tryd.params4] at ht
  have hm := Array.mem_of_getElem? ht
  simp at hm
  subst hm
  exact (show Tryd.prog.wantsStandIn 31 = false by kernel_rfl)
theorem fnExactCubeText_card : Rows.FnExactCubeTextCardSaid :=
  Claim7.holds_tied_plain_at .later [] _ _ _ _ fnExactCubeText_said (fun _ h => by cases h) (by kernel_rfl) (fun _ h => by cases h) fnExactCubeText_row_tie rfl ⟨rfl, rfl⟩ (by kernel_rfl) rfl fnExactCubeText_plain (by kernel_rfl)
end Go.Proofs.YtkcjbjkccafekaaDoor.cubeTextLaw
