/- The exact law of chapter 16 on reading cubes holds: for every input the law returns true and its arguments read behind the call as they read before. No conditions but those of the card: the listed tables of the library hold what their initialisers lay. -/
import Derived.Test.YtkcjbjkccafekaaDoor16v
import Derived.Test.YtkcjbjkccafekaaDoorCards
import Derived.Test.YtkcjbjkccafekaaDoorTie
import Derived.Deep.DeepHandedRow
import Derived.Lib.LaidTab
import Derived.Stop.LaidErr
import Derived.MakeChecks
import Derived.Test.YtkcjbjkccafekaaDoorCbL
import Derived.Test.YtkcjbjkccafekaaDoorL01b
import Derived.Test.YtkcjbjkccafekaaDoorVarB
import Derived.Test.YtkcjbjkccafekaaDoorRows
import Derived.ChangeOld
namespace Go.Proofs.YtkcjbjkccafekaaDoor.readCubeLaw
open Go.ChangeMaps (open_string shut_string)
open Go.ChangeShapes Go.WideShapes Go.ChangeAt Go.RowKit
set_option linter.unusedVariables false
set_option linter.unusedSimpArgs false
set_option maxRecDepth 4000

def lay (vs : Array Value) : Obj → Obj
  | .cells _ t frozen => .cells vs t frozen
  | o => o
/-- A world for the witness: the settled one, each listed table holding what its initialiser lays. -/
noncomputable def lowBlock : Nat := (World.holding Tryd.prog default ⟨#[], #[], []⟩).heap.size
noncomputable def laidWorld (os : Os) : World :=
  { World.holding Tryd.prog os ⟨#[], #[], []⟩ with heap := ((((World.holding Tryd.prog os ⟨#[], #[], []⟩).heap.modify 1 (lay #[.int .u8 0, .int .u8 1, .int .u8 28, .int .u8 2, .int .u8 29, .int .u8 14, .int .u8 24, .int .u8 3, .int .u8 30, .int .u8 22, .int .u8 20, .int .u8 15, .int .u8 25, .int .u8 17, .int .u8 4, .int .u8 8, .int .u8 31, .int .u8 27, .int .u8 13, .int .u8 23, .int .u8 21, .int .u8 19, .int .u8 16, .int .u8 7, .int .u8 26, .int .u8 12, .int .u8 18, .int .u8 6, .int .u8 11, .int .u8 5, .int .u8 10, .int .u8 9])).modify 2 (lay #[.int .u8 0, .int .u8 1, .int .u8 56, .int .u8 2, .int .u8 57, .int .u8 49, .int .u8 28, .int .u8 3, .int .u8 61, .int .u8 58, .int .u8 42, .int .u8 50, .int .u8 38, .int .u8 29, .int .u8 17, .int .u8 4, .int .u8 62, .int .u8 47, .int .u8 59, .int .u8 36, .int .u8 45, .int .u8 43, .int .u8 51, .int .u8 22, .int .u8 53, .int .u8 39, .int .u8 33, .int .u8 30, .int .u8 24, .int .u8 18, .int .u8 12, .int .u8 5, .int .u8 63, .int .u8 55, .int .u8 48, .int .u8 27, .int .u8 60, .int .u8 41, .int .u8 37, .int .u8 16, .int .u8 46, .int .u8 35, .int .u8 44, .int .u8 21, .int .u8 52, .int .u8 32, .int .u8 23, .int .u8 11, .int .u8 54, .int .u8 26, .int .u8 40, .int .u8 15, .int .u8 34, .int .u8 20, .int .u8 31, .int .u8 10, .int .u8 25, .int .u8 14, .int .u8 19, .int .u8 9, .int .u8 13, .int .u8 8, .int .u8 7, .int .u8 6])).modify 0 (lay #[.int .u64 1, .int .u64 10, .int .u64 100, .int .u64 1000, .int .u64 10000, .int .u64 100000, .int .u64 1000000, .int .u64 10000000, .int .u64 100000000, .int .u64 1000000000, .int .u64 10000000000, .int .u64 100000000000, .int .u64 1000000000000, .int .u64 10000000000000, .int .u64 100000000000000, .int .u64 1000000000000000, .int .u64 10000000000000000, .int .u64 100000000000000000, .int .u64 1000000000000000000, .int .u64 10000000000000000000])) }
theorem t10_of {W : World} (hL : laidMetH Tryd.prog Rows.fnExactReadCubeRow.laid W) : T10c W := by
  have hL1 : laidMet Tryd.prog Rows.fnExactReadCubeRow.laid W := by
    rw [← Go.MakeChecks.laidMetH_plain _ _ _ (by kernel_rfl)]
    exact hL
  exact Lib.tabIs_of_head (by kernel_rfl) (show (Tryd.prog.globals[0]?).map (·.type) = some 71 by kernel_rfl) Tryd.underlying71 Tryd.underlying52 (by kernel_rfl) (by kernel_rfl) (rest := _) ((hL1.tail).tail)
set_option maxRecDepth 8000 in
set_option maxHeartbeats 2000000 in
theorem fnExactReadCube_walk (S : ByteArray) (w : World) (ht : T10c w) :
    Calls Tryd.prog 5 #[.string S] w fun e w' => e = .returned (.bool true) ∧ Below w.heap.size w w' := by
  have hsp := fun W => specReadCube_any S W
  have him := fun W t => readCube_any S W t
  obtain ⟨⟨q1, q2, q3⟩, hq⟩ : ∃ q, rcV S = q := ⟨_, rfl⟩
  rw [hq] at hsp him
  dsimp only at hsp him
  have HSP := Lib.hid hsp
  have HIM := Lib.hid him
  clear hsp him hq
  by_cases hl : S.size ≤ 1048576
  · have hl1 : ¬ (1048576 : Int) < (S.size : Int) := by omega
    go_enter Tryd.func5, Tryd.ntmps5
    go_wp2_with fail
    refine (HSP.out _).mono ?_
    rintro e w1 ⟨rfl, hb⟩
    have B1 := Blk.new w1 #[.int .i64 q1, .int .i64 q2] 25
    replace hb := chain_alloc hb (.cells #[.int .i64 q1, .int .i64 q2] 25)
    obtain ⟨x0, x1, xf, xl⟩ := B1.two
    go_wp2_with fail
    clear x0 x1 xf xl
    generalize w1.alloc (.cells #[.int .i64 q1, .int .i64 q2] 25) = w2 at *
    refine (HIM.out _ (ht.below hb)).mono ?_
    rintro e w3 ⟨rfl, hb3⟩
    have hlt := B1.lt
    have hsz := hb3.size
    replace B1 := (B1.below hb3).alloc (.cells #[.int .i64 q1, .int .i64 q2] 25)
    have B2 := Blk.new w3 #[.int .i64 q1, .int .i64 q2] 25
    replace hb := chain_alloc (chain hb hb3) (.cells #[.int .i64 q1, .int .i64 q2] 25)
    obtain ⟨x0, x1, xf, xl⟩ := B1.two
    obtain ⟨y0, y1, yf, yl⟩ := B2.two
    go_wp2_with fail
    clear x0 x1 xf xl y0 y1 yf yl
    generalize w3.alloc (.cells #[.int .i64 q1, .int .i64 q2] 25) = w4 at *
    refine (eqCube_same _ _ _).mono ?_
    rintro e w5 ⟨rfl, hb5⟩
    go_wp2
    go_ret
    exact ⟨rfl, chain hb hb5⟩
  · have hl1 : (1048576 : Int) < (S.size : Int) := by omega
    go_enter Tryd.func5, Tryd.ntmps5
    go_wp2
    go_ret
    exact ⟨rfl, Below.refl _ _⟩
set_option maxRecDepth 100000 in
theorem fnExactReadCube_contract (H : Type) (enc : TypeId × Value → H) (W : World) (base : Nat) (args : Array Value) (ds gs : List (DataW H)) (before : List MemPlace)
    (hval : ∀ (j : Nat) t v, Tryd.f5.params[j]? = some t → args[j]? = some v → Value.okWide Tryd.prog W .any base t v)
    (hW : DataW.Whole enc Tryd.prog Tryd.f5.params.toList Rows.fnExactReadCubeSpec.vars false W args.toList ds gs before) (hL : laidMetH Tryd.prog Rows.fnExactReadCubeRow.laid W) :
    Calls Tryd.prog 5 args W fun e W' => ∃ v, e = .returned v ∧ Rows.fnExactReadCubeSpec.post enc Tryd.prog Tryd.f5 false true false false W args v W' := by
  have hT := t10_of hL
  have hW' := hW
  obtain ⟨p, q, hA0, hV, rfl, hfz, hnd⟩ := hW
  have hA : DataW.TrodAll enc Tryd.prog W 0 (fun _ => true) true Tryd.f5.params.toList args.toList ds p := hA0
  rw [Tryd.params5] at hA hval
  obtain ⟨v0, vs0, d0, ds0, p0, q0, hargs, rfl, rfl, h0, r0⟩ := trodAll_cons hA
  obtain ⟨rfl, rfl, rfl⟩ := trodAll_nil r0
  obtain rfl : args = #[v0] := by cases args; simp_all
  obtain ⟨rfl, rfl⟩ := trodVars_none hV
  have k0 := h0
  have lt0 : ∀ x ∈ p0, x.block < W.heap.size := by obtain ⟨m, hm⟩ := k0; exact DataW.trod_lt m _ _ _ hm
  obtain ⟨s_0, rfl, _, _, ws_0⟩ := open_string Tryd.underlying9 (hval 0 9 v0 rfl rfl) h0
  clear hA0
  refine (fnExactReadCube_walk s_0 W hT).mono fun e W' ⟨he, bel⟩ => ?_
  subst he
  exact ⟨_, rfl, _, _, _, [], _, [], hW', trodAll_mk1 (shut_bool Tryd.underlying4 _), (trodAll_cons_mk (Below.trod laidOut (by kernel_rfl) (of_decide_eq_true (by kernel_rfl)) k0 bel lt0) trodAll_mk0), rfl, bel.frame _, fun h => by cases h⟩
theorem fnExactReadCube_laid (os : Os) : laidMet Tryd.prog Rows.fnExactReadCubeRow.laid ((laidWorld os).forCall (fun _ _ => 0) ⟨#[], #[.string (ByteArray.mk #[])], []⟩).memory :=
  laidMet_of_run' 8 (by kernel_rfl) (by kernel_rfl)
theorem fnExactReadCube_reads (os : Os) {H : Type} (enc : TypeId × Value → H) : ∃ places, DataW.whole enc Tryd.prog ((laidWorld os).forCall (fun _ _ => 0) ⟨#[], #[.string (ByteArray.mk #[])], []⟩).memory Tryd.f5.params.toList Rows.fnExactReadCubeSpec.vars false (#[.string (ByteArray.mk #[])] : Array Value).toList 8 = some ([.lit (.string [])], [], places) :=
  ⟨[], by kernel_rfl⟩
set_option maxRecDepth 100000 in
theorem fnExactReadCube_lifted (os : Os) (started : os.Started) (H : Type) (enc : TypeId × Value → H) (F : Stop.Interp) :
    ReturnsInHanded {} Tryd.checked os 5 .any ((OpenSpec.ofChange Rows.fnExactReadCubeSpec).preRow enc Tryd.prog Tryd.f5 Rows.fnExactReadCubeRow.domain false Rows.fnExactReadCubeRow.laid) (((OpenSpec.ofChange Rows.fnExactReadCubeSpec).at F).post enc Tryd.prog Tryd.f5 false true false false) := by
  obtain ⟨places, hx⟩ := fnExactReadCube_reads os enc
  refine returnsInHanded_of_row (C := Tryd.checked) (s := OpenSpec.ofChange Rows.fnExactReadCubeSpec) own started (by kernel_rfl) Tryd.func5
    (witness_row_at (enc := enc) (C := Tryd.checked) false (laidWorld os) #[.string (ByteArray.mk #[])] rfl (by kernel_rfl) (by kernel_rfl) (by kernel_rfl)
      (OpenSpec.preRow_of_cond 8 hx (by kernel_rfl) (fun k hk => by cases hk) (by kernel_rfl) (fnExactReadCube_laid os))) ?_
  intro W base args ds gs before hval hW _ _ _ hL _ _
  exact fnExactReadCube_contract H enc W base args ds gs before hval hW hL
theorem fnExactReadCube_said : Rows.FnExactReadCubeSaid :=
  OpenClaim.holds_of_cond 5 Tryd.f5 rfl rfl rfl rfl rfl rfl rfl ⟨rfl, rfl, rfl, rfl, rfl⟩ rfl rfl rfl rfl rfl (by kernel_rfl) Tryd.func5 (by kernel_rfl)
    (of_decide_eq_true (by kernel_rfl)) (by unfold Func.isWrapper; first | (rw [if_pos (by decide +kernel)]; kernel_rfl) | (rw [if_neg (by decide +kernel)]; exact ⟨rfl, rfl⟩))
    (fun os started H enc _ F => by rw [OpenClaim.pre_eq_preRow]; exact fnExactReadCube_lifted os started H enc F)
/-- No parameter wants a stand-in; the program's own looks are off: what the card asks. -/
theorem fnExactReadCube_plain (f : FuncId) (fn : Func) (hf : Tryd.pinned.checked.prog.funcNamed "loop.example/g00885/laws.FnExactReadCube" = some f) (hfn : Tryd.pinned.checked.prog.funcs[f]? = some fn) :
    false = Tryd.pinned.checked.prog.looks [] ∧ ∀ (j : Nat) t, fn.params[j]? = some t → Tryd.pinned.checked.prog.wantsStandIn t = false := by
  obtain rfl : f = 5 := Option.some.inj ((show Tryd.prog.funcNamed "loop.example/g00885/laws.FnExactReadCube" = some 5 by kernel_rfl).symm.trans hf) |>.symm
  obtain rfl : fn = Tryd.f5 := (Option.some.inj (Tryd.func5.symm.trans hfn)).symm
  refine ⟨by kernel_rfl, fun j t ht => ?_⟩
  rw [Tryd.params5] at ht
  have hm := Array.mem_of_getElem? ht
  simp at hm
  subst hm
  exact (show Tryd.prog.wantsStandIn 9 = false by kernel_rfl)
theorem fnExactReadCube_card : Rows.FnExactReadCubeCardSaid :=
  Claim7.holds_tied_plain_at .later [] _ _ _ _ fnExactReadCube_said (fun _ h => by cases h) (by kernel_rfl) (fun _ h => by cases h) fnExactReadCube_row_tie rfl ⟨rfl, rfl⟩ (by kernel_rfl) rfl fnExactReadCube_plain (by kernel_rfl)
end Go.Proofs.YtkcjbjkccafekaaDoor.readCubeLaw
