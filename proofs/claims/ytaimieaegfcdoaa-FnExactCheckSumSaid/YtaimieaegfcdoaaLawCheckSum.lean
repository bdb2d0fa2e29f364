/- The exact law of chapter 13 on the check sum of bytes holds: for every input the law returns true and its arguments read behind the call as they read before. No conditions. -/
import Derived.Test.Ytaimieaegfcdoaa13a
import Derived.Test.YtaimieaegfcdoaaOpen
import Derived.ChangeOld
namespace Go.Proofs.Ytaimieaegfcdoaa
open Go.ChangeMaps (open_string shut_string)
open Go.ChangeShapes Go.WideShapes Go.ChangeAt Go.RowKit
set_option linter.unusedVariables false
set_option linter.unusedSimpArgs false
set_option maxRecDepth 4000

set_option maxHeartbeats 4000000 in
theorem fnExactCheckSum_walk (a : Option Addr) (n cap : Nat) (bs : List Int) (w : World) (hn : bs.length = n) (hm : n ≤ 9223372036854775807) (hr : B8.IRow w a bs) (h8 : ∀ y ∈ bs, (Lit.int .u8 y).wf = true) :
    Calls Try.prog 3 #[.slice a n cap] w fun e w' => e = .returned (.bool true) ∧ Below w.heap.size w w' := by
  by_cases hle : n ≤ 1048576
  · have hle' : (n : Int) ≤ 1048576 := by omega
    have HB := bys_of_wf h8
    clear h8
    have HT := Lib.hid (fun W (q : B8.IRow W a bs) => B8.toByteS_any a n cap bs W hn hle q)
    have HS := Lib.hid (fun W x c (q : B8.IRow W x bs) => specCheckSum_any x n c bs W hn hle HB q)
    have HI := Lib.hid (fun W x c (q : B8.IRow W x bs) => implCheckSum_any x n c bs W hn hle HB q)
    have HE := Lib.hid (fun W x y c d (q : B8.IRow W x bs) (q2 : B8.IRow W y bs) => B8.eqByteS_same x y n c d bs W hn hle q q2)
    subst hn
    have hb := Below.refl w.heap.size w
    go_enter Try.func3, Try.ntmps3
    go_wp2_with fail
    refine (HT.out _ hr).mono ?_
    rintro e w1 ⟨g1, rfl, hg1, R1, hb1⟩
    replace hb := chain hb hb1
    clear hb1
    go_wp2_with fail
    refine (HS.out _ _ _ R1.irow).mono ?_
    rintro e w2 ⟨rfl, rfl⟩
    clear R1
    go_wp2_with fail
    refine (HT.out _ (hr.below hb)).mono ?_
    rintro e w3 ⟨g3, rfl, hg3, R3, hb3⟩
    replace hb := chain hb hb3
    clear hb3
    go_wp2_with fail
    refine (HI.out _ _ _ R3.irow).mono ?_
    rintro e w4 ⟨rfl, rfl⟩
    go_wp2_with fail
    refine (HT.out _ (hr.below hb)).mono ?_
    rintro e w5 ⟨g5, rfl, hg5, R5, hb5⟩
    replace R3 := R3.below hb5
    replace hb := chain hb hb5
    clear hb5
    go_wp2_with fail
    refine (HE.out _ _ _ _ _ R3.irow R5.irow).mono ?_
    rintro e w6 ⟨rfl, hb6⟩
    replace hb := chain hb hb6
    go_wp2_with fail
    go_ret
    exact ⟨rfl, hb⟩
  · have hle' : ¬ (n : Int) ≤ 1048576 := by omega
    go_enter Try.func3, Try.ntmps3
    go_wp2_with fail
    go_ret
    exact ⟨rfl, Below.refl _ _⟩
set_option maxRecDepth 100000 in
theorem fnExactCheckSum_lifted (os : Os) (started : os.Started) (H : Type) (enc : TypeId × Value → H) :
    ReturnsInHanded {} Try.checked os 3 .any (Rows.fnExactCheckSumSpec.pre6 enc Try.prog Try.f3 Rows.fnExactCheckSumRow.domain false) (Rows.fnExactCheckSumSpec.post enc Try.prog Try.f3 false true false false) := by
  refine returnsInHanded_of_change (C := Try.checked) own started (by kernel_rfl) Try.func3
    (ChangeSpec.witness6 (enc := enc) (C := Try.checked) false ⟨#[], #[.slice none 0 0], []⟩ 8 (by kernel_rfl) (by kernel_rfl) (by kernel_rfl) (by kernel_rfl)) ?_
  intro W base args ds gs before hval0 hW hcnd _
  have hval : ∀ (j : Nat) t v, Try.f3.params[j]? = some t → args[j]? = some v → Value.okWide Try.prog W .any base t v := hval0
  have hW' := hW
  obtain ⟨p, q, hA0, hV, rfl, hfz, hnd⟩ := hW
  have hA : DataW.TrodAll enc Try.prog W 0 (fun _ => true) true Try.f3.params.toList args.toList ds p := hA0
  rw [Try.params3] at hA hval
  obtain ⟨v0, vs0, d0, ds0, p0, q0, hargs, rfl, rfl, h0, r0⟩ := trodAll_cons hA
  obtain ⟨rfl, rfl, rfl⟩ := trodAll_nil r0
  obtain rfl : args = #[v0] := by cases args; simp_all
  obtain ⟨rfl, rfl⟩ := trodVars_none hV
  have k0 := h0
  have lt0 : ∀ x ∈ p0, x.block < W.heap.size := by obtain ⟨m, hm⟩ := k0; exact DataW.trod_lt m _ _ _ hm
  obtain ⟨sa_0, sl_0, sc_0, rfl⟩ := okWide_slice Try.underlying22 (hval 0 22 v0 rfl rfl)
  obtain ⟨ra_0, rn_0, rc_0, rx_0, hv_0, rl_0, rm_0, rr_0, rw_0⟩ : ∃ (a : Option Addr) (n cap : Nat) (xs : List Int), Value.slice sa_0 sl_0 sc_0 = .slice a n cap ∧ xs.length = n ∧ n ≤ 9223372036854775807 ∧ B8.IRow W a xs ∧ ∀ y ∈ xs, (Lit.int .u8 y).wf = true := by
    obtain ⟨fuel, hf⟩ := h0
    exact B8.open_brow hf
  simp only [Value.slice.injEq] at hv_0
  obtain ⟨rfl, rfl, rfl⟩ := hv_0
  clear hA0 hval0
  refine (fnExactCheckSum_walk sa_0 sl_0 sc_0 rx_0 W rl_0 rm_0 rr_0 rw_0).mono fun e W' ⟨he, bel⟩ => ?_
  subst he
  exact ⟨_, rfl, _, _, _, [], _, [], hW', trodAll_mk1 (shut_bool Try.underlying4 _), (trodAll_cons_mk (Below.trod laidOut (by kernel_rfl) (of_decide_eq_true (by kernel_rfl)) k0 bel lt0) trodAll_mk0), rfl, bel.frame _, fun h => by cases h⟩
theorem fnExactCheckSum_holds : Rows.FnExactCheckSumSaid :=
  OpenClaim.holds_of_wide 3 Try.f3 rfl rfl rfl rfl rfl rfl rfl ⟨rfl, rfl, rfl, rfl, rfl⟩ rfl rfl rfl rfl rfl (by kernel_rfl) Try.func3 (by kernel_rfl)
    (of_decide_eq_true (by kernel_rfl)) (by unfold Func.isWrapper; first | (rw [if_pos (by decide +kernel)]; kernel_rfl) | (rw [if_neg (by decide +kernel)]; exact ⟨rfl, rfl⟩))
    (fun os started H enc _ => fnExactCheckSum_lifted os started H enc)
end Go.Proofs.Ytaimieaegfcdoaa
