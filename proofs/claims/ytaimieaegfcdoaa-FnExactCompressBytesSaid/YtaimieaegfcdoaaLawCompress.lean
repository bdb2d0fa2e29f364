/- The exact law of chapter 13 on the compressed block of bytes holds: for every input the law returns true and its arguments read behind the call as they read before. No conditions. -/
import Derived.Test.Ytaimieaegfcdoaa13e
import Derived.Test.YtaimieaegfcdoaaOpen
import Derived.ChangeOld
namespace Go.Proofs.Ytaimieaegfcdoaa
open Go.ChangeMaps (open_string shut_string)
open Go.ChangeShapes Go.WideShapes Go.ChangeAt Go.RowKit
set_option linter.unusedVariables false
set_option linter.unusedSimpArgs false
set_option maxRecDepth 4000

theorem fnExactCompressBytes_both (bs : List Int) (n : Nat) (hn : bs.length = n) (hle : n ≤ 1048576) (h8 : Bys bs) : ∃ (zs : List Int) (r : Int), zs.length ≤ 1048576 ∧ (∀ (a : Option Addr) (w : World), B8.IRow w a bs → Calls Try.prog 13 #[.slice a n n] w (B8.SliceGot2 zs r w)) ∧ (∀ (a : Option Addr) (w : World), B8.IRow w a bs → Calls Try.prog 14 #[.slice a n n] w (B8.SliceGot2 zs r w)) :=
  ⟨cmL bs, cmC bs, by rw [cmL]; split; simp; have := pk_len _ bs rfl; omega, fun a w r => specCompressBytes_any a n n bs w hn hle h8 r, fun a w r => compressBytes_any a n n bs w hn hle (Nat.le_refl n) h8 r⟩
set_option maxRecDepth 8000 in
set_option maxHeartbeats 4000000 in
theorem fnExactCompressBytes_walk (a : Option Addr) (n cap : Nat) (bs : List Int) (w : World) (hn : bs.length = n) (hm : n ≤ 9223372036854775807) (hr : B8.IRow w a bs) (h8 : ∀ y ∈ bs, (Lit.int .u8 y).wf = true) :
    Calls Try.prog 4 #[.slice a n cap] w fun e w' => e = .returned (.bool true) ∧ Below w.heap.size w w' := by
  by_cases hle : n ≤ 1048576
  · have hle' : (n : Int) ≤ 1048576 := by omega
    obtain ⟨zs, r, hlz, hsp, him⟩ := fnExactCompressBytes_both bs n hn hle (bys_of_wf h8)
    clear h8
    have HT := Lib.hid (fun W (q : B8.IRow W a bs) => B8.toByteS_any a n cap bs W hn hle q)
    have HSP := Lib.hid (fun W x (q : B8.IRow W x bs) => hsp x W q)
    have HIM := Lib.hid (fun W x (q : B8.IRow W x bs) => him x W q)
    have HEB := Lib.hid (fun W x y c d (q : B8.IRow W x bs) (q2 : B8.IRow W y bs) => B8.eqByteS_same x y n c d bs W hn hle q q2)
    have HEZ := Lib.hid (fun W x y c d (q : B8.IRow W x zs) (q2 : B8.IRow W y zs) => B8.eqByteS_same x y zs.length c d zs W rfl hlz q q2)
    clear hsp him
    subst hn
    have hb := Below.refl w.heap.size w
    go_enter Try.func4, Try.ntmps4
    go_wp2_with fail
    refine (HT.out _ (hr.below hb)).mono ?_
    rintro e w1 ⟨g1, rfl, hg1, R1, hb1⟩
    have hz1 := hb1.size
    replace hb := chain hb hb1
    clear hb1
    have X0 : B8.OSl w.heap.size w1.heap.size w1 (some ⟨g1, 0, none⟩) bs := .inr ⟨g1, rfl, hg1, R1.lt, R1⟩
    clear R1 hg1
    go_wp2_with fail
    refine (HSP.out _ _ X0.irow).mono ?_
    rintro e w2 ⟨a0, k0, rfl, O0, hb2⟩
    replace X0 := X0.below hb2
    have hz2 := hb2.size
    replace hb := chain hb hb2
    clear hb2
    clear X0
    go_wp2_with fail
    refine (HT.out _ (hr.below hb)).mono ?_
    rintro e w3 ⟨g2, rfl, hg2, R2, hb3⟩
    replace O0 := O0.below hb3
    have hz3 := hb3.size
    replace hb := chain hb hb3
    clear hb3
    have X1 : B8.OSl w2.heap.size w3.heap.size w3 (some ⟨g2, 0, none⟩) bs := .inr ⟨g2, rfl, hg2, R2.lt, R2⟩
    clear R2 hg2
    go_wp2_with fail
    refine (HIM.out _ _ X1.irow).mono ?_
    rintro e w4 ⟨a1, k1, rfl, O1, hb4⟩
    replace O0 := O0.below hb4
    replace X1 := X1.below hb4
    have hz4 := hb4.size
    replace hb := chain hb hb4
    clear hb4
    go_wp2_with fail
    refine (HEZ.out _ _ _ _ _ O1.irow O0.irow).mono ?_
    rintro e w5 ⟨rfl, hb5⟩
    replace O0 := O0.below hb5
    replace X1 := X1.below hb5
    replace O1 := O1.below hb5
    have hz5 := hb5.size
    replace hb := chain hb hb5
    clear hb5
    go_wp2_with fail
    refine (HT.out _ (hr.below hb)).mono ?_
    rintro e w6 ⟨g3, rfl, hg3, R3, hb6⟩
    replace O0 := O0.below hb6
    replace X1 := X1.below hb6
    replace O1 := O1.below hb6
    have hz6 := hb6.size
    replace hb := chain hb hb6
    clear hb6
    have X3 : B8.OSl w5.heap.size w6.heap.size w6 (some ⟨g3, 0, none⟩) bs := .inr ⟨g3, rfl, hg3, R3.lt, R3⟩
    clear R3 hg3
    go_wp2_with fail
    refine (HEB.out _ _ _ _ _ X1.irow X3.irow).mono ?_
    rintro e w7 ⟨rfl, hb7⟩
    replace O0 := O0.below hb7
    replace X1 := X1.below hb7
    replace O1 := O1.below hb7
    replace X3 := X3.below hb7
    have hz7 := hb7.size
    replace hb := chain hb hb7
    clear hb7
    clear X3
    go_wp2_with fail
    refine (B8.markS_own _ _ _ _ _ bs 1 _ rfl hle (by omega) (by omega) X1).mono ?_
    rintro e w8 ⟨rfl, X1, hs8⟩
    replace O0 := O0.same hs8 (by omega)
    replace O1 := O1.same hs8 (by omega)
    have hz8 := hs8.size
    replace hb := below_same hb hs8 (by omega) (by omega)
    clear hs8
    clear X1
    have hk0 : ¬ ((1 : Int) + (bs.length : Int) < 0) := by omega
    have hq0 : ¬ ((1 : Int) + (zs.length : Int) < 0) := by omega
    go_wp2_with fail
    refine (HEZ.out _ _ _ _ _ O1.irow O0.irow).mono ?_
    rintro e w9 ⟨rfl, hb9⟩
    replace O0 := O0.below hb9
    replace O1 := O1.below hb9
    have hz9 := hb9.size
    replace hb := chain hb hb9
    clear hb9
    go_wp2_with fail
    refine (B8.markS_own _ _ _ _ _ zs 1 _ rfl hlz (by omega) (by omega) O1).mono ?_
    rintro e w10 ⟨rfl, O1, hs10⟩
    replace O0 := O0.same hs10 (by omega)
    have hz10 := hs10.size
    replace hb := below_same hb hs10 (by omega) (by omega)
    clear hs10
    go_wp2_with fail
    refine (B8.heldByteS_any _ zs.length _ 1 _ hlz (by omega) (by omega) O1.irow).mono ?_
    rintro e wq ⟨rfl, rfl⟩
    go_wp2_with fail
    refine (HT.out _ (hr.below hb)).mono ?_
    rintro e w11 ⟨g4, rfl, hg4, R4, hb11⟩
    replace O0 := O0.below hb11
    replace O1 := O1.below hb11
    have hz11 := hb11.size
    replace hb := chain hb hb11
    clear hb11
    have X4 : B8.OSl w10.heap.size w11.heap.size w11 (some ⟨g4, 0, none⟩) bs := .inr ⟨g4, rfl, hg4, R4.lt, R4⟩
    clear R4 hg4
    go_wp2_with fail
    refine (HIM.out _ _ X4.irow).mono ?_
    rintro e w12 ⟨a2, k2, rfl, O2, hb12⟩
    replace O0 := O0.below hb12
    replace O1 := O1.below hb12
    replace X4 := X4.below hb12
    have hz12 := hb12.size
    replace hb := chain hb hb12
    clear hb12
    clear X4
    go_wp2_with fail
    refine (HEZ.out _ _ _ _ _ O2.irow O0.irow).mono ?_
    rintro e w13 ⟨rfl, hb13⟩
    replace O0 := O0.below hb13
    replace O1 := O1.below hb13
    replace O2 := O2.below hb13
    have hz13 := hb13.size
    replace hb := chain hb hb13
    clear hb13
    go_wp2_with fail
    refine (B8.heldByteS_any _ zs.length _ 1 _ hlz (by omega) (by omega) O1.irow).mono ?_
    rintro e wq ⟨rfl, rfl⟩
    go_wp2_with fail
    go_ret
    exact ⟨rfl, hb⟩
  · have hle' : ¬ (n : Int) ≤ 1048576 := by omega
    go_enter Try.func4, Try.ntmps4
    go_wp2_with fail
    go_ret
    exact ⟨rfl, Below.refl _ _⟩
set_option maxRecDepth 100000 in
theorem fnExactCompressBytes_lifted (os : Os) (started : os.Started) (H : Type) (enc : TypeId × Value → H) :
    ReturnsInHanded {} Try.checked os 4 .any (Rows.fnExactCompressBytesSpec.pre6 enc Try.prog Try.f4 Rows.fnExactCompressBytesRow.domain false) (Rows.fnExactCompressBytesSpec.post enc Try.prog Try.f4 false true false false) := by
  refine returnsInHanded_of_change (C := Try.checked) own started (by kernel_rfl) Try.func4
    (ChangeSpec.witness6 (enc := enc) (C := Try.checked) false ⟨#[], #[.slice none 0 0], []⟩ 8 (by kernel_rfl) (by kernel_rfl) (by kernel_rfl) (by kernel_rfl)) ?_
  intro W base args ds gs before hval0 hW hcnd _
  have hval : ∀ (j : Nat) t v, Try.f4.params[j]? = some t → args[j]? = some v → Value.okWide Try.prog W .any base t v := hval0
  have hW' := hW
  obtain ⟨p, q, hA0, hV, rfl, hfz, hnd⟩ := hW
  have hA : DataW.TrodAll enc Try.prog W 0 (fun _ => true) true Try.f4.params.toList args.toList ds p := hA0
  rw [Try.params4] at hA hval
  obtain ⟨v0, vs0, d0, ds0, p0, q0, hargs, rfl, rfl, h0, r0⟩ := trodAll_cons hA
  obtain ⟨rfl, rfl, rfl⟩ := trodAll_nil r0
  obtain rfl : args = #[v0] := by cases args; simp_all
  obtain ⟨rfl, rfl⟩ := trodVars_none hV
  have k0 := h0
  have lt0 : ∀ x ∈ p0, x.block < W.heap.size := by obtain ⟨m, hm⟩ := k0; exact DataW.trod_lt m _ _ _ hm
  obtain ⟨sa_0, sl_0, sc_0, rfl⟩ := okWide_slice Try.underlying22 (hval 0 22 v0 rfl rfl)
  obtain ⟨ra_0, rn_0, rc_0, rx_0, hv_0, rl_0, rm_0, rr_0, rw_0⟩ : ∃ (a : Option Addr) (n cap : Nat) (xs : List Int), Value.slice sa_0 sl_0 sc_0 = .slice a n cap ∧ xs.length = n ∧ n ≤ 9223372036854775807 ∧ B8.IRow W a xs ∧ ∀ y ∈ xs, (Lit.int .u8 y).wf = true := by
    obtain ⟨fuel, hf⟩ := h0
    exact B8.open_brow hf
  simp only [Value.slice.injEq] at hv_0
  obtain ⟨rfl, rfl, rfl⟩ := hv_0
  clear hA0 hval0
  refine (fnExactCompressBytes_walk sa_0 sl_0 sc_0 rx_0 W rl_0 rm_0 rr_0 rw_0).mono fun e W' ⟨he, bel⟩ => ?_
  subst he
  exact ⟨_, rfl, _, _, _, [], _, [], hW', trodAll_mk1 (shut_bool Try.underlying4 _), (trodAll_cons_mk (Below.trod laidOut (by kernel_rfl) (of_decide_eq_true (by kernel_rfl)) k0 bel lt0) trodAll_mk0), rfl, bel.frame _, fun h => by cases h⟩
theorem fnExactCompressBytes_holds : Rows.FnExactCompressBytesSaid :=
  OpenClaim.holds_of_wide 4 Try.f4 rfl rfl rfl rfl rfl rfl rfl ⟨rfl, rfl, rfl, rfl, rfl⟩ rfl rfl rfl rfl rfl (by kernel_rfl) Try.func4 (by kernel_rfl)
    (of_decide_eq_true (by kernel_rfl)) (by unfold Func.isWrapper; first | (rw [if_pos (by decide +kernel)]; kernel_rfl) | (rw [if_neg (by decide +kernel)]; exact ⟨rfl, rfl⟩))
    (fun os started H enc _ => fnExactCompressBytes_lifted os started H enc)
end Go.Proofs.Ytaimieaegfcdoaa
