/- Contracts of the functions of chapter 1 that write a variant as a text: those of the program. -/
import Derived.Test.YtlbmknmihofloaaDoorL01t
import Derived.LoopN
import Derived.Test.YtlbmknmihofloaaDoorShelf
namespace Go.Proofs.YtlbmknmihofloaaDoor
open Go.ChangeShapes Go.WideShapes Go.ChangeAt Go.RowKit
set_option linter.unusedVariables false
set_option linter.unusedSimpArgs false

theorem num2_dec (k : Nat) (h : k < 100) : num2 (k : Int) = Lib.decDigits k := by
  rw [Lib.decDigits]
  by_cases g : k < 10
  · rw [dif_pos g, num2_lt (by omega)]
    congr 2
  · rw [dif_neg g, num2_ge (by omega), Lib.decDigits, dif_pos (by omega)]
    congr 2
theorem fmt_small (n : Int) (h0 : 0 ≤ n) (h1 : n < 100) (w : World) :
    Calls Tryd.prog 29 #[.int .i64 n, .int .i64 10] w fun e w' => e = .returned (.string ⟨(num2 n).toArray⟩) ∧ w = w' := by
  obtain ⟨k, rfl⟩ := Int.eq_ofNat_of_zero_le h0
  have hk : k < 100 := by omega
  refine (Tryd.strconv_FormatInt_10_small k hk w).mono ?_
  rintro e w' ⟨rfl, rfl⟩
  exact ⟨by rw [num2_dec k hk], rfl⟩
theorem fmt_str (n : Int) (h0 : 0 ≤ n) (h1 : n < 100) : ∃ T : ByteArray, T = ⟨(num2 n).toArray⟩ ∧ T.size ≤ 2 ∧ (∀ w : World, Calls Tryd.prog 29 #[.int .i64 n, .int .i64 10] w fun e w' => e = .returned (.string T) ∧ w = w') :=
  ⟨_, rfl, num2_len n, fun w => fmt_small n h0 h1 w⟩
theorem vtext_impl (p c h s : Int) : (⟨(vtext p c h s).toArray⟩ : ByteArray) = ⟨(num2 p).toArray⟩ ++ (⟨#[47]⟩ ++ ⟨(num2 c).toArray⟩) ++ (⟨#[47]⟩ ++ ⟨(num2 h).toArray⟩) ++ (⟨#[47]⟩ ++ ⟨(num2 s).toArray⟩) := by
  apply ByteArray.ext
  simp [vtext, ByteArray.data_append]

set_option maxHeartbeats 400000 in
theorem text_any (p c h s : Int) (w : World) (g : vB p c h s = true) :
    Calls Tryd.prog 20 #[.agg #[.int .i64 p, .int .i64 c, .int .i64 h, .int .i64 s]] w fun e w' => e = .returned (.string ⟨(vtext p c h s).toArray⟩) ∧ Below w.heap.size w w' := by
  have hv := vB_iff.1 g
  obtain ⟨tp, ep, zp, kp⟩ := fmt_str p (by omega) (by omega)
  obtain ⟨tc, ec, zc, kc⟩ := fmt_str c (by omega) (by omega)
  obtain ⟨th, eh, zh, kh⟩ := fmt_str h (by omega) (by omega)
  obtain ⟨ts, es, zs, ks⟩ := fmt_str s (by omega) (by omega)
  have z1 : (⟨#[47]⟩ : ByteArray).size ≤ 1 := by decide
  obtain ⟨t1, e1, y1, k1⟩ := cat_run z1 zc (by omega)
  obtain ⟨t2, e2, y2, k2⟩ := cat_run zp y1 (by omega)
  obtain ⟨t3, e3, y3, k3⟩ := cat_run z1 zh (by omega)
  obtain ⟨t4, e4, y4, k4⟩ := cat_run y2 y3 (by omega)
  obtain ⟨t5, e5, y5, k5⟩ := cat_run z1 zs (by omega)
  obtain ⟨t6, e6, y6, k6⟩ := cat_run y4 y5 (by omega)
  have e0 : (⟨(vtext p c h s).toArray⟩ : ByteArray) = t6 := by rw [vtext_impl, e6, e5, e4, e3, e2, e1, ep, ec, eh, es]
  rw [e0]
  clear e0 e1 e2 e3 e4 e5 e6 ep ec eh es
  have KP := Lib.hid kp
  have KC := Lib.hid kc
  have KH := Lib.hid kh
  have KS := Lib.hid ks
  clear kp kc kh ks zp zc zh zs z1 y1 y2 y3 y4 y5 y6 hv g
  have i0 : ∀ (a b c : Value) (w : World), (Instr.index 55 (.agg #[a, b, c]) (.int .i64 0)).run Tryd.prog w = .ok a w := fun _ _ _ _ => by kernel_rfl
  have i1 : ∀ (a b c : Value) (w : World), (Instr.index 55 (.agg #[a, b, c]) (.int .i64 1)).run Tryd.prog w = .ok b w := fun _ _ _ _ => by kernel_rfl
  have i2 : ∀ (a b c : Value) (w : World), (Instr.index 55 (.agg #[a, b, c]) (.int .i64 2)).run Tryd.prog w = .ok c w := fun _ _ _ _ => by kernel_rfl
  go_enter Tryd.func20, Tryd.ntmps20
  go_wp2_with (go_at_call 29; refine (KP.out _).mono ?_; rintro e w' ⟨rfl, rfl⟩)
  refine wp_loop_rounds 4 ?_
  rw [rounds_succ]
  go_wp2_with (go_at_call 29; refine (KC.out _).mono ?_; rintro e w' ⟨rfl, rfl⟩)
  rw [rounds_succ]
  go_wp2_with (go_at_call 29; refine (KH.out _).mono ?_; rintro e w' ⟨rfl, rfl⟩)
  rw [rounds_succ]
  go_wp2_with (go_at_call 29; refine (KS.out _).mono ?_; rintro e w' ⟨rfl, rfl⟩)
  rw [rounds_succ]
  go_wp2
  go_ret
  exact ⟨rfl, (Below.refl _ _).alloc (Nat.le_refl _) _⟩
theorem variantText_any (p c h s : Int) (w : World) :
    Calls Tryd.prog 8 #[.agg #[.int .i64 p, .int .i64 c, .int .i64 h, .int .i64 s]] w fun e w' => e = .returned (.string ⟨(vt p c h s).toArray⟩) ∧ Below w.heap.size w w' := by
  by_cases g : vB p c h s = true
  · have e0 : vt p c h s = vtext p c h s := by simp [vt, g]
    rw [e0]
    clear e0
    go_enter Tryd.func8, Tryd.ntmps8
    go_wp2_with fail
    refine (valid_any _ _ _ _ _).mono ?_
    rintro e w1 ⟨rfl, hb1⟩
    obtain ⟨hc1, hf1⟩ := bcell hb1
    go_wp2_with fail
    refine (text_any _ _ _ _ _ g).mono ?_
    rintro e w2 ⟨rfl, hb2⟩
    go_wp2_with fail
    go_ret
    exact ⟨rfl, from_alloc (chain hb1 hb2)⟩
  · have e0 : vt p c h s = [] := by simp [vt, g]
    rw [e0]
    clear e0
    go_enter Tryd.func8, Tryd.ntmps8
    go_wp2_with fail
    refine (valid_any _ _ _ _ _).mono ?_
    rintro e w1 ⟨rfl, hb1⟩
    go_wp2_with fail
    go_ret
    exact ⟨rfl, from_alloc hb1⟩
end Go.Proofs.YtlbmknmihofloaaDoor
