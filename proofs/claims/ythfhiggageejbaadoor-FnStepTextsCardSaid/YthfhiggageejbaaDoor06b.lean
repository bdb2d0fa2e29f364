/- Contracts on the texts of plain steps: the model's text of a step, the program's places and marks. -/
import Derived.Test.YthfhiggageejbaaDoor06a
import Derived.Test.YthfhiggageejbaaDoorL01u
import Derived.Test.YthfhiggageejbaaDoorM06b
import Derived.Deep.RegionHeld3
namespace Go.Proofs.YthfhiggageejbaaDoor
open Go.ChangeShapes Go.WideShapes Go.ChangeAt Go.RowKit
set_option linter.unusedVariables false
set_option linter.unusedSimpArgs false

theorem plT_off {p : Int} (h : 0 ≤ p) : plT p (-1) = offL := by
  unfold plT
  rw [if_neg (by omega), if_pos rfl]
set_option maxRecDepth 8000 in
set_option maxHeartbeats 2000000 in
theorem specStepT_any (p c h s f t d : Int) (hh : Bool) (w : World) (g : vB p c h s = true) (q0 : plB p s f t d hh = true) :
    Calls Tryd.prog 43 #[.agg #[.int .i64 p, .int .i64 c, .int .i64 h, .int .i64 s], .agg #[.int .i64 f, .int .i64 t, .int .i64 d, .bool hh]] w fun e w' => e = .returned (.string ⟨(stT p f t d hh).toArray⟩) ∧ Below w.heap.size w w' := by
  have hv := vB_iff.1 g
  have q := plB_iff.1 q0
  clear g q0
  have z1b : (⟨#[47]⟩ : ByteArray).size ≤ 1 := by decide
  have z42 : (⟨#[42]⟩ : ByteArray).size ≤ 1 := by decide
  have z40 : (⟨#[40]⟩ : ByteArray).size ≤ 1 := by decide
  have z41 : (⟨#[41]⟩ : ByteArray).size ≤ 1 := by decide
  have zoff : (⟨#[111, 102, 102]⟩ : ByteArray).size ≤ 3 := by decide
  by_cases ht : t = -1
  · subst ht
    have hh0 : hh = false := by rcases q.2.2.2.2 with ⟨_, q, _⟩ | ⟨q, _⟩; exact q; omega
    subst hh0
    obtain ⟨BV, BS, hb, hz⟩ := two_new w #[.int .i64 p, .int .i64 c, .int .i64 h, .int .i64 s] #[.int .i64 f, .int .i64 (-1), .int .i64 d, .bool false] 29 38
    clear hz
    obtain ⟨x0, x1, x2, x3, xf, xl⟩ := BV.four
    obtain ⟨z0, z1, z2, z3, zf, zl⟩ := BS.four
    by_cases hd : d = f + 1
    · obtain ⟨F1, hF1⟩ : ∃ z, f + 1 = z := ⟨_, rfl⟩
      have wf : IntKind.i64.wrap (f + 1) = F1 := by rw [hF1]; exact IntWalk.i64_in _ (by omega)
      obtain ⟨t1, e1, y1, kf⟩ := num2_str F1 (by omega) (by omega)
      obtain ⟨t2, e2, y2, k2⟩ := cat_run y1 z1b (by omega)
      have KF := Lib.hid kf
      clear kf
      obtain ⟨t4, e4, y4, k4⟩ := cat_run y2 zoff (by omega)
      have em : mrT f (-1) d false = [] := by unfold mrT; rw [if_neg (by decide), if_neg (by omega)]
      have e0 : (⟨(stT p f (-1) d false).toArray⟩ : ByteArray) = t4 := by
        unfold stT
        rw [em, plT_num (p := p) (i := f) (by omega), plT_off (p := p) (by omega), hF1, e4, e2, e1]
        apply ByteArray.ext
        simp [ByteArray.data_append]
      rw [e0]
      clear e0 em e4 e2 e1
      have cf : decide (f < p) = true := by simp; omega
      have cd : (d != F1) = false := by simp; omega
      clear hv y1 y2 y4 z1b z42 zoff z40 z41 q hd hF1
      go_enter Tryd.func43, Tryd.ntmps43
      go_wp2_with (first | (go_at_call 63; refine (KF.out _).mono ?_; clear KF; rintro e w1 ⟨rfl, hb1⟩; obtain ⟨x0, x1, x2, x3, xf, xl⟩ := (BV.below hb1).four; obtain ⟨z0, z1, z2, z3, zf, zl⟩ := (BS.below hb1).four))
      go_ret
      exact ⟨rfl, chain hb hb1⟩
    · obtain ⟨F1, hF1⟩ : ∃ z, f + 1 = z := ⟨_, rfl⟩
      have wf : IntKind.i64.wrap (f + 1) = F1 := by rw [hF1]; exact IntWalk.i64_in _ (by omega)
      obtain ⟨t1, e1, y1, kf⟩ := num2_str F1 (by omega) (by omega)
      obtain ⟨t2, e2, y2, k2⟩ := cat_run y1 z1b (by omega)
      have KF := Lib.hid kf
      clear kf
      obtain ⟨t4, e4, y4, k4⟩ := cat_run y2 zoff (by omega)
      obtain ⟨t3, e3, y3, kd⟩ := num2_str d (by omega) (by omega)
      have KD := Lib.hid kd
      clear kd
      obtain ⟨t5, e5, y5, k5⟩ := cat_run y4 z40 (by omega)
      obtain ⟨t6, e6, y6, k6⟩ := cat_run y5 y3 (by omega)
      obtain ⟨t7, e7, y7, k7⟩ := cat_run y6 z41 (by omega)
      have em : mrT f (-1) d false = 40 :: (num2 d ++ [41]) := by unfold mrT; rw [if_neg (by decide), if_pos (by omega)]
      have e0 : (⟨(stT p f (-1) d false).toArray⟩ : ByteArray) = t7 := by
        unfold stT
        rw [em, plT_num (p := p) (i := f) (by omega), plT_off (p := p) (by omega), hF1, e7, e6, e5, e4, e3, e2, e1]
        apply ByteArray.ext
        simp [ByteArray.data_append]
      rw [e0]
      clear e0 em e7 e6 e5 e4 e3 e2 e1
      have cf : decide (f < p) = true := by simp; omega
      have cd : (d != F1) = true := by simp; omega
      clear hv y1 y2 y3 y4 y5 y6 y7 z1b z42 zoff z40 z41 q hd hF1
      go_enter Tryd.func43, Tryd.ntmps43
      go_wp2_with (first | (go_at_call 63; refine (KF.out _).mono ?_; clear KF; rintro e w1 ⟨rfl, hb1⟩; obtain ⟨x0, x1, x2, x3, xf, xl⟩ := (BV.below hb1).four; obtain ⟨z0, z1, z2, z3, zf, zl⟩ := (BS.below hb1).four) | (go_at_call 63; refine (KD.out _).mono ?_; clear KD; rintro e w2 ⟨rfl, hb2⟩; obtain ⟨x0, x1, x2, x3, xf, xl⟩ := (BV.below (chain hb1 hb2)).four; obtain ⟨z0, z1, z2, z3, zf, zl⟩ := (BS.below (chain hb1 hb2)).four))
      go_ret
      exact ⟨rfl, chain (chain hb hb1) hb2⟩
  · obtain ⟨BV, BS, hb, hz⟩ := two_new w #[.int .i64 p, .int .i64 c, .int .i64 h, .int .i64 s] #[.int .i64 f, .int .i64 t, .int .i64 d, .bool hh] 29 38
    clear hz
    obtain ⟨x0, x1, x2, x3, xf, xl⟩ := BV.four
    obtain ⟨z0, z1, z2, z3, zf, zl⟩ := BS.four
    by_cases hf : f = p
    · subst hf
      cases hh with
      | true =>
        obtain ⟨t2, e2, y2⟩ : ∃ T : ByteArray, T = ⟨#[98, 97, 114, 47]⟩ ∧ T.size ≤ 4 := ⟨_, rfl, by decide⟩
        obtain ⟨T1, hT1⟩ : ∃ z, t + 1 = z := ⟨_, rfl⟩
        have wt : IntKind.i64.wrap (t + 1) = T1 := by rw [hT1]; exact IntWalk.i64_in _ (by omega)
        obtain ⟨t3, e3, y3, kt⟩ := num2_str T1 (by omega) (by omega)
        have KT := Lib.hid kt
        clear kt
        obtain ⟨t4, e4, y4, k4⟩ : ∃ T : ByteArray, T = ⟨#[98, 97, 114, 47]⟩ ++ t3 ∧ T.size ≤ 4 + 2 ∧ ∀ W : World, (Op.stringOp .add ⟨#[98, 97, 114, 47]⟩ t3).run Tryd.prog W = .ok (.string T) W := cat_run (by decide) y3 (by omega)
        obtain ⟨t5, e5, y5, k5⟩ := cat_run y4 z42 (by omega)
        have em : mrT f t d true = [42] := rfl
        have e0 : (⟨(stT f f t d true).toArray⟩ : ByteArray) = t5 := by
          unfold stT
          rw [em, plT_bar, plT_num (p := f) (i := t) (by omega), hT1, e5, e4, e3]
          apply ByteArray.ext
          simp [ByteArray.data_append]
        rw [e0]
        clear e0 em e5 e4 e3 e2
        have cf : decide (f < f) = false := by simp
        have ct : decide (0 ≤ t) = true := by simp; omega
        clear hv y2 y3 y4 y5 z1b z42 zoff z40 z41 q hT1 ht
        go_enter Tryd.func43, Tryd.ntmps43
        go_wp2_with (first | (go_at_call 63; refine (KT.out _).mono ?_; clear KT; rintro e w1 ⟨rfl, hb1⟩; obtain ⟨x0, x1, x2, x3, xf, xl⟩ := (BV.below hb1).four; obtain ⟨z0, z1, z2, z3, zf, zl⟩ := (BS.below hb1).four))
        go_ret
        exact ⟨rfl, chain hb hb1⟩
      | false =>
        obtain ⟨t2, e2, y2⟩ : ∃ T : ByteArray, T = ⟨#[98, 97, 114, 47]⟩ ∧ T.size ≤ 4 := ⟨_, rfl, by decide⟩
        obtain ⟨T1, hT1⟩ : ∃ z, t + 1 = z := ⟨_, rfl⟩
        have wt : IntKind.i64.wrap (t + 1) = T1 := by rw [hT1]; exact IntWalk.i64_in _ (by omega)
        obtain ⟨t3, e3, y3, kt⟩ := num2_str T1 (by omega) (by omega)
        have KT := Lib.hid kt
        clear kt
        obtain ⟨t4, e4, y4, k4⟩ : ∃ T : ByteArray, T = ⟨#[98, 97, 114, 47]⟩ ++ t3 ∧ T.size ≤ 4 + 2 ∧ ∀ W : World, (Op.stringOp .add ⟨#[98, 97, 114, 47]⟩ t3).run Tryd.prog W = .ok (.string T) W := cat_run (by decide) y3 (by omega)
        have em : mrT f t d false = [] := by unfold mrT; rw [if_neg (by decide), if_neg (by omega)]
        have e0 : (⟨(stT f f t d false).toArray⟩ : ByteArray) = t4 := by
          unfold stT
          rw [em, plT_bar, plT_num (p := f) (i := t) (by omega), hT1, e4, e3]
          apply ByteArray.ext
          simp [ByteArray.data_append]
        rw [e0]
        clear e0 em e4 e3 e2
        have cf : decide (f < f) = false := by simp
        have ct : decide (0 ≤ t) = true := by simp; omega
        clear hv y2 y3 y4 z1b z42 zoff z40 z41 q hT1 ht
        go_enter Tryd.func43, Tryd.ntmps43
        go_wp2_with (first | (go_at_call 63; refine (KT.out _).mono ?_; clear KT; rintro e w1 ⟨rfl, hb1⟩; obtain ⟨x0, x1, x2, x3, xf, xl⟩ := (BV.below hb1).four; obtain ⟨z0, z1, z2, z3, zf, zl⟩ := (BS.below hb1).four))
        go_ret
        exact ⟨rfl, chain hb hb1⟩
    · cases hh with
      | true =>
        obtain ⟨F1, hF1⟩ : ∃ z, f + 1 = z := ⟨_, rfl⟩
        have wf : IntKind.i64.wrap (f + 1) = F1 := by rw [hF1]; exact IntWalk.i64_in _ (by omega)
        obtain ⟨t1, e1, y1, kf⟩ := num2_str F1 (by omega) (by omega)
        obtain ⟨t2, e2, y2, k2⟩ := cat_run y1 z1b (by omega)
        have KF := Lib.hid kf
        clear kf
        obtain ⟨T1, hT1⟩ : ∃ z, t + 1 = z := ⟨_, rfl⟩
        have wt : IntKind.i64.wrap (t + 1) = T1 := by rw [hT1]; exact IntWalk.i64_in _ (by omega)
        obtain ⟨t3, e3, y3, kt⟩ := num2_str T1 (by omega) (by omega)
        have KT := Lib.hid kt
        clear kt
        obtain ⟨t4, e4, y4, k4⟩ := cat_run y2 y3 (by omega)
        obtain ⟨t5, e5, y5, k5⟩ := cat_run y4 z42 (by omega)
        have em : mrT f t d true = [42] := rfl
        have e0 : (⟨(stT p f t d true).toArray⟩ : ByteArray) = t5 := by
          unfold stT
          rw [em, plT_num (p := p) (i := f) (by omega), plT_num (p := p) (i := t) (by omega), hT1, hF1, e5, e4, e3, e2, e1]
          apply ByteArray.ext
          simp [ByteArray.data_append]
        rw [e0]
        clear e0 em e5 e4 e3 e2 e1
        have cf : decide (f < p) = true := by simp; omega
        have ct : decide (0 ≤ t) = true := by simp; omega
        clear hv y1 y2 y3 y4 y5 z1b z42 zoff z40 z41 q hF1 hT1 ht hf
        go_enter Tryd.func43, Tryd.ntmps43
        go_wp2_with (first | (go_at_call 63; refine (KF.out _).mono ?_; clear KF; rintro e w1 ⟨rfl, hb1⟩; obtain ⟨x0, x1, x2, x3, xf, xl⟩ := (BV.below hb1).four; obtain ⟨z0, z1, z2, z3, zf, zl⟩ := (BS.below hb1).four) | (go_at_call 63; refine (KT.out _).mono ?_; clear KT; rintro e w2 ⟨rfl, hb2⟩; obtain ⟨x0, x1, x2, x3, xf, xl⟩ := (BV.below (chain hb1 hb2)).four; obtain ⟨z0, z1, z2, z3, zf, zl⟩ := (BS.below (chain hb1 hb2)).four))
        go_ret
        exact ⟨rfl, chain (chain hb hb1) hb2⟩
      | false =>
        obtain ⟨F1, hF1⟩ : ∃ z, f + 1 = z := ⟨_, rfl⟩
        have wf : IntKind.i64.wrap (f + 1) = F1 := by rw [hF1]; exact IntWalk.i64_in _ (by omega)
        obtain ⟨t1, e1, y1, kf⟩ := num2_str F1 (by omega) (by omega)
        obtain ⟨t2, e2, y2, k2⟩ := cat_run y1 z1b (by omega)
        have KF := Lib.hid kf
        clear kf
        obtain ⟨T1, hT1⟩ : ∃ z, t + 1 = z := ⟨_, rfl⟩
        have wt : IntKind.i64.wrap (t + 1) = T1 := by rw [hT1]; exact IntWalk.i64_in _ (by omega)
        obtain ⟨t3, e3, y3, kt⟩ := num2_str T1 (by omega) (by omega)
        have KT := Lib.hid kt
        clear kt
        obtain ⟨t4, e4, y4, k4⟩ := cat_run y2 y3 (by omega)
        have em : mrT f t d false = [] := by unfold mrT; rw [if_neg (by decide), if_neg (by omega)]
        have e0 : (⟨(stT p f t d false).toArray⟩ : ByteArray) = t4 := by
          unfold stT
          rw [em, plT_num (p := p) (i := f) (by omega), plT_num (p := p) (i := t) (by omega), hT1, hF1, e4, e3, e2, e1]
          apply ByteArray.ext
          simp [ByteArray.data_append]
        rw [e0]
        clear e0 em e4 e3 e2 e1
        have cf : decide (f < p) = true := by simp; omega
        have ct : decide (0 ≤ t) = true := by simp; omega
        clear hv y1 y2 y3 y4 z1b z42 zoff z40 z41 q hF1 hT1 ht hf
        go_enter Tryd.func43, Tryd.ntmps43
        go_wp2_with (first | (go_at_call 63; refine (KF.out _).mono ?_; clear KF; rintro e w1 ⟨rfl, hb1⟩; obtain ⟨x0, x1, x2, x3, xf, xl⟩ := (BV.below hb1).four; obtain ⟨z0, z1, z2, z3, zf, zl⟩ := (BS.below hb1).four) | (go_at_call 63; refine (KT.out _).mono ?_; clear KT; rintro e w2 ⟨rfl, hb2⟩; obtain ⟨x0, x1, x2, x3, xf, xl⟩ := (BV.below (chain hb1 hb2)).four; obtain ⟨z0, z1, z2, z3, zf, zl⟩ := (BS.below (chain hb1 hb2)).four))
        go_ret
        exact ⟨rfl, chain (chain hb hb1) hb2⟩
end Go.Proofs.YthfhiggageejbaaDoor
