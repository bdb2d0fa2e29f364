/- Contracts of the functions that write a step as a text. -/
import Derived.Test.YthfhiggageejbaaDoor06e
namespace Go.Proofs.YthfhiggageejbaaDoor
open Go.ChangeShapes Go.WideShapes Go.ChangeAt Go.RowKit
set_option linter.unusedVariables false
set_option linter.unusedSimpArgs false

/-- The text of a step; empty if it has none. -/
def stt (p c h s f t d : Int) (hh : Bool) : List UInt8 := if vB p c h s = true then (if plB p s f t d hh = true then stT p f t d hh else []) else []
set_option maxRecDepth 8000 in
set_option maxHeartbeats 2000000 in
theorem stepText_any (p c h s f t d : Int) (hh : Bool) (w : World) :
    Calls Tryd.prog 16 #[.agg #[.int .i64 p, .int .i64 c, .int .i64 h, .int .i64 s], .agg #[.int .i64 f, .int .i64 t, .int .i64 d, .bool hh]] w fun e w' => e = .returned (.string ⟨(stt p c h s f t d hh).toArray⟩) ∧ Below w.heap.size w w' := by
  obtain ⟨BV, BS, hb, hz⟩ := two_new w #[.int .i64 p, .int .i64 c, .int .i64 h, .int .i64 s] #[.int .i64 f, .int .i64 t, .int .i64 d, .bool hh] 29 38
  clear hz
  obtain ⟨x0, x1, x2, x3, xf, xl⟩ := BV.four
  obtain ⟨z0, z1, z2, z3, zf, zl⟩ := BS.four
  unfold stt
  have hv := fun W => valid_any p c h s W
  by_cases g : vB p c h s = true
  · rw [if_pos g]
    rw [g] at hv
    have HV := Lib.hid hv
    clear hv
    have hp := fun W => isPlain_any p c h s f t d hh W g
    by_cases g0 : plB p s f t d hh = true
    · rw [if_pos g0]
      rw [g0] at hp
      have HP := Lib.hid hp
      clear hp
      have hbs := fun W => bytesOfStep_any p c h s f t d hh W g g0
      have htx := fun W => bytesText_any (stT p f t d hh) W (stT_len (by have := vB_iff.1 g; omega) (by have := vB_iff.1 g; omega) g0).1
      obtain ⟨K, hK⟩ : ∃ K, bytV (stT p f t d hh) = K := ⟨_, rfl⟩
      rw [hK] at hbs htx
      obtain ⟨T, hT⟩ : ∃ T : ByteArray, T = ⟨(stT p f t d hh).toArray⟩ := ⟨_, rfl⟩
      rw [← hT] at htx ⊢
      have HB := Lib.hid hbs
      have HT := Lib.hid htx
      clear hbs htx hT hK g g0
      go_enter Tryd.func16, Tryd.ntmps16
      go_wp2_with (first | (go_at_call 31; refine (HV.out _).mono ?_; clear HV; rintro e w1 ⟨rfl, hb1⟩; obtain ⟨x0, x1, x2, x3, xf, xl⟩ := (BV.below hb1).four; obtain ⟨z0, z1, z2, z3, zf, zl⟩ := (BS.below hb1).four) | (go_at_call 39; refine (HP.out _).mono ?_; clear HP; rintro e w2 ⟨rfl, hb2⟩; obtain ⟨x0, x1, x2, x3, xf, xl⟩ := (BV.below (chain hb1 hb2)).four; obtain ⟨z0, z1, z2, z3, zf, zl⟩ := (BS.below (chain hb1 hb2)).four) | (go_at_call 40; refine (HB.out _).mono ?_; clear HB; rintro e w3 ⟨rfl, hb3⟩) | (go_at_call 41; refine (HT.out _).mono ?_; clear HT; rintro e w4 ⟨rfl, hb4⟩))
      go_ret
      exact ⟨rfl, chain (chain (chain (chain hb hb1) hb2) hb3) hb4⟩
    · rw [if_neg g0]
      replace g0 : plB p s f t d hh = false := by simpa using g0
      rw [g0] at hp
      have HP := Lib.hid hp
      clear hp g g0
      go_enter Tryd.func16, Tryd.ntmps16
      go_wp2_with (first | (go_at_call 31; refine (HV.out _).mono ?_; clear HV; rintro e w1 ⟨rfl, hb1⟩; obtain ⟨x0, x1, x2, x3, xf, xl⟩ := (BV.below hb1).four; obtain ⟨z0, z1, z2, z3, zf, zl⟩ := (BS.below hb1).four) | (go_at_call 39; refine (HP.out _).mono ?_; clear HP; rintro e w2 ⟨rfl, hb2⟩; obtain ⟨x0, x1, x2, x3, xf, xl⟩ := (BV.below (chain hb1 hb2)).four; obtain ⟨z0, z1, z2, z3, zf, zl⟩ := (BS.below (chain hb1 hb2)).four))
      go_ret
      exact ⟨rfl, chain (chain hb hb1) hb2⟩
  · rw [if_neg g]
    replace g : vB p c h s = false := by simpa using g
    rw [g] at hv
    have HV := Lib.hid hv
    clear hv g
    go_enter Tryd.func16, Tryd.ntmps16
    go_wp2_with (first | (go_at_call 31; refine (HV.out _).mono ?_; clear HV; rintro e w1 ⟨rfl, hb1⟩; obtain ⟨x0, x1, x2, x3, xf, xl⟩ := (BV.below hb1).four; obtain ⟨z0, z1, z2, z3, zf, zl⟩ := (BS.below hb1).four))
    go_ret
    exact ⟨rfl, chain hb hb1⟩
set_option maxRecDepth 8000 in
set_option maxHeartbeats 2000000 in
theorem specStepText_any (p c h s f t d : Int) (hh : Bool) (w : World) :
    Calls Tryd.prog 17 #[.agg #[.int .i64 p, .int .i64 c, .int .i64 h, .int .i64 s], .agg #[.int .i64 f, .int .i64 t, .int .i64 d, .bool hh]] w fun e w' => e = .returned (.string ⟨(stt p c h s f t d hh).toArray⟩) ∧ Below w.heap.size w w' := by
  obtain ⟨BV, BS, hb, hz⟩ := two_new w #[.int .i64 p, .int .i64 c, .int .i64 h, .int .i64 s] #[.int .i64 f, .int .i64 t, .int .i64 d, .bool hh] 29 38
  clear hz
  obtain ⟨x0, x1, x2, x3, xf, xl⟩ := BV.four
  obtain ⟨z0, z1, z2, z3, zf, zl⟩ := BS.four
  unfold stt
  have hv := fun W => specIsVariant_any p c h s W
  by_cases g : vB p c h s = true
  · rw [if_pos g]
    rw [g] at hv
    have HV := Lib.hid hv
    clear hv
    have hp := fun W => specPlain_any p c h s f t d hh W g
    by_cases g0 : plB p s f t d hh = true
    · rw [if_pos g0]
      rw [g0] at hp
      have HP := Lib.hid hp
      clear hp
      have htx := fun W => specStepT_any p c h s f t d hh W g g0
      obtain ⟨T, hT⟩ : ∃ T : ByteArray, T = ⟨(stT p f t d hh).toArray⟩ := ⟨_, rfl⟩
      rw [← hT] at htx ⊢
      have HT := Lib.hid htx
      clear htx hT g g0
      go_enter Tryd.func17, Tryd.ntmps17
      go_wp2_with (first | (go_at_call 28; refine (HV.out _).mono ?_; clear HV; rintro e w1 ⟨rfl, hb1⟩; obtain ⟨x0, x1, x2, x3, xf, xl⟩ := (BV.below hb1).four; obtain ⟨z0, z1, z2, z3, zf, zl⟩ := (BS.below hb1).four) | (go_at_call 42; refine (HP.out _).mono ?_; clear HP; rintro e w2 ⟨rfl, hb2⟩; obtain ⟨x0, x1, x2, x3, xf, xl⟩ := (BV.below (chain hb1 hb2)).four; obtain ⟨z0, z1, z2, z3, zf, zl⟩ := (BS.below (chain hb1 hb2)).four) | (go_at_call 43; refine (HT.out _).mono ?_; clear HT; rintro e w3 ⟨rfl, hb3⟩))
      go_ret
      exact ⟨rfl, chain (chain (chain hb hb1) hb2) hb3⟩
    · rw [if_neg g0]
      replace g0 : plB p s f t d hh = false := by simpa using g0
      rw [g0] at hp
      have HP := Lib.hid hp
      clear hp g g0
      go_enter Tryd.func17, Tryd.ntmps17
      go_wp2_with (first | (go_at_call 28; refine (HV.out _).mono ?_; clear HV; rintro e w1 ⟨rfl, hb1⟩; obtain ⟨x0, x1, x2, x3, xf, xl⟩ := (BV.below hb1).four; obtain ⟨z0, z1, z2, z3, zf, zl⟩ := (BS.below hb1).four) | (go_at_call 42; refine (HP.out _).mono ?_; clear HP; rintro e w2 ⟨rfl, hb2⟩; obtain ⟨x0, x1, x2, x3, xf, xl⟩ := (BV.below (chain hb1 hb2)).four; obtain ⟨z0, z1, z2, z3, zf, zl⟩ := (BS.below (chain hb1 hb2)).four))
      go_ret
      exact ⟨rfl, chain (chain hb hb1) hb2⟩
  · rw [if_neg g]
    replace g : vB p c h s = false := by simpa using g
    rw [g] at hv
    have HV := Lib.hid hv
    clear hv g
    go_enter Tryd.func17, Tryd.ntmps17
    go_wp2_with (first | (go_at_call 28; refine (HV.out _).mono ?_; clear HV; rintro e w1 ⟨rfl, hb1⟩; obtain ⟨x0, x1, x2, x3, xf, xl⟩ := (BV.below hb1).four; obtain ⟨z0, z1, z2, z3, zf, zl⟩ := (BS.below hb1).four))
    go_ret
    exact ⟨rfl, chain hb hb1⟩
end Go.Proofs.YthfhiggageejbaaDoor
