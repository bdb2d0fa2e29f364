/- Contracts on the program's texts of places and marks. -/
import Derived.Test.YthfhiggageejbaaDoor06b
namespace Go.Proofs.YthfhiggageejbaaDoor
open Go.ChangeShapes Go.WideShapes Go.ChangeAt Go.RowKit
set_option linter.unusedVariables false
set_option linter.unusedSimpArgs false

set_option maxRecDepth 8000 in
set_option maxHeartbeats 1000000 in
theorem placeText_any (p c h s i : Int) (w : World) (hp : 2 ≤ p ∧ p ≤ 24) (hi : i = p ∨ i = -1 ∨ (0 ≤ i ∧ i < p)) :
    Calls Tryd.prog 61 #[.agg #[.int .i64 p, .int .i64 c, .int .i64 h, .int .i64 s], .int .i64 i] w fun e w' => e = .returned (.string ⟨(plT p i).toArray⟩) ∧ Below w.heap.size w w' := by
  have hb : Below w.heap.size w (w.alloc (.cells #[.int .i64 p, .int .i64 c, .int .i64 h, .int .i64 s] 29)) := (Below.refl _ _).alloc (Nat.le_refl _) _
  by_cases h1 : i = p
  · subst h1
    rw [plT_bar]
    go_enter Tryd.func61, Tryd.ntmps61
    go_wp2
    go_ret
    exact ⟨rfl, hb⟩
  · have e1 : (i == p) = false := by simpa using h1
    by_cases h2 : i = -1
    · subst h2
      rw [plT_off (by omega)]
      clear h1
      go_enter Tryd.func61, Tryd.ntmps61
      go_wp2
      go_ret
      exact ⟨rfl, hb⟩
    · have e2 : (i == -1) = false := by simpa using h2
      rw [plT_num (by omega)]
      obtain ⟨I1, hI1⟩ : ∃ z, i + 1 = z := ⟨_, rfl⟩
      have wz : IntKind.i64.wrap (i + 1) = I1 := by rw [hI1]; exact IntWalk.i64_in _ (by omega)
      obtain ⟨T, hT, hs, hf⟩ := fmt_str I1 (by omega) (by omega)
      rw [hI1, ← hT]
      have HF := Lib.hid hf
      clear hf hT hs hI1 h1 h2 hi hp
      go_enter Tryd.func61, Tryd.ntmps61
      go_wp2_with (first | (go_at_call 73; refine (HF.out _).mono ?_; clear HF; rintro e w1 ⟨rfl, rfl⟩))
      go_ret
      exact ⟨rfl, hb⟩
set_option maxRecDepth 8000 in
set_option maxHeartbeats 1000000 in
theorem mark_any (f t d : Int) (hh : Bool) (w : World) (hf : -1 ≤ f ∧ f ≤ 1000) (hd : 0 ≤ d ∧ d < 10) :
    Calls Tryd.prog 62 #[.agg #[.int .i64 f, .int .i64 t, .int .i64 d, .bool hh]] w fun e w' => e = .returned (.string ⟨(mrT f t d hh).toArray⟩) ∧ Below w.heap.size w w' := by
  have hb : Below w.heap.size w (w.alloc (.cells #[.int .i64 f, .int .i64 t, .int .i64 d, .bool hh] 38)) := (Below.refl _ _).alloc (Nat.le_refl _) _
  have z41 : (⟨#[41]⟩ : ByteArray).size ≤ 1 := by decide
  have z40 : (⟨#[40]⟩ : ByteArray).size ≤ 1 := by decide
  cases hh with
  | true =>
    rw [show mrT f t d true = [42] from rfl]
    clear z41 z40
    go_enter Tryd.func62, Tryd.ntmps62
    go_wp2
    go_ret
    exact ⟨rfl, hb⟩
  | false =>
    have wz : IntKind.i64.wrap (f + 1) = f + 1 := IntWalk.i64_in _ (by omega)
    by_cases h1 : t = -1
    · subst h1
      by_cases h2 : d = f + 1
      · have em : mrT f (-1) d false = [] := by unfold mrT; rw [if_neg (by decide), if_neg (by omega)]
        have e2 : (d != f + 1) = false := by simp [h2]
        rw [em]
        clear em h2 z41 z40 hf hd
        go_enter Tryd.func62, Tryd.ntmps62
        go_wp2
        go_ret
        exact ⟨rfl, hb⟩
      · have em : mrT f (-1) d false = 40 :: (num2 d ++ [41]) := by unfold mrT; rw [if_neg (by decide), if_pos (by omega)]
        have e2 : (d != f + 1) = true := by simpa using h2
        obtain ⟨T, hT, hs, hf⟩ := fmt_str d (by omega) (by omega)
        obtain ⟨t5, e5, y5, k5⟩ := cat_run z40 hs (by omega)
        obtain ⟨t6, e6, y6, k6⟩ := cat_run y5 z41 (by omega)
        have e0 : (⟨(mrT f (-1) d false).toArray⟩ : ByteArray) = t6 := by
          rw [em, e6, e5, hT]
          apply ByteArray.ext
          simp [ByteArray.data_append]
        rw [e0]
        have HF := Lib.hid hf
        clear hf hT hs h2 e0 em e5 e6 y5 y6 z40 z41 hd
        go_enter Tryd.func62, Tryd.ntmps62
        go_wp2_with (first | (go_at_call 73; refine (HF.out _).mono ?_; clear HF; rintro e w1 ⟨rfl, rfl⟩))
        go_ret
        exact ⟨rfl, hb⟩
    · have em : mrT f t d false = [] := by unfold mrT; rw [if_neg (by decide), if_neg (by omega)]
      have e1 : (t == -1) = false := by simpa using h1
      rw [em]
      clear em h1 z41 z40 hf hd
      go_enter Tryd.func62, Tryd.ntmps62
      go_wp2
      go_ret
      exact ⟨rfl, hb⟩
end Go.Proofs.YthfhiggageejbaaDoor
