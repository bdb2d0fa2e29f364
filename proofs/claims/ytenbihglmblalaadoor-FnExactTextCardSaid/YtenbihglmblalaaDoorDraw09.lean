/- The model's draws of chapter 9: a variant, an exact number. -/
import Derived.Test.YtenbihglmblalaaDoorSrc3
import Derived.Test.YtenbihglmblalaaDoor09p
import Derived.Test.YtenbihglmblalaaDoor09f0
import Derived.Laws.StructEq
namespace Go.Proofs.YtenbihglmblalaaDoor
open Go.ChangeShapes Go.WideShapes Go.ChangeAt Go.RowKit
set_option linter.unusedVariables false
set_option linter.unusedSimpArgs false
set_option maxRecDepth 4000

/-- A variant has been drawn. -/
def V9Post (B g : Nat) (a : Option Addr) (len cap : Nat) (w : World) (e : Ending) (w' : World) : Prop :=
  ∃ p c h s : Int, e = .returned (.agg #[.int .i64 p, .int .i64 c, .int .i64 h, .int .i64 s]) ∧ Src B w' g a len cap ∧ w.grownBy w' (some g)
/-- An exact number has been drawn. -/
def ExPost (B g : Nat) (a : Option Addr) (len cap : Nat) (w : World) (e : Ending) (w' : World) : Prop :=
  ∃ n d : Int, e = .returned (.agg #[.int .i64 n, .int .i64 d]) ∧ (-9223372036854775808 ≤ d ∧ d ≤ 9223372036854775807) ∧ Src B w' g a len cap ∧ w.grownBy w' (some g)
theorem Blk.put4 {w : World} {B : Nat} {a b c d : Value} {t : TypeId} (h : Blk w B #[a, b, c, d] t) (x y z u : Value) : Blk ((((w.setCell ⟨B, 0, none⟩ x).setCell ⟨B, 1, none⟩ y).setCell ⟨B, 2, none⟩ z).setCell ⟨B, 3, none⟩ u) B #[x, y, z, u] t := by
  have := (((h.set (i := 0) x).set (i := 1) y).set (i := 2) z).set (i := 3) u
  simp only [List.setIfInBounds_toArray, List.set_cons_zero, List.set_cons_succ] at this
  exact this
theorem xo3_depth {S : Nat} {N : Int} {D : Nat} {c : Int} : 0 ≤ (xo3 (rdX S N D) c).2.1 ∧ (xo3 (rdX S N D) c).2.1 ≤ D := by
  unfold rdX
  have h := (rdN_le (S * S) D N.natAbs).1
  split
  · dsimp only [xo3]
    omega
  · dsimp only [xo3]
    omega
theorem mkV_depth {p c h s n d : Int} : -9223372036854775808 ≤ (mkV p c h s n d).2.1 ∧ (mkV p c h s n d).2.1 ≤ 9223372036854775807 := by
  unfold mkV
  split
  · split
    · rename_i h0 h1
      simp only [Bool.and_eq_true, decide_eq_true_eq] at h1
      have q := xo3_depth (S := s.toNat) (N := n) (D := d.toNat) (c := 3)
      have hnn : nn s.toNat ≤ 61 := by
        unfold nn
        split <;> omega
      omega
    · dsimp only
      omega
  · dsimp only
    omega
set_option maxRecDepth 8000 in
set_option maxHeartbeats 1000000 in
theorem draw9Variant_any (B g : Nat) (a : Option Addr) (len cap : Nat) (w : World) (hS : Src B w g a len cap) :
    Calls Tryd.prog 30 #[.pointer (some ⟨g, 0, none⟩)] w (V9Post B g a len cap w) := by
  have hgl := hS.lt
  have hgB := hS.base
  go_enter Tryd.func30, Tryd.ntmps30
  go_wp2_with fail
  have B0 := Blk.new w #[.int .i64 0, .int .i64 0, .int .i64 0, .int .i64 0] 25
  replace hS := hS.alloc (.cells #[.int .i64 0, .int .i64 0, .int .i64 0, .int .i64 0] 25)
  have hG : w.grownBy (w.alloc (.cells #[.int .i64 0, .int .i64 0, .int .i64 0, .int .i64 0] 25)) (some g) := World.grownBy_alloc w _ _
  have hz0 : (w.alloc (.cells #[.int .i64 0, .int .i64 0, .int .i64 0, .int .i64 0] 25)).heap.size = w.heap.size + 1 := by simp
  refine (next_any B g a len cap 3 _ hS (by omega)).mono ?_
  rintro e w1 ⟨r1, rfl, l1, u1, hS, hg1⟩
  have hz1 := hg1.size
  have hsl1 := hS.lt
  replace B0 := B0.grown hg1 (by omega)
  replace hG := grown_trans hG hg1
  clear hg1
  go_wp2_with fail
  refine (next_any B g a len cap 3 _ hS (by omega)).mono ?_
  rintro e w2 ⟨r2, rfl, l2, u2, hS, hg2⟩
  have hz2 := hg2.size
  have hsl2 := hS.lt
  replace B0 := B0.grown hg2 (by omega)
  replace hG := grown_trans hG hg2
  clear hg2
  go_wp2_with fail
  refine (next_any B g a len cap 3 _ hS (by omega)).mono ?_
  rintro e w3 ⟨r3, rfl, l3, u3, hS, hg3⟩
  have hz3 := hg3.size
  have hsl3 := hS.lt
  replace B0 := B0.grown hg3 (by omega)
  replace hG := grown_trans hG hg3
  clear hg3
  go_wp2_with fail
  have VB := #[Value.int .i64 6]
  clear VB
  have Bv := Blk.new w3 #[.int .i64 6, .int .i64 (1 + r1), .int .i64 (1 + r2), .int .i64 (1 + r3)] 25
  have hl3 := B0.lt
  replace B0 := B0.alloc (.cells #[.int .i64 6, .int .i64 (1 + r1), .int .i64 (1 + r2), .int .i64 (1 + r3)] 25)
  replace hS := hS.alloc (.cells #[.int .i64 6, .int .i64 (1 + r1), .int .i64 (1 + r2), .int .i64 (1 + r3)] 25)
  replace hG := grown_alloc hG (.cells #[.int .i64 6, .int .i64 (1 + r1), .int .i64 (1 + r2), .int .i64 (1 + r3)] 25)
  have hs3 := hsl3
  generalize w3.alloc (.cells #[.int .i64 6, .int .i64 (1 + r1), .int .i64 (1 + r2), .int .i64 (1 + r3)] 25) = wv at *
  generalize w3.heap.size = gv at *
  refine (next_any B g a len cap 24 _ hS (by omega)).mono ?_
  rintro e w4 ⟨r4, rfl, l4, u4, hS, hg4⟩
  have hz4 := hg4.size
  have hsl4 := hS.lt
  replace B0 := B0.grown hg4 (by omega)
  replace Bv := Bv.grown hg4 (by omega)
  replace hG := grown_trans hG hg4
  clear hg4
  by_cases e0 : r4 = 0
  · subst e0
    go_wp2_with fail
    refine (next_any B g a len cap 2 _ hS (by omega)).mono ?_
    rintro e w5 ⟨r5, rfl, l5, u5, hS, hg5⟩
    have hz5 := hg5.size
    have hsl5 := hS.lt
    replace B0 := B0.grown hg5 (by omega)
    replace Bv := Bv.grown hg5 (by omega)
    replace hG := grown_trans hG hg5
    clear hg5
    obtain ⟨y0, y1, y2, y3, yf, yl⟩ := B0.four
    obtain ⟨x0, x1, x2, x3, xf, xl⟩ := Bv.four
    go_wp2_with fail
    have B0' := B0.other (g := gv) (o := 3) (v := .int .i64 (7 * r5)) (by omega)
    have hS' := hS.set (g' := gv) (o := 3) (v := .int .i64 (7 * r5)) (by omega) (by omega)
    have hG' := grown_new (g' := gv) (o := 3) (v := .int .i64 (7 * r5)) hG (by omega)
    have BRn := B0'.put4 (.int .i64 6) (.int .i64 (1 + r1)) (.int .i64 (1 + r2)) (.int .i64 (7 * r5))
    obtain ⟨t0, t1, t2, t3, tf, tl⟩ := BRn.four
    refine bodyPost_ret (v := .agg #[.int .i64 6, .int .i64 (1 + r1), .int .i64 (1 + r2), .int .i64 (7 * r5)]) (by simp [results, Tryd.results30, go_sem, t0, t1, t2, t3]) rfl ?_
    exact ⟨_, _, _, _, rfl, (((hS'.set (by omega) (by omega)).set (by omega) (by omega)).set (by omega) (by omega)).set (by omega) (by omega), grown_new (grown_new (grown_new (grown_new hG' (Nat.le_refl _)) (Nat.le_refl _)) (Nat.le_refl _)) (Nat.le_refl _)⟩
  · have f0 : (r4 == 0) = false := by rw [beq_eq_false_iff_ne]; exact e0
    by_cases e1 : r4 = 1
    · subst e1
      go_wp2_with fail
      refine (next_any B g a len cap 2 _ hS (by omega)).mono ?_
      rintro e w5 ⟨r5, rfl, l5, u5, hS, hg5⟩
      have hz5 := hg5.size
      have hsl5 := hS.lt
      replace B0 := B0.grown hg5 (by omega)
      replace Bv := Bv.grown hg5 (by omega)
      replace hG := grown_trans hG hg5
      clear hg5
      obtain ⟨y0, y1, y2, y3, yf, yl⟩ := B0.four
      obtain ⟨x0, x1, x2, x3, xf, xl⟩ := Bv.four
      go_wp2_with fail
      have B0' := B0.other (g := gv) (o := 1) (v := .int .i64 (16 * r5)) (by omega)
      have hS' := hS.set (g' := gv) (o := 1) (v := .int .i64 (16 * r5)) (by omega) (by omega)
      have hG' := grown_new (g' := gv) (o := 1) (v := .int .i64 (16 * r5)) hG (by omega)
      have BRn := B0'.put4 (.int .i64 6) (.int .i64 (16 * r5)) (.int .i64 (1 + r2)) (.int .i64 (1 + r3))
      obtain ⟨t0, t1, t2, t3, tf, tl⟩ := BRn.four
      refine bodyPost_ret (v := .agg #[.int .i64 6, .int .i64 (16 * r5), .int .i64 (1 + r2), .int .i64 (1 + r3)]) (by simp [results, Tryd.results30, go_sem, t0, t1, t2, t3]) rfl ?_
      exact ⟨_, _, _, _, rfl, (((hS'.set (by omega) (by omega)).set (by omega) (by omega)).set (by omega) (by omega)).set (by omega) (by omega), grown_new (grown_new (grown_new (grown_new hG' (Nat.le_refl _)) (Nat.le_refl _)) (Nat.le_refl _)) (Nat.le_refl _)⟩
    · have f1 : (r4 == 1) = false := by rw [beq_eq_false_iff_ne]; exact e1
      by_cases e2 : r4 = 2
      · subst e2
        obtain ⟨y0, y1, y2, y3, yf, yl⟩ := B0.four
        obtain ⟨x0, x1, x2, x3, xf, xl⟩ := Bv.four
        go_wp2_with fail
        have B0' := (((B0.other (g := gv) (o := 0) (v := .int .i64 24) (by omega)).other (g := gv) (o := 1) (v := .int .i64 15) (by omega)).other (g := gv) (o := 2) (v := .int .i64 6) (by omega)).other (g := gv) (o := 3) (v := .int .i64 6) (by omega)
        have hS' := (((hS.set (g' := gv) (o := 0) (v := .int .i64 24) (by omega) (by omega)).set (g' := gv) (o := 1) (v := .int .i64 15) (by omega) (by omega)).set (g' := gv) (o := 2) (v := .int .i64 6) (by omega) (by omega)).set (g' := gv) (o := 3) (v := .int .i64 6) (by omega) (by omega)
        have hG' := grown_new (g' := gv) (o := 3) (v := .int .i64 6) (grown_new (g' := gv) (o := 2) (v := .int .i64 6) (grown_new (g' := gv) (o := 1) (v := .int .i64 15) (grown_new (g' := gv) (o := 0) (v := .int .i64 24) hG (by omega)) (by omega)) (by omega)) (by omega)
        have BRn := B0'.put4 (.int .i64 24) (.int .i64 15) (.int .i64 6) (.int .i64 6)
        obtain ⟨t0, t1, t2, t3, tf, tl⟩ := BRn.four
        refine bodyPost_ret (v := .agg #[.int .i64 24, .int .i64 15, .int .i64 6, .int .i64 6]) (by simp [results, Tryd.results30, go_sem, t0, t1, t2, t3]) rfl ?_
        exact ⟨_, _, _, _, rfl, (((hS'.set (by omega) (by omega)).set (by omega) (by omega)).set (by omega) (by omega)).set (by omega) (by omega), grown_new (grown_new (grown_new (grown_new hG' (Nat.le_refl _)) (Nat.le_refl _)) (Nat.le_refl _)) (Nat.le_refl _)⟩
      · have f2 : (r4 == 2) = false := by rw [beq_eq_false_iff_ne]; exact e2
        obtain ⟨y0, y1, y2, y3, yf, yl⟩ := B0.four
        obtain ⟨x0, x1, x2, x3, xf, xl⟩ := Bv.four
        go_wp2_with fail
        have B0' := B0
        have hS' := hS
        have hG' := hG
        have BRn := B0'.put4 (.int .i64 6) (.int .i64 (1 + r1)) (.int .i64 (1 + r2)) (.int .i64 (1 + r3))
        obtain ⟨t0, t1, t2, t3, tf, tl⟩ := BRn.four
        refine bodyPost_ret (v := .agg #[.int .i64 6, .int .i64 (1 + r1), .int .i64 (1 + r2), .int .i64 (1 + r3)]) (by simp [results, Tryd.results30, go_sem, t0, t1, t2, t3]) rfl ?_
        exact ⟨_, _, _, _, rfl, (((hS'.set (by omega) (by omega)).set (by omega) (by omega)).set (by omega) (by omega)).set (by omega) (by omega), grown_new (grown_new (grown_new (grown_new hG' (Nat.le_refl _)) (Nat.le_refl _)) (Nat.le_refl _)) (Nat.le_refl _)⟩
set_option maxRecDepth 8000 in
set_option maxHeartbeats 2000000 in
theorem draw9Exact_any (B g : Nat) (a : Option Addr) (len cap : Nat) (p c h s : Int) (w : World) (hS : Src B w g a len cap) :
    Calls Tryd.prog 31 #[.pointer (some ⟨g, 0, none⟩), .agg #[.int .i64 p, .int .i64 c, .int .i64 h, .int .i64 s]] w (ExPost B g a len cap w) := by
  have hgl := hS.lt
  have hgB := hS.base
  obtain ⟨BV, X0, hb, hz⟩ := two_new w #[.int .i64 p, .int .i64 c, .int .i64 h, .int .i64 s] #[.int .i64 0, .int .i64 0] 25 27
  go_enter Tryd.func31, Tryd.ntmps31
  go_wp2_with fail
  replace hS := hS.below hb
  have hG := grown_of_below hb (some g)
  generalize ((w.alloc (.cells #[.int .i64 p, .int .i64 c, .int .i64 h, .int .i64 s] 25)).alloc (.cells #[.int .i64 0, .int .i64 0] 27)) = v0 at *
  clear hb
  refine (next_any B g a len cap 200 _ hS (by omega)).mono ?_
  rintro e w1 ⟨r1, rfl, l1, u1, hS, hg1⟩
  have hz1 := hg1.size
  have hsl1 := hS.lt
  replace BV := BV.grown hg1 (by omega)
  replace X0 := X0.grown hg1 (by omega)
  replace hG := grown_trans hG hg1
  clear hg1
  go_wp2_with fail
  refine (next_any B g a len cap 8 _ hS (by omega)).mono ?_
  rintro e w2 ⟨r2, rfl, l2, u2, hS, hg2⟩
  have hz2 := hg2.size
  have hsl2 := hS.lt
  replace BV := BV.grown hg2 (by omega)
  replace X0 := X0.grown hg2 (by omega)
  replace hG := grown_trans hG hg2
  clear hg2
  by_cases e2 : r2 = 0
  · subst e2
    go_wp2_with fail
    have BL := Blk.new w2 #[.int .i64 0, .int .i64 1, .int .i64 1000000000000000000, .int .i64 (-1000000000000000000), .int .i64 999999999999999999, .int .i64 999999999999999999] 2
    replace BV := BV.alloc (.cells #[.int .i64 0, .int .i64 1, .int .i64 1000000000000000000, .int .i64 (-1000000000000000000), .int .i64 999999999999999999, .int .i64 999999999999999999] 2)
    replace X0 := X0.alloc (.cells #[.int .i64 0, .int .i64 1, .int .i64 1000000000000000000, .int .i64 (-1000000000000000000), .int .i64 999999999999999999, .int .i64 999999999999999999] 2)
    replace hS := hS.alloc (.cells #[.int .i64 0, .int .i64 1, .int .i64 1000000000000000000, .int .i64 (-1000000000000000000), .int .i64 999999999999999999, .int .i64 999999999999999999] 2)
    replace hG := grown_alloc hG (.cells #[.int .i64 0, .int .i64 1, .int .i64 1000000000000000000, .int .i64 (-1000000000000000000), .int .i64 999999999999999999, .int .i64 999999999999999999] 2)
    have hs2 := hsl2
    generalize w2.alloc (.cells #[.int .i64 0, .int .i64 1, .int .i64 1000000000000000000, .int .i64 (-1000000000000000000), .int .i64 999999999999999999, .int .i64 999999999999999999] 2) = wl at *
    generalize w2.heap.size = gl at *
    refine (next_any B g a len cap 6 _ hS (by omega)).mono ?_
    rintro e w3 ⟨r3, rfl, l3, u3, hS, hg3⟩
    have hz3 := hg3.size
    have hsl3 := hS.lt
    replace BV := BV.grown hg3 (by omega)
    replace X0 := X0.grown hg3 (by omega)
    replace BL := BL.grown hg3 (by omega)
    replace hG := grown_trans hG hg3
    clear hg3
    obtain ⟨i, rfl⟩ := Int.eq_ofNat_of_zero_le l3
    have hi6 : i < 6 := by omega
    obtain ⟨n, hn⟩ : ∃ n : Int, w3.cell? ⟨gl, i, none⟩ = some (.int .i64 n) := by
      have hi7 : i = 0 ∨ i = 1 ∨ i = 2 ∨ i = 3 ∨ i = 4 ∨ i = 5 := by omega
      rcases hi7 with rfl | rfl | rfl | rfl | rfl | rfl
      · exact ⟨_, by simpa using BL.cell 0⟩
      · exact ⟨_, by simpa using BL.cell 1⟩
      · exact ⟨_, by simpa using BL.cell 2⟩
      · exact ⟨_, by simpa using BL.cell 3⟩
      · exact ⟨_, by simpa using BL.cell 4⟩
      · exact ⟨_, by simpa using BL.cell 5⟩
    have hiI : (i : Int) < 6 := by omega
    clear BL
    go_wp2_with fail
    refine (next_any B g a len cap 4 _ hS (by omega)).mono ?_
    rintro e w4 ⟨r4, rfl, l4, u4, hS, hg4⟩
    have hz4 := hg4.size
    have hsl4 := hS.lt
    replace BV := BV.grown hg4 (by omega)
    replace X0 := X0.grown hg4 (by omega)
    replace hG := grown_trans hG hg4
    clear hg4
    go_wp2_with fail
    refine (next_any B g a len cap 6 _ hS (by omega)).mono ?_
    rintro e w5 ⟨r5, rfl, l5, u5, hS, hg5⟩
    have hz5 := hg5.size
    have hsl5 := hS.lt
    replace BV := BV.grown hg5 (by omega)
    replace X0 := X0.grown hg5 (by omega)
    replace hG := grown_trans hG hg5
    clear hg5
    by_cases e5 : r5 = 0
    · subst e5
      go_wp2_with fail
      refine (next_any B g a len cap 30 _ hS (by omega)).mono ?_
      rintro e w6 ⟨r6, rfl, l6, u6, hS, hg6⟩
      have hz6 := hg6.size
      have hsl6 := hS.lt
      replace BV := BV.grown hg6 (by omega)
      replace X0 := X0.grown hg6 (by omega)
      replace hG := grown_trans hG hg6
      clear hg6
      obtain ⟨⟨m1, m2, m3⟩, hm⟩ : ∃ r, mkV p c h s (n) r6 = r := ⟨_, rfl⟩
      have hmd := mkV_depth (p := p) (c := c) (h := h) (s := s) (n := n) (d := r6)
      have hmk := fun W => specMakeExact_any p c h s (n) r6 (by omega) W
      rw [hm] at hmd hmk
      dsimp only [xoV] at hmd hmk
      obtain ⟨x0, x1, x2, x3, xf, xl⟩ := BV.four
      go_wp2_with fail
      refine (hmk _).mono ?_
      rintro e w7 ⟨rfl, hb7⟩
      clear hm hmk x0 x1 x2 x3 xf xl BV
      have hz7 := hb7.size
      have hw7 := (X0.below hb7).lt
      replace X0 := (X0.below hb7).alloc (.cells #[.int .i64 m1, .int .i64 m2] 27)
      have hlX := X0.lt
      have hS7 := hS.below hb7
      have hl7 := hS7.lt
      replace hS := hS7.alloc (.cells #[.int .i64 m1, .int .i64 m2] 27)
      have hG7 := grown_trans hG (grown_of_below hb7 (some g))
      have hsz7 := hG7.size
      replace hG := grown_alloc hG7 (.cells #[.int .i64 m1, .int .i64 m2] 27)
      clear hS7 hG7 hb7
      have Bx := Blk.new w7 #[.int .i64 m1, .int .i64 m2] 27
      by_cases cm : m3 = 0
      · subst cm
        go_wp2_with fail
        refine (next_any B g a len cap 24 _ hS (by omega)).mono ?_
        rintro e w8 ⟨r8, rfl, l8, u8, hS, hg8⟩
        have hz8 := hg8.size
        have hsl8 := hS.lt
        replace X0 := X0.grown hg8 (by omega)
        replace Bx := Bx.grown hg8 (by omega)
        replace hG := grown_trans hG hg8
        clear hg8
        by_cases e8 : r8 = 0
        · subst e8
          go_wp2_with fail
          refine (next_any B g a len cap 3 _ hS (by omega)).mono ?_
          rintro e w9 ⟨r9, rfl, l9, u9, hS, hg9⟩
          have hz9 := hg9.size
          have hsl9 := hS.lt
          replace X0 := X0.grown hg9 (by omega)
          replace Bx := Bx.grown hg9 (by omega)
          replace hG := grown_trans hG hg9
          clear hg9
          obtain ⟨y0, y1, yf, yl⟩ := X0.two
          obtain ⟨z0, z1, zf, zl⟩ := Bx.two
          go_wp2_with fail
          have BRn := X0.set2 (.int .i64 n) (.int .i64 (r6 - r9))
          obtain ⟨t0, t1, tf, tl⟩ := BRn.two
          refine bodyPost_ret (v := .agg #[.int .i64 n, .int .i64 (r6 - r9)]) (by simp [results, Tryd.results31, go_sem, t0, t1]) rfl ?_
          exact ⟨_, _, rfl, by omega, (hS.set (by omega) (by omega)).set (by omega) (by omega), grown_new (grown_new hG (by omega)) (by omega)⟩
        · have f8 : (r8 == 0) = false := by rw [beq_eq_false_iff_ne]; exact e8
          obtain ⟨y0, y1, yf, yl⟩ := X0.two
          obtain ⟨z0, z1, zf, zl⟩ := Bx.two
          go_wp2_with fail
          have BRn := X0.set2 (.int .i64 m1) (.int .i64 m2)
          obtain ⟨t0, t1, tf, tl⟩ := BRn.two
          refine bodyPost_ret (v := .agg #[.int .i64 m1, .int .i64 m2]) (by simp [results, Tryd.results31, go_sem, t0, t1]) rfl ?_
          exact ⟨_, _, rfl, by omega, (hS.set (by omega) (by omega)).set (by omega) (by omega), grown_new (grown_new hG (by omega)) (by omega)⟩
      · have fm : (m3 == 0) = false := by rw [beq_eq_false_iff_ne]; exact cm
        go_wp2_with fail
        refine (next_any B g a len cap 3 _ hS (by omega)).mono ?_
        rintro e w9 ⟨r9, rfl, l9, u9, hS, hg9⟩
        have hz9 := hg9.size
        have hsl9 := hS.lt
        replace X0 := X0.grown hg9 (by omega)
        replace Bx := Bx.grown hg9 (by omega)
        replace hG := grown_trans hG hg9
        clear hg9
        obtain ⟨y0, y1, yf, yl⟩ := X0.two
        obtain ⟨z0, z1, zf, zl⟩ := Bx.two
        go_wp2_with fail
        have BRn := X0.set2 (.int .i64 n) (.int .i64 (r6 - r9))
        obtain ⟨t0, t1, tf, tl⟩ := BRn.two
        refine bodyPost_ret (v := .agg #[.int .i64 n, .int .i64 (r6 - r9)]) (by simp [results, Tryd.results31, go_sem, t0, t1]) rfl ?_
        exact ⟨_, _, rfl, by omega, (hS.set (by omega) (by omega)).set (by omega) (by omega), grown_new (grown_new hG (by omega)) (by omega)⟩
    · have f5 : (r5 == 0) = false := by rw [beq_eq_false_iff_ne]; exact e5
      obtain ⟨⟨m1, m2, m3⟩, hm⟩ : ∃ r, mkV p c h s (n) r4 = r := ⟨_, rfl⟩
      have hmd := mkV_depth (p := p) (c := c) (h := h) (s := s) (n := n) (d := r4)
      have hmk := fun W => specMakeExact_any p c h s (n) r4 (by omega) W
      rw [hm] at hmd hmk
      dsimp only [xoV] at hmd hmk
      obtain ⟨x0, x1, x2, x3, xf, xl⟩ := BV.four
      go_wp2_with fail
      refine (hmk _).mono ?_
      rintro e w7 ⟨rfl, hb7⟩
      clear hm hmk x0 x1 x2 x3 xf xl BV
      have hz7 := hb7.size
      have hw7 := (X0.below hb7).lt
      replace X0 := (X0.below hb7).alloc (.cells #[.int .i64 m1, .int .i64 m2] 27)
      have hlX := X0.lt
      have hS7 := hS.below hb7
      have hl7 := hS7.lt
      replace hS := hS7.alloc (.cells #[.int .i64 m1, .int .i64 m2] 27)
      have hG7 := grown_trans hG (grown_of_below hb7 (some g))
      have hsz7 := hG7.size
      replace hG := grown_alloc hG7 (.cells #[.int .i64 m1, .int .i64 m2] 27)
      clear hS7 hG7 hb7
      have Bx := Blk.new w7 #[.int .i64 m1, .int .i64 m2] 27
      by_cases cm : m3 = 0
      · subst cm
        go_wp2_with fail
        refine (next_any B g a len cap 24 _ hS (by omega)).mono ?_
        rintro e w8 ⟨r8, rfl, l8, u8, hS, hg8⟩
        have hz8 := hg8.size
        have hsl8 := hS.lt
        replace X0 := X0.grown hg8 (by omega)
        replace Bx := Bx.grown hg8 (by omega)
        replace hG := grown_trans hG hg8
        clear hg8
        by_cases e8 : r8 = 0
        · subst e8
          go_wp2_with fail
          refine (next_any B g a len cap 3 _ hS (by omega)).mono ?_
          rintro e w9 ⟨r9, rfl, l9, u9, hS, hg9⟩
          have hz9 := hg9.size
          have hsl9 := hS.lt
          replace X0 := X0.grown hg9 (by omega)
          replace Bx := Bx.grown hg9 (by omega)
          replace hG := grown_trans hG hg9
          clear hg9
          obtain ⟨y0, y1, yf, yl⟩ := X0.two
          obtain ⟨z0, z1, zf, zl⟩ := Bx.two
          go_wp2_with fail
          have BRn := X0.set2 (.int .i64 n) (.int .i64 (r4 - r9))
          obtain ⟨t0, t1, tf, tl⟩ := BRn.two
          refine bodyPost_ret (v := .agg #[.int .i64 n, .int .i64 (r4 - r9)]) (by simp [results, Tryd.results31, go_sem, t0, t1]) rfl ?_
          exact ⟨_, _, rfl, by omega, (hS.set (by omega) (by omega)).set (by omega) (by omega), grown_new (grown_new hG (by omega)) (by omega)⟩
        · have f8 : (r8 == 0) = false := by rw [beq_eq_false_iff_ne]; exact e8
          obtain ⟨y0, y1, yf, yl⟩ := X0.two
          obtain ⟨z0, z1, zf, zl⟩ := Bx.two
          go_wp2_with fail
          have BRn := X0.set2 (.int .i64 m1) (.int .i64 m2)
          obtain ⟨t0, t1, tf, tl⟩ := BRn.two
          refine bodyPost_ret (v := .agg #[.int .i64 m1, .int .i64 m2]) (by simp [results, Tryd.results31, go_sem, t0, t1]) rfl ?_
          exact ⟨_, _, rfl, by omega, (hS.set (by omega) (by omega)).set (by omega) (by omega), grown_new (grown_new hG (by omega)) (by omega)⟩
      · have fm : (m3 == 0) = false := by rw [beq_eq_false_iff_ne]; exact cm
        go_wp2_with fail
        refine (next_any B g a len cap 3 _ hS (by omega)).mono ?_
        rintro e w9 ⟨r9, rfl, l9, u9, hS, hg9⟩
        have hz9 := hg9.size
        have hsl9 := hS.lt
        replace X0 := X0.grown hg9 (by omega)
        replace Bx := Bx.grown hg9 (by omega)
        replace hG := grown_trans hG hg9
        clear hg9
        obtain ⟨y0, y1, yf, yl⟩ := X0.two
        obtain ⟨z0, z1, zf, zl⟩ := Bx.two
        go_wp2_with fail
        have BRn := X0.set2 (.int .i64 n) (.int .i64 (r4 - r9))
        obtain ⟨t0, t1, tf, tl⟩ := BRn.two
        refine bodyPost_ret (v := .agg #[.int .i64 n, .int .i64 (r4 - r9)]) (by simp [results, Tryd.results31, go_sem, t0, t1]) rfl ?_
        exact ⟨_, _, rfl, by omega, (hS.set (by omega) (by omega)).set (by omega) (by omega), grown_new (grown_new hG (by omega)) (by omega)⟩
  · have f0 : (r2 == 0) = false := by rw [beq_eq_false_iff_ne]; exact e2
    by_cases e3 : r2 = 1
    · subst e3
      go_wp2_with fail
      refine (next_any B g a len cap 1000 _ hS (by omega)).mono ?_
      rintro e w3 ⟨r3, rfl, l3, u3, hS, hg3⟩
      have hz3 := hg3.size
      have hsl3 := hS.lt
      replace BV := BV.grown hg3 (by omega)
      replace X0 := X0.grown hg3 (by omega)
      replace hG := grown_trans hG hg3
      clear hg3
      obtain ⟨n, hn⟩ : ∃ n : Int, IntKind.i64.wrap (IntKind.i64.wrap ((r1 - 60) * 1000003) * r3) = n := ⟨_, rfl⟩
      obtain ⟨n2, hn2⟩ : ∃ n2 : Int, (r1 - 60) * 1000003 = n2 := ⟨_, rfl⟩
      have hn3 : IntKind.i64.wrap (n2 * r3) = n := by rw [← hn, hn2, IntWalk.i64_in n2 (by omega)]
      have hn4 : wrap64 (n2 * r3) = n := (IntWalk.i64_left _).symm.trans hn3
      clear hn
      go_wp2_with fail
      refine (next_any B g a len cap 4 _ hS (by omega)).mono ?_
      rintro e w4 ⟨r4, rfl, l4, u4, hS, hg4⟩
      have hz4 := hg4.size
      have hsl4 := hS.lt
      replace BV := BV.grown hg4 (by omega)
      replace X0 := X0.grown hg4 (by omega)
      replace hG := grown_trans hG hg4
      clear hg4
      go_wp2_with fail
      refine (next_any B g a len cap 6 _ hS (by omega)).mono ?_
      rintro e w5 ⟨r5, rfl, l5, u5, hS, hg5⟩
      have hz5 := hg5.size
      have hsl5 := hS.lt
      replace BV := BV.grown hg5 (by omega)
      replace X0 := X0.grown hg5 (by omega)
      replace hG := grown_trans hG hg5
      clear hg5
      by_cases e5 : r5 = 0
      · subst e5
        go_wp2_with fail
        refine (next_any B g a len cap 30 _ hS (by omega)).mono ?_
        rintro e w6 ⟨r6, rfl, l6, u6, hS, hg6⟩
        have hz6 := hg6.size
        have hsl6 := hS.lt
        replace BV := BV.grown hg6 (by omega)
        replace X0 := X0.grown hg6 (by omega)
        replace hG := grown_trans hG hg6
        clear hg6
        obtain ⟨⟨m1, m2, m3⟩, hm⟩ : ∃ r, mkV p c h s (n) r6 = r := ⟨_, rfl⟩
        have hmd := mkV_depth (p := p) (c := c) (h := h) (s := s) (n := n) (d := r6)
        have hmk := fun W => specMakeExact_any p c h s (n) r6 (by omega) W
        rw [hm] at hmd hmk
        dsimp only [xoV] at hmd hmk
        obtain ⟨x0, x1, x2, x3, xf, xl⟩ := BV.four
        go_wp2_with fail
        refine (hmk _).mono ?_
        rintro e w7 ⟨rfl, hb7⟩
        clear hm hmk x0 x1 x2 x3 xf xl BV
        have hz7 := hb7.size
        have hw7 := (X0.below hb7).lt
        replace X0 := (X0.below hb7).alloc (.cells #[.int .i64 m1, .int .i64 m2] 27)
        have hlX := X0.lt
        have hS7 := hS.below hb7
        have hl7 := hS7.lt
        replace hS := hS7.alloc (.cells #[.int .i64 m1, .int .i64 m2] 27)
        have hG7 := grown_trans hG (grown_of_below hb7 (some g))
        have hsz7 := hG7.size
        replace hG := grown_alloc hG7 (.cells #[.int .i64 m1, .int .i64 m2] 27)
        clear hS7 hG7 hb7
        have Bx := Blk.new w7 #[.int .i64 m1, .int .i64 m2] 27
        by_cases cm : m3 = 0
        · subst cm
          go_wp2_with fail
          refine (next_any B g a len cap 24 _ hS (by omega)).mono ?_
          rintro e w8 ⟨r8, rfl, l8, u8, hS, hg8⟩
          have hz8 := hg8.size
          have hsl8 := hS.lt
          replace X0 := X0.grown hg8 (by omega)
          replace Bx := Bx.grown hg8 (by omega)
          replace hG := grown_trans hG hg8
          clear hg8
          by_cases e8 : r8 = 0
          · subst e8
            go_wp2_with fail
            refine (next_any B g a len cap 3 _ hS (by omega)).mono ?_
            rintro e w9 ⟨r9, rfl, l9, u9, hS, hg9⟩
            have hz9 := hg9.size
            have hsl9 := hS.lt
            replace X0 := X0.grown hg9 (by omega)
            replace Bx := Bx.grown hg9 (by omega)
            replace hG := grown_trans hG hg9
            clear hg9
            obtain ⟨y0, y1, yf, yl⟩ := X0.two
            obtain ⟨z0, z1, zf, zl⟩ := Bx.two
            go_wp2_with fail
            have BRn := X0.set2 (.int .i64 n) (.int .i64 (r6 - r9))
            obtain ⟨t0, t1, tf, tl⟩ := BRn.two
            refine bodyPost_ret (v := .agg #[.int .i64 n, .int .i64 (r6 - r9)]) (by simp [results, Tryd.results31, go_sem, t0, t1]) rfl ?_
            exact ⟨_, _, rfl, by omega, (hS.set (by omega) (by omega)).set (by omega) (by omega), grown_new (grown_new hG (by omega)) (by omega)⟩
          · have f8 : (r8 == 0) = false := by rw [beq_eq_false_iff_ne]; exact e8
            obtain ⟨y0, y1, yf, yl⟩ := X0.two
            obtain ⟨z0, z1, zf, zl⟩ := Bx.two
            go_wp2_with fail
            have BRn := X0.set2 (.int .i64 m1) (.int .i64 m2)
            obtain ⟨t0, t1, tf, tl⟩ := BRn.two
            refine bodyPost_ret (v := .agg #[.int .i64 m1, .int .i64 m2]) (by simp [results, Tryd.results31, go_sem, t0, t1]) rfl ?_
            exact ⟨_, _, rfl, by omega, (hS.set (by omega) (by omega)).set (by omega) (by omega), grown_new (grown_new hG (by omega)) (by omega)⟩
        · have fm : (m3 == 0) = false := by rw [beq_eq_false_iff_ne]; exact cm
          go_wp2_with fail
          refine (next_any B g a len cap 3 _ hS (by omega)).mono ?_
          rintro e w9 ⟨r9, rfl, l9, u9, hS, hg9⟩
          have hz9 := hg9.size
          have hsl9 := hS.lt
          replace X0 := X0.grown hg9 (by omega)
          replace Bx := Bx.grown hg9 (by omega)
          replace hG := grown_trans hG hg9
          clear hg9
          obtain ⟨y0, y1, yf, yl⟩ := X0.two
          obtain ⟨z0, z1, zf, zl⟩ := Bx.two
          go_wp2_with fail
          have BRn := X0.set2 (.int .i64 n) (.int .i64 (r6 - r9))
          obtain ⟨t0, t1, tf, tl⟩ := BRn.two
          refine bodyPost_ret (v := .agg #[.int .i64 n, .int .i64 (r6 - r9)]) (by simp [results, Tryd.results31, go_sem, t0, t1]) rfl ?_
          exact ⟨_, _, rfl, by omega, (hS.set (by omega) (by omega)).set (by omega) (by omega), grown_new (grown_new hG (by omega)) (by omega)⟩
      · have f5 : (r5 == 0) = false := by rw [beq_eq_false_iff_ne]; exact e5
        obtain ⟨⟨m1, m2, m3⟩, hm⟩ : ∃ r, mkV p c h s (n) r4 = r := ⟨_, rfl⟩
        have hmd := mkV_depth (p := p) (c := c) (h := h) (s := s) (n := n) (d := r4)
        have hmk := fun W => specMakeExact_any p c h s (n) r4 (by omega) W
        rw [hm] at hmd hmk
        dsimp only [xoV] at hmd hmk
        obtain ⟨x0, x1, x2, x3, xf, xl⟩ := BV.four
        go_wp2_with fail
        refine (hmk _).mono ?_
        rintro e w7 ⟨rfl, hb7⟩
        clear hm hmk x0 x1 x2 x3 xf xl BV
        have hz7 := hb7.size
        have hw7 := (X0.below hb7).lt
        replace X0 := (X0.below hb7).alloc (.cells #[.int .i64 m1, .int .i64 m2] 27)
        have hlX := X0.lt
        have hS7 := hS.below hb7
        have hl7 := hS7.lt
        replace hS := hS7.alloc (.cells #[.int .i64 m1, .int .i64 m2] 27)
        have hG7 := grown_trans hG (grown_of_below hb7 (some g))
        have hsz7 := hG7.size
        replace hG := grown_alloc hG7 (.cells #[.int .i64 m1, .int .i64 m2] 27)
        clear hS7 hG7 hb7
        have Bx := Blk.new w7 #[.int .i64 m1, .int .i64 m2] 27
        by_cases cm : m3 = 0
        · subst cm
          go_wp2_with fail
          refine (next_any B g a len cap 24 _ hS (by omega)).mono ?_
          rintro e w8 ⟨r8, rfl, l8, u8, hS, hg8⟩
          have hz8 := hg8.size
          have hsl8 := hS.lt
          replace X0 := X0.grown hg8 (by omega)
          replace Bx := Bx.grown hg8 (by omega)
          replace hG := grown_trans hG hg8
          clear hg8
          by_cases e8 : r8 = 0
          · subst e8
            go_wp2_with fail
            refine (next_any B g a len cap 3 _ hS (by omega)).mono ?_
            rintro e w9 ⟨r9, rfl, l9, u9, hS, hg9⟩
            have hz9 := hg9.size
            have hsl9 := hS.lt
            replace X0 := X0.grown hg9 (by omega)
            replace Bx := Bx.grown hg9 (by omega)
            replace hG := grown_trans hG hg9
            clear hg9
            obtain ⟨y0, y1, yf, yl⟩ := X0.two
            obtain ⟨z0, z1, zf, zl⟩ := Bx.two
            go_wp2_with fail
            have BRn := X0.set2 (.int .i64 n) (.int .i64 (r4 - r9))
            obtain ⟨t0, t1, tf, tl⟩ := BRn.two
            refine bodyPost_ret (v := .agg #[.int .i64 n, .int .i64 (r4 - r9)]) (by simp [results, Tryd.results31, go_sem, t0, t1]) rfl ?_
            exact ⟨_, _, rfl, by omega, (hS.set (by omega) (by omega)).set (by omega) (by omega), grown_new (grown_new hG (by omega)) (by omega)⟩
          · have f8 : (r8 == 0) = false := by rw [beq_eq_false_iff_ne]; exact e8
            obtain ⟨y0, y1, yf, yl⟩ := X0.two
            obtain ⟨z0, z1, zf, zl⟩ := Bx.two
            go_wp2_with fail
            have BRn := X0.set2 (.int .i64 m1) (.int .i64 m2)
            obtain ⟨t0, t1, tf, tl⟩ := BRn.two
            refine bodyPost_ret (v := .agg #[.int .i64 m1, .int .i64 m2]) (by simp [results, Tryd.results31, go_sem, t0, t1]) rfl ?_
            exact ⟨_, _, rfl, by omega, (hS.set (by omega) (by omega)).set (by omega) (by omega), grown_new (grown_new hG (by omega)) (by omega)⟩
        · have fm : (m3 == 0) = false := by rw [beq_eq_false_iff_ne]; exact cm
          go_wp2_with fail
          refine (next_any B g a len cap 3 _ hS (by omega)).mono ?_
          rintro e w9 ⟨r9, rfl, l9, u9, hS, hg9⟩
          have hz9 := hg9.size
          have hsl9 := hS.lt
          replace X0 := X0.grown hg9 (by omega)
          replace Bx := Bx.grown hg9 (by omega)
          replace hG := grown_trans hG hg9
          clear hg9
          obtain ⟨y0, y1, yf, yl⟩ := X0.two
          obtain ⟨z0, z1, zf, zl⟩ := Bx.two
          go_wp2_with fail
          have BRn := X0.set2 (.int .i64 n) (.int .i64 (r4 - r9))
          obtain ⟨t0, t1, tf, tl⟩ := BRn.two
          refine bodyPost_ret (v := .agg #[.int .i64 n, .int .i64 (r4 - r9)]) (by simp [results, Tryd.results31, go_sem, t0, t1]) rfl ?_
          exact ⟨_, _, rfl, by omega, (hS.set (by omega) (by omega)).set (by omega) (by omega), grown_new (grown_new hG (by omega)) (by omega)⟩
    · have f1 : (r2 == 1) = false := by rw [beq_eq_false_iff_ne]; exact e3
      go_wp2_with fail
      refine (next_any B g a len cap 4 _ hS (by omega)).mono ?_
      rintro e w4 ⟨r4, rfl, l4, u4, hS, hg4⟩
      have hz4 := hg4.size
      have hsl4 := hS.lt
      replace BV := BV.grown hg4 (by omega)
      replace X0 := X0.grown hg4 (by omega)
      replace hG := grown_trans hG hg4
      clear hg4
      go_wp2_with fail
      refine (next_any B g a len cap 6 _ hS (by omega)).mono ?_
      rintro e w5 ⟨r5, rfl, l5, u5, hS, hg5⟩
      have hz5 := hg5.size
      have hsl5 := hS.lt
      replace BV := BV.grown hg5 (by omega)
      replace X0 := X0.grown hg5 (by omega)
      replace hG := grown_trans hG hg5
      clear hg5
      by_cases e5 : r5 = 0
      · subst e5
        go_wp2_with fail
        refine (next_any B g a len cap 30 _ hS (by omega)).mono ?_
        rintro e w6 ⟨r6, rfl, l6, u6, hS, hg6⟩
        have hz6 := hg6.size
        have hsl6 := hS.lt
        replace BV := BV.grown hg6 (by omega)
        replace X0 := X0.grown hg6 (by omega)
        replace hG := grown_trans hG hg6
        clear hg6
        obtain ⟨⟨m1, m2, m3⟩, hm⟩ : ∃ r, mkV p c h s ((r1 - 60)) r6 = r := ⟨_, rfl⟩
        have hmd := mkV_depth (p := p) (c := c) (h := h) (s := s) (n := (r1 - 60)) (d := r6)
        have hmk := fun W => specMakeExact_any p c h s ((r1 - 60)) r6 (by omega) W
        rw [hm] at hmd hmk
        dsimp only [xoV] at hmd hmk
        obtain ⟨x0, x1, x2, x3, xf, xl⟩ := BV.four
        go_wp2_with fail
        refine (hmk _).mono ?_
        rintro e w7 ⟨rfl, hb7⟩
        clear hm hmk x0 x1 x2 x3 xf xl BV
        have hz7 := hb7.size
        have hw7 := (X0.below hb7).lt
        replace X0 := (X0.below hb7).alloc (.cells #[.int .i64 m1, .int .i64 m2] 27)
        have hlX := X0.lt
        have hS7 := hS.below hb7
        have hl7 := hS7.lt
        replace hS := hS7.alloc (.cells #[.int .i64 m1, .int .i64 m2] 27)
        have hG7 := grown_trans hG (grown_of_below hb7 (some g))
        have hsz7 := hG7.size
        replace hG := grown_alloc hG7 (.cells #[.int .i64 m1, .int .i64 m2] 27)
        clear hS7 hG7 hb7
        have Bx := Blk.new w7 #[.int .i64 m1, .int .i64 m2] 27
        by_cases cm : m3 = 0
        · subst cm
          go_wp2_with fail
          refine (next_any B g a len cap 24 _ hS (by omega)).mono ?_
          rintro e w8 ⟨r8, rfl, l8, u8, hS, hg8⟩
          have hz8 := hg8.size
          have hsl8 := hS.lt
          replace X0 := X0.grown hg8 (by omega)
          replace Bx := Bx.grown hg8 (by omega)
          replace hG := grown_trans hG hg8
          clear hg8
          by_cases e8 : r8 = 0
          · subst e8
            go_wp2_with fail
            refine (next_any B g a len cap 3 _ hS (by omega)).mono ?_
            rintro e w9 ⟨r9, rfl, l9, u9, hS, hg9⟩
            have hz9 := hg9.size
            have hsl9 := hS.lt
            replace X0 := X0.grown hg9 (by omega)
            replace Bx := Bx.grown hg9 (by omega)
            replace hG := grown_trans hG hg9
            clear hg9
            obtain ⟨y0, y1, yf, yl⟩ := X0.two
            obtain ⟨z0, z1, zf, zl⟩ := Bx.two
            go_wp2_with fail
            have BRn := X0.set2 (.int .i64 (r1 - 60)) (.int .i64 (r6 - r9))
            obtain ⟨t0, t1, tf, tl⟩ := BRn.two
            refine bodyPost_ret (v := .agg #[.int .i64 (r1 - 60), .int .i64 (r6 - r9)]) (by simp [results, Tryd.results31, go_sem, t0, t1]) rfl ?_
            exact ⟨_, _, rfl, by omega, (hS.set (by omega) (by omega)).set (by omega) (by omega), grown_new (grown_new hG (by omega)) (by omega)⟩
          · have f8 : (r8 == 0) = false := by rw [beq_eq_false_iff_ne]; exact e8
            obtain ⟨y0, y1, yf, yl⟩ := X0.two
            obtain ⟨z0, z1, zf, zl⟩ := Bx.two
            go_wp2_with fail
            have BRn := X0.set2 (.int .i64 m1) (.int .i64 m2)
            obtain ⟨t0, t1, tf, tl⟩ := BRn.two
            refine bodyPost_ret (v := .agg #[.int .i64 m1, .int .i64 m2]) (by simp [results, Tryd.results31, go_sem, t0, t1]) rfl ?_
            exact ⟨_, _, rfl, by omega, (hS.set (by omega) (by omega)).set (by omega) (by omega), grown_new (grown_new hG (by omega)) (by omega)⟩
        · have fm : (m3 == 0) = false := by rw [beq_eq_false_iff_ne]; exact cm
          go_wp2_with fail
          refine (next_any B g a len cap 3 _ hS (by omega)).mono ?_
          rintro e w9 ⟨r9, rfl, l9, u9, hS, hg9⟩
          have hz9 := hg9.size
          have hsl9 := hS.lt
          replace X0 := X0.grown hg9 (by omega)
          replace Bx := Bx.grown hg9 (by omega)
          replace hG := grown_trans hG hg9
          clear hg9
          obtain ⟨y0, y1, yf, yl⟩ := X0.two
          obtain ⟨z0, z1, zf, zl⟩ := Bx.two
          go_wp2_with fail
          have BRn := X0.set2 (.int .i64 (r1 - 60)) (.int .i64 (r6 - r9))
          obtain ⟨t0, t1, tf, tl⟩ := BRn.two
          refine bodyPost_ret (v := .agg #[.int .i64 (r1 - 60), .int .i64 (r6 - r9)]) (by simp [results, Tryd.results31, go_sem, t0, t1]) rfl ?_
          exact ⟨_, _, rfl, by omega, (hS.set (by omega) (by omega)).set (by omega) (by omega), grown_new (grown_new hG (by omega)) (by omega)⟩
      · have f5 : (r5 == 0) = false := by rw [beq_eq_false_iff_ne]; exact e5
        obtain ⟨⟨m1, m2, m3⟩, hm⟩ : ∃ r, mkV p c h s ((r1 - 60)) r4 = r := ⟨_, rfl⟩
        have hmd := mkV_depth (p := p) (c := c) (h := h) (s := s) (n := (r1 - 60)) (d := r4)
        have hmk := fun W => specMakeExact_any p c h s ((r1 - 60)) r4 (by omega) W
        rw [hm] at hmd hmk
        dsimp only [xoV] at hmd hmk
        obtain ⟨x0, x1, x2, x3, xf, xl⟩ := BV.four
        go_wp2_with fail
        refine (hmk _).mono ?_
        rintro e w7 ⟨rfl, hb7⟩
        clear hm hmk x0 x1 x2 x3 xf xl BV
        have hz7 := hb7.size
        have hw7 := (X0.below hb7).lt
        replace X0 := (X0.below hb7).alloc (.cells #[.int .i64 m1, .int .i64 m2] 27)
        have hlX := X0.lt
        have hS7 := hS.below hb7
        have hl7 := hS7.lt
        replace hS := hS7.alloc (.cells #[.int .i64 m1, .int .i64 m2] 27)
        have hG7 := grown_trans hG (grown_of_below hb7 (some g))
        have hsz7 := hG7.size
        replace hG := grown_alloc hG7 (.cells #[.int .i64 m1, .int .i64 m2] 27)
        clear hS7 hG7 hb7
        have Bx := Blk.new w7 #[.int .i64 m1, .int .i64 m2] 27
        by_cases cm : m3 = 0
        · subst cm
          go_wp2_with fail
          refine (next_any B g a len cap 24 _ hS (by omega)).mono ?_
          rintro e w8 ⟨r8, rfl, l8, u8, hS, hg8⟩
          have hz8 := hg8.size
          have hsl8 := hS.lt
          replace X0 := X0.grown hg8 (by omega)
          replace Bx := Bx.grown hg8 (by omega)
          replace hG := grown_trans hG hg8
          clear hg8
          by_cases e8 : r8 = 0
          · subst e8
            go_wp2_with fail
            refine (next_any B g a len cap 3 _ hS (by omega)).mono ?_
            rintro e w9 ⟨r9, rfl, l9, u9, hS, hg9⟩
            have hz9 := hg9.size
            have hsl9 := hS.lt
            replace X0 := X0.grown hg9 (by omega)
            replace Bx := Bx.grown hg9 (by omega)
            replace hG := grown_trans hG hg9
            clear hg9
            obtain ⟨y0, y1, yf, yl⟩ := X0.two
            obtain ⟨z0, z1, zf, zl⟩ := Bx.two
            go_wp2_with fail
            have BRn := X0.set2 (.int .i64 (r1 - 60)) (.int .i64 (r4 - r9))
            obtain ⟨t0, t1, tf, tl⟩ := BRn.two
            refine bodyPost_ret (v := .agg #[.int .i64 (r1 - 60), .int .i64 (r4 - r9)]) (by simp [results, Tryd.results31, go_sem, t0, t1]) rfl ?_
            exact ⟨_, _, rfl, by omega, (hS.set (by omega) (by omega)).set (by omega) (by omega), grown_new (grown_new hG (by omega)) (by omega)⟩
          · have f8 : (r8 == 0) = false := by rw [beq_eq_false_iff_ne]; exact e8
            obtain ⟨y0, y1, yf, yl⟩ := X0.two
            obtain ⟨z0, z1, zf, zl⟩ := Bx.two
            go_wp2_with fail
            have BRn := X0.set2 (.int .i64 m1) (.int .i64 m2)
            obtain ⟨t0, t1, tf, tl⟩ := BRn.two
            refine bodyPost_ret (v := .agg #[.int .i64 m1, .int .i64 m2]) (by simp [results, Tryd.results31, go_sem, t0, t1]) rfl ?_
            exact ⟨_, _, rfl, by omega, (hS.set (by omega) (by omega)).set (by omega) (by omega), grown_new (grown_new hG (by omega)) (by omega)⟩
        · have fm : (m3 == 0) = false := by rw [beq_eq_false_iff_ne]; exact cm
          go_wp2_with fail
          refine (next_any B g a len cap 3 _ hS (by omega)).mono ?_
          rintro e w9 ⟨r9, rfl, l9, u9, hS, hg9⟩
          have hz9 := hg9.size
          have hsl9 := hS.lt
          replace X0 := X0.grown hg9 (by omega)
          replace Bx := Bx.grown hg9 (by omega)
          replace hG := grown_trans hG hg9
          clear hg9
          obtain ⟨y0, y1, yf, yl⟩ := X0.two
          obtain ⟨z0, z1, zf, zl⟩ := Bx.two
          go_wp2_with fail
          have BRn := X0.set2 (.int .i64 (r1 - 60)) (.int .i64 (r4 - r9))
          obtain ⟨t0, t1, tf, tl⟩ := BRn.two
          refine bodyPost_ret (v := .agg #[.int .i64 (r1 - 60), .int .i64 (r4 - r9)]) (by simp [results, Tryd.results31, go_sem, t0, t1]) rfl ?_
          exact ⟨_, _, rfl, by omega, (hS.set (by omega) (by omega)).set (by omega) (by omega), grown_new (grown_new hG (by omega)) (by omega)⟩
end Go.Proofs.YtenbihglmblalaaDoor
