/- The model's draws of chapter 10: a variant and a position. -/
import Derived.Test.YtjbcbcoaoplllaaDoorSrc3
import Derived.Test.YtjbcbcoaoplllaaDoorOwnS
import Derived.Lib.MinMax
namespace Go.Proofs.YtjbcbcoaoplllaaDoor
open Go.ChangeShapes Go.WideShapes Go.ChangeAt Go.RowKit
set_option linter.unusedVariables false
set_option linter.unusedSimpArgs false

/-- A variant has been drawn. -/
def V10Post (B g : Nat) (a : Option Addr) (len cap : Nat) (w : World) (e : Ending) (w' : World) : Prop :=
  ∃ p c h s : Int, e = .returned (.agg #[.int .i64 p, .int .i64 c, .int .i64 h, .int .i64 s]) ∧ (0 ≤ c ∧ c ≤ 16) ∧ (1 ≤ h ∧ h ≤ 16) ∧ Src B w' g a len cap ∧ w.grownBy w' (some g)
theorem Blk.put4 {w : World} {B : Nat} {a b c d : Value} {t : TypeId} (h : Blk w B #[a, b, c, d] t) (x y z u : Value) : Blk ((((w.setCell ⟨B, 0, none⟩ x).setCell ⟨B, 1, none⟩ y).setCell ⟨B, 2, none⟩ z).setCell ⟨B, 3, none⟩ u) B #[x, y, z, u] t := by
  have := (((h.set (i := 0) x).set (i := 1) y).set (i := 2) z).set (i := 3) u
  simp only [List.setIfInBounds_toArray, List.set_cons_zero, List.set_cons_succ] at this
  exact this
set_option maxRecDepth 8000 in
set_option maxHeartbeats 1000000 in
theorem draw10V_any (B g : Nat) (a : Option Addr) (len cap : Nat) (w : World) (hS : Src B w g a len cap) :
    Calls Tryd.prog 71 #[.pointer (some ⟨g, 0, none⟩)] w (V10Post B g a len cap w) := by
  have hgl := hS.lt
  have hgB := hS.base
  go_enter Tryd.func71, Tryd.ntmps71
  go_wp2_with fail
  have B0 := Blk.new w #[.int .i64 0, .int .i64 0, .int .i64 0, .int .i64 0] 26
  replace hS := hS.alloc (.cells #[.int .i64 0, .int .i64 0, .int .i64 0, .int .i64 0] 26)
  have hG : w.grownBy (w.alloc (.cells #[.int .i64 0, .int .i64 0, .int .i64 0, .int .i64 0] 26)) (some g) := World.grownBy_alloc w _ _
  have hz0 : (w.alloc (.cells #[.int .i64 0, .int .i64 0, .int .i64 0, .int .i64 0] 26)).heap.size = w.heap.size + 1 := by simp
  refine (next_any B g a len cap 3 _ hS (by omega)).mono ?_
  rintro e w1 ⟨r1, rfl, l1, u1, hS, hg1⟩
  have hz1 := hg1.size
  have hsl1 := hS.lt
  replace B0 := B0.grown hg1 (by omega)
  replace hG := grown_trans hG hg1
  clear hg1
  go_wp2_with fail
  refine (next_any B g a len cap 3 _ hS (by omega)).mono ?_
  rintro e w2 ⟨r2, rfl, l2, u2, hS, hg2⟩
  have hz2 := hg2.size
  have hsl2 := hS.lt
  replace B0 := B0.grown hg2 (by omega)
  replace hG := grown_trans hG hg2
  clear hg2
  go_wp2_with fail
  refine (next_any B g a len cap 3 _ hS (by omega)).mono ?_
  rintro e w3 ⟨r3, rfl, l3, u3, hS, hg3⟩
  have hz3 := hg3.size
  have hsl3 := hS.lt
  replace B0 := B0.grown hg3 (by omega)
  replace hG := grown_trans hG hg3
  clear hg3
  go_wp2_with fail
  have VB := #[Value.int .i64 6]
  clear VB
  have Bv := Blk.new w3 #[.int .i64 6, .int .i64 (1 + r1), .int .i64 (1 + r2), .int .i64 (1 + r3)] 26
  have hl3 := B0.lt
  replace B0 := B0.alloc (.cells #[.int .i64 6, .int .i64 (1 + r1), .int .i64 (1 + r2), .int .i64 (1 + r3)] 26)
  replace hS := hS.alloc (.cells #[.int .i64 6, .int .i64 (1 + r1), .int .i64 (1 + r2), .int .i64 (1 + r3)] 26)
  replace hG := grown_alloc hG (.cells #[.int .i64 6, .int .i64 (1 + r1), .int .i64 (1 + r2), .int .i64 (1 + r3)] 26)
  have hs3 := hsl3
  generalize w3.alloc (.cells #[.int .i64 6, .int .i64 (1 + r1), .int .i64 (1 + r2), .int .i64 (1 + r3)] 26) = wv at *
  generalize w3.heap.size = gv at *
  refine (next_any B g a len cap 24 _ hS (by omega)).mono ?_
  rintro e w4 ⟨r4, rfl, l4, u4, hS, hg4⟩
  have hz4 := hg4.size
  have hsl4 := hS.lt
  replace B0 := B0.grown hg4 (by omega)
  replace Bv := Bv.grown hg4 (by omega)
  replace hG := grown_trans hG hg4
  clear hg4
  by_cases e0 : r4 = 0
  · subst e0
    go_wp2_with fail
    refine (next_any B g a len cap 2 _ hS (by omega)).mono ?_
    rintro e w5 ⟨r5, rfl, l5, u5, hS, hg5⟩
    have hz5 := hg5.size
    have hsl5 := hS.lt
    replace B0 := B0.grown hg5 (by omega)
    replace Bv := Bv.grown hg5 (by omega)
    replace hG := grown_trans hG hg5
    clear hg5
    obtain ⟨y0, y1, y2, y3, yf, yl⟩ := B0.four
    obtain ⟨x0, x1, x2, x3, xf, xl⟩ := Bv.four
    go_wp2_with fail
    have B0' := B0.other (g := gv) (o := 3) (v := .int .i64 (7 * r5)) (by omega)
    have hS' := hS.set (g' := gv) (o := 3) (v := .int .i64 (7 * r5)) (by omega) (by omega)
    have hG' := grown_new (g' := gv) (o := 3) (v := .int .i64 (7 * r5)) hG (by omega)
    have BRn := B0'.put4 (.int .i64 6) (.int .i64 (1 + r1)) (.int .i64 (1 + r2)) (.int .i64 (7 * r5))
    obtain ⟨t0, t1, t2, t3, tf, tl⟩ := BRn.four
    refine bodyPost_ret (v := .agg #[.int .i64 6, .int .i64 (1 + r1), .int .i64 (1 + r2), .int .i64 (7 * r5)]) (by simp [results, Tryd.results71, go_sem, t0, t1, t2, t3]) rfl ?_
    exact ⟨_, _, _, _, rfl, by omega, by omega, (((hS'.set (by omega) (by omega)).set (by omega) (by omega)).set (by omega) (by omega)).set (by omega) (by omega), grown_new (grown_new (grown_new (grown_new hG' (Nat.le_refl _)) (Nat.le_refl _)) (Nat.le_refl _)) (Nat.le_refl _)⟩
  · have f0 : (r4 == 0) = false := by rw [beq_eq_false_iff_ne]; exact e0
    by_cases e1 : r4 = 1
    · subst e1
      go_wp2_with fail
      refine (next_any B g a len cap 2 _ hS (by omega)).mono ?_
      rintro e w5 ⟨r5, rfl, l5, u5, hS, hg5⟩
      have hz5 := hg5.size
      have hsl5 := hS.lt
      replace B0 := B0.grown hg5 (by omega)
      replace Bv := Bv.grown hg5 (by omega)
      replace hG := grown_trans hG hg5
      clear hg5
      obtain ⟨y0, y1, y2, y3, yf, yl⟩ := B0.four
      obtain ⟨x0, x1, x2, x3, xf, xl⟩ := Bv.four
      go_wp2_with fail
      have B0' := B0.other (g := gv) (o := 1) (v := .int .i64 (16 * r5)) (by omega)
      have hS' := hS.set (g' := gv) (o := 1) (v := .int .i64 (16 * r5)) (by omega) (by omega)
      have hG' := grown_new (g' := gv) (o := 1) (v := .int .i64 (16 * r5)) hG (by omega)
      have BRn := B0'.put4 (.int .i64 6) (.int .i64 (16 * r5)) (.int .i64 (1 + r2)) (.int .i64 (1 + r3))
      obtain ⟨t0, t1, t2, t3, tf, tl⟩ := BRn.four
      refine bodyPost_ret (v := .agg #[.int .i64 6, .int .i64 (16 * r5), .int .i64 (1 + r2), .int .i64 (1 + r3)]) (by simp [results, Tryd.results71, go_sem, t0, t1, t2, t3]) rfl ?_
      exact ⟨_, _, _, _, rfl, by omega, by omega, (((hS'.set (by omega) (by omega)).set (by omega) (by omega)).set (by omega) (by omega)).set (by omega) (by omega), grown_new (grown_new (grown_new (grown_new hG' (Nat.le_refl _)) (Nat.le_refl _)) (Nat.le_refl _)) (Nat.le_refl _)⟩
    · have f1 : (r4 == 1) = false := by rw [beq_eq_false_iff_ne]; exact e1
      by_cases e2 : r4 = 2
      · subst e2
        obtain ⟨y0, y1, y2, y3, yf, yl⟩ := B0.four
        obtain ⟨x0, x1, x2, x3, xf, xl⟩ := Bv.four
        go_wp2_with fail
        have B0' := (((B0.other (g := gv) (o := 0) (v := .int .i64 24) (by omega)).other (g := gv) (o := 1) (v := .int .i64 15) (by omega)).other (g := gv) (o := 2) (v := .int .i64 6) (by omega)).other (g := gv) (o := 3) (v := .int .i64 6) (by omega)
        have hS' := (((hS.set (g' := gv) (o := 0) (v := .int .i64 24) (by omega) (by omega)).set (g' := gv) (o := 1) (v := .int .i64 15) (by omega) (by omega)).set (g' := gv) (o := 2) (v := .int .i64 6) (by omega) (by omega)).set (g' := gv) (o := 3) (v := .int .i64 6) (by omega) (by omega)
        have hG' := grown_new (g' := gv) (o := 3) (v := .int .i64 6) (grown_new (g' := gv) (o := 2) (v := .int .i64 6) (grown_new (g' := gv) (o := 1) (v := .int .i64 15) (grown_new (g' := gv) (o := 0) (v := .int .i64 24) hG (by omega)) (by omega)) (by omega)) (by omega)
        have BRn := B0'.put4 (.int .i64 24) (.int .i64 15) (.int .i64 6) (.int .i64 6)
        obtain ⟨t0, t1, t2, t3, tf, tl⟩ := BRn.four
        refine bodyPost_ret (v := .agg #[.int .i64 24, .int .i64 15, .int .i64 6, .int .i64 6]) (by simp [results, Tryd.results71, go_sem, t0, t1, t2, t3]) rfl ?_
        exact ⟨_, _, _, _, rfl, by omega, by omega, (((hS'.set (by omega) (by omega)).set (by omega) (by omega)).set (by omega) (by omega)).set (by omega) (by omega), grown_new (grown_new (grown_new (grown_new hG' (Nat.le_refl _)) (Nat.le_refl _)) (Nat.le_refl _)) (Nat.le_refl _)⟩
      · have f2 : (r4 == 2) = false := by rw [beq_eq_false_iff_ne]; exact e2
        obtain ⟨y0, y1, y2, y3, yf, yl⟩ := B0.four
        obtain ⟨x0, x1, x2, x3, xf, xl⟩ := Bv.four
        go_wp2_with fail
        have B0' := B0
        have hS' := hS
        have hG' := hG
        have BRn := B0'.put4 (.int .i64 6) (.int .i64 (1 + r1)) (.int .i64 (1 + r2)) (.int .i64 (1 + r3))
        obtain ⟨t0, t1, t2, t3, tf, tl⟩ := BRn.four
        refine bodyPost_ret (v := .agg #[.int .i64 6, .int .i64 (1 + r1), .int .i64 (1 + r2), .int .i64 (1 + r3)]) (by simp [results, Tryd.results71, go_sem, t0, t1, t2, t3]) rfl ?_
        exact ⟨_, _, _, _, rfl, by omega, by omega, (((hS'.set (by omega) (by omega)).set (by omega) (by omega)).set (by omega) (by omega)).set (by omega) (by omega), grown_new (grown_new (grown_new (grown_new hG' (Nat.le_refl _)) (Nat.le_refl _)) (Nat.le_refl _)) (Nat.le_refl _)⟩
theorem grown_low {w W w4 : World} {g base : Nat} (h : w.grownBy W (some g)) (hb : Below base W w4) (hn : w.heap.size ≤ base) : w.grownBy w4 (some g) :=
  ⟨hb.os.trans h.os, hb.tape.trans h.tape, hb.output.trans h.output, Nat.le_trans h.size hb.size, fun i hi hr => (hb.block i (by omega)).trans (h.block i hi hr)⟩
theorem Blk.keepL {w w' : World} {g base : Nat} {vs : Array Value} {t : TypeId} (h : Blk w g vs t) (hg : g < base) (hb : Below base w w') : Blk w' g vs t := (hb.block g hg).trans h
theorem Src.keepL {B g base : Nat} {a : Option Addr} {len cap : Nat} {w w' : World} (h : Src B w g a len cap) (hg : g < base) (hb : Below base w w') : Src B w' g a len cap := by
  obtain ⟨k, s, hB, h1, h2, h3, h4, h5, h6⟩ := h
  exact ⟨k, s, hB.keepL hg hb, h1, h2, h3, h4, h5, h6.below (hb.mono (by omega))⟩
theorem Own.by {w w' : World} {base : Nat} {v : Value} {l : List Int} (h : Own w base v l) (k : ∀ i, base ≤ i → i < w.heap.size → w'.heap[i]? = w.heap[i]?) : Own w' base v l := by
  obtain ⟨hl, h1 | ⟨g, cap, cur, hv, hb, hh, hc⟩⟩ := h
  · exact ⟨hl, .inl h1⟩
  · exact ⟨hl, .inr ⟨g, cap, cur, hv, hb, (k g hb (Array.getElem?_eq_some_iff.1 hh).1).trans hh, hc⟩⟩
theorem Own.grownL {w w' : World} {base g : Nat} {v : Value} {l : List Int} (h : Own w base v l) (k : w.grownBy w' (some g)) (hg : g < base) : Own w' base v l :=
  h.by fun i h1 h2 => k.block i h2 (fun e => by cases e; omega)
/-- A position has been drawn. -/
def Dr10 (B g : Nat) (a : Option Addr) (len cap : Nat) (w : World) (e : Ending) (w' : World) : Prop :=
  ∃ (aL : Option Addr) (kL : Nat) (xs : List Int), e = .returned (.slice aL xs.length kL) ∧ (0 < xs.length ∧ xs.length ≤ 25) ∧ OSl w.heap.size w'.heap.size w' aL xs ∧ Src B w' g a len cap ∧ w.grownBy w' (some g)
set_option maxRecDepth 8000 in
set_option maxHeartbeats 1000000 in
theorem draw10Big_any (B g : Nat) (a : Option Addr) (len cap : Nat) (w : World) (hS : Src B w g a len cap) :
    Calls Tryd.prog 65 #[.pointer (some ⟨g, 0, none⟩)] w (V10Post B g a len cap w) := by
  have hgl := hS.lt
  have hgB := hS.base
  go_enter Tryd.func65, Tryd.ntmps65
  go_wp2_with fail
  have B0 := Blk.new w #[.int .i64 0, .int .i64 0, .int .i64 0, .int .i64 0] 26
  replace hS := hS.alloc (.cells #[.int .i64 0, .int .i64 0, .int .i64 0, .int .i64 0] 26)
  have hG : w.grownBy (w.alloc (.cells #[.int .i64 0, .int .i64 0, .int .i64 0, .int .i64 0] 26)) (some g) := World.grownBy_alloc w _ _
  have hz0 : (w.alloc (.cells #[.int .i64 0, .int .i64 0, .int .i64 0, .int .i64 0] 26)).heap.size = w.heap.size + 1 := by simp
  refine (next_any B g a len cap 2 _ hS (by omega)).mono ?_
  rintro e w1 ⟨r1, rfl, l1, u1, hS, hg1⟩
  have hz1 := hg1.size
  have hsl1 := hS.lt
  replace B0 := B0.grown hg1 (by omega)
  replace hG := grown_trans hG hg1
  clear hg1
  by_cases e0 : r1 = 0
  · subst e0
    go_wp2_with fail
    refine (draw10V_any B g a len cap _ hS).mono ?_
    rintro e w2 ⟨p, c, h, s, rfl, bc, bh, hS, hg2⟩
    replace B0 := B0.grown hg2 (by omega)
    replace hG := grown_trans hG hg2
    clear hg2
    obtain ⟨y0, y1, y2, y3, yf, yl⟩ := B0.four
    go_wp2_with fail
    have BRn := B0.put4 (.int .i64 p) (.int .i64 c) (.int .i64 h) (.int .i64 s)
    obtain ⟨t0, t1, t2, t3, tf, tl⟩ := BRn.four
    refine bodyPost_ret (v := .agg #[.int .i64 p, .int .i64 c, .int .i64 h, .int .i64 s]) (by simp [results, Tryd.results65, go_sem, t0, t1, t2, t3]) rfl ?_
    exact ⟨_, _, _, _, rfl, bc, bh, (((hS.set (by omega) (by omega)).set (by omega) (by omega)).set (by omega) (by omega)).set (by omega) (by omega), grown_new (grown_new (grown_new (grown_new hG (Nat.le_refl _)) (Nat.le_refl _)) (Nat.le_refl _)) (Nat.le_refl _)⟩
  · have f0 : (r1 == 0) = false := by rw [beq_eq_false_iff_ne]; exact e0
    go_wp2_with fail
    refine (next_any B g a len cap 6 _ hS (by omega)).mono ?_
    rintro e w2 ⟨r2, rfl, l2, u2, hS, hg2⟩
    have hz2 := hg2.size
    have hsl2 := hS.lt
    replace B0 := B0.grown hg2 (by omega)
    replace hG := grown_trans hG hg2
    clear hg2
    go_wp2_with fail
    refine (next_any B g a len cap 6 _ hS (by omega)).mono ?_
    rintro e w3 ⟨r3, rfl, l3, u3, hS, hg3⟩
    have hz3 := hg3.size
    have hsl3 := hS.lt
    replace B0 := B0.grown hg3 (by omega)
    replace hG := grown_trans hG hg3
    clear hg3
    go_wp2_with fail
    refine (next_any B g a len cap 6 _ hS (by omega)).mono ?_
    rintro e w4 ⟨r4, rfl, l4, u4, hS, hg4⟩
    have hz4 := hg4.size
    have hsl4 := hS.lt
    replace B0 := B0.grown hg4 (by omega)
    replace hG := grown_trans hG hg4
    clear hg4
    obtain ⟨y0, y1, y2, y3, yf, yl⟩ := B0.four
    go_wp2_with fail
    have BRn := B0.put4 (.int .i64 12) (.int .i64 (1 + r2)) (.int .i64 (1 + r3)) (.int .i64 (1 + r4))
    obtain ⟨t0, t1, t2, t3, tf, tl⟩ := BRn.four
    refine bodyPost_ret (v := .agg #[.int .i64 12, .int .i64 (1 + r2), .int .i64 (1 + r3), .int .i64 (1 + r4)]) (by simp [results, Tryd.results65, go_sem, t0, t1, t2, t3]) rfl ?_
    exact ⟨_, _, _, _, rfl, by omega, by omega, (((hS.set (by omega) (by omega)).set (by omega) (by omega)).set (by omega) (by omega)).set (by omega) (by omega), grown_new (grown_new (grown_new (grown_new hG (Nat.le_refl _)) (Nat.le_refl _)) (Nat.le_refl _)) (Nat.le_refl _)⟩
set_option maxRecDepth 8000 in
set_option maxHeartbeats 2000000 in
theorem draw10_any (B g : Nat) (a : Option Addr) (len cap : Nat) (p c h s : Int) (hc0 : 0 ≤ c) (hc1 : c ≤ 16) (hh : 1 ≤ h) (w : World) (hS : Src B w g a len cap) :
    Calls Tryd.prog 66 #[.pointer (some ⟨g, 0, none⟩), .agg #[.int .i64 p, .int .i64 c, .int .i64 h, .int .i64 s]] w (Dr10 B g a len cap w) := by
  have hgl := hS.lt
  have hgB := hS.base
  have BV := Blk.new w #[.int .i64 p, .int .i64 c, .int .i64 h, .int .i64 s] 26
  replace hS := hS.alloc (.cells #[.int .i64 p, .int .i64 c, .int .i64 h, .int .i64 s] 26)
  have hG : w.grownBy (w.alloc (.cells #[.int .i64 p, .int .i64 c, .int .i64 h, .int .i64 s] 26)) (some g) := World.grownBy_alloc w _ _
  have hz0 : (w.alloc (.cells #[.int .i64 p, .int .i64 c, .int .i64 h, .int .i64 s] 26)).heap.size = w.heap.size + 1 := by simp
  have hO := Own.start (w.alloc (.cells #[.int .i64 p, .int .i64 c, .int .i64 h, .int .i64 s] 26))
  rw [hz0] at hO
  obtain ⟨B1, hB1⟩ : ∃ B1, w.heap.size + 1 = B1 := ⟨_, rfl⟩
  rw [hB1] at hO
  have hmh24 : min 24 h ≤ 24 := Int.min_le_left _ _
  have hmh1 : 1 ≤ min 24 h := by omega
  obtain ⟨mh, hmh⟩ : ∃ mh, min 24 h = mh := ⟨_, rfl⟩
  rw [hmh] at hmh24 hmh1
  obtain ⟨N, hN⟩ : ∃ N : Nat, mh.toNat = N := ⟨_, rfl⟩
  have hN24 : N ≤ 24 := by omega
  have hN1 : 1 ≤ N := by omega
  have hNI : ∀ j : Nat, ((j : Int) < mh) = (j < N) := fun j => by rw [eq_iff_iff]; omega
  obtain ⟨x0, x1, x2, x3, xf, xl⟩ := BV.four
  go_enter Tryd.func66, Tryd.ntmps66
  go_wp2_with fail
  clear x0 x1 x2 x3 xf xl
  have hvl : w.heap.size < B1 := by omega
  replace BV := BV.alloc (.cells #[] 2)
  replace hS := hS.alloc (.cells #[] 2)
  replace hG := grown_alloc hG (.cells #[] 2)
  (try rw [hz0])
  (try rw [hB1])
  have hB0 : B1 ≤ ((w.alloc (.cells #[.int .i64 p, .int .i64 c, .int .i64 h, .int .i64 s] 26)).alloc (.cells #[] 2)).heap.size := by simp; omega
  generalize ((w.alloc (.cells #[.int .i64 p, .int .i64 c, .int .i64 h, .int .i64 s] 26)).alloc (.cells #[] 2)) = v0 at *
  go_loopg [5, 6, 7] N (fun m q5 q6 q7 wr => ∃ (W : World) (j : Nat) (xs : List Int) (lf : Int), W = wr ∧ j ≤ N ∧ m = N - j ∧ q7 = .int .i64 j ∧ q6 = .int .i64 lf ∧ 0 ≤ lf ∧ lf ≤ 16 ∧ xs.length = j ∧ Own W B1 q5 xs ∧ Blk W w.heap.size #[.int .i64 p, .int .i64 c, .int .i64 h, .int .i64 s] 26 ∧ Src B W g a len cap ∧ w.grownBy W (some g) ∧ B1 ≤ W.heap.size)
  case atStart => exact ⟨_, 0, [], c, rfl, by omega, by omega, rfl, rfl, hc0, hc1, rfl, hO, BV, hS, hG, hB0⟩
  case round =>
    clear hO BV hS hG hB0
    obtain ⟨W, j, xs, lf, hW, hj, hm, rfl, rfl, hl0, hl1, hxl, hO, BV, hS, hG, hB0⟩ := hrel
    subst hW
    have hNj := hNI j
    obtain ⟨x0, x1, x2, x3, xf, xl⟩ := BV.four
    by_cases hlt : j < N
    · have hlt' : (j : Int) < mh := hNj.mpr hlt
      have hj0 : (0 : Int) ≤ (j : Int) := by omega
      have hw1 : IntKind.i64.wrap (lf + 1) = lf + 1 := IntWalk.i64_in _ (by omega)
      have hmx : max 1 (lf + 1) = lf + 1 := by omega
      go_wp2_with fail
      clear x0 x1 x2 x3 xf xl
      refine (next_any B g a len cap _ _ hS (by omega)).mono ?_
      rintro e w1 ⟨r1, rfl, l1, u1, hS, hg1⟩
      replace BV := BV.grown hg1 (by omega)
      replace hO := hO.grownL hg1 (by omega)
      replace hG := grown_trans hG hg1
      have hz1 := hg1.size
      clear hg1
      go_wp2_with fail
      refine (next_any B g a len cap 3 _ hS (by omega)).mono ?_
      rintro e w2 ⟨r2, rfl, l2, u2, hS, hg2⟩
      replace BV := BV.grown hg2 (by omega)
      replace hO := hO.grownL hg2 (by omega)
      replace hG := grown_trans hG hg2
      have hz2 := hg2.size
      clear hg2
      have hB2 : B1 ≤ w2.heap.size := by omega
      clear hB0
      by_cases e2 : r2 = 0
      · subst e2
        go_wp2_with (at_builtin; refine wp_push rfl _ _ rfl B1 _ xs rfl hO 0 rfl (by omega) hB2 ?_; intro v2 w4 hO2 hb4)
        go_roundg (N - (j + 1))
        case measure => omega
        case rel => exact ⟨_, j + 1, xs ++ [0], lf, rfl, by omega, rfl, by go_num, by go_num, by omega, by omega, by simp [hxl], hO2, BV.keepL hvl hb4, hS.keepL (by omega) hb4, grown_low hG hb4 (by omega), Nat.le_trans hB2 hb4.size⟩
      · have f2 : (r2 == 0) = false := by rw [beq_eq_false_iff_ne]; exact e2
        go_wp2_with (at_builtin; refine wp_push rfl _ _ rfl B1 _ xs rfl hO r1 rfl (by omega) hB2 ?_; intro v2 w4 hO2 hb4)
        go_roundg (N - (j + 1))
        case measure => omega
        case rel => exact ⟨_, j + 1, xs ++ [r1], lf - r1, rfl, by omega, rfl, by go_num, by go_num, by omega, by omega, by simp [hxl], hO2, BV.keepL hvl hb4, hS.keepL (by omega) hb4, grown_low hG hb4 (by omega), Nat.le_trans hB2 hb4.size⟩
    · obtain rfl : j = N := by omega
      subst hxl
      have hlt' : ¬ (xs.length : Int) < mh := fun q => hlt (hNj.mp q)
      go_wp2_with fail
      clear x0 x1 x2 x3 xf xl
      refine (next_any B g a len cap 30 _ hS (by omega)).mono ?_
      rintro e w1 ⟨r1, rfl, l1, u1, hS, hg1⟩
      replace BV := BV.grown hg1 (by omega)
      replace hO := hO.grownL hg1 (by omega)
      replace hG := grown_trans hG hg1
      have hz1 := hg1.size
      clear hg1
      have hB2 : B1 ≤ w1.heap.size := by omega
      clear hB0
      obtain ⟨x0, x1, x2, x3, xf, xl⟩ := BV.four
      obtain ⟨aX, kX, rfl⟩ := hO.form
      have hOs := hO.osl
      by_cases e0 : r1 = 0
      · subst e0
        go_wp2_with (at_builtin; refine wp_push rfl _ _ rfl B1 _ xs rfl hO 0 rfl (by omega) hB2 ?_; intro v2 w4 hO2 hb4)
        obtain ⟨aY, kY, rfl⟩ := hO2.form
        have hOs2 := hO2.osl
        go_ret
        exact ⟨_, _, xs ++ [0], rfl, by simp; omega, hOs2.mono (by omega) (Nat.le_refl _), hS.keepL (by omega) hb4, grown_low hG hb4 (by omega)⟩
      · have f0 : (r1 == 0) = false := by rw [beq_eq_false_iff_ne]; exact e0
        by_cases hx0 : 0 < xs.length
        · have hx0' : (0 : Int) < (xs.length : Int) := by omega
          rcases hOs with ⟨-, q⟩ | ⟨g1, rfl, q1, q2, R⟩
          · rw [q] at hx0
            simp at hx0
          have hxI : (xs.length : Int) ≤ 24 := by omega
          by_cases e1 : r1 = 1
          · subst e1
            have hold := R.cell 0 hx0
            have hfr := R.free
            go_wp2_with fail
            go_ret
            exact ⟨_, kX, xs.set 0 (-1), by simp, by simp; omega, .inr ⟨g1, rfl, by omega, by simpa using q2, R.set 0 (-1)⟩, hS.set (by omega) (by omega), grown_new hG (by omega)⟩
          · have f1 : (r1 == 1) = false := by rw [beq_eq_false_iff_ne]; exact e1
            by_cases e2 : r1 = 2
            · subst e2
              have hold := R.cell (xs.length - 1) (by omega)
              have hfr := R.free
              have hw1 : IntKind.i64.wrap (c + 1) = c + 1 := IntWalk.i64_in _ (by omega)
              go_wp2_with fail
              go_ret
              exact ⟨_, kX, xs.set (xs.length - 1) (c + 1), by simp, by simp; omega, .inr ⟨g1, rfl, by omega, by simpa using q2, R.set (xs.length - 1) (c + 1)⟩, hS.set (by omega) (by omega), grown_new hG (by omega)⟩
            · have f2 : (r1 == 2) = false := by rw [beq_eq_false_iff_ne]; exact e2
              go_wp2_with fail
              go_ret
              exact ⟨_, _, xs, rfl, by omega, .inr ⟨g1, rfl, by omega, q2, R⟩, hS, hG⟩
        · have hx0' : ¬ (0 : Int) < (xs.length : Int) := by omega
          by_cases e1 : r1 = 1
          · subst e1
            go_wp2_with fail
            go_ret
            exact ⟨_, _, xs, rfl, by omega, hOs.mono (by omega) (Nat.le_refl _), hS, hG⟩
          · have f1 : (r1 == 1) = false := by rw [beq_eq_false_iff_ne]; exact e1
            by_cases e2 : r1 = 2
            · subst e2
              go_wp2_with fail
              go_ret
              exact ⟨_, _, xs, rfl, by omega, hOs.mono (by omega) (Nat.le_refl _), hS, hG⟩
            · have f2 : (r1 == 2) = false := by rw [beq_eq_false_iff_ne]; exact e2
              go_wp2_with fail
              go_ret
              exact ⟨_, _, xs, rfl, by omega, hOs.mono (by omega) (Nat.le_refl _), hS, hG⟩
end Go.Proofs.YtjbcbcoaoplllaaDoor
