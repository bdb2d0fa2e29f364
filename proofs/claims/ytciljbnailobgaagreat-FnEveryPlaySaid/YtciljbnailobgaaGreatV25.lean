/- Texts of a proof, laid together. -/
import Derived.Test.YtciljbnailobgaaGreatV24
import Derived.Test.YtciljbnailobgaaGreatV23
namespace Go.Proofs.YtciljbnailobgaaGreat
open Go.ChangeShapes Go.WideShapes Go.ChangeAt Go.RowKit
set_option linter.unusedVariables false
set_option linter.unusedSimpArgs false
set_option maxRecDepth 4000
def CasePost (B g : Nat) (a : Option Addr) (len cap : Nat) (w : World) (e : Ending) (w' : World) : Prop :=
  ∃ (p c h s : Int) (g1 g2 n1 n2 c1 c2 : Nat) (xs ys : List Int) (ra rb : Int), e = .returned (.tuple #[.agg #[.int .i64 p, .int .i64 c, .int .i64 h, .int .i64 s], .agg #[.slice (some ⟨g1, 0, none⟩) n1 c1, .slice (some ⟨g2, 0, none⟩) n2 c2], .agg #[.int .i64 ra, .int .i64 rb]]) ∧
    xs.length = n1 ∧ ys.length = n2 ∧ n1 ≤ 1000 ∧ n2 ≤ 1000 ∧ g1 ≠ g ∧ g2 ≠ g ∧ w.heap.size ≤ g1 ∧ w.heap.size ≤ g2 ∧ Row w' g1 xs ∧ Row w' g2 ys ∧ Src B w' g a len cap ∧ w.grownBy w' (some g)
set_option maxRecDepth 8000 in
set_option maxHeartbeats 8000000 in
theorem drawCase_any (B g : Nat) (a : Option Addr) (len cap : Nat) (w : World) (hS : Src B w g a len cap) :
    Calls Tryz.prog 21 #[.pointer (some ⟨g, 0, none⟩)] w (CasePost B g a len cap w) := by
  have hl := hS.lt
  have hBg := hS.base
  obtain ⟨BZ, BN, BQ, hb, hz⟩ := three_new w #[.int .i64 0, .int .i64 0, .int .i64 0, .int .i64 0] #[.slice none 0 0, .slice none 0 0] #[.int .i64 0, .int .i64 0] 25 28 30
  replace hS := ((hS.alloc (.cells #[.int .i64 0, .int .i64 0, .int .i64 0, .int .i64 0] 25)).alloc (.cells #[.slice none 0 0, .slice none 0 0] 28)).alloc (.cells #[.int .i64 0, .int .i64 0] 30)
  have hG : w.grownBy (((w.alloc (.cells #[.int .i64 0, .int .i64 0, .int .i64 0, .int .i64 0] 25)).alloc (.cells #[.slice none 0 0, .slice none 0 0] 28)).alloc (.cells #[.int .i64 0, .int .i64 0] 30)) (some g) := grown_of_below hb _
  clear hb
  go_enter Tryz.func21, Tryz.ntmps21
  go_wp2_with fail
  generalize (((w.alloc (.cells #[.int .i64 0, .int .i64 0, .int .i64 0, .int .i64 0] 25)).alloc (.cells #[.slice none 0 0, .slice none 0 0] 28)).alloc (.cells #[.int .i64 0, .int .i64 0] 30)) = v0 at *
  refine (drawPair_any B g a len cap _ hS).mono ?_
  rintro e w1 ⟨p, c, h, s, g1, g2, n1, n2, c1, c2, xs, ys, rfl, ⟨p1, p2, s1, s2⟩, hx, hy, l1, l2, d1, d2, b1, b2, R1, R2, hS, hg⟩
  replace BZ := BZ.grown hg (by omega)
  replace BN := BN.grown hg (by omega)
  replace BQ := BQ.grown hg (by omega)
  have hz1 := hg.size
  replace hG := grown_trans hG hg
  clear hg
  have hl1 := R1.lt
  have hl2 := R2.lt
  have HX := Lib.hid hx
  have HY := Lib.hid hy
  clear hx hy
  obtain ⟨BV, BB, hb, hzz⟩ := two_new w1 #[.int .i64 p, .int .i64 c, .int .i64 h, .int .i64 s] #[.slice (some ⟨g1, 0, none⟩) n1 c1, .slice (some ⟨g2, 0, none⟩) n2 c2] 25 28
  replace BZ := BZ.below hb
  replace BN := BN.below hb
  replace BQ := BQ.below hb
  replace R1 := R1.below hb
  replace R2 := R2.below hb
  replace hS := hS.below hb
  replace hG := grown_trans hG (grown_of_below hb _)
  have hzb := hb.size
  clear hb
  obtain ⟨x0, x1, x2, x3, xf, xl⟩ := BV.four
  go_wp2_with fail
  clear x0 x1 x2 x3 xf xl
  have hzz2 : w1.heap.size + 1 + 1 ≤ ((w1.alloc (.cells #[.int .i64 p, .int .i64 c, .int .i64 h, .int .i64 s] 25)).alloc (.cells #[.slice (some ⟨g1, 0, none⟩) n1 c1, .slice (some ⟨g2, 0, none⟩) n2 c2] 28)).heap.size := Nat.le_of_eq hzz.symm
  clear hzz
  generalize ((w1.alloc (.cells #[.int .i64 p, .int .i64 c, .int .i64 h, .int .i64 s] 25)).alloc (.cells #[.slice (some ⟨g1, 0, none⟩) n1 c1, .slice (some ⟨g2, 0, none⟩) n2 c2] 28)) = v1 at *
  refine (drawRoll_any B g p c h s a len cap _ (by omega) hS).mono ?_
  rintro e w2 ⟨ra, rb, rfl, hS, hg⟩
  replace BZ := BZ.grown hg (by omega)
  replace BN := BN.grown hg (by omega)
  replace BQ := BQ.grown hg (by omega)
  replace BV := BV.grown hg (by omega)
  replace BB := BB.grown hg (by omega)
  replace R1 := R1.grown hg (by omega)
  replace R2 := R2.grown hg (by omega)
  have hz2 := hg.size
  replace hG := grown_trans hG hg
  clear hg
  have BR := Blk.new w2 #[.int .i64 ra, .int .i64 rb] 30
  have hal : Below w2.heap.size w2 (w2.alloc (.cells #[.int .i64 ra, .int .i64 rb] 30)) := (Below.refl _ _).alloc (Nat.le_refl _) _
  replace BZ := BZ.below hal
  replace BN := BN.below hal
  replace BQ := BQ.below hal
  replace BV := BV.below hal
  replace BB := BB.below hal
  replace R1 := R1.below hal
  replace R2 := R2.below hal
  replace hS := hS.below hal
  replace hG := grown_trans hG (grown_of_below hal _)
  have hlr := BR.lt
  clear hal
  go_wp2_with fail
  generalize (w2.alloc (.cells #[.int .i64 ra, .int .i64 rb] 30)) = v2 at *
  refine (next_any B g a len cap 2 _ hS (by omega)).mono ?_
  rintro e w3 ⟨r1, rfl, q1, u1, hS, hg⟩
  replace BZ := BZ.grown hg (by omega)
  replace BN := BN.grown hg (by omega)
  replace BQ := BQ.grown hg (by omega)
  replace BV := BV.grown hg (by omega)
  replace BB := BB.grown hg (by omega)
  replace BR := BR.grown hg (by omega)
  replace R1 := R1.grown hg (by omega)
  replace R2 := R2.grown hg (by omega)
  have hz3 := hg.size
  replace hG := grown_trans hG hg
  clear hg
  by_cases e1 : r1 = 0
  · have f0 : (r1 == 0) = true := by rw [beq_iff_eq]; exact e1
    clear e1
    by_cases e2 : 8 < p
    · obtain ⟨x0, x1, x2, x3, xf, xl⟩ := BV.four
      obtain ⟨y0, y1, yf, yl⟩ := BB.two
      obtain ⟨t0, t1, tf, tl⟩ := BR.two
      go_wp2_with fail
      clear x0 x1 x2 x3 xf xl y0 y1 yf yl t0 t1 tf tl
      refine (drawSmall_any B g a len cap _ hS).mono ?_
      rintro e w4 ⟨p', c', h', s', rfl, bp, bc, bh, bs, hS, hg⟩
      obtain ⟨P, rfl⟩ := Int.eq_ofNat_of_zero_le (by omega : 0 ≤ p')
      have gv : vB (P : Int) c' h' s' = true := vB_iff.2 ⟨bp.1, bp.2, bc.1, bc.2, bh.1, bh.2, bs.1, bs.2⟩
      replace BZ := BZ.grown hg (by omega)
      replace BN := BN.grown hg (by omega)
      replace BQ := BQ.grown hg (by omega)
      replace BV := BV.grown hg (by omega)
      replace BB := BB.grown hg (by omega)
      replace BR := BR.grown hg (by omega)
      replace R1 := R1.grown hg (by omega)
      replace R2 := R2.grown hg (by omega)
      have hz4 := hg.size
      replace hG := grown_trans hG hg
      clear hg
      obtain ⟨x0, x1, x2, x3, xf, xl⟩ := BV.four
      obtain ⟨y0, y1, yf, yl⟩ := BB.two
      obtain ⟨t0, t1, tf, tl⟩ := BR.two
      go_wp2_with fail
      clear x0 x1 x2 x3 xf xl y0 y1 yf yl t0 t1 tf tl
      have M_ := ((((BV.set (i := 0) (.int .i64 (P : Int))).set (i := 1) (.int .i64 c')).set (i := 2) (.int .i64 h')).set (i := 3) (.int .i64 s'))
      simp only [List.setIfInBounds_toArray, List.set_cons_zero, List.set_cons_succ] at M_
      replace BZ := ((((BZ.other (g := w1.heap.size) (o := 0) (v := .int .i64 (P : Int)) (by omega)).other (g := w1.heap.size) (o := 1) (v := .int .i64 c') (by omega)).other (g := w1.heap.size) (o := 2) (v := .int .i64 h') (by omega)).other (g := w1.heap.size) (o := 3) (v := .int .i64 s') (by omega))
      replace BN := ((((BN.other (g := w1.heap.size) (o := 0) (v := .int .i64 (P : Int)) (by omega)).other (g := w1.heap.size) (o := 1) (v := .int .i64 c') (by omega)).other (g := w1.heap.size) (o := 2) (v := .int .i64 h') (by omega)).other (g := w1.heap.size) (o := 3) (v := .int .i64 s') (by omega))
      replace BQ := ((((BQ.other (g := w1.heap.size) (o := 0) (v := .int .i64 (P : Int)) (by omega)).other (g := w1.heap.size) (o := 1) (v := .int .i64 c') (by omega)).other (g := w1.heap.size) (o := 2) (v := .int .i64 h') (by omega)).other (g := w1.heap.size) (o := 3) (v := .int .i64 s') (by omega))
      replace BB := ((((BB.other (g := w1.heap.size) (o := 0) (v := .int .i64 (P : Int)) (by omega)).other (g := w1.heap.size) (o := 1) (v := .int .i64 c') (by omega)).other (g := w1.heap.size) (o := 2) (v := .int .i64 h') (by omega)).other (g := w1.heap.size) (o := 3) (v := .int .i64 s') (by omega))
      replace BR := ((((BR.other (g := w1.heap.size) (o := 0) (v := .int .i64 (P : Int)) (by omega)).other (g := w1.heap.size) (o := 1) (v := .int .i64 c') (by omega)).other (g := w1.heap.size) (o := 2) (v := .int .i64 h') (by omega)).other (g := w1.heap.size) (o := 3) (v := .int .i64 s') (by omega))
      replace R1 := ((((R1.other (g := w1.heap.size) (o := 0) (v := .int .i64 (P : Int)) (by omega)).other (g := w1.heap.size) (o := 1) (v := .int .i64 c') (by omega)).other (g := w1.heap.size) (o := 2) (v := .int .i64 h') (by omega)).other (g := w1.heap.size) (o := 3) (v := .int .i64 s') (by omega))
      replace R2 := ((((R2.other (g := w1.heap.size) (o := 0) (v := .int .i64 (P : Int)) (by omega)).other (g := w1.heap.size) (o := 1) (v := .int .i64 c') (by omega)).other (g := w1.heap.size) (o := 2) (v := .int .i64 h') (by omega)).other (g := w1.heap.size) (o := 3) (v := .int .i64 s') (by omega))
      replace hS := ((((hS.set (g' := w1.heap.size) (o := 0) (v := .int .i64 (P : Int)) (by omega) (by omega)).set (g' := w1.heap.size) (o := 1) (v := .int .i64 c') (by omega) (by omega)).set (g' := w1.heap.size) (o := 2) (v := .int .i64 h') (by omega) (by omega)).set (g' := w1.heap.size) (o := 3) (v := .int .i64 s') (by omega) (by omega))
      replace hG := (grown_new (g' := w1.heap.size) (o := 3) (v := .int .i64 s') (grown_new (g' := w1.heap.size) (o := 2) (v := .int .i64 h') (grown_new (g' := w1.heap.size) (o := 1) (v := .int .i64 c') (grown_new (g' := w1.heap.size) (o := 0) (v := .int .i64 (P : Int)) hG (by omega)) (by omega)) (by omega)) (by omega))
      replace BV := M_
      clear M_
      have hzs_v4 : w4.heap.size ≤ ((((w4.setCell ⟨w1.heap.size, 0, none⟩ (.int .i64 (P : Int))).setCell ⟨w1.heap.size, 1, none⟩ (.int .i64 c')).setCell ⟨w1.heap.size, 2, none⟩ (.int .i64 h')).setCell ⟨w1.heap.size, 3, none⟩ (.int .i64 s')).heap.size := by simp
      generalize ((((w4.setCell ⟨w1.heap.size, 0, none⟩ (.int .i64 (P : Int))).setCell ⟨w1.heap.size, 1, none⟩ (.int .i64 c')).setCell ⟨w1.heap.size, 2, none⟩ (.int .i64 h')).setCell ⟨w1.heap.size, 3, none⟩ (.int .i64 s')) = v4 at *
      refine (draw_any B g P c' h' s' a len cap _ gv hS).mono ?_
      rintro e w5 ⟨j1, j2, us, vs, rfl, hx, hy, i1, i2, i3, Q1, Q2, hS, hg⟩
      replace BZ := BZ.grown hg (by omega)
      replace BN := BN.grown hg (by omega)
      replace BQ := BQ.grown hg (by omega)
      replace BV := BV.grown hg (by omega)
      replace BB := BB.grown hg (by omega)
      replace BR := BR.grown hg (by omega)
      replace R1 := R1.grown hg (by omega)
      replace R2 := R2.grown hg (by omega)
      have hz5 := hg.size
      replace hG := grown_trans hG hg
      clear hg
      obtain ⟨x0, x1, x2, x3, xf, xl⟩ := BV.four
      obtain ⟨y0, y1, yf, yl⟩ := BB.two
      obtain ⟨t0, t1, tf, tl⟩ := BR.two
      have hj1 := Q1.lt
      have hj2 := Q2.lt
      clear R1 R2 HX HY
      have R1 := Q1
      have R2 := Q2
      clear Q1 Q2
      have HX := Lib.hid hx
      have HY := Lib.hid hy
      clear hx hy gv
      go_wp2_with fail
      clear x0 x1 x2 x3 xf xl y0 y1 yf yl t0 t1 tf tl
      have M_ := ((BB.set (i := 0) (.slice (some ⟨j1, 0, none⟩) (P + 1) (P + 1))).set (i := 1) (.slice (some ⟨j2, 0, none⟩) (P + 1) (P + 1)))
      simp only [List.setIfInBounds_toArray, List.set_cons_zero, List.set_cons_succ] at M_
      replace BZ := ((BZ.other (g := (w1.heap.size + 1)) (o := 0) (v := .slice (some ⟨j1, 0, none⟩) (P + 1) (P + 1)) (by omega)).other (g := (w1.heap.size + 1)) (o := 1) (v := .slice (some ⟨j2, 0, none⟩) (P + 1) (P + 1)) (by omega))
      replace BN := ((BN.other (g := (w1.heap.size + 1)) (o := 0) (v := .slice (some ⟨j1, 0, none⟩) (P + 1) (P + 1)) (by omega)).other (g := (w1.heap.size + 1)) (o := 1) (v := .slice (some ⟨j2, 0, none⟩) (P + 1) (P + 1)) (by omega))
      replace BQ := ((BQ.other (g := (w1.heap.size + 1)) (o := 0) (v := .slice (some ⟨j1, 0, none⟩) (P + 1) (P + 1)) (by omega)).other (g := (w1.heap.size + 1)) (o := 1) (v := .slice (some ⟨j2, 0, none⟩) (P + 1) (P + 1)) (by omega))
      replace BV := ((BV.other (g := (w1.heap.size + 1)) (o := 0) (v := .slice (some ⟨j1, 0, none⟩) (P + 1) (P + 1)) (by omega)).other (g := (w1.heap.size + 1)) (o := 1) (v := .slice (some ⟨j2, 0, none⟩) (P + 1) (P + 1)) (by omega))
      replace BR := ((BR.other (g := (w1.heap.size + 1)) (o := 0) (v := .slice (some ⟨j1, 0, none⟩) (P + 1) (P + 1)) (by omega)).other (g := (w1.heap.size + 1)) (o := 1) (v := .slice (some ⟨j2, 0, none⟩) (P + 1) (P + 1)) (by omega))
      replace R1 := ((R1.other (g := (w1.heap.size + 1)) (o := 0) (v := .slice (some ⟨j1, 0, none⟩) (P + 1) (P + 1)) (by omega)).other (g := (w1.heap.size + 1)) (o := 1) (v := .slice (some ⟨j2, 0, none⟩) (P + 1) (P + 1)) (by omega))
      replace R2 := ((R2.other (g := (w1.heap.size + 1)) (o := 0) (v := .slice (some ⟨j1, 0, none⟩) (P + 1) (P + 1)) (by omega)).other (g := (w1.heap.size + 1)) (o := 1) (v := .slice (some ⟨j2, 0, none⟩) (P + 1) (P + 1)) (by omega))
      replace hS := ((hS.set (g' := (w1.heap.size + 1)) (o := 0) (v := .slice (some ⟨j1, 0, none⟩) (P + 1) (P + 1)) (by omega) (by omega)).set (g' := (w1.heap.size + 1)) (o := 1) (v := .slice (some ⟨j2, 0, none⟩) (P + 1) (P + 1)) (by omega) (by omega))
      replace hG := (grown_new (g' := (w1.heap.size + 1)) (o := 1) (v := .slice (some ⟨j2, 0, none⟩) (P + 1) (P + 1)) (grown_new (g' := (w1.heap.size + 1)) (o := 0) (v := .slice (some ⟨j1, 0, none⟩) (P + 1) (P + 1)) hG (by omega)) (by omega))
      replace BB := M_
      clear M_
      have hzs_v5 : w5.heap.size ≤ ((w5.setCell ⟨w1.heap.size + 1, 0, none⟩ (.slice (some ⟨j1, 0, none⟩) (P + 1) (P + 1))).setCell ⟨w1.heap.size + 1, 1, none⟩ (.slice (some ⟨j2, 0, none⟩) (P + 1) (P + 1))).heap.size := by simp
      generalize ((w5.setCell ⟨w1.heap.size + 1, 0, none⟩ (.slice (some ⟨j1, 0, none⟩) (P + 1) (P + 1))).setCell ⟨w1.heap.size + 1, 1, none⟩ (.slice (some ⟨j2, 0, none⟩) (P + 1) (P + 1))) = v5 at *
      refine (drawRoll_any B g (P : Int) c' h' s' a len cap _ (by omega) hS).mono ?_
      rintro e w6 ⟨ra2, rb2, rfl, hS, hg⟩
      replace BZ := BZ.grown hg (by omega)
      replace BN := BN.grown hg (by omega)
      replace BQ := BQ.grown hg (by omega)
      replace BV := BV.grown hg (by omega)
      replace BB := BB.grown hg (by omega)
      replace BR := BR.grown hg (by omega)
      replace R1 := R1.grown hg (by omega)
      replace R2 := R2.grown hg (by omega)
      have hz6 := hg.size
      replace hG := grown_trans hG hg
      clear hg
      obtain ⟨x0, x1, x2, x3, xf, xl⟩ := BV.four
      obtain ⟨y0, y1, yf, yl⟩ := BB.two
      obtain ⟨t0, t1, tf, tl⟩ := BR.two
      go_wp2_with fail
      clear x0 x1 x2 x3 xf xl y0 y1 yf yl t0 t1 tf tl
      have M_ := ((BR.set (i := 0) (.int .i64 ra2)).set (i := 1) (.int .i64 rb2))
      simp only [List.setIfInBounds_toArray, List.set_cons_zero, List.set_cons_succ] at M_
      replace BZ := ((BZ.other (g := w2.heap.size) (o := 0) (v := .int .i64 ra2) (by omega)).other (g := w2.heap.size) (o := 1) (v := .int .i64 rb2) (by omega))
      replace BN := ((BN.other (g := w2.heap.size) (o := 0) (v := .int .i64 ra2) (by omega)).other (g := w2.heap.size) (o := 1) (v := .int .i64 rb2) (by omega))
      replace BQ := ((BQ.other (g := w2.heap.size) (o := 0) (v := .int .i64 ra2) (by omega)).other (g := w2.heap.size) (o := 1) (v := .int .i64 rb2) (by omega))
      replace BV := ((BV.other (g := w2.heap.size) (o := 0) (v := .int .i64 ra2) (by omega)).other (g := w2.heap.size) (o := 1) (v := .int .i64 rb2) (by omega))
      replace BB := ((BB.other (g := w2.heap.size) (o := 0) (v := .int .i64 ra2) (by omega)).other (g := w2.heap.size) (o := 1) (v := .int .i64 rb2) (by omega))
      replace R1 := ((R1.other (g := w2.heap.size) (o := 0) (v := .int .i64 ra2) (by omega)).other (g := w2.heap.size) (o := 1) (v := .int .i64 rb2) (by omega))
      replace R2 := ((R2.other (g := w2.heap.size) (o := 0) (v := .int .i64 ra2) (by omega)).other (g := w2.heap.size) (o := 1) (v := .int .i64 rb2) (by omega))
      replace hS := ((hS.set (g' := w2.heap.size) (o := 0) (v := .int .i64 ra2) (by omega) (by omega)).set (g' := w2.heap.size) (o := 1) (v := .int .i64 rb2) (by omega) (by omega))
      replace hG := (grown_new (g' := w2.heap.size) (o := 1) (v := .int .i64 rb2) (grown_new (g' := w2.heap.size) (o := 0) (v := .int .i64 ra2) hG (by omega)) (by omega))
      replace BR := M_
      clear M_
      have hzs_v6 : w6.heap.size ≤ ((w6.setCell ⟨w2.heap.size, 0, none⟩ (.int .i64 ra2)).setCell ⟨w2.heap.size, 1, none⟩ (.int .i64 rb2)).heap.size := by simp
      generalize ((w6.setCell ⟨w2.heap.size, 0, none⟩ (.int .i64 ra2)).setCell ⟨w2.heap.size, 1, none⟩ (.int .i64 rb2)) = v6 at *
      obtain ⟨x0, x1, x2, x3, xf, xl⟩ := BV.four
      obtain ⟨y0, y1, yf, yl⟩ := BB.two
      obtain ⟨t0, t1, tf, tl⟩ := BR.two
      go_wp2_with fail
      clear x0 x1 x2 x3 xf xl y0 y1 yf yl t0 t1 tf tl
      have hd_ : v6.drew.heap.size = v6.heap.size := rfl
      replace BV := BV.drew
      replace BB := BB.drew
      replace BR := BR.drew
      replace BZ := BZ.drew
      replace BN := BN.drew
      replace BQ := BQ.drew
      replace R1 := R1.drew
      replace R2 := R2.drew
      replace hS := hS.drew
      replace hG := grown_trans hG (grown_of_below (Below.refl _ _).drew (some g))
      clear hd_
      refine wp_region_held_drew (S := fun w' => w'.cell? ⟨w1.heap.size, 0, none⟩ = some (.int .i64 (P : Int)) ∧ w'.cell? ⟨w1.heap.size, 1, none⟩ = some (.int .i64 c') ∧ w'.cell? ⟨w1.heap.size, 2, none⟩ = some (.int .i64 h') ∧ w'.cell? ⟨w1.heap.size, 3, none⟩ = some (.int .i64 s') ∧ w'.cell? ⟨(w1.heap.size + 1), 0, none⟩ = some (.slice (some ⟨j1, 0, none⟩) (P + 1) (P + 1)) ∧ w'.cell? ⟨(w1.heap.size + 1), 1, none⟩ = some (.slice (some ⟨j2, 0, none⟩) (P + 1) (P + 1)) ∧ w'.cell? ⟨w2.heap.size, 0, none⟩ = some (.int .i64 ra2) ∧ w'.cell? ⟨w2.heap.size, 1, none⟩ = some (.int .i64 rb2)) (by kernel_rfl) ⟨BV.four.1, BV.four.2.1, BV.four.2.2.1, BV.four.2.2.2.1, BB.two.1, BB.two.2.1, BR.two.1, BR.two.2.1⟩ (fun hHeld => ?_)
      clear hHeld
      generalize v6.drew = vd at *
      have hHeld : vd.cell? ⟨w1.heap.size, 0, none⟩ = some (.int .i64 (P : Int)) ∧ vd.cell? ⟨w1.heap.size, 1, none⟩ = some (.int .i64 c') ∧ vd.cell? ⟨w1.heap.size, 2, none⟩ = some (.int .i64 h') ∧ vd.cell? ⟨w1.heap.size, 3, none⟩ = some (.int .i64 s') ∧ vd.cell? ⟨(w1.heap.size + 1), 0, none⟩ = some (.slice (some ⟨j1, 0, none⟩) (P + 1) (P + 1)) ∧ vd.cell? ⟨(w1.heap.size + 1), 1, none⟩ = some (.slice (some ⟨j2, 0, none⟩) (P + 1) (P + 1)) ∧ vd.cell? ⟨w2.heap.size, 0, none⟩ = some (.int .i64 ra2) ∧ vd.cell? ⟨w2.heap.size, 1, none⟩ = some (.int .i64 rb2) := ⟨BV.four.1, BV.four.2.1, BV.four.2.2.1, BV.four.2.2.2.1, BB.two.1, BB.two.2.1, BR.two.1, BR.two.2.1⟩
      refine tk 0 32 ?_
      refine tk 1 33 ?_
      refine tk 2 34 ?_
      refine rdn 3 fun K hK => ?_
      clear hHeld
      obtain ⟨z0, z1, z2, z3, zf, zl⟩ := BZ.four
      go_simp
      (try go_wp2_with fail)
      refine hko hK (Blk.f4 ((((BV.other (g := w.heap.size) (o := 0) (v := .int .i64 (P : Int)) (by omega)).other (g := w.heap.size) (o := 1) (v := .int .i64 c') (by omega)).other (g := w.heap.size) (o := 2) (v := .int .i64 h') (by omega)).other (g := w.heap.size) (o := 3) (v := .int .i64 s') (by omega)) (Blk.f2 ((((BB.other (g := w.heap.size) (o := 0) (v := .int .i64 (P : Int)) (by omega)).other (g := w.heap.size) (o := 1) (v := .int .i64 c') (by omega)).other (g := w.heap.size) (o := 2) (v := .int .i64 h') (by omega)).other (g := w.heap.size) (o := 3) (v := .int .i64 s') (by omega)) (Blk.l2 ((((BR.other (g := w.heap.size) (o := 0) (v := .int .i64 (P : Int)) (by omega)).other (g := w.heap.size) (o := 1) (v := .int .i64 c') (by omega)).other (g := w.heap.size) (o := 2) (v := .int .i64 h') (by omega)).other (g := w.heap.size) (o := 3) (v := .int .i64 s') (by omega))))) fun hHeld => ?_
      clear hK K
      refine rdn 4 fun K hK => ?_
      clear hHeld
      clear z0 z1 z2 z3 zf zl
      have M_ := ((((BZ.set (i := 0) (.int .i64 (P : Int))).set (i := 1) (.int .i64 c')).set (i := 2) (.int .i64 h')).set (i := 3) (.int .i64 s'))
      simp only [List.setIfInBounds_toArray, List.set_cons_zero, List.set_cons_succ] at M_
      replace BN := ((((BN.other (g := w.heap.size) (o := 0) (v := .int .i64 (P : Int)) (by omega)).other (g := w.heap.size) (o := 1) (v := .int .i64 c') (by omega)).other (g := w.heap.size) (o := 2) (v := .int .i64 h') (by omega)).other (g := w.heap.size) (o := 3) (v := .int .i64 s') (by omega))
      replace BQ := ((((BQ.other (g := w.heap.size) (o := 0) (v := .int .i64 (P : Int)) (by omega)).other (g := w.heap.size) (o := 1) (v := .int .i64 c') (by omega)).other (g := w.heap.size) (o := 2) (v := .int .i64 h') (by omega)).other (g := w.heap.size) (o := 3) (v := .int .i64 s') (by omega))
      replace BV := ((((BV.other (g := w.heap.size) (o := 0) (v := .int .i64 (P : Int)) (by omega)).other (g := w.heap.size) (o := 1) (v := .int .i64 c') (by omega)).other (g := w.heap.size) (o := 2) (v := .int .i64 h') (by omega)).other (g := w.heap.size) (o := 3) (v := .int .i64 s') (by omega))
      replace BB := ((((BB.other (g := w.heap.size) (o := 0) (v := .int .i64 (P : Int)) (by omega)).other (g := w.heap.size) (o := 1) (v := .int .i64 c') (by omega)).other (g := w.heap.size) (o := 2) (v := .int .i64 h') (by omega)).other (g := w.heap.size) (o := 3) (v := .int .i64 s') (by omega))
      replace BR := ((((BR.other (g := w.heap.size) (o := 0) (v := .int .i64 (P : Int)) (by omega)).other (g := w.heap.size) (o := 1) (v := .int .i64 c') (by omega)).other (g := w.heap.size) (o := 2) (v := .int .i64 h') (by omega)).other (g := w.heap.size) (o := 3) (v := .int .i64 s') (by omega))
      replace R1 := ((((R1.other (g := w.heap.size) (o := 0) (v := .int .i64 (P : Int)) (by omega)).other (g := w.heap.size) (o := 1) (v := .int .i64 c') (by omega)).other (g := w.heap.size) (o := 2) (v := .int .i64 h') (by omega)).other (g := w.heap.size) (o := 3) (v := .int .i64 s') (by omega))
      replace R2 := ((((R2.other (g := w.heap.size) (o := 0) (v := .int .i64 (P : Int)) (by omega)).other (g := w.heap.size) (o := 1) (v := .int .i64 c') (by omega)).other (g := w.heap.size) (o := 2) (v := .int .i64 h') (by omega)).other (g := w.heap.size) (o := 3) (v := .int .i64 s') (by omega))
      replace hS := ((((hS.set (g' := w.heap.size) (o := 0) (v := .int .i64 (P : Int)) (by omega) (by omega)).set (g' := w.heap.size) (o := 1) (v := .int .i64 c') (by omega) (by omega)).set (g' := w.heap.size) (o := 2) (v := .int .i64 h') (by omega) (by omega)).set (g' := w.heap.size) (o := 3) (v := .int .i64 s') (by omega) (by omega))
      replace hG := (grown_new (g' := w.heap.size) (o := 3) (v := .int .i64 s') (grown_new (g' := w.heap.size) (o := 2) (v := .int .i64 h') (grown_new (g' := w.heap.size) (o := 1) (v := .int .i64 c') (grown_new (g' := w.heap.size) (o := 0) (v := .int .i64 (P : Int)) hG (by omega)) (by omega)) (by omega)) (by omega))
      replace BZ := M_
      clear M_
      have hzs_ve : vd.heap.size ≤ ((((vd.setCell ⟨w.heap.size, 0, none⟩ (.int .i64 (P : Int))).setCell ⟨w.heap.size, 1, none⟩ (.int .i64 c')).setCell ⟨w.heap.size, 2, none⟩ (.int .i64 h')).setCell ⟨w.heap.size, 3, none⟩ (.int .i64 s')).heap.size := by simp
      generalize ((((vd.setCell ⟨w.heap.size, 0, none⟩ (.int .i64 (P : Int))).setCell ⟨w.heap.size, 1, none⟩ (.int .i64 c')).setCell ⟨w.heap.size, 2, none⟩ (.int .i64 h')).setCell ⟨w.heap.size, 3, none⟩ (.int .i64 s')) = ve at *
      obtain ⟨n0, n1_, nf, nl⟩ := BN.two
      go_simp
      (try go_wp2_with fail)
      refine hko hK (Blk.f4 ((BV.other (g := (w.heap.size + 1)) (o := 0) (v := .slice (some ⟨j1, 0, none⟩) (P + 1) (P + 1)) (by omega)).other (g := (w.heap.size + 1)) (o := 1) (v := .slice (some ⟨j2, 0, none⟩) (P + 1) (P + 1)) (by omega)) (Blk.f2 ((BB.other (g := (w.heap.size + 1)) (o := 0) (v := .slice (some ⟨j1, 0, none⟩) (P + 1) (P + 1)) (by omega)).other (g := (w.heap.size + 1)) (o := 1) (v := .slice (some ⟨j2, 0, none⟩) (P + 1) (P + 1)) (by omega)) (Blk.l2 ((BR.other (g := (w.heap.size + 1)) (o := 0) (v := .slice (some ⟨j1, 0, none⟩) (P + 1) (P + 1)) (by omega)).other (g := (w.heap.size + 1)) (o := 1) (v := .slice (some ⟨j2, 0, none⟩) (P + 1) (P + 1)) (by omega))))) fun hHeld => ?_
      clear hK K
      refine rdn 5 fun K hK => ?_
      clear hHeld
      clear n0 n1_ nf nl
      have M_ := ((BN.set (i := 0) (.slice (some ⟨j1, 0, none⟩) (P + 1) (P + 1))).set (i := 1) (.slice (some ⟨j2, 0, none⟩) (P + 1) (P + 1)))
      simp only [List.setIfInBounds_toArray, List.set_cons_zero, List.set_cons_succ] at M_
      replace BZ := ((BZ.other (g := (w.heap.size + 1)) (o := 0) (v := .slice (some ⟨j1, 0, none⟩) (P + 1) (P + 1)) (by omega)).other (g := (w.heap.size + 1)) (o := 1) (v := .slice (some ⟨j2, 0, none⟩) (P + 1) (P + 1)) (by omega))
      replace BQ := ((BQ.other (g := (w.heap.size + 1)) (o := 0) (v := .slice (some ⟨j1, 0, none⟩) (P + 1) (P + 1)) (by omega)).other (g := (w.heap.size + 1)) (o := 1) (v := .slice (some ⟨j2, 0, none⟩) (P + 1) (P + 1)) (by omega))
      replace BV := ((BV.other (g := (w.heap.size + 1)) (o := 0) (v := .slice (some ⟨j1, 0, none⟩) (P + 1) (P + 1)) (by omega)).other (g := (w.heap.size + 1)) (o := 1) (v := .slice (some ⟨j2, 0, none⟩) (P + 1) (P + 1)) (by omega))
      replace BB := ((BB.other (g := (w.heap.size + 1)) (o := 0) (v := .slice (some ⟨j1, 0, none⟩) (P + 1) (P + 1)) (by omega)).other (g := (w.heap.size + 1)) (o := 1) (v := .slice (some ⟨j2, 0, none⟩) (P + 1) (P + 1)) (by omega))
      replace BR := ((BR.other (g := (w.heap.size + 1)) (o := 0) (v := .slice (some ⟨j1, 0, none⟩) (P + 1) (P + 1)) (by omega)).other (g := (w.heap.size + 1)) (o := 1) (v := .slice (some ⟨j2, 0, none⟩) (P + 1) (P + 1)) (by omega))
      replace R1 := ((R1.other (g := (w.heap.size + 1)) (o := 0) (v := .slice (some ⟨j1, 0, none⟩) (P + 1) (P + 1)) (by omega)).other (g := (w.heap.size + 1)) (o := 1) (v := .slice (some ⟨j2, 0, none⟩) (P + 1) (P + 1)) (by omega))
      replace R2 := ((R2.other (g := (w.heap.size + 1)) (o := 0) (v := .slice (some ⟨j1, 0, none⟩) (P + 1) (P + 1)) (by omega)).other (g := (w.heap.size + 1)) (o := 1) (v := .slice (some ⟨j2, 0, none⟩) (P + 1) (P + 1)) (by omega))
      replace hS := ((hS.set (g' := (w.heap.size + 1)) (o := 0) (v := .slice (some ⟨j1, 0, none⟩) (P + 1) (P + 1)) (by omega) (by omega)).set (g' := (w.heap.size + 1)) (o := 1) (v := .slice (some ⟨j2, 0, none⟩) (P + 1) (P + 1)) (by omega) (by omega))
      replace hG := (grown_new (g' := (w.heap.size + 1)) (o := 1) (v := .slice (some ⟨j2, 0, none⟩) (P + 1) (P + 1)) (grown_new (g' := (w.heap.size + 1)) (o := 0) (v := .slice (some ⟨j1, 0, none⟩) (P + 1) (P + 1)) hG (by omega)) (by omega))
      replace BN := M_
      clear M_
      have hzs_vf : ve.heap.size ≤ ((ve.setCell ⟨(w.heap.size + 1), 0, none⟩ (.slice (some ⟨j1, 0, none⟩) (P + 1) (P + 1))).setCell ⟨(w.heap.size + 1), 1, none⟩ (.slice (some ⟨j2, 0, none⟩) (P + 1) (P + 1))).heap.size := by simp
      generalize ((ve.setCell ⟨(w.heap.size + 1), 0, none⟩ (.slice (some ⟨j1, 0, none⟩) (P + 1) (P + 1))).setCell ⟨(w.heap.size + 1), 1, none⟩ (.slice (some ⟨j2, 0, none⟩) (P + 1) (P + 1))) = vf at *
      obtain ⟨k0, k1, kf, kl⟩ := BQ.two
      go_simp
      (try go_wp2_with fail)
      refine hko hK (Blk.f4 ((BV.other (g := (w.heap.size + 1 + 1)) (o := 0) (v := .int .i64 ra2) (by omega)).other (g := (w.heap.size + 1 + 1)) (o := 1) (v := .int .i64 rb2) (by omega)) (Blk.f2 ((BB.other (g := (w.heap.size + 1 + 1)) (o := 0) (v := .int .i64 ra2) (by omega)).other (g := (w.heap.size + 1 + 1)) (o := 1) (v := .int .i64 rb2) (by omega)) (Blk.l2 ((BR.other (g := (w.heap.size + 1 + 1)) (o := 0) (v := .int .i64 ra2) (by omega)).other (g := (w.heap.size + 1 + 1)) (o := 1) (v := .int .i64 rb2) (by omega))))) fun hHeld => ?_
      clear hK K
      refine wpAnyH_done (by kernel_rfl) ?_ _
      clear hHeld
      (try go_wp2_with fail)
      clear k0 k1 kf kl
      have M_ := ((BQ.set (i := 0) (.int .i64 ra2)).set (i := 1) (.int .i64 rb2))
      simp only [List.setIfInBounds_toArray, List.set_cons_zero, List.set_cons_succ] at M_
      replace BZ := ((BZ.other (g := (w.heap.size + 1 + 1)) (o := 0) (v := .int .i64 ra2) (by omega)).other (g := (w.heap.size + 1 + 1)) (o := 1) (v := .int .i64 rb2) (by omega))
      replace BN := ((BN.other (g := (w.heap.size + 1 + 1)) (o := 0) (v := .int .i64 ra2) (by omega)).other (g := (w.heap.size + 1 + 1)) (o := 1) (v := .int .i64 rb2) (by omega))
      replace BV := ((BV.other (g := (w.heap.size + 1 + 1)) (o := 0) (v := .int .i64 ra2) (by omega)).other (g := (w.heap.size + 1 + 1)) (o := 1) (v := .int .i64 rb2) (by omega))
      replace BB := ((BB.other (g := (w.heap.size + 1 + 1)) (o := 0) (v := .int .i64 ra2) (by omega)).other (g := (w.heap.size + 1 + 1)) (o := 1) (v := .int .i64 rb2) (by omega))
      replace BR := ((BR.other (g := (w.heap.size + 1 + 1)) (o := 0) (v := .int .i64 ra2) (by omega)).other (g := (w.heap.size + 1 + 1)) (o := 1) (v := .int .i64 rb2) (by omega))
      replace R1 := ((R1.other (g := (w.heap.size + 1 + 1)) (o := 0) (v := .int .i64 ra2) (by omega)).other (g := (w.heap.size + 1 + 1)) (o := 1) (v := .int .i64 rb2) (by omega))
      replace R2 := ((R2.other (g := (w.heap.size + 1 + 1)) (o := 0) (v := .int .i64 ra2) (by omega)).other (g := (w.heap.size + 1 + 1)) (o := 1) (v := .int .i64 rb2) (by omega))
      replace hS := ((hS.set (g' := (w.heap.size + 1 + 1)) (o := 0) (v := .int .i64 ra2) (by omega) (by omega)).set (g' := (w.heap.size + 1 + 1)) (o := 1) (v := .int .i64 rb2) (by omega) (by omega))
      replace hG := (grown_new (g' := (w.heap.size + 1 + 1)) (o := 1) (v := .int .i64 rb2) (grown_new (g' := (w.heap.size + 1 + 1)) (o := 0) (v := .int .i64 ra2) hG (by omega)) (by omega))
      replace BQ := M_
      clear M_
      have hzs_vg : vf.heap.size ≤ ((vf.setCell ⟨(w.heap.size + 1 + 1), 0, none⟩ (.int .i64 ra2)).setCell ⟨(w.heap.size + 1 + 1), 1, none⟩ (.int .i64 rb2)).heap.size := by simp
      generalize ((vf.setCell ⟨(w.heap.size + 1 + 1), 0, none⟩ (.int .i64 ra2)).setCell ⟨(w.heap.size + 1 + 1), 1, none⟩ (.int .i64 rb2)) = vg at *
      obtain ⟨z0, z1, z2, z3, zf, zl⟩ := BZ.four
      obtain ⟨n0, n1_, nf, nl⟩ := BN.two
      obtain ⟨k0, k1, kf, kl⟩ := BQ.two
      refine bodyPost_ret (v := .tuple #[.agg #[.int .i64 (P : Int), .int .i64 c', .int .i64 h', .int .i64 s'], .agg #[.slice (some ⟨j1, 0, none⟩) (P + 1) (P + 1), .slice (some ⟨j2, 0, none⟩) (P + 1) (P + 1)], .agg #[.int .i64 ra2, .int .i64 rb2]]) (by simp [results, Tryz.results21, go_sem, z0, z1, z2, z3, n0, n1_, k0, k1]) rfl ?_
      exact ⟨(P : Int), c', h', s', j1, j2, P + 1, P + 1, P + 1, P + 1, us, vs, ra2, rb2, rfl, HX.out, HY.out, by omega, by omega, by omega, by omega, by omega, by omega, R1, R2, hS, hG⟩
    · obtain ⟨x0, x1, x2, x3, xf, xl⟩ := BV.four
      obtain ⟨y0, y1, yf, yl⟩ := BB.two
      obtain ⟨t0, t1, tf, tl⟩ := BR.two
      go_wp2_with fail
      clear x0 x1 x2 x3 xf xl y0 y1 yf yl t0 t1 tf tl
      have hd_ : w3.drew.heap.size = w3.heap.size := rfl
      replace BV := BV.drew
      replace BB := BB.drew
      replace BR := BR.drew
      replace BZ := BZ.drew
      replace BN := BN.drew
      replace BQ := BQ.drew
      replace R1 := R1.drew
      replace R2 := R2.drew
      replace hS := hS.drew
      replace hG := grown_trans hG (grown_of_below (Below.refl _ _).drew (some g))
      clear hd_
      refine wp_region_held_drew (S := fun w' => w'.cell? ⟨w1.heap.size, 0, none⟩ = some (.int .i64 p) ∧ w'.cell? ⟨w1.heap.size, 1, none⟩ = some (.int .i64 c) ∧ w'.cell? ⟨w1.heap.size, 2, none⟩ = some (.int .i64 h) ∧ w'.cell? ⟨w1.heap.size, 3, none⟩ = some (.int .i64 s) ∧ w'.cell? ⟨(w1.heap.size + 1), 0, none⟩ = some (.slice (some ⟨g1, 0, none⟩) n1 c1) ∧ w'.cell? ⟨(w1.heap.size + 1), 1, none⟩ = some (.slice (some ⟨g2, 0, none⟩) n2 c2) ∧ w'.cell? ⟨w2.heap.size, 0, none⟩ = some (.int .i64 ra) ∧ w'.cell? ⟨w2.heap.size, 1, none⟩ = some (.int .i64 rb)) (by kernel_rfl) ⟨BV.four.1, BV.four.2.1, BV.four.2.2.1, BV.four.2.2.2.1, BB.two.1, BB.two.2.1, BR.two.1, BR.two.2.1⟩ (fun hHeld => ?_)
      clear hHeld
      generalize w3.drew = vd at *
      have hHeld : vd.cell? ⟨w1.heap.size, 0, none⟩ = some (.int .i64 p) ∧ vd.cell? ⟨w1.heap.size, 1, none⟩ = some (.int .i64 c) ∧ vd.cell? ⟨w1.heap.size, 2, none⟩ = some (.int .i64 h) ∧ vd.cell? ⟨w1.heap.size, 3, none⟩ = some (.int .i64 s) ∧ vd.cell? ⟨(w1.heap.size + 1), 0, none⟩ = some (.slice (some ⟨g1, 0, none⟩) n1 c1) ∧ vd.cell? ⟨(w1.heap.size + 1), 1, none⟩ = some (.slice (some ⟨g2, 0, none⟩) n2 c2) ∧ vd.cell? ⟨w2.heap.size, 0, none⟩ = some (.int .i64 ra) ∧ vd.cell? ⟨w2.heap.size, 1, none⟩ = some (.int .i64 rb) := ⟨BV.four.1, BV.four.2.1, BV.four.2.2.1, BV.four.2.2.2.1, BB.two.1, BB.two.2.1, BR.two.1, BR.two.2.1⟩
      refine tk 0 32 ?_
      refine tk 1 33 ?_
      refine tk 2 34 ?_
      refine rdn 3 fun K hK => ?_
      clear hHeld
      obtain ⟨z0, z1, z2, z3, zf, zl⟩ := BZ.four
      go_simp
      (try go_wp2_with fail)
      refine hko hK (Blk.f4 ((((BV.other (g := w.heap.size) (o := 0) (v := .int .i64 p) (by omega)).other (g := w.heap.size) (o := 1) (v := .int .i64 c) (by omega)).other (g := w.heap.size) (o := 2) (v := .int .i64 h) (by omega)).other (g := w.heap.size) (o := 3) (v := .int .i64 s) (by omega)) (Blk.f2 ((((BB.other (g := w.heap.size) (o := 0) (v := .int .i64 p) (by omega)).other (g := w.heap.size) (o := 1) (v := .int .i64 c) (by omega)).other (g := w.heap.size) (o := 2) (v := .int .i64 h) (by omega)).other (g := w.heap.size) (o := 3) (v := .int .i64 s) (by omega)) (Blk.l2 ((((BR.other (g := w.heap.size) (o := 0) (v := .int .i64 p) (by omega)).other (g := w.heap.size) (o := 1) (v := .int .i64 c) (by omega)).other (g := w.heap.size) (o := 2) (v := .int .i64 h) (by omega)).other (g := w.heap.size) (o := 3) (v := .int .i64 s) (by omega))))) fun hHeld => ?_
      clear hK K
      refine rdn 4 fun K hK => ?_
      clear hHeld
      clear z0 z1 z2 z3 zf zl
      have M_ := ((((BZ.set (i := 0) (.int .i64 p)).set (i := 1) (.int .i64 c)).set (i := 2) (.int .i64 h)).set (i := 3) (.int .i64 s))
      simp only [List.setIfInBounds_toArray, List.set_cons_zero, List.set_cons_succ] at M_
      replace BN := ((((BN.other (g := w.heap.size) (o := 0) (v := .int .i64 p) (by omega)).other (g := w.heap.size) (o := 1) (v := .int .i64 c) (by omega)).other (g := w.heap.size) (o := 2) (v := .int .i64 h) (by omega)).other (g := w.heap.size) (o := 3) (v := .int .i64 s) (by omega))
      replace BQ := ((((BQ.other (g := w.heap.size) (o := 0) (v := .int .i64 p) (by omega)).other (g := w.heap.size) (o := 1) (v := .int .i64 c) (by omega)).other (g := w.heap.size) (o := 2) (v := .int .i64 h) (by omega)).other (g := w.heap.size) (o := 3) (v := .int .i64 s) (by omega))
      replace BV := ((((BV.other (g := w.heap.size) (o := 0) (v := .int .i64 p) (by omega)).other (g := w.heap.size) (o := 1) (v := .int .i64 c) (by omega)).other (g := w.heap.size) (o := 2) (v := .int .i64 h) (by omega)).other (g := w.heap.size) (o := 3) (v := .int .i64 s) (by omega))
      replace BB := ((((BB.other (g := w.heap.size) (o := 0) (v := .int .i64 p) (by omega)).other (g := w.heap.size) (o := 1) (v := .int .i64 c) (by omega)).other (g := w.heap.size) (o := 2) (v := .int .i64 h) (by omega)).other (g := w.heap.size) (o := 3) (v := .int .i64 s) (by omega))
      replace BR := ((((BR.other (g := w.heap.size) (o := 0) (v := .int .i64 p) (by omega)).other (g := w.heap.size) (o := 1) (v := .int .i64 c) (by omega)).other (g := w.heap.size) (o := 2) (v := .int .i64 h) (by omega)).other (g := w.heap.size) (o := 3) (v := .int .i64 s) (by omega))
      replace R1 := ((((R1.other (g := w.heap.size) (o := 0) (v := .int .i64 p) (by omega)).other (g := w.heap.size) (o := 1) (v := .int .i64 c) (by omega)).other (g := w.heap.size) (o := 2) (v := .int .i64 h) (by omega)).other (g := w.heap.size) (o := 3) (v := .int .i64 s) (by omega))
      replace R2 := ((((R2.other (g := w.heap.size) (o := 0) (v := .int .i64 p) (by omega)).other (g := w.heap.size) (o := 1) (v := .int .i64 c) (by omega)).other (g := w.heap.size) (o := 2) (v := .int .i64 h) (by omega)).other (g := w.heap.size) (o := 3) (v := .int .i64 s) (by omega))
      replace hS := ((((hS.set (g' := w.heap.size) (o := 0) (v := .int .i64 p) (by omega) (by omega)).set (g' := w.heap.size) (o := 1) (v := .int .i64 c) (by omega) (by omega)).set (g' := w.heap.size) (o := 2) (v := .int .i64 h) (by omega) (by omega)).set (g' := w.heap.size) (o := 3) (v := .int .i64 s) (by omega) (by omega))
      replace hG := (grown_new (g' := w.heap.size) (o := 3) (v := .int .i64 s) (grown_new (g' := w.heap.size) (o := 2) (v := .int .i64 h) (grown_new (g' := w.heap.size) (o := 1) (v := .int .i64 c) (grown_new (g' := w.heap.size) (o := 0) (v := .int .i64 p) hG (by omega)) (by omega)) (by omega)) (by omega))
      replace BZ := M_
      clear M_
      have hzs_ve : vd.heap.size ≤ ((((vd.setCell ⟨w.heap.size, 0, none⟩ (.int .i64 p)).setCell ⟨w.heap.size, 1, none⟩ (.int .i64 c)).setCell ⟨w.heap.size, 2, none⟩ (.int .i64 h)).setCell ⟨w.heap.size, 3, none⟩ (.int .i64 s)).heap.size := by simp
      generalize ((((vd.setCell ⟨w.heap.size, 0, none⟩ (.int .i64 p)).setCell ⟨w.heap.size, 1, none⟩ (.int .i64 c)).setCell ⟨w.heap.size, 2, none⟩ (.int .i64 h)).setCell ⟨w.heap.size, 3, none⟩ (.int .i64 s)) = ve at *
      obtain ⟨n0, n1_, nf, nl⟩ := BN.two
      go_simp
      (try go_wp2_with fail)
      refine hko hK (Blk.f4 ((BV.other (g := (w.heap.size + 1)) (o := 0) (v := .slice (some ⟨g1, 0, none⟩) n1 c1) (by omega)).other (g := (w.heap.size + 1)) (o := 1) (v := .slice (some ⟨g2, 0, none⟩) n2 c2) (by omega)) (Blk.f2 ((BB.other (g := (w.heap.size + 1)) (o := 0) (v := .slice (some ⟨g1, 0, none⟩) n1 c1) (by omega)).other (g := (w.heap.size + 1)) (o := 1) (v := .slice (some ⟨g2, 0, none⟩) n2 c2) (by omega)) (Blk.l2 ((BR.other (g := (w.heap.size + 1)) (o := 0) (v := .slice (some ⟨g1, 0, none⟩) n1 c1) (by omega)).other (g := (w.heap.size + 1)) (o := 1) (v := .slice (some ⟨g2, 0, none⟩) n2 c2) (by omega))))) fun hHeld => ?_
      clear hK K
      refine rdn 5 fun K hK => ?_
      clear hHeld
      clear n0 n1_ nf nl
      have M_ := ((BN.set (i := 0) (.slice (some ⟨g1, 0, none⟩) n1 c1)).set (i := 1) (.slice (some ⟨g2, 0, none⟩) n2 c2))
      simp only [List.setIfInBounds_toArray, List.set_cons_zero, List.set_cons_succ] at M_
      replace BZ := ((BZ.other (g := (w.heap.size + 1)) (o := 0) (v := .slice (some ⟨g1, 0, none⟩) n1 c1) (by omega)).other (g := (w.heap.size + 1)) (o := 1) (v := .slice (some ⟨g2, 0, none⟩) n2 c2) (by omega))
      replace BQ := ((BQ.other (g := (w.heap.size + 1)) (o := 0) (v := .slice (some ⟨g1, 0, none⟩) n1 c1) (by omega)).other (g := (w.heap.size + 1)) (o := 1) (v := .slice (some ⟨g2, 0, none⟩) n2 c2) (by omega))
      replace BV := ((BV.other (g := (w.heap.size + 1)) (o := 0) (v := .slice (some ⟨g1, 0, none⟩) n1 c1) (by omega)).other (g := (w.heap.size + 1)) (o := 1) (v := .slice (some ⟨g2, 0, none⟩) n2 c2) (by omega))
      replace BB := ((BB.other (g := (w.heap.size + 1)) (o := 0) (v := .slice (some ⟨g1, 0, none⟩) n1 c1) (by omega)).other (g := (w.heap.size + 1)) (o := 1) (v := .slice (some ⟨g2, 0, none⟩) n2 c2) (by omega))
      replace BR := ((BR.other (g := (w.heap.size + 1)) (o := 0) (v := .slice (some ⟨g1, 0, none⟩) n1 c1) (by omega)).other (g := (w.heap.size + 1)) (o := 1) (v := .slice (some ⟨g2, 0, none⟩) n2 c2) (by omega))
      replace R1 := ((R1.other (g := (w.heap.size + 1)) (o := 0) (v := .slice (some ⟨g1, 0, none⟩) n1 c1) (by omega)).other (g := (w.heap.size + 1)) (o := 1) (v := .slice (some ⟨g2, 0, none⟩) n2 c2) (by omega))
      replace R2 := ((R2.other (g := (w.heap.size + 1)) (o := 0) (v := .slice (some ⟨g1, 0, none⟩) n1 c1) (by omega)).other (g := (w.heap.size + 1)) (o := 1) (v := .slice (some ⟨g2, 0, none⟩) n2 c2) (by omega))
      replace hS := ((hS.set (g' := (w.heap.size + 1)) (o := 0) (v := .slice (some ⟨g1, 0, none⟩) n1 c1) (by omega) (by omega)).set (g' := (w.heap.size + 1)) (o := 1) (v := .slice (some ⟨g2, 0, none⟩) n2 c2) (by omega) (by omega))
      replace hG := (grown_new (g' := (w.heap.size + 1)) (o := 1) (v := .slice (some ⟨g2, 0, none⟩) n2 c2) (grown_new (g' := (w.heap.size + 1)) (o := 0) (v := .slice (some ⟨g1, 0, none⟩) n1 c1) hG (by omega)) (by omega))
      replace BN := M_
      clear M_
      have hzs_vf : ve.heap.size ≤ ((ve.setCell ⟨(w.heap.size + 1), 0, none⟩ (.slice (some ⟨g1, 0, none⟩) n1 c1)).setCell ⟨(w.heap.size + 1), 1, none⟩ (.slice (some ⟨g2, 0, none⟩) n2 c2)).heap.size := by simp
      generalize ((ve.setCell ⟨(w.heap.size + 1), 0, none⟩ (.slice (some ⟨g1, 0, none⟩) n1 c1)).setCell ⟨(w.heap.size + 1), 1, none⟩ (.slice (some ⟨g2, 0, none⟩) n2 c2)) = vf at *
      obtain ⟨k0, k1, kf, kl⟩ := BQ.two
      go_simp
      (try go_wp2_with fail)
      refine hko hK (Blk.f4 ((BV.other (g := (w.heap.size + 1 + 1)) (o := 0) (v := .int .i64 ra) (by omega)).other (g := (w.heap.size + 1 + 1)) (o := 1) (v := .int .i64 rb) (by omega)) (Blk.f2 ((BB.other (g := (w.heap.size + 1 + 1)) (o := 0) (v := .int .i64 ra) (by omega)).other (g := (w.heap.size + 1 + 1)) (o := 1) (v := .int .i64 rb) (by omega)) (Blk.l2 ((BR.other (g := (w.heap.size + 1 + 1)) (o := 0) (v := .int .i64 ra) (by omega)).other (g := (w.heap.size + 1 + 1)) (o := 1) (v := .int .i64 rb) (by omega))))) fun hHeld => ?_
      clear hK K
      refine wpAnyH_done (by kernel_rfl) ?_ _
      clear hHeld
      (try go_wp2_with fail)
      clear k0 k1 kf kl
      have M_ := ((BQ.set (i := 0) (.int .i64 ra)).set (i := 1) (.int .i64 rb))
      simp only [List.setIfInBounds_toArray, List.set_cons_zero, List.set_cons_succ] at M_
      replace BZ := ((BZ.other (g := (w.heap.size + 1 + 1)) (o := 0) (v := .int .i64 ra) (by omega)).other (g := (w.heap.size + 1 + 1)) (o := 1) (v := .int .i64 rb) (by omega))
      replace BN := ((BN.other (g := (w.heap.size + 1 + 1)) (o := 0) (v := .int .i64 ra) (by omega)).other (g := (w.heap.size + 1 + 1)) (o := 1) (v := .int .i64 rb) (by omega))
      replace BV := ((BV.other (g := (w.heap.size + 1 + 1)) (o := 0) (v := .int .i64 ra) (by omega)).other (g := (w.heap.size + 1 + 1)) (o := 1) (v := .int .i64 rb) (by omega))
      replace BB := ((BB.other (g := (w.heap.size + 1 + 1)) (o := 0) (v := .int .i64 ra) (by omega)).other (g := (w.heap.size + 1 + 1)) (o := 1) (v := .int .i64 rb) (by omega))
      replace BR := ((BR.other (g := (w.heap.size + 1 + 1)) (o := 0) (v := .int .i64 ra) (by omega)).other (g := (w.heap.size + 1 + 1)) (o := 1) (v := .int .i64 rb) (by omega))
      replace R1 := ((R1.other (g := (w.heap.size + 1 + 1)) (o := 0) (v := .int .i64 ra) (by omega)).other (g := (w.heap.size + 1 + 1)) (o := 1) (v := .int .i64 rb) (by omega))
      replace R2 := ((R2.other (g := (w.heap.size + 1 + 1)) (o := 0) (v := .int .i64 ra) (by omega)).other (g := (w.heap.size + 1 + 1)) (o := 1) (v := .int .i64 rb) (by omega))
      replace hS := ((hS.set (g' := (w.heap.size + 1 + 1)) (o := 0) (v := .int .i64 ra) (by omega) (by omega)).set (g' := (w.heap.size + 1 + 1)) (o := 1) (v := .int .i64 rb) (by omega) (by omega))
      replace hG := (grown_new (g' := (w.heap.size + 1 + 1)) (o := 1) (v := .int .i64 rb) (grown_new (g' := (w.heap.size + 1 + 1)) (o := 0) (v := .int .i64 ra) hG (by omega)) (by omega))
      replace BQ := M_
      clear M_
      have hzs_vg : vf.heap.size ≤ ((vf.setCell ⟨(w.heap.size + 1 + 1), 0, none⟩ (.int .i64 ra)).setCell ⟨(w.heap.size + 1 + 1), 1, none⟩ (.int .i64 rb)).heap.size := by simp
      generalize ((vf.setCell ⟨(w.heap.size + 1 + 1), 0, none⟩ (.int .i64 ra)).setCell ⟨(w.heap.size + 1 + 1), 1, none⟩ (.int .i64 rb)) = vg at *
      obtain ⟨z0, z1, z2, z3, zf, zl⟩ := BZ.four
      obtain ⟨n0, n1_, nf, nl⟩ := BN.two
      obtain ⟨k0, k1, kf, kl⟩ := BQ.two
      refine bodyPost_ret (v := .tuple #[.agg #[.int .i64 p, .int .i64 c, .int .i64 h, .int .i64 s], .agg #[.slice (some ⟨g1, 0, none⟩) n1 c1, .slice (some ⟨g2, 0, none⟩) n2 c2], .agg #[.int .i64 ra, .int .i64 rb]]) (by simp [results, Tryz.results21, go_sem, z0, z1, z2, z3, n0, n1_, k0, k1]) rfl ?_
      exact ⟨p, c, h, s, g1, g2, n1, n2, c1, c2, xs, ys, ra, rb, rfl, HX.out, HY.out, by omega, by omega, by omega, by omega, by omega, by omega, R1, R2, hS, hG⟩
  · have f0 : (r1 == 0) = false := by rw [beq_eq_false_iff_ne]; exact e1
    clear e1
    obtain ⟨x0, x1, x2, x3, xf, xl⟩ := BV.four
    obtain ⟨y0, y1, yf, yl⟩ := BB.two
    obtain ⟨t0, t1, tf, tl⟩ := BR.two
    go_wp2_with fail
    clear x0 x1 x2 x3 xf xl y0 y1 yf yl t0 t1 tf tl
    have hd_ : w3.drew.heap.size = w3.heap.size := rfl
    replace BV := BV.drew
    replace BB := BB.drew
    replace BR := BR.drew
    replace BZ := BZ.drew
    replace BN := BN.drew
    replace BQ := BQ.drew
    replace R1 := R1.drew
    replace R2 := R2.drew
    replace hS := hS.drew
    replace hG := grown_trans hG (grown_of_below (Below.refl _ _).drew (some g))
    clear hd_
    refine wp_region_held_drew (S := fun w' => w'.cell? ⟨w1.heap.size, 0, none⟩ = some (.int .i64 p) ∧ w'.cell? ⟨w1.heap.size, 1, none⟩ = some (.int .i64 c) ∧ w'.cell? ⟨w1.heap.size, 2, none⟩ = some (.int .i64 h) ∧ w'.cell? ⟨w1.heap.size, 3, none⟩ = some (.int .i64 s) ∧ w'.cell? ⟨(w1.heap.size + 1), 0, none⟩ = some (.slice (some ⟨g1, 0, none⟩) n1 c1) ∧ w'.cell? ⟨(w1.heap.size + 1), 1, none⟩ = some (.slice (some ⟨g2, 0, none⟩) n2 c2) ∧ w'.cell? ⟨w2.heap.size, 0, none⟩ = some (.int .i64 ra) ∧ w'.cell? ⟨w2.heap.size, 1, none⟩ = some (.int .i64 rb)) (by kernel_rfl) ⟨BV.four.1, BV.four.2.1, BV.four.2.2.1, BV.four.2.2.2.1, BB.two.1, BB.two.2.1, BR.two.1, BR.two.2.1⟩ (fun hHeld => ?_)
    clear hHeld
    generalize w3.drew = vd at *
    have hHeld : vd.cell? ⟨w1.heap.size, 0, none⟩ = some (.int .i64 p) ∧ vd.cell? ⟨w1.heap.size, 1, none⟩ = some (.int .i64 c) ∧ vd.cell? ⟨w1.heap.size, 2, none⟩ = some (.int .i64 h) ∧ vd.cell? ⟨w1.heap.size, 3, none⟩ = some (.int .i64 s) ∧ vd.cell? ⟨(w1.heap.size + 1), 0, none⟩ = some (.slice (some ⟨g1, 0, none⟩) n1 c1) ∧ vd.cell? ⟨(w1.heap.size + 1), 1, none⟩ = some (.slice (some ⟨g2, 0, none⟩) n2 c2) ∧ vd.cell? ⟨w2.heap.size, 0, none⟩ = some (.int .i64 ra) ∧ vd.cell? ⟨w2.heap.size, 1, none⟩ = some (.int .i64 rb) := ⟨BV.four.1, BV.four.2.1, BV.four.2.2.1, BV.four.2.2.2.1, BB.two.1, BB.two.2.1, BR.two.1, BR.two.2.1⟩
    refine tk 0 32 ?_
    refine tk 1 33 ?_
    refine tk 2 34 ?_
    refine rdn 3 fun K hK => ?_
    clear hHeld
    obtain ⟨z0, z1, z2, z3, zf, zl⟩ := BZ.four
    go_simp
    (try go_wp2_with fail)
    refine hko hK (Blk.f4 ((((BV.other (g := w.heap.size) (o := 0) (v := .int .i64 p) (by omega)).other (g := w.heap.size) (o := 1) (v := .int .i64 c) (by omega)).other (g := w.heap.size) (o := 2) (v := .int .i64 h) (by omega)).other (g := w.heap.size) (o := 3) (v := .int .i64 s) (by omega)) (Blk.f2 ((((BB.other (g := w.heap.size) (o := 0) (v := .int .i64 p) (by omega)).other (g := w.heap.size) (o := 1) (v := .int .i64 c) (by omega)).other (g := w.heap.size) (o := 2) (v := .int .i64 h) (by omega)).other (g := w.heap.size) (o := 3) (v := .int .i64 s) (by omega)) (Blk.l2 ((((BR.other (g := w.heap.size) (o := 0) (v := .int .i64 p) (by omega)).other (g := w.heap.size) (o := 1) (v := .int .i64 c) (by omega)).other (g := w.heap.size) (o := 2) (v := .int .i64 h) (by omega)).other (g := w.heap.size) (o := 3) (v := .int .i64 s) (by omega))))) fun hHeld => ?_
    clear hK K
    refine rdn 4 fun K hK => ?_
    clear hHeld
    clear z0 z1 z2 z3 zf zl
    have M_ := ((((BZ.set (i := 0) (.int .i64 p)).set (i := 1) (.int .i64 c)).set (i := 2) (.int .i64 h)).set (i := 3) (.int .i64 s))
    simp only [List.setIfInBounds_toArray, List.set_cons_zero, List.set_cons_succ] at M_
    replace BN := ((((BN.other (g := w.heap.size) (o := 0) (v := .int .i64 p) (by omega)).other (g := w.heap.size) (o := 1) (v := .int .i64 c) (by omega)).other (g := w.heap.size) (o := 2) (v := .int .i64 h) (by omega)).other (g := w.heap.size) (o := 3) (v := .int .i64 s) (by omega))
    replace BQ := ((((BQ.other (g := w.heap.size) (o := 0) (v := .int .i64 p) (by omega)).other (g := w.heap.size) (o := 1) (v := .int .i64 c) (by omega)).other (g := w.heap.size) (o := 2) (v := .int .i64 h) (by omega)).other (g := w.heap.size) (o := 3) (v := .int .i64 s) (by omega))
    replace BV := ((((BV.other (g := w.heap.size) (o := 0) (v := .int .i64 p) (by omega)).other (g := w.heap.size) (o := 1) (v := .int .i64 c) (by omega)).other (g := w.heap.size) (o := 2) (v := .int .i64 h) (by omega)).other (g := w.heap.size) (o := 3) (v := .int .i64 s) (by omega))
    replace BB := ((((BB.other (g := w.heap.size) (o := 0) (v := .int .i64 p) (by omega)).other (g := w.heap.size) (o := 1) (v := .int .i64 c) (by omega)).other (g := w.heap.size) (o := 2) (v := .int .i64 h) (by omega)).other (g := w.heap.size) (o := 3) (v := .int .i64 s) (by omega))
    replace BR := ((((BR.other (g := w.heap.size) (o := 0) (v := .int .i64 p) (by omega)).other (g := w.heap.size) (o := 1) (v := .int .i64 c) (by omega)).other (g := w.heap.size) (o := 2) (v := .int .i64 h) (by omega)).other (g := w.heap.size) (o := 3) (v := .int .i64 s) (by omega))
    replace R1 := ((((R1.other (g := w.heap.size) (o := 0) (v := .int .i64 p) (by omega)).other (g := w.heap.size) (o := 1) (v := .int .i64 c) (by omega)).other (g := w.heap.size) (o := 2) (v := .int .i64 h) (by omega)).other (g := w.heap.size) (o := 3) (v := .int .i64 s) (by omega))
    replace R2 := ((((R2.other (g := w.heap.size) (o := 0) (v := .int .i64 p) (by omega)).other (g := w.heap.size) (o := 1) (v := .int .i64 c) (by omega)).other (g := w.heap.size) (o := 2) (v := .int .i64 h) (by omega)).other (g := w.heap.size) (o := 3) (v := .int .i64 s) (by omega))
    replace hS := ((((hS.set (g' := w.heap.size) (o := 0) (v := .int .i64 p) (by omega) (by omega)).set (g' := w.heap.size) (o := 1) (v := .int .i64 c) (by omega) (by omega)).set (g' := w.heap.size) (o := 2) (v := .int .i64 h) (by omega) (by omega)).set (g' := w.heap.size) (o := 3) (v := .int .i64 s) (by omega) (by omega))
    replace hG := (grown_new (g' := w.heap.size) (o := 3) (v := .int .i64 s) (grown_new (g' := w.heap.size) (o := 2) (v := .int .i64 h) (grown_new (g' := w.heap.size) (o := 1) (v := .int .i64 c) (grown_new (g' := w.heap.size) (o := 0) (v := .int .i64 p) hG (by omega)) (by omega)) (by omega)) (by omega))
    replace BZ := M_
    clear M_
    have hzs_ve : vd.heap.size ≤ ((((vd.setCell ⟨w.heap.size, 0, none⟩ (.int .i64 p)).setCell ⟨w.heap.size, 1, none⟩ (.int .i64 c)).setCell ⟨w.heap.size, 2, none⟩ (.int .i64 h)).setCell ⟨w.heap.size, 3, none⟩ (.int .i64 s)).heap.size := by simp
    generalize ((((vd.setCell ⟨w.heap.size, 0, none⟩ (.int .i64 p)).setCell ⟨w.heap.size, 1, none⟩ (.int .i64 c)).setCell ⟨w.heap.size, 2, none⟩ (.int .i64 h)).setCell ⟨w.heap.size, 3, none⟩ (.int .i64 s)) = ve at *
    obtain ⟨n0, n1_, nf, nl⟩ := BN.two
    go_simp
    (try go_wp2_with fail)
    refine hko hK (Blk.f4 ((BV.other (g := (w.heap.size + 1)) (o := 0) (v := .slice (some ⟨g1, 0, none⟩) n1 c1) (by omega)).other (g := (w.heap.size + 1)) (o := 1) (v := .slice (some ⟨g2, 0, none⟩) n2 c2) (by omega)) (Blk.f2 ((BB.other (g := (w.heap.size + 1)) (o := 0) (v := .slice (some ⟨g1, 0, none⟩) n1 c1) (by omega)).other (g := (w.heap.size + 1)) (o := 1) (v := .slice (some ⟨g2, 0, none⟩) n2 c2) (by omega)) (Blk.l2 ((BR.other (g := (w.heap.size + 1)) (o := 0) (v := .slice (some ⟨g1, 0, none⟩) n1 c1) (by omega)).other (g := (w.heap.size + 1)) (o := 1) (v := .slice (some ⟨g2, 0, none⟩) n2 c2) (by omega))))) fun hHeld => ?_
    clear hK K
    refine rdn 5 fun K hK => ?_
    clear hHeld
    clear n0 n1_ nf nl
    have M_ := ((BN.set (i := 0) (.slice (some ⟨g1, 0, none⟩) n1 c1)).set (i := 1) (.slice (some ⟨g2, 0, none⟩) n2 c2))
    simp only [List.setIfInBounds_toArray, List.set_cons_zero, List.set_cons_succ] at M_
    replace BZ := ((BZ.other (g := (w.heap.size + 1)) (o := 0) (v := .slice (some ⟨g1, 0, none⟩) n1 c1) (by omega)).other (g := (w.heap.size + 1)) (o := 1) (v := .slice (some ⟨g2, 0, none⟩) n2 c2) (by omega))
    replace BQ := ((BQ.other (g := (w.heap.size + 1)) (o := 0) (v := .slice (some ⟨g1, 0, none⟩) n1 c1) (by omega)).other (g := (w.heap.size + 1)) (o := 1) (v := .slice (some ⟨g2, 0, none⟩) n2 c2) (by omega))
    replace BV := ((BV.other (g := (w.heap.size + 1)) (o := 0) (v := .slice (some ⟨g1, 0, none⟩) n1 c1) (by omega)).other (g := (w.heap.size + 1)) (o := 1) (v := .slice (some ⟨g2, 0, none⟩) n2 c2) (by omega))
    replace BB := ((BB.other (g := (w.heap.size + 1)) (o := 0) (v := .slice (some ⟨g1, 0, none⟩) n1 c1) (by omega)).other (g := (w.heap.size + 1)) (o := 1) (v := .slice (some ⟨g2, 0, none⟩) n2 c2) (by omega))
    replace BR := ((BR.other (g := (w.heap.size + 1)) (o := 0) (v := .slice (some ⟨g1, 0, none⟩) n1 c1) (by omega)).other (g := (w.heap.size + 1)) (o := 1) (v := .slice (some ⟨g2, 0, none⟩) n2 c2) (by omega))
    replace R1 := ((R1.other (g := (w.heap.size + 1)) (o := 0) (v := .slice (some ⟨g1, 0, none⟩) n1 c1) (by omega)).other (g := (w.heap.size + 1)) (o := 1) (v := .slice (some ⟨g2, 0, none⟩) n2 c2) (by omega))
    replace R2 := ((R2.other (g := (w.heap.size + 1)) (o := 0) (v := .slice (some ⟨g1, 0, none⟩) n1 c1) (by omega)).other (g := (w.heap.size + 1)) (o := 1) (v := .slice (some ⟨g2, 0, none⟩) n2 c2) (by omega))
    replace hS := ((hS.set (g' := (w.heap.size + 1)) (o := 0) (v := .slice (some ⟨g1, 0, none⟩) n1 c1) (by omega) (by omega)).set (g' := (w.heap.size + 1)) (o := 1) (v := .slice (some ⟨g2, 0, none⟩) n2 c2) (by omega) (by omega))
    replace hG := (grown_new (g' := (w.heap.size + 1)) (o := 1) (v := .slice (some ⟨g2, 0, none⟩) n2 c2) (grown_new (g' := (w.heap.size + 1)) (o := 0) (v := .slice (some ⟨g1, 0, none⟩) n1 c1) hG (by omega)) (by omega))
    replace BN := M_
    clear M_
    have hzs_vf : ve.heap.size ≤ ((ve.setCell ⟨(w.heap.size + 1), 0, none⟩ (.slice (some ⟨g1, 0, none⟩) n1 c1)).setCell ⟨(w.heap.size + 1), 1, none⟩ (.slice (some ⟨g2, 0, none⟩) n2 c2)).heap.size := by simp
    generalize ((ve.setCell ⟨(w.heap.size + 1), 0, none⟩ (.slice (some ⟨g1, 0, none⟩) n1 c1)).setCell ⟨(w.heap.size + 1), 1, none⟩ (.slice (some ⟨g2, 0, none⟩) n2 c2)) = vf at *
    obtain ⟨k0, k1, kf, kl⟩ := BQ.two
    go_simp
    (try go_wp2_with fail)
    refine hko hK (Blk.f4 ((BV.other (g := (w.heap.size + 1 + 1)) (o := 0) (v := .int .i64 ra) (by omega)).other (g := (w.heap.size + 1 + 1)) (o := 1) (v := .int .i64 rb) (by omega)) (Blk.f2 ((BB.other (g := (w.heap.size + 1 + 1)) (o := 0) (v := .int .i64 ra) (by omega)).other (g := (w.heap.size + 1 + 1)) (o := 1) (v := .int .i64 rb) (by omega)) (Blk.l2 ((BR.other (g := (w.heap.size + 1 + 1)) (o := 0) (v := .int .i64 ra) (by omega)).other (g := (w.heap.size + 1 + 1)) (o := 1) (v := .int .i64 rb) (by omega))))) fun hHeld => ?_
    clear hK K
    refine wpAnyH_done (by kernel_rfl) ?_ _
    clear hHeld
    (try go_wp2_with fail)
    clear k0 k1 kf kl
    have M_ := ((BQ.set (i := 0) (.int .i64 ra)).set (i := 1) (.int .i64 rb))
    simp only [List.setIfInBounds_toArray, List.set_cons_zero, List.set_cons_succ] at M_
    replace BZ := ((BZ.other (g := (w.heap.size + 1 + 1)) (o := 0) (v := .int .i64 ra) (by omega)).other (g := (w.heap.size + 1 + 1)) (o := 1) (v := .int .i64 rb) (by omega))
    replace BN := ((BN.other (g := (w.heap.size + 1 + 1)) (o := 0) (v := .int .i64 ra) (by omega)).other (g := (w.heap.size + 1 + 1)) (o := 1) (v := .int .i64 rb) (by omega))
    replace BV := ((BV.other (g := (w.heap.size + 1 + 1)) (o := 0) (v := .int .i64 ra) (by omega)).other (g := (w.heap.size + 1 + 1)) (o := 1) (v := .int .i64 rb) (by omega))
    replace BB := ((BB.other (g := (w.heap.size + 1 + 1)) (o := 0) (v := .int .i64 ra) (by omega)).other (g := (w.heap.size + 1 + 1)) (o := 1) (v := .int .i64 rb) (by omega))
    replace BR := ((BR.other (g := (w.heap.size + 1 + 1)) (o := 0) (v := .int .i64 ra) (by omega)).other (g := (w.heap.size + 1 + 1)) (o := 1) (v := .int .i64 rb) (by omega))
    replace R1 := ((R1.other (g := (w.heap.size + 1 + 1)) (o := 0) (v := .int .i64 ra) (by omega)).other (g := (w.heap.size + 1 + 1)) (o := 1) (v := .int .i64 rb) (by omega))
    replace R2 := ((R2.other (g := (w.heap.size + 1 + 1)) (o := 0) (v := .int .i64 ra) (by omega)).other (g := (w.heap.size + 1 + 1)) (o := 1) (v := .int .i64 rb) (by omega))
    replace hS := ((hS.set (g' := (w.heap.size + 1 + 1)) (o := 0) (v := .int .i64 ra) (by omega) (by omega)).set (g' := (w.heap.size + 1 + 1)) (o := 1) (v := .int .i64 rb) (by omega) (by omega))
    replace hG := (grown_new (g' := (w.heap.size + 1 + 1)) (o := 1) (v := .int .i64 rb) (grown_new (g' := (w.heap.size + 1 + 1)) (o := 0) (v := .int .i64 ra) hG (by omega)) (by omega))
    replace BQ := M_
    clear M_
    have hzs_vg : vf.heap.size ≤ ((vf.setCell ⟨(w.heap.size + 1 + 1), 0, none⟩ (.int .i64 ra)).setCell ⟨(w.heap.size + 1 + 1), 1, none⟩ (.int .i64 rb)).heap.size := by simp
    generalize ((vf.setCell ⟨(w.heap.size + 1 + 1), 0, none⟩ (.int .i64 ra)).setCell ⟨(w.heap.size + 1 + 1), 1, none⟩ (.int .i64 rb)) = vg at *
    obtain ⟨z0, z1, z2, z3, zf, zl⟩ := BZ.four
    obtain ⟨n0, n1_, nf, nl⟩ := BN.two
    obtain ⟨k0, k1, kf, kl⟩ := BQ.two
    refine bodyPost_ret (v := .tuple #[.agg #[.int .i64 p, .int .i64 c, .int .i64 h, .int .i64 s], .agg #[.slice (some ⟨g1, 0, none⟩) n1 c1, .slice (some ⟨g2, 0, none⟩) n2 c2], .agg #[.int .i64 ra, .int .i64 rb]]) (by simp [results, Tryz.results21, go_sem, z0, z1, z2, z3, n0, n1_, k0, k1]) rfl ?_
    exact ⟨p, c, h, s, g1, g2, n1, n2, c1, c2, xs, ys, ra, rb, rfl, HX.out, HY.out, by omega, by omega, by omega, by omega, by omega, by omega, R1, R2, hS, hG⟩
def CaseNew (w : World) (e : Ending) (w' : World) : Prop :=
  ∃ (p c h s : Int) (g1 g2 n1 n2 c1 c2 : Nat) (xs ys : List Int) (ra rb : Int), e = .returned (.tuple #[.agg #[.int .i64 p, .int .i64 c, .int .i64 h, .int .i64 s], .agg #[.slice (some ⟨g1, 0, none⟩) n1 c1, .slice (some ⟨g2, 0, none⟩) n2 c2], .agg #[.int .i64 ra, .int .i64 rb]]) ∧
    xs.length = n1 ∧ ys.length = n2 ∧ n1 ≤ 1000 ∧ n2 ≤ 1000 ∧ Row w' g1 xs ∧ Row w' g2 ys ∧ Below w.heap.size w w'
set_option maxRecDepth 8000 in
set_option maxHeartbeats 2000000 in
theorem drawAllPlays_any (B : Nat) (a : Option Addr) (len cap : Nat) (w : World) (hB : B ≤ w.heap.size) (hlen : len ≤ 1048576) (hcode : CodeIn B w a len) :
    Calls Tryz.prog 6 #[.slice a len cap] w (CaseNew w) := by
  obtain ⟨BZ, BN, BQ, hb, hz⟩ := three_new w #[.int .i64 0, .int .i64 0, .int .i64 0, .int .i64 0] #[.slice none 0 0, .slice none 0 0] #[.int .i64 0, .int .i64 0] 25 28 30
  have hc1 := hcode.below (hb.mono hB)
  go_enter Tryz.func6, Tryz.ntmps6
  go_wp2_with fail
  generalize (((w.alloc (.cells #[.int .i64 0, .int .i64 0, .int .i64 0, .int .i64 0] 25)).alloc (.cells #[.slice none 0 0, .slice none 0 0] 28)).alloc (.cells #[.int .i64 0, .int .i64 0] 30)) = v0 at *
  refine (from_any B a len cap _ (by omega) hlen hc1).mono ?_
  rintro e w1 ⟨g, rfl, hg, hS, hb1⟩
  replace BZ := BZ.below hb1
  replace BN := BN.below hb1
  replace BQ := BQ.below hb1
  replace hb := chain hb hb1
  have hz1 := hb1.size
  clear hb1 hc1 hcode
  go_wp2_with fail
  refine (drawCase_any B g a len cap _ hS).mono ?_
  rintro e w2 ⟨p, c, h, s, g1, g2, n1, n2, c1, c2, xs, ys, ra, rb, rfl, hx, hy, l1, l2, d1, d2, b1, b2, R1, R2, hS, hG⟩
  have hz2 := hG.size
  replace BZ := BZ.grown hG (by omega)
  replace BN := BN.grown hG (by omega)
  replace BQ := BQ.grown hG (by omega)
  replace hb := chain_grown hb hG (by omega)
  clear hG hS
  have HX := Lib.hid hx
  have HY := Lib.hid hy
  clear hx hy
  have M1 := ((((((((R1.other (g := w.heap.size) (o := 0) (v := (.int .i64 p)) (by omega)).other (g := w.heap.size) (o := 1) (v := (.int .i64 c)) (by omega)).other (g := w.heap.size) (o := 2) (v := (.int .i64 h)) (by omega)).other (g := w.heap.size) (o := 3) (v := (.int .i64 s)) (by omega)).other (g := (w.heap.size + 1)) (o := 0) (v := (.slice (some ⟨g1, 0, none⟩) n1 c1)) (by omega)).other (g := (w.heap.size + 1)) (o := 1) (v := (.slice (some ⟨g2, 0, none⟩) n2 c2)) (by omega)).other (g := (w.heap.size + 1 + 1)) (o := 0) (v := (.int .i64 ra)) (by omega)).other (g := (w.heap.size + 1 + 1)) (o := 1) (v := (.int .i64 rb)) (by omega))
  have M2 := ((((((((R2.other (g := w.heap.size) (o := 0) (v := (.int .i64 p)) (by omega)).other (g := w.heap.size) (o := 1) (v := (.int .i64 c)) (by omega)).other (g := w.heap.size) (o := 2) (v := (.int .i64 h)) (by omega)).other (g := w.heap.size) (o := 3) (v := (.int .i64 s)) (by omega)).other (g := (w.heap.size + 1)) (o := 0) (v := (.slice (some ⟨g1, 0, none⟩) n1 c1)) (by omega)).other (g := (w.heap.size + 1)) (o := 1) (v := (.slice (some ⟨g2, 0, none⟩) n2 c2)) (by omega)).other (g := (w.heap.size + 1 + 1)) (o := 0) (v := (.int .i64 ra)) (by omega)).other (g := (w.heap.size + 1 + 1)) (o := 1) (v := (.int .i64 rb)) (by omega))
  have hM := ((((((((hb.setCell (p := ⟨w.heap.size, 0, none⟩) (by simp <;> omega) (.int .i64 p)).setCell (p := ⟨w.heap.size, 1, none⟩) (by simp <;> omega) (.int .i64 c)).setCell (p := ⟨w.heap.size, 2, none⟩) (by simp <;> omega) (.int .i64 h)).setCell (p := ⟨w.heap.size, 3, none⟩) (by simp <;> omega) (.int .i64 s)).setCell (p := ⟨(w.heap.size + 1), 0, none⟩) (by simp <;> omega) (.slice (some ⟨g1, 0, none⟩) n1 c1)).setCell (p := ⟨(w.heap.size + 1), 1, none⟩) (by simp <;> omega) (.slice (some ⟨g2, 0, none⟩) n2 c2)).setCell (p := ⟨(w.heap.size + 1 + 1), 0, none⟩) (by simp <;> omega) (.int .i64 ra)).setCell (p := ⟨(w.heap.size + 1 + 1), 1, none⟩) (by simp <;> omega) (.int .i64 rb))
  obtain ⟨z0, z1, z2, z3, zf, zl⟩ := BZ.four
  obtain ⟨n0, n1_, nf, nl⟩ := BN.two
  obtain ⟨k0, k1, kf, kl⟩ := BQ.two
  go_wp2
  refine bodyPost_ret (v := .tuple #[.agg #[.int .i64 p, .int .i64 c, .int .i64 h, .int .i64 s], .agg #[.slice (some ⟨g1, 0, none⟩) n1 c1, .slice (some ⟨g2, 0, none⟩) n2 c2], .agg #[.int .i64 ra, .int .i64 rb]]) (by simp [results, Tryz.results6, go_sem, z0, z1, z2, z3, n0, n1_, k0, k1]) rfl ?_
  exact ⟨p, c, h, s, g1, g2, n1, n2, c1, c2, xs, ys, ra, rb, rfl, HX.out, HY.out, l1, l2, M1, M2, hM⟩
end Go.Proofs.YtciljbnailobgaaGreat
