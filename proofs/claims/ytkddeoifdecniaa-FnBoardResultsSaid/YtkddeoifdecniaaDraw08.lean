/- The model's draw of a board for its result. -/
import Derived.Test.YtkddeoifdecniaaSwapM
import Derived.Test.YtkddeoifdecniaaDraw4
import Derived.Test.YtkddeoifdecniaaSrc2
import Derived.Test.YtkddeoifdecniaaStart
namespace Go.Proofs.Ytkddeoifdecniaa
open Go.ChangeShapes Go.WideShapes Go.ChangeAt Go.RowKit
set_option linter.unusedVariables false
set_option linter.unusedSimpArgs false

/-- A pair has been drawn, all of it in new memory. -/
def PairNew8 (w : World) (e : Ending) (w' : World) : Prop :=
  ∃ (p c h s : Int) (g1 g2 n1 n2 c1 c2 : Nat) (xs ys : List Int), e = .returned (.tuple #[.agg #[.int .i64 p, .int .i64 c, .int .i64 h, .int .i64 s], .agg #[.slice (some ⟨g1, 0, none⟩) n1 c1, .slice (some ⟨g2, 0, none⟩) n2 c2]]) ∧
    xs.length = n1 ∧ ys.length = n2 ∧ n1 ≤ 1000 ∧ n2 ≤ 1000 ∧ Row w' g1 xs ∧ Row w' g2 ys ∧ Below w.heap.size w w'
set_option maxHeartbeats 1000000 in
theorem sumAny (a : Option Addr) (n cap : Nat) (xs : List Int) (w : World) (hn : xs.length = n) (hle : n ≤ 1000) (hr : IRow w a xs) :
    Calls Try.prog 58 #[.slice a n cap] w fun e w' => ∃ r : Int, e = .returned (.int .i64 r) ∧ w = w' := by
  subst hn
  go_enter Try.func58, Try.ntmps58
  go_wp2
  go_loopg [3, 4] xs.length (fun m q i wr => w = wr ∧ ∃ (k : Nat) (r : Int), k ≤ xs.length ∧ m = xs.length - k ∧ i = .int .i64 k ∧ q = .int .i64 r)
  case atStart => exact ⟨rfl, 0, 0, by omega, by omega, rfl, rfl⟩
  case round =>
    obtain ⟨rfl, k, r, hk, hm, rfl, rfl⟩ := hrel
    by_cases hlt : k < xs.length
    · have hlt' : (k : Int) < (xs.length : Int) := by omega
      obtain ⟨b, o, rfl, hc⟩ := hr k hlt
      obtain ⟨v, hv⟩ : ∃ v, xs.getD k 0 = v := ⟨_, rfl⟩
      rw [hv] at hc
      clear hv
      go_wp2
      go_roundg (xs.length - (k + 1))
      case measure => omega
      case rel => exact ⟨rfl, k + 1, _, by omega, rfl, by go_num, rfl⟩
    · have hlt' : ¬ (k : Int) < (xs.length : Int) := by omega
      go_wp2
      go_ret
      first | exact ⟨r, rfl, rfl⟩ | exact ⟨⟨r, rfl⟩, rfl⟩
set_option maxRecDepth 8000 in
set_option maxHeartbeats 4000000 in
theorem drawResultOf_any (B0 : Nat) (a : Option Addr) (len cap : Nat) (w : World) (hB : B0 ≤ w.heap.size) (hlen : len ≤ 1048576) (hcode : CodeIn B0 w a len) :
    Calls Try.prog 48 #[.slice a len cap] w (PairNew8 w) := by
  obtain ⟨BZ, BN, hb, hz⟩ := two_new w #[.int .i64 0, .int .i64 0, .int .i64 0, .int .i64 0] #[.slice none 0 0, .slice none 0 0] 25 28
  have hc1 := hcode.below (hb.mono hB)
  go_enter Try.func48, Try.ntmps48
  go_wp2_with fail
  generalize ((w.alloc (.cells #[.int .i64 0, .int .i64 0, .int .i64 0, .int .i64 0] 25)).alloc (.cells #[.slice none 0 0, .slice none 0 0] 28)) = v0 at *
  refine (from_any B0 a len cap _ (by omega) hlen hc1).mono ?_
  rintro e w1 ⟨g, rfl, hg, hS, hb1⟩
  have hgl := hS.lt
  have hz1 := hb1.size
  replace BZ := BZ.below hb1
  replace BN := BN.below hb1
  replace hb := chain hb hb1
  clear hb1 hc1
  go_wp2_with fail
  refine (drawPair_any B0 g a len cap _ hS).mono ?_
  rintro e w2 ⟨p, c, h, s, g1, g2, n1, n2, c1, c2, xs, ys, rfl, bp, hx, hy, l1, l2, e1, e2, b1, b2, R1, R2, hS, hG⟩
  have hz2 := hG.size
  have hl1 := R1.lt
  have hl2 := R2.lt
  replace BZ := BZ.grown hG (by omega)
  replace BN := BN.grown hG (by omega)
  replace hb := chain_grown hb hG (by omega)
  clear hG
  have HX := Lib.hid hx
  have HY := Lib.hid hy
  clear hx hy bp
  go_wp2_with fail
  obtain ⟨BV, BB, hal, hza⟩ := two_new w2 #[.int .i64 p, .int .i64 c, .int .i64 h, .int .i64 s] #[.slice (some ⟨g1, 0, none⟩) n1 c1, .slice (some ⟨g2, 0, none⟩) n2 c2] 25 28
  replace BZ := BZ.below hal
  replace BN := BN.below hal
  replace R1 := R1.below hal
  replace R2 := R2.below hal
  replace hS := hS.below hal
  replace hb := chain hb hal
  clear hal
  generalize ((w2.alloc (.cells #[.int .i64 p, .int .i64 c, .int .i64 h, .int .i64 s] 25)).alloc (.cells #[.slice (some ⟨g1, 0, none⟩) n1 c1, .slice (some ⟨g2, 0, none⟩) n2 c2] 28)) = w3 at *
  obtain ⟨bv, hbv⟩ : ∃ q, w2.heap.size = q := ⟨_, rfl⟩
  rw [hbv] at BV BB hza
  obtain ⟨bb, hbb⟩ : ∃ q, bv + 1 = q := ⟨_, rfl⟩
  rw [hbb] at BB
  simp only [hbv, hbb]
  have hz3 : bb + 1 ≤ w3.heap.size := by omega
  have hz4 : w3.heap.size ≤ bb + 1 := by omega
  have hv1 : bv + 1 ≤ bb := by omega
  have hv2 : bb ≤ bv + 1 := by omega
  have hv3 : g < bv := by omega
  have hv4 : g1 < bv := by omega
  have hv5 : g2 < bv := by omega
  have hv6 : w.heap.size + 2 ≤ g := by omega
  have hv7 : w.heap.size + 2 ≤ g1 := by omega
  have hv8 : w.heap.size + 2 ≤ g2 := by omega
  clear hza hbv hbb hz2 hl1 hl2
  have hV := fun W => specIsVariant_any p c h s W
  by_cases gv : vB p c h s = true
  rotate_left
  · replace gv : vB p c h s = false := by simpa using gv
    rw [gv] at hV
    have HV := Lib.hid hV
    clear hV gv
    obtain ⟨x0, x1, x2, x3, xf, xl⟩ := BV.four
    obtain ⟨y0, y1, yf, yl⟩ := BB.two
    go_wp2_with fail
    clear x0 x1 x2 x3 xf xl y0 y1 yf yl
    refine (HV.out _).mono ?_
    rintro e w4 ⟨rfl, hb4⟩
    have hz_hb4 := hb4.size
    replace BZ := BZ.below hb4
    replace BN := BN.below hb4
    replace BV := BV.below hb4
    replace BB := BB.below hb4
    replace hS := hS.below hb4
    replace R1 := R1.below hb4
    replace R2 := R2.below hb4
    replace hb := chain hb hb4
    clear hb4
    obtain ⟨x0, x1, x2, x3, xf, xl⟩ := BV.four
    obtain ⟨y0, y1, yf, yl⟩ := BB.two
    go_wp2_with fail
    clear x0 x1 x2 x3 xf xl y0 y1 yf yl
    refine (next_any B0 g a len cap 4 _ hS (by omega)).mono ?_
    rintro e w5 ⟨r9, rfl, q9, u9, hS, hg9⟩
    have hz_hg9 := hg9.size
    replace BZ := BZ.grown hg9 (by omega)
    replace BN := BN.grown hg9 (by omega)
    replace BV := BV.grown hg9 (by omega)
    replace BB := BB.grown hg9 (by omega)
    replace R1 := R1.grown hg9 (by omega)
    replace R2 := R2.grown hg9 (by omega)
    replace hb := chain_grown hb hg9 (by omega)
    clear hg9
    by_cases e9 : r9 = 0
    · have f9 : (r9 == 0) = true := by rw [beq_iff_eq]; exact e9
      obtain ⟨x0, x1, x2, x3, xf, xl⟩ := BV.four
      obtain ⟨y0, y1, yf, yl⟩ := BB.two
      obtain ⟨z0, z1, z2, z3, zf, zl⟩ := BZ.four
      obtain ⟨n0, n1_, nf, nl⟩ := BN.two
      go_wp2_with fail
      replace R1 := (R1.other (g := bb) (o := 0) (v := .slice (some ⟨g2, 0, none⟩) n2 c2) (by omega)).other (g := bb) (o := 1) (v := .slice (some ⟨g1, 0, none⟩) n1 c1) (by omega)
      replace R2 := (R2.other (g := bb) (o := 0) (v := .slice (some ⟨g2, 0, none⟩) n2 c2) (by omega)).other (g := bb) (o := 1) (v := .slice (some ⟨g1, 0, none⟩) n1 c1) (by omega)
      replace hb := (hb.setCell (p := ⟨bb, 0, none⟩) (by simp; omega) (.slice (some ⟨g2, 0, none⟩) n2 c2)).setCell (p := ⟨bb, 1, none⟩) (by simp; omega) (.slice (some ⟨g1, 0, none⟩) n1 c1)
      go_region
      all_goals go_wp2
      refine bodyPost_ret (v := .tuple #[.agg #[.int .i64 p, .int .i64 c, .int .i64 h, .int .i64 s], .agg #[.slice (some ⟨g2, 0, none⟩) n2 c2, .slice (some ⟨g1, 0, none⟩) n1 c1]]) (by simp [results, Try.results48, go_sem, z0, z1, z2, z3, n0, n1_]) rfl ?_
      exact ⟨p, c, h, s, g2, g1, n2, n1, c2, c1, ys, xs, rfl, HY.out, HX.out, by omega, by omega, ((((((R2.other (g := w.heap.size) (o := 0) (v := .int .i64 p) (by omega)).other (g := w.heap.size) (o := 1) (v := .int .i64 c) (by omega)).other (g := w.heap.size) (o := 2) (v := .int .i64 h) (by omega)).other (g := w.heap.size) (o := 3) (v := .int .i64 s) (by omega)).other (g := (w.heap.size + 1)) (o := 0) (v := .slice (some ⟨g2, 0, none⟩) n2 c2) (by omega)).other (g := (w.heap.size + 1)) (o := 1) (v := .slice (some ⟨g1, 0, none⟩) n1 c1) (by omega)).drew, ((((((R1.other (g := w.heap.size) (o := 0) (v := .int .i64 p) (by omega)).other (g := w.heap.size) (o := 1) (v := .int .i64 c) (by omega)).other (g := w.heap.size) (o := 2) (v := .int .i64 h) (by omega)).other (g := w.heap.size) (o := 3) (v := .int .i64 s) (by omega)).other (g := (w.heap.size + 1)) (o := 0) (v := .slice (some ⟨g2, 0, none⟩) n2 c2) (by omega)).other (g := (w.heap.size + 1)) (o := 1) (v := .slice (some ⟨g1, 0, none⟩) n1 c1) (by omega)).drew, ((((((hb.setCell (p := ⟨w.heap.size, 0, none⟩) (by simp) (.int .i64 p)).setCell (p := ⟨w.heap.size, 1, none⟩) (by simp) (.int .i64 c)).setCell (p := ⟨w.heap.size, 2, none⟩) (by simp) (.int .i64 h)).setCell (p := ⟨w.heap.size, 3, none⟩) (by simp) (.int .i64 s)).setCell (p := ⟨(w.heap.size + 1), 0, none⟩) (by simp) (.slice (some ⟨g2, 0, none⟩) n2 c2)).setCell (p := ⟨(w.heap.size + 1), 1, none⟩) (by simp) (.slice (some ⟨g1, 0, none⟩) n1 c1)).drew⟩
    · have f9 : (r9 == 0) = false := by rw [beq_eq_false_iff_ne]; exact e9
      obtain ⟨x0, x1, x2, x3, xf, xl⟩ := BV.four
      obtain ⟨y0, y1, yf, yl⟩ := BB.two
      obtain ⟨z0, z1, z2, z3, zf, zl⟩ := BZ.four
      obtain ⟨n0, n1_, nf, nl⟩ := BN.two
      go_wp2_with fail
      go_region
      all_goals go_wp2
      refine bodyPost_ret (v := .tuple #[.agg #[.int .i64 p, .int .i64 c, .int .i64 h, .int .i64 s], .agg #[.slice (some ⟨g1, 0, none⟩) n1 c1, .slice (some ⟨g2, 0, none⟩) n2 c2]]) (by simp [results, Try.results48, go_sem, z0, z1, z2, z3, n0, n1_]) rfl ?_
      exact ⟨p, c, h, s, g1, g2, n1, n2, c1, c2, xs, ys, rfl, HX.out, HY.out, by omega, by omega, ((((((R1.other (g := w.heap.size) (o := 0) (v := .int .i64 p) (by omega)).other (g := w.heap.size) (o := 1) (v := .int .i64 c) (by omega)).other (g := w.heap.size) (o := 2) (v := .int .i64 h) (by omega)).other (g := w.heap.size) (o := 3) (v := .int .i64 s) (by omega)).other (g := (w.heap.size + 1)) (o := 0) (v := .slice (some ⟨g1, 0, none⟩) n1 c1) (by omega)).other (g := (w.heap.size + 1)) (o := 1) (v := .slice (some ⟨g2, 0, none⟩) n2 c2) (by omega)).drew, ((((((R2.other (g := w.heap.size) (o := 0) (v := .int .i64 p) (by omega)).other (g := w.heap.size) (o := 1) (v := .int .i64 c) (by omega)).other (g := w.heap.size) (o := 2) (v := .int .i64 h) (by omega)).other (g := w.heap.size) (o := 3) (v := .int .i64 s) (by omega)).other (g := (w.heap.size + 1)) (o := 0) (v := .slice (some ⟨g1, 0, none⟩) n1 c1) (by omega)).other (g := (w.heap.size + 1)) (o := 1) (v := .slice (some ⟨g2, 0, none⟩) n2 c2) (by omega)).drew, ((((((hb.setCell (p := ⟨w.heap.size, 0, none⟩) (by simp) (.int .i64 p)).setCell (p := ⟨w.heap.size, 1, none⟩) (by simp) (.int .i64 c)).setCell (p := ⟨w.heap.size, 2, none⟩) (by simp) (.int .i64 h)).setCell (p := ⟨w.heap.size, 3, none⟩) (by simp) (.int .i64 s)).setCell (p := ⟨(w.heap.size + 1), 0, none⟩) (by simp) (.slice (some ⟨g1, 0, none⟩) n1 c1)).setCell (p := ⟨(w.heap.size + 1), 1, none⟩) (by simp) (.slice (some ⟨g2, 0, none⟩) n2 c2)).drew⟩
  · rw [gv] at hV
    have gw := vB_iff.1 gv
    obtain ⟨P, hpP⟩ := Int.eq_ofNat_of_zero_le (by omega : 0 ≤ p)
    have hE : ∀ W, Calls Try.prog 87 #[.agg #[.int .i64 p, .int .i64 c, .int .i64 h, .int .i64 s]] W (Copied (List.replicate (P + 1) 0) W) := fun W => by rw [hpP]; exact l02Empty_any P c h s W (by omega)
    have hzl : (List.replicate (P + 1) (0 : Int)).length ≤ 1000 := by simp; omega
    obtain ⟨ZL, hZL⟩ : ∃ l, List.replicate (P + 1) (0 : Int) = l := ⟨_, rfl⟩
    rw [hZL] at hE hzl
    have HV := Lib.hid hV
    have HE := Lib.hid hE
    clear hV hE gv gw hpP hZL
    obtain ⟨x0, x1, x2, x3, xf, xl⟩ := BV.four
    obtain ⟨y0, y1, yf, yl⟩ := BB.two
    go_wp2_with fail
    clear x0 x1 x2 x3 xf xl y0 y1 yf yl
    refine (HV.out _).mono ?_
    rintro e w4 ⟨rfl, hb4⟩
    have hz_hb4 := hb4.size
    replace BZ := BZ.below hb4
    replace BN := BN.below hb4
    replace BV := BV.below hb4
    replace BB := BB.below hb4
    replace hS := hS.below hb4
    replace R1 := R1.below hb4
    replace R2 := R2.below hb4
    replace hb := chain hb hb4
    clear hb4
    obtain ⟨x0, x1, x2, x3, xf, xl⟩ := BV.four
    obtain ⟨y0, y1, yf, yl⟩ := BB.two
    go_wp2_with fail
    clear x0 x1 x2 x3 xf xl y0 y1 yf yl
    refine (next_any B0 g a len cap 4 _ hS (by omega)).mono ?_
    rintro e w5 ⟨r5, rfl, q5, u5, hS, hg5⟩
    have hz_hg5 := hg5.size
    replace BZ := BZ.grown hg5 (by omega)
    replace BN := BN.grown hg5 (by omega)
    replace BV := BV.grown hg5 (by omega)
    replace BB := BB.grown hg5 (by omega)
    replace R1 := R1.grown hg5 (by omega)
    replace R2 := R2.grown hg5 (by omega)
    replace hb := chain_grown hb hg5 (by omega)
    clear hg5
    by_cases e5 : 0 < r5
    rotate_left
    · have f5 : decide (0 < r5) = false := by rw [decide_eq_false_iff_not]; exact e5
      obtain ⟨x0, x1, x2, x3, xf, xl⟩ := BV.four
      obtain ⟨y0, y1, yf, yl⟩ := BB.two
      go_wp2_with fail
      clear x0 x1 x2 x3 xf xl y0 y1 yf yl
      refine (next_any B0 g a len cap 4 _ hS (by omega)).mono ?_
      rintro e w6 ⟨r9, rfl, q9, u9, hS, hg9⟩
      have hz_hg9 := hg9.size
      replace BZ := BZ.grown hg9 (by omega)
      replace BN := BN.grown hg9 (by omega)
      replace BV := BV.grown hg9 (by omega)
      replace BB := BB.grown hg9 (by omega)
      replace R1 := R1.grown hg9 (by omega)
      replace R2 := R2.grown hg9 (by omega)
      replace hb := chain_grown hb hg9 (by omega)
      clear hg9
      by_cases e9 : r9 = 0
      · have f9 : (r9 == 0) = true := by rw [beq_iff_eq]; exact e9
        obtain ⟨x0, x1, x2, x3, xf, xl⟩ := BV.four
        obtain ⟨y0, y1, yf, yl⟩ := BB.two
        obtain ⟨z0, z1, z2, z3, zf, zl⟩ := BZ.four
        obtain ⟨n0, n1_, nf, nl⟩ := BN.two
        go_wp2_with fail
        replace R1 := (R1.other (g := bb) (o := 0) (v := .slice (some ⟨g2, 0, none⟩) n2 c2) (by omega)).other (g := bb) (o := 1) (v := .slice (some ⟨g1, 0, none⟩) n1 c1) (by omega)
        replace R2 := (R2.other (g := bb) (o := 0) (v := .slice (some ⟨g2, 0, none⟩) n2 c2) (by omega)).other (g := bb) (o := 1) (v := .slice (some ⟨g1, 0, none⟩) n1 c1) (by omega)
        replace hb := (hb.setCell (p := ⟨bb, 0, none⟩) (by simp; omega) (.slice (some ⟨g2, 0, none⟩) n2 c2)).setCell (p := ⟨bb, 1, none⟩) (by simp; omega) (.slice (some ⟨g1, 0, none⟩) n1 c1)
        go_region
        all_goals go_wp2
        refine bodyPost_ret (v := .tuple #[.agg #[.int .i64 p, .int .i64 c, .int .i64 h, .int .i64 s], .agg #[.slice (some ⟨g2, 0, none⟩) n2 c2, .slice (some ⟨g1, 0, none⟩) n1 c1]]) (by simp [results, Try.results48, go_sem, z0, z1, z2, z3, n0, n1_]) rfl ?_
        exact ⟨p, c, h, s, g2, g1, n2, n1, c2, c1, ys, xs, rfl, HY.out, HX.out, by omega, by omega, ((((((R2.other (g := w.heap.size) (o := 0) (v := .int .i64 p) (by omega)).other (g := w.heap.size) (o := 1) (v := .int .i64 c) (by omega)).other (g := w.heap.size) (o := 2) (v := .int .i64 h) (by omega)).other (g := w.heap.size) (o := 3) (v := .int .i64 s) (by omega)).other (g := (w.heap.size + 1)) (o := 0) (v := .slice (some ⟨g2, 0, none⟩) n2 c2) (by omega)).other (g := (w.heap.size + 1)) (o := 1) (v := .slice (some ⟨g1, 0, none⟩) n1 c1) (by omega)).drew, ((((((R1.other (g := w.heap.size) (o := 0) (v := .int .i64 p) (by omega)).other (g := w.heap.size) (o := 1) (v := .int .i64 c) (by omega)).other (g := w.heap.size) (o := 2) (v := .int .i64 h) (by omega)).other (g := w.heap.size) (o := 3) (v := .int .i64 s) (by omega)).other (g := (w.heap.size + 1)) (o := 0) (v := .slice (some ⟨g2, 0, none⟩) n2 c2) (by omega)).other (g := (w.heap.size + 1)) (o := 1) (v := .slice (some ⟨g1, 0, none⟩) n1 c1) (by omega)).drew, ((((((hb.setCell (p := ⟨w.heap.size, 0, none⟩) (by simp) (.int .i64 p)).setCell (p := ⟨w.heap.size, 1, none⟩) (by simp) (.int .i64 c)).setCell (p := ⟨w.heap.size, 2, none⟩) (by simp) (.int .i64 h)).setCell (p := ⟨w.heap.size, 3, none⟩) (by simp) (.int .i64 s)).setCell (p := ⟨(w.heap.size + 1), 0, none⟩) (by simp) (.slice (some ⟨g2, 0, none⟩) n2 c2)).setCell (p := ⟨(w.heap.size + 1), 1, none⟩) (by simp) (.slice (some ⟨g1, 0, none⟩) n1 c1)).drew⟩
      · have f9 : (r9 == 0) = false := by rw [beq_eq_false_iff_ne]; exact e9
        obtain ⟨x0, x1, x2, x3, xf, xl⟩ := BV.four
        obtain ⟨y0, y1, yf, yl⟩ := BB.two
        obtain ⟨z0, z1, z2, z3, zf, zl⟩ := BZ.four
        obtain ⟨n0, n1_, nf, nl⟩ := BN.two
        go_wp2_with fail
        go_region
        all_goals go_wp2
        refine bodyPost_ret (v := .tuple #[.agg #[.int .i64 p, .int .i64 c, .int .i64 h, .int .i64 s], .agg #[.slice (some ⟨g1, 0, none⟩) n1 c1, .slice (some ⟨g2, 0, none⟩) n2 c2]]) (by simp [results, Try.results48, go_sem, z0, z1, z2, z3, n0, n1_]) rfl ?_
        exact ⟨p, c, h, s, g1, g2, n1, n2, c1, c2, xs, ys, rfl, HX.out, HY.out, by omega, by omega, ((((((R1.other (g := w.heap.size) (o := 0) (v := .int .i64 p) (by omega)).other (g := w.heap.size) (o := 1) (v := .int .i64 c) (by omega)).other (g := w.heap.size) (o := 2) (v := .int .i64 h) (by omega)).other (g := w.heap.size) (o := 3) (v := .int .i64 s) (by omega)).other (g := (w.heap.size + 1)) (o := 0) (v := .slice (some ⟨g1, 0, none⟩) n1 c1) (by omega)).other (g := (w.heap.size + 1)) (o := 1) (v := .slice (some ⟨g2, 0, none⟩) n2 c2) (by omega)).drew, ((((((R2.other (g := w.heap.size) (o := 0) (v := .int .i64 p) (by omega)).other (g := w.heap.size) (o := 1) (v := .int .i64 c) (by omega)).other (g := w.heap.size) (o := 2) (v := .int .i64 h) (by omega)).other (g := w.heap.size) (o := 3) (v := .int .i64 s) (by omega)).other (g := (w.heap.size + 1)) (o := 0) (v := .slice (some ⟨g1, 0, none⟩) n1 c1) (by omega)).other (g := (w.heap.size + 1)) (o := 1) (v := .slice (some ⟨g2, 0, none⟩) n2 c2) (by omega)).drew, ((((((hb.setCell (p := ⟨w.heap.size, 0, none⟩) (by simp) (.int .i64 p)).setCell (p := ⟨w.heap.size, 1, none⟩) (by simp) (.int .i64 c)).setCell (p := ⟨w.heap.size, 2, none⟩) (by simp) (.int .i64 h)).setCell (p := ⟨w.heap.size, 3, none⟩) (by simp) (.int .i64 s)).setCell (p := ⟨(w.heap.size + 1), 0, none⟩) (by simp) (.slice (some ⟨g1, 0, none⟩) n1 c1)).setCell (p := ⟨(w.heap.size + 1), 1, none⟩) (by simp) (.slice (some ⟨g2, 0, none⟩) n2 c2)).drew⟩
    · have f5 : decide (0 < r5) = true := by rw [decide_eq_true_iff]; exact e5
      obtain ⟨x0, x1, x2, x3, xf, xl⟩ := BV.four
      obtain ⟨y0, y1, yf, yl⟩ := BB.two
      go_wp2_with fail
      clear x0 x1 x2 x3 xf xl y0 y1 yf yl
      refine (HE.out _).mono ?_
      rintro e w6 ⟨ge, rfl, hge, RE, hb6⟩
      have hle := RE.lt
      have hz_hb6 := hb6.size
      replace BZ := BZ.below hb6
      replace BN := BN.below hb6
      replace BV := BV.below hb6
      replace BB := BB.below hb6
      replace hS := hS.below hb6
      replace R2 := R2.below hb6
      replace hb := chain hb hb6
      clear hb6
      obtain ⟨x0, x1, x2, x3, xf, xl⟩ := BV.four
      obtain ⟨y0, y1, yf, yl⟩ := BB.two
      go_wp2_with fail
      clear x0 x1 x2 x3 xf xl y0 y1 yf yl
      replace BZ := BZ.other (g := bb) (o := 0) (v := .slice (some ⟨ge, 0, none⟩) ZL.length ZL.length) (by omega)
      replace BN := BN.other (g := bb) (o := 0) (v := .slice (some ⟨ge, 0, none⟩) ZL.length ZL.length) (by omega)
      replace BV := BV.other (g := bb) (o := 0) (v := .slice (some ⟨ge, 0, none⟩) ZL.length ZL.length) (by omega)
      replace R2 := R2.other (g := bb) (o := 0) (v := .slice (some ⟨ge, 0, none⟩) ZL.length ZL.length) (by omega)
      replace RE := RE.other (g := bb) (o := 0) (v := .slice (some ⟨ge, 0, none⟩) ZL.length ZL.length) (by omega)
      replace BB := BB.set (i := 0) (.slice (some ⟨ge, 0, none⟩) ZL.length ZL.length)
      simp only [List.setIfInBounds_toArray, List.set_cons_zero, List.set_cons_succ] at BB
      replace hS := hS.set (g' := bb) (o := 0) (v := .slice (some ⟨ge, 0, none⟩) ZL.length ZL.length) (by omega) (by omega)
      replace hb := hb.setCell (p := ⟨bb, 0, none⟩) (by simp; omega) (.slice (some ⟨ge, 0, none⟩) ZL.length ZL.length)
      have hzs : (w6.setCell ⟨bb, 0, none⟩ (.slice (some ⟨ge, 0, none⟩) ZL.length ZL.length)).heap.size = w6.heap.size := by simp
      clear R1
      generalize (w6.setCell ⟨bb, 0, none⟩ (.slice (some ⟨ge, 0, none⟩) ZL.length ZL.length)) = W5 at *
      refine (next_any B0 g a len cap 2 _ hS (by omega)).mono ?_
      rintro e W6 ⟨r7, rfl, q7, u7, hS, hg7⟩
      have hz_hg7 := hg7.size
      replace BZ := BZ.grown hg7 (by omega)
      replace BN := BN.grown hg7 (by omega)
      replace BV := BV.grown hg7 (by omega)
      replace BB := BB.grown hg7 (by omega)
      replace R2 := R2.grown hg7 (by omega)
      replace RE := RE.grown hg7 (by omega)
      replace hb := chain_grown hb hg7 (by omega)
      clear hg7
      by_cases e7 : r7 = 0
      rotate_left
      · have f7 : (r7 == 0) = false := by rw [beq_eq_false_iff_ne]; exact e7
        obtain ⟨x0, x1, x2, x3, xf, xl⟩ := BV.four
        obtain ⟨y0, y1, yf, yl⟩ := BB.two
        go_wp2_with fail
        clear x0 x1 x2 x3 xf xl y0 y1 yf yl
        refine (next_any B0 g a len cap 4 _ hS (by omega)).mono ?_
        rintro e w8 ⟨r9, rfl, q9, u9, hS, hg9⟩
        have hz_hg9 := hg9.size
        replace BZ := BZ.grown hg9 (by omega)
        replace BN := BN.grown hg9 (by omega)
        replace BV := BV.grown hg9 (by omega)
        replace BB := BB.grown hg9 (by omega)
        replace RE := RE.grown hg9 (by omega)
        replace R2 := R2.grown hg9 (by omega)
        replace hb := chain_grown hb hg9 (by omega)
        clear hg9
        by_cases e9 : r9 = 0
        · have f9 : (r9 == 0) = true := by rw [beq_iff_eq]; exact e9
          obtain ⟨x0, x1, x2, x3, xf, xl⟩ := BV.four
          obtain ⟨y0, y1, yf, yl⟩ := BB.two
          obtain ⟨z0, z1, z2, z3, zf, zl⟩ := BZ.four
          obtain ⟨n0, n1_, nf, nl⟩ := BN.two
          go_wp2_with fail
          replace RE := (RE.other (g := bb) (o := 0) (v := .slice (some ⟨g2, 0, none⟩) n2 c2) (by omega)).other (g := bb) (o := 1) (v := .slice (some ⟨ge, 0, none⟩) ZL.length ZL.length) (by omega)
          replace R2 := (R2.other (g := bb) (o := 0) (v := .slice (some ⟨g2, 0, none⟩) n2 c2) (by omega)).other (g := bb) (o := 1) (v := .slice (some ⟨ge, 0, none⟩) ZL.length ZL.length) (by omega)
          replace hb := (hb.setCell (p := ⟨bb, 0, none⟩) (by simp; omega) (.slice (some ⟨g2, 0, none⟩) n2 c2)).setCell (p := ⟨bb, 1, none⟩) (by simp; omega) (.slice (some ⟨ge, 0, none⟩) ZL.length ZL.length)
          go_region
          all_goals go_wp2
          refine bodyPost_ret (v := .tuple #[.agg #[.int .i64 p, .int .i64 c, .int .i64 h, .int .i64 s], .agg #[.slice (some ⟨g2, 0, none⟩) n2 c2, .slice (some ⟨ge, 0, none⟩) ZL.length ZL.length]]) (by simp [results, Try.results48, go_sem, z0, z1, z2, z3, n0, n1_]) rfl ?_
          exact ⟨p, c, h, s, g2, ge, n2, ZL.length, c2, ZL.length, ys, ZL, rfl, HY.out, rfl, by omega, by omega, ((((((R2.other (g := w.heap.size) (o := 0) (v := .int .i64 p) (by omega)).other (g := w.heap.size) (o := 1) (v := .int .i64 c) (by omega)).other (g := w.heap.size) (o := 2) (v := .int .i64 h) (by omega)).other (g := w.heap.size) (o := 3) (v := .int .i64 s) (by omega)).other (g := (w.heap.size + 1)) (o := 0) (v := .slice (some ⟨g2, 0, none⟩) n2 c2) (by omega)).other (g := (w.heap.size + 1)) (o := 1) (v := .slice (some ⟨ge, 0, none⟩) ZL.length ZL.length) (by omega)).drew, ((((((RE.other (g := w.heap.size) (o := 0) (v := .int .i64 p) (by omega)).other (g := w.heap.size) (o := 1) (v := .int .i64 c) (by omega)).other (g := w.heap.size) (o := 2) (v := .int .i64 h) (by omega)).other (g := w.heap.size) (o := 3) (v := .int .i64 s) (by omega)).other (g := (w.heap.size + 1)) (o := 0) (v := .slice (some ⟨g2, 0, none⟩) n2 c2) (by omega)).other (g := (w.heap.size + 1)) (o := 1) (v := .slice (some ⟨ge, 0, none⟩) ZL.length ZL.length) (by omega)).drew, ((((((hb.setCell (p := ⟨w.heap.size, 0, none⟩) (by simp) (.int .i64 p)).setCell (p := ⟨w.heap.size, 1, none⟩) (by simp) (.int .i64 c)).setCell (p := ⟨w.heap.size, 2, none⟩) (by simp) (.int .i64 h)).setCell (p := ⟨w.heap.size, 3, none⟩) (by simp) (.int .i64 s)).setCell (p := ⟨(w.heap.size + 1), 0, none⟩) (by simp) (.slice (some ⟨g2, 0, none⟩) n2 c2)).setCell (p := ⟨(w.heap.size + 1), 1, none⟩) (by simp) (.slice (some ⟨ge, 0, none⟩) ZL.length ZL.length)).drew⟩
        · have f9 : (r9 == 0) = false := by rw [beq_eq_false_iff_ne]; exact e9
          obtain ⟨x0, x1, x2, x3, xf, xl⟩ := BV.four
          obtain ⟨y0, y1, yf, yl⟩ := BB.two
          obtain ⟨z0, z1, z2, z3, zf, zl⟩ := BZ.four
          obtain ⟨n0, n1_, nf, nl⟩ := BN.two
          go_wp2_with fail
          go_region
          all_goals go_wp2
          refine bodyPost_ret (v := .tuple #[.agg #[.int .i64 p, .int .i64 c, .int .i64 h, .int .i64 s], .agg #[.slice (some ⟨ge, 0, none⟩) ZL.length ZL.length, .slice (some ⟨g2, 0, none⟩) n2 c2]]) (by simp [results, Try.results48, go_sem, z0, z1, z2, z3, n0, n1_]) rfl ?_
          exact ⟨p, c, h, s, ge, g2, ZL.length, n2, ZL.length, c2, ZL, ys, rfl, rfl, HY.out, by omega, by omega, ((((((RE.other (g := w.heap.size) (o := 0) (v := .int .i64 p) (by omega)).other (g := w.heap.size) (o := 1) (v := .int .i64 c) (by omega)).other (g := w.heap.size) (o := 2) (v := .int .i64 h) (by omega)).other (g := w.heap.size) (o := 3) (v := .int .i64 s) (by omega)).other (g := (w.heap.size + 1)) (o := 0) (v := .slice (some ⟨ge, 0, none⟩) ZL.length ZL.length) (by omega)).other (g := (w.heap.size + 1)) (o := 1) (v := .slice (some ⟨g2, 0, none⟩) n2 c2) (by omega)).drew, ((((((R2.other (g := w.heap.size) (o := 0) (v := .int .i64 p) (by omega)).other (g := w.heap.size) (o := 1) (v := .int .i64 c) (by omega)).other (g := w.heap.size) (o := 2) (v := .int .i64 h) (by omega)).other (g := w.heap.size) (o := 3) (v := .int .i64 s) (by omega)).other (g := (w.heap.size + 1)) (o := 0) (v := .slice (some ⟨ge, 0, none⟩) ZL.length ZL.length) (by omega)).other (g := (w.heap.size + 1)) (o := 1) (v := .slice (some ⟨g2, 0, none⟩) n2 c2) (by omega)).drew, ((((((hb.setCell (p := ⟨w.heap.size, 0, none⟩) (by simp) (.int .i64 p)).setCell (p := ⟨w.heap.size, 1, none⟩) (by simp) (.int .i64 c)).setCell (p := ⟨w.heap.size, 2, none⟩) (by simp) (.int .i64 h)).setCell (p := ⟨w.heap.size, 3, none⟩) (by simp) (.int .i64 s)).setCell (p := ⟨(w.heap.size + 1), 0, none⟩) (by simp) (.slice (some ⟨ge, 0, none⟩) ZL.length ZL.length)).setCell (p := ⟨(w.heap.size + 1), 1, none⟩) (by simp) (.slice (some ⟨g2, 0, none⟩) n2 c2)).drew⟩
      · have f7 : (r7 == 0) = true := by rw [beq_iff_eq]; exact e7
        by_cases e8 : 0 < n2
        rotate_left
        · have f8 : decide ((0 : Int) < (n2 : Int)) = false := by rw [decide_eq_false_iff_not]; omega
          obtain ⟨x0, x1, x2, x3, xf, xl⟩ := BV.four
          obtain ⟨y0, y1, yf, yl⟩ := BB.two
          go_wp2_with fail
          clear x0 x1 x2 x3 xf xl y0 y1 yf yl
          refine (next_any B0 g a len cap 4 _ hS (by omega)).mono ?_
          rintro e w9 ⟨r9, rfl, q9, u9, hS, hg9⟩
          have hz_hg9 := hg9.size
          replace BZ := BZ.grown hg9 (by omega)
          replace BN := BN.grown hg9 (by omega)
          replace BV := BV.grown hg9 (by omega)
          replace BB := BB.grown hg9 (by omega)
          replace RE := RE.grown hg9 (by omega)
          replace R2 := R2.grown hg9 (by omega)
          replace hb := chain_grown hb hg9 (by omega)
          clear hg9
          by_cases e9 : r9 = 0
          · have f9 : (r9 == 0) = true := by rw [beq_iff_eq]; exact e9
            obtain ⟨x0, x1, x2, x3, xf, xl⟩ := BV.four
            obtain ⟨y0, y1, yf, yl⟩ := BB.two
            obtain ⟨z0, z1, z2, z3, zf, zl⟩ := BZ.four
            obtain ⟨n0, n1_, nf, nl⟩ := BN.two
            go_wp2_with fail
            replace RE := (RE.other (g := bb) (o := 0) (v := .slice (some ⟨g2, 0, none⟩) n2 c2) (by omega)).other (g := bb) (o := 1) (v := .slice (some ⟨ge, 0, none⟩) ZL.length ZL.length) (by omega)
            replace R2 := (R2.other (g := bb) (o := 0) (v := .slice (some ⟨g2, 0, none⟩) n2 c2) (by omega)).other (g := bb) (o := 1) (v := .slice (some ⟨ge, 0, none⟩) ZL.length ZL.length) (by omega)
            replace hb := (hb.setCell (p := ⟨bb, 0, none⟩) (by simp; omega) (.slice (some ⟨g2, 0, none⟩) n2 c2)).setCell (p := ⟨bb, 1, none⟩) (by simp; omega) (.slice (some ⟨ge, 0, none⟩) ZL.length ZL.length)
            go_region
            all_goals go_wp2
            refine bodyPost_ret (v := .tuple #[.agg #[.int .i64 p, .int .i64 c, .int .i64 h, .int .i64 s], .agg #[.slice (some ⟨g2, 0, none⟩) n2 c2, .slice (some ⟨ge, 0, none⟩) ZL.length ZL.length]]) (by simp [results, Try.results48, go_sem, z0, z1, z2, z3, n0, n1_]) rfl ?_
            exact ⟨p, c, h, s, g2, ge, n2, ZL.length, c2, ZL.length, ys, ZL, rfl, HY.out, rfl, by omega, by omega, ((((((R2.other (g := w.heap.size) (o := 0) (v := .int .i64 p) (by omega)).other (g := w.heap.size) (o := 1) (v := .int .i64 c) (by omega)).other (g := w.heap.size) (o := 2) (v := .int .i64 h) (by omega)).other (g := w.heap.size) (o := 3) (v := .int .i64 s) (by omega)).other (g := (w.heap.size + 1)) (o := 0) (v := .slice (some ⟨g2, 0, none⟩) n2 c2) (by omega)).other (g := (w.heap.size + 1)) (o := 1) (v := .slice (some ⟨ge, 0, none⟩) ZL.length ZL.length) (by omega)).drew, ((((((RE.other (g := w.heap.size) (o := 0) (v := .int .i64 p) (by omega)).other (g := w.heap.size) (o := 1) (v := .int .i64 c) (by omega)).other (g := w.heap.size) (o := 2) (v := .int .i64 h) (by omega)).other (g := w.heap.size) (o := 3) (v := .int .i64 s) (by omega)).other (g := (w.heap.size + 1)) (o := 0) (v := .slice (some ⟨g2, 0, none⟩) n2 c2) (by omega)).other (g := (w.heap.size + 1)) (o := 1) (v := .slice (some ⟨ge, 0, none⟩) ZL.length ZL.length) (by omega)).drew, ((((((hb.setCell (p := ⟨w.heap.size, 0, none⟩) (by simp) (.int .i64 p)).setCell (p := ⟨w.heap.size, 1, none⟩) (by simp) (.int .i64 c)).setCell (p := ⟨w.heap.size, 2, none⟩) (by simp) (.int .i64 h)).setCell (p := ⟨w.heap.size, 3, none⟩) (by simp) (.int .i64 s)).setCell (p := ⟨(w.heap.size + 1), 0, none⟩) (by simp) (.slice (some ⟨g2, 0, none⟩) n2 c2)).setCell (p := ⟨(w.heap.size + 1), 1, none⟩) (by simp) (.slice (some ⟨ge, 0, none⟩) ZL.length ZL.length)).drew⟩
          · have f9 : (r9 == 0) = false := by rw [beq_eq_false_iff_ne]; exact e9
            obtain ⟨x0, x1, x2, x3, xf, xl⟩ := BV.four
            obtain ⟨y0, y1, yf, yl⟩ := BB.two
            obtain ⟨z0, z1, z2, z3, zf, zl⟩ := BZ.four
            obtain ⟨n0, n1_, nf, nl⟩ := BN.two
            go_wp2_with fail
            go_region
            all_goals go_wp2
            refine bodyPost_ret (v := .tuple #[.agg #[.int .i64 p, .int .i64 c, .int .i64 h, .int .i64 s], .agg #[.slice (some ⟨ge, 0, none⟩) ZL.length ZL.length, .slice (some ⟨g2, 0, none⟩) n2 c2]]) (by simp [results, Try.results48, go_sem, z0, z1, z2, z3, n0, n1_]) rfl ?_
            exact ⟨p, c, h, s, ge, g2, ZL.length, n2, ZL.length, c2, ZL, ys, rfl, rfl, HY.out, by omega, by omega, ((((((RE.other (g := w.heap.size) (o := 0) (v := .int .i64 p) (by omega)).other (g := w.heap.size) (o := 1) (v := .int .i64 c) (by omega)).other (g := w.heap.size) (o := 2) (v := .int .i64 h) (by omega)).other (g := w.heap.size) (o := 3) (v := .int .i64 s) (by omega)).other (g := (w.heap.size + 1)) (o := 0) (v := .slice (some ⟨ge, 0, none⟩) ZL.length ZL.length) (by omega)).other (g := (w.heap.size + 1)) (o := 1) (v := .slice (some ⟨g2, 0, none⟩) n2 c2) (by omega)).drew, ((((((R2.other (g := w.heap.size) (o := 0) (v := .int .i64 p) (by omega)).other (g := w.heap.size) (o := 1) (v := .int .i64 c) (by omega)).other (g := w.heap.size) (o := 2) (v := .int .i64 h) (by omega)).other (g := w.heap.size) (o := 3) (v := .int .i64 s) (by omega)).other (g := (w.heap.size + 1)) (o := 0) (v := .slice (some ⟨ge, 0, none⟩) ZL.length ZL.length) (by omega)).other (g := (w.heap.size + 1)) (o := 1) (v := .slice (some ⟨g2, 0, none⟩) n2 c2) (by omega)).drew, ((((((hb.setCell (p := ⟨w.heap.size, 0, none⟩) (by simp) (.int .i64 p)).setCell (p := ⟨w.heap.size, 1, none⟩) (by simp) (.int .i64 c)).setCell (p := ⟨w.heap.size, 2, none⟩) (by simp) (.int .i64 h)).setCell (p := ⟨w.heap.size, 3, none⟩) (by simp) (.int .i64 s)).setCell (p := ⟨(w.heap.size + 1), 0, none⟩) (by simp) (.slice (some ⟨ge, 0, none⟩) ZL.length ZL.length)).setCell (p := ⟨(w.heap.size + 1), 1, none⟩) (by simp) (.slice (some ⟨g2, 0, none⟩) n2 c2)).drew⟩
        · have f8 : decide ((0 : Int) < (n2 : Int)) = true := by rw [decide_eq_true_iff]; omega
          obtain ⟨x0, x1, x2, x3, xf, xl⟩ := BV.four
          obtain ⟨y0, y1, yf, yl⟩ := BB.two
          go_wp2_with fail
          clear x0 x1 x2 x3 xf xl y0 y1 yf yl
          refine wp_region_held_drew (S := fun w' => w'.cell? ⟨bv, 0, none⟩ = some (.int .i64 p) ∧ w'.cell? ⟨bv, 1, none⟩ = some (.int .i64 c) ∧ w'.cell? ⟨bv, 2, none⟩ = some (.int .i64 h) ∧ w'.cell? ⟨bv, 3, none⟩ = some (.int .i64 s) ∧ w'.cell? ⟨bb, 0, none⟩ = some (.slice (some ⟨ge, 0, none⟩) ZL.length ZL.length) ∧ w'.cell? ⟨bb, 1, none⟩ = some (.slice (some ⟨g2, 0, none⟩) n2 c2)) (by kernel_rfl) ⟨BV.four.1, BV.four.2.1, BV.four.2.2.1, BV.four.2.2.2.1, BB.two.1, BB.two.2.1⟩ (fun hHeld => ?_)
          clear hHeld
          have hd_ : W6.drew.heap.size = W6.heap.size := rfl
          replace BZ := BZ.drew
          replace BN := BN.drew
          replace BV := BV.drew
          replace BB := BB.drew
          replace hS := hS.drew
          replace R2 := R2.drew
          replace RE := RE.drew
          replace hb := hb.drew
          generalize W6.drew = vd at *
          have hHeld : vd.cell? ⟨bv, 0, none⟩ = some (.int .i64 p) ∧ vd.cell? ⟨bv, 1, none⟩ = some (.int .i64 c) ∧ vd.cell? ⟨bv, 2, none⟩ = some (.int .i64 h) ∧ vd.cell? ⟨bv, 3, none⟩ = some (.int .i64 s) ∧ vd.cell? ⟨bb, 0, none⟩ = some (.slice (some ⟨ge, 0, none⟩) ZL.length ZL.length) ∧ vd.cell? ⟨bb, 1, none⟩ = some (.slice (some ⟨g2, 0, none⟩) n2 c2) := ⟨BV.four.1, BV.four.2.1, BV.four.2.2.1, BV.four.2.2.2.1, BB.two.1, BB.two.2.1⟩
          refine wpAnyH_take (i := 0) (oi := { dst := some 33, op := _, type := _, pos := _, after := _, guard := _ }) (v := ?_) rfl (by kernel_rfl) (by kernel_rfl) (by kernel_rfl) (fun _ _ _ h => h) (Or.inl ⟨by rfl, ?_⟩) (by assumption) ?_
          rotate_left
          · intro w hSw
            (try dsimp only at hSw)
            go_simp
            (try (with_reducible rfl))
          try simp only [Act.put, List.setIfInBounds_toArray, List.set_cons_zero, List.set_cons_succ]
          refine wpAnyH_take (i := 1) (oi := { dst := some 34, op := _, type := _, pos := _, after := _, guard := _ }) (v := ?_) rfl (by kernel_rfl) (by kernel_rfl) (by kernel_rfl) (fun _ _ _ h => h) (Or.inl ⟨by rfl, ?_⟩) (by assumption) ?_
          rotate_left
          · intro w hSw
            (try dsimp only at hSw)
            go_simp
            (try (with_reducible rfl))
          try simp only [Act.put, List.setIfInBounds_toArray, List.set_cons_zero, List.set_cons_succ]
          refine wpAnyH_take (i := 2) (oi := { dst := some 35, op := _, type := _, pos := _, after := _, guard := _ }) (v := ?_) rfl (by kernel_rfl) (by kernel_rfl) (by kernel_rfl) (fun _ _ _ h => h) (Or.inl ⟨by rfl, ?_⟩) (by assumption) ?_
          rotate_left
          · intro w hSw
            (try dsimp only at hSw)
            go_simp
            (try (with_reducible rfl))
          try simp only [Act.put, List.setIfInBounds_toArray, List.set_cons_zero, List.set_cons_succ]
          refine wpAnyH_take (i := 3) (oi := { dst := some 36, op := _, type := _, pos := _, after := _, guard := _ }) (v := ?_) rfl (by kernel_rfl) (by kernel_rfl) (by kernel_rfl) (fun _ _ _ h => h) (Or.inl ⟨by rfl, ?_⟩) (by assumption) ?_
          rotate_left
          · intro w hSw
            (try dsimp only at hSw)
            go_simp
            (try (with_reducible rfl))
          try simp only [Act.put, List.setIfInBounds_toArray, List.set_cons_zero, List.set_cons_succ]
          refine wpAnyH_take (i := 4) (oi := { dst := some 37, op := _, type := _, pos := _, after := _, guard := _ }) (v := ?_) rfl (by kernel_rfl) (by kernel_rfl) (by kernel_rfl) (fun _ _ _ h => h) (Or.inl ⟨by rfl, ?_⟩) (by assumption) ?_
          rotate_left
          · intro w hSw
            (try dsimp only at hSw)
            go_simp
            (try (with_reducible rfl))
          try simp only [Act.put, List.setIfInBounds_toArray, List.set_cons_zero, List.set_cons_succ]
          refine wpAnyH_take (i := 5) (oi := { dst := some 38, op := _, type := _, pos := _, after := _, guard := _ }) (v := ?_) rfl (by kernel_rfl) (by kernel_rfl) (by kernel_rfl) (fun _ _ _ h => h) (Or.inl ⟨by rfl, ?_⟩) (by assumption) ?_
          rotate_left
          · intro w hSw
            (try dsimp only at hSw)
            go_simp
            (try (with_reducible rfl))
          try simp only [Act.put, List.setIfInBounds_toArray, List.set_cons_zero, List.set_cons_succ]
          refine wpAnyH_take (i := 9) (oi := { dst := some 42, op := _, type := _, pos := _, after := _, guard := _ }) (v := ?_) rfl (by kernel_rfl) (by kernel_rfl) (by kernel_rfl) (fun _ _ _ h => h) (Or.inl ⟨by rfl, ?_⟩) (by assumption) ?_
          rotate_left
          · intro w hSw
            (try dsimp only at hSw)
            go_simp
            (try (with_reducible rfl))
          try simp only [Act.put, List.setIfInBounds_toArray, List.set_cons_zero, List.set_cons_succ]
          refine wpAnyH_take (i := 10) (oi := { dst := some 43, op := _, type := _, pos := _, after := _, guard := _ }) (v := ?_) rfl (by kernel_rfl) (by kernel_rfl) (by kernel_rfl) (fun _ _ _ h => h) (Or.inl ⟨by rfl, ?_⟩) (by assumption) ?_
          rotate_left
          · intro w hSw
            (try dsimp only at hSw)
            go_simp
            (try (with_reducible rfl))
          try simp only [Act.put, List.setIfInBounds_toArray, List.set_cons_zero, List.set_cons_succ]
          refine wpAnyH_take (i := 11) (oi := { dst := some 44, op := _, type := _, pos := _, after := _, guard := _ }) (v := ?_) rfl (by kernel_rfl) (by kernel_rfl) (by kernel_rfl) (fun _ _ _ h => h) (Or.inl ⟨by rfl, ?_⟩) (by assumption) ?_
          rotate_left
          · intro w hSw
            (try dsimp only at hSw)
            go_simp
            (try (with_reducible rfl))
          try simp only [Act.put, List.setIfInBounds_toArray, List.set_cons_zero, List.set_cons_succ]
          refine wpAnyH_take (i := 12) (oi := { dst := some 45, op := _, type := _, pos := _, after := _, guard := _ }) (v := ?_) rfl (by kernel_rfl) (by kernel_rfl) (by kernel_rfl) (fun _ _ _ h => h) (Or.inl ⟨by rfl, ?_⟩) (by assumption) ?_
          rotate_left
          · intro w hSw
            (try dsimp only at hSw)
            go_simp
            (try (with_reducible rfl))
          try simp only [Act.put, List.setIfInBounds_toArray, List.set_cons_zero, List.set_cons_succ]
          refine wpAnyH_ready (rs := [6]) (by kernel_rfl) (by simp) ?_
          refine AllReadyH.cons (o := { dst := some 39, op := _, type := _, pos := _, after := _, guard := _ }) rfl (fun K hK => ?_) AllReadyH.nil
          go_simp
          refine (next_any B0 g a len cap (n2 : Int) _ hS (by omega)).mono ?_
          rintro e wA ⟨kk, rfl, qk, uk, hS, hgA⟩
          have hz_hgA := hgA.size
          replace BZ := BZ.grown hgA (by omega)
          replace BN := BN.grown hgA (by omega)
          replace BV := BV.grown hgA (by omega)
          replace BB := BB.grown hgA (by omega)
          replace R2 := R2.grown hgA (by omega)
          replace RE := RE.grown hgA (by omega)
          replace hb := chain_grown hb hgA (by omega)
          clear hgA
          obtain ⟨k, rfl⟩ := Int.eq_ofNat_of_zero_le qk
          have hk : k < n2 := by omega
          have hk1 : (k : Int) < (n2 : Int) := by omega
          have hk2 : (0 : Int) ≤ (k : Int) := by omega
          (try go_wp2_with fail)
          refine hK.out _ _ ⟨BV.four.1, BV.four.2.1, BV.four.2.2.1, BV.four.2.2.2.1, BB.two.1, BB.two.2.1⟩ (fun hHeld => ?_)
          clear hK K
          try simp only [Act.put, List.setIfInBounds_toArray, List.set_cons_zero, List.set_cons_succ]
          refine wpAnyH_take (i := 7) (oi := { dst := some 40, op := _, type := _, pos := _, after := _, guard := _ }) (v := ?_) rfl (by kernel_rfl) (by kernel_rfl) (by kernel_rfl) (fun _ _ _ h => h) (Or.inl ⟨by rfl, ?_⟩) (by assumption) ?_
          rotate_left
          · intro w hSw
            (try dsimp only at hSw)
            go_simp
            (try (with_reducible rfl))
          try simp only [Act.put, List.setIfInBounds_toArray, List.set_cons_zero, List.set_cons_succ]
          refine wpAnyH_ready (rs := [8, 13]) (by kernel_rfl) (by simp) ?_
          refine AllReadyH.cons (o := { dst := some 41, op := _, type := _, pos := _, after := _, guard := _ }) rfl (fun K hK => ?_) (AllReadyH.cons (o := { dst := some 46, op := _, type := _, pos := _, after := _, guard := _ }) rfl (fun K hK => ?_) AllReadyH.nil)
          · have cR2 := R2.cell k (by have := HY.out; omega)
            obtain ⟨e2, he2⟩ : ∃ v, ys.getD k 0 = v := ⟨_, rfl⟩
            rw [he2] at cR2
            clear he2
            go_simp
            (try go_wp2_with fail)
            refine hK.out _ _ ⟨BV.four.1, BV.four.2.1, BV.four.2.2.1, BV.four.2.2.2.1, BB.two.1, BB.two.2.1⟩ (fun hHeld => ?_)
            clear hK K
            try simp only [Act.put, List.setIfInBounds_toArray, List.set_cons_zero, List.set_cons_succ]
            clear cR2
            refine wpAnyH_ready (rs := [13]) (by kernel_rfl) (by simp) ?_
            refine AllReadyH.cons (o := { dst := some 46, op := _, type := _, pos := _, after := _, guard := _ }) rfl (fun K hK => ?_) AllReadyH.nil
            go_simp
            refine (sumAny (some ⟨g2, 0, none⟩) n2 c2 ys _ HY.out l2 R2.irow).mono ?_
            rintro e wB ⟨rs, rfl, rfl⟩
            (try go_wp2_with fail)
            refine hK.out _ _ ⟨BV.four.1, BV.four.2.1, BV.four.2.2.1, BV.four.2.2.2.1, BB.two.1, BB.two.2.1⟩ (fun hHeld => ?_)
            clear hK K
            try simp only [Act.put, List.setIfInBounds_toArray, List.set_cons_zero, List.set_cons_succ]
            refine wpAnyH_take (i := 14) (oi := { dst := some 47, op := _, type := _, pos := _, after := _, guard := _ }) (v := ?_) rfl (by kernel_rfl) (by kernel_rfl) (by kernel_rfl) (fun _ _ _ h => h) (Or.inl ⟨by rfl, ?_⟩) (by assumption) ?_
            rotate_left
            · intro w hSw
              (try dsimp only at hSw)
              go_simp
              (try (with_reducible rfl))
            try simp only [Act.put, List.setIfInBounds_toArray, List.set_cons_zero, List.set_cons_succ]
            refine wpAnyH_take (i := 15) (oi := { dst := some 48, op := _, type := _, pos := _, after := _, guard := _ }) (v := ?_) rfl (by kernel_rfl) (by kernel_rfl) (by kernel_rfl) (fun _ _ _ h => h) (Or.inl ⟨by rfl, ?_⟩) (by assumption) ?_
            rotate_left
            · intro w hSw
              (try dsimp only at hSw)
              go_simp
              (try (with_reducible rfl))
            try simp only [Act.put, List.setIfInBounds_toArray, List.set_cons_zero, List.set_cons_succ]
            refine wpAnyH_take (i := 16) (oi := { dst := some 49, op := _, type := _, pos := _, after := _, guard := _ }) (v := ?_) rfl (by kernel_rfl) (by kernel_rfl) (by kernel_rfl) (fun _ _ _ h => h) (Or.inl ⟨by rfl, ?_⟩) (by assumption) ?_
            rotate_left
            · intro w hSw
              (try dsimp only at hSw)
              go_simp
              (try (with_reducible rfl))
            try simp only [Act.put, List.setIfInBounds_toArray, List.set_cons_zero, List.set_cons_succ]
            refine wpAnyH_ready (rs := [17]) (by kernel_rfl) (by simp) ?_
            refine AllReadyH.cons (o := { dst := none, op := _, type := _, pos := _, after := _, guard := _ }) rfl (fun K hK => ?_) AllReadyH.nil
            have fR2 := fun i => R2.free i
            have cR2 := R2.cell k (by have := HY.out; omega)
            go_simp
            (try go_wp2_with fail)
            refine hK.out _ _ ⟨(BV.other (g := g2) (o := k) (v := .int .i64 (IntKind.i64.wrap (e2 + IntKind.i64.wrap (c - rs)))) (by omega)).four.1, (BV.other (g := g2) (o := k) (v := .int .i64 (IntKind.i64.wrap (e2 + IntKind.i64.wrap (c - rs)))) (by omega)).four.2.1, (BV.other (g := g2) (o := k) (v := .int .i64 (IntKind.i64.wrap (e2 + IntKind.i64.wrap (c - rs)))) (by omega)).four.2.2.1, (BV.other (g := g2) (o := k) (v := .int .i64 (IntKind.i64.wrap (e2 + IntKind.i64.wrap (c - rs)))) (by omega)).four.2.2.2.1, (BB.other (g := g2) (o := k) (v := .int .i64 (IntKind.i64.wrap (e2 + IntKind.i64.wrap (c - rs)))) (by omega)).two.1, (BB.other (g := g2) (o := k) (v := .int .i64 (IntKind.i64.wrap (e2 + IntKind.i64.wrap (c - rs)))) (by omega)).two.2.1⟩ (fun hHeld => ?_)
            clear hK K
            try simp only [Act.put, List.setIfInBounds_toArray, List.set_cons_zero, List.set_cons_succ]
            clear fR2 cR2
            replace BZ := BZ.other (g := g2) (o := k) (v := .int .i64 (IntKind.i64.wrap (e2 + IntKind.i64.wrap (c - rs)))) (by omega)
            replace BN := BN.other (g := g2) (o := k) (v := .int .i64 (IntKind.i64.wrap (e2 + IntKind.i64.wrap (c - rs)))) (by omega)
            replace BV := BV.other (g := g2) (o := k) (v := .int .i64 (IntKind.i64.wrap (e2 + IntKind.i64.wrap (c - rs)))) (by omega)
            replace BB := BB.other (g := g2) (o := k) (v := .int .i64 (IntKind.i64.wrap (e2 + IntKind.i64.wrap (c - rs)))) (by omega)
            replace RE := RE.other (g := g2) (o := k) (v := .int .i64 (IntKind.i64.wrap (e2 + IntKind.i64.wrap (c - rs)))) (by omega)
            replace R2 := R2.set k (IntKind.i64.wrap (e2 + IntKind.i64.wrap (c - rs)))
            replace hS := hS.set (g' := g2) (o := k) (v := .int .i64 (IntKind.i64.wrap (e2 + IntKind.i64.wrap (c - rs)))) (by omega) (by omega)
            replace hb := hb.setCell (p := ⟨g2, k, none⟩) (by simp; omega) (.int .i64 (IntKind.i64.wrap (e2 + IntKind.i64.wrap (c - rs))))
            refine wpAnyH_done (by kernel_rfl) ?_ _
            clear hHeld
            have hnv : IntKind.i64.wrap (e2 + IntKind.i64.wrap (c - rs)) = wrap64 (e2 + wrap64 (c - rs)) := by rw [IntWalk.i64_left, IntWalk.i64_left]
            rw [hnv] at BZ BN BV BB RE R2 hS hb
            obtain ⟨x0, x1, x2, x3, xf, xl⟩ := BV.four
            obtain ⟨y0, y1, yf, yl⟩ := BB.two
            go_wp2_with fail
            clear x0 x1 x2 x3 xf xl y0 y1 yf yl
            refine (next_any B0 g a len cap 4 _ hS (by omega)).mono ?_
            rintro e w30 ⟨r9, rfl, q9, u9, hS, hg9⟩
            have hz_hg9 := hg9.size
            replace BZ := BZ.grown hg9 (by omega)
            replace BN := BN.grown hg9 (by omega)
            replace BV := BV.grown hg9 (by omega)
            replace BB := BB.grown hg9 (by omega)
            replace RE := RE.grown hg9 (by omega)
            replace R2 := R2.grown hg9 (by omega)
            replace hb := chain_grown hb hg9 (by omega)
            clear hg9
            by_cases e9 : r9 = 0
            · have f9 : (r9 == 0) = true := by rw [beq_iff_eq]; exact e9
              obtain ⟨x0, x1, x2, x3, xf, xl⟩ := BV.four
              obtain ⟨y0, y1, yf, yl⟩ := BB.two
              obtain ⟨z0, z1, z2, z3, zf, zl⟩ := BZ.four
              obtain ⟨n0, n1_, nf, nl⟩ := BN.two
              go_wp2_with fail
              replace RE := (RE.other (g := bb) (o := 0) (v := .slice (some ⟨g2, 0, none⟩) n2 c2) (by omega)).other (g := bb) (o := 1) (v := .slice (some ⟨ge, 0, none⟩) ZL.length ZL.length) (by omega)
              replace R2 := (R2.other (g := bb) (o := 0) (v := .slice (some ⟨g2, 0, none⟩) n2 c2) (by omega)).other (g := bb) (o := 1) (v := .slice (some ⟨ge, 0, none⟩) ZL.length ZL.length) (by omega)
              replace hb := (hb.setCell (p := ⟨bb, 0, none⟩) (by simp; omega) (.slice (some ⟨g2, 0, none⟩) n2 c2)).setCell (p := ⟨bb, 1, none⟩) (by simp; omega) (.slice (some ⟨ge, 0, none⟩) ZL.length ZL.length)
              go_region
              all_goals go_wp2
              refine bodyPost_ret (v := .tuple #[.agg #[.int .i64 p, .int .i64 c, .int .i64 h, .int .i64 s], .agg #[.slice (some ⟨g2, 0, none⟩) n2 c2, .slice (some ⟨ge, 0, none⟩) ZL.length ZL.length]]) (by simp [results, Try.results48, go_sem, z0, z1, z2, z3, n0, n1_]) rfl ?_
              exact ⟨p, c, h, s, g2, ge, n2, ZL.length, c2, ZL.length, (ys.set k (wrap64 (e2 + wrap64 (c - rs)))), ZL, rfl, (by rw [List.length_set]; exact HY.out), rfl, by omega, by omega, ((((((R2.other (g := w.heap.size) (o := 0) (v := .int .i64 p) (by omega)).other (g := w.heap.size) (o := 1) (v := .int .i64 c) (by omega)).other (g := w.heap.size) (o := 2) (v := .int .i64 h) (by omega)).other (g := w.heap.size) (o := 3) (v := .int .i64 s) (by omega)).other (g := (w.heap.size + 1)) (o := 0) (v := .slice (some ⟨g2, 0, none⟩) n2 c2) (by omega)).other (g := (w.heap.size + 1)) (o := 1) (v := .slice (some ⟨ge, 0, none⟩) ZL.length ZL.length) (by omega)).drew, ((((((RE.other (g := w.heap.size) (o := 0) (v := .int .i64 p) (by omega)).other (g := w.heap.size) (o := 1) (v := .int .i64 c) (by omega)).other (g := w.heap.size) (o := 2) (v := .int .i64 h) (by omega)).other (g := w.heap.size) (o := 3) (v := .int .i64 s) (by omega)).other (g := (w.heap.size + 1)) (o := 0) (v := .slice (some ⟨g2, 0, none⟩) n2 c2) (by omega)).other (g := (w.heap.size + 1)) (o := 1) (v := .slice (some ⟨ge, 0, none⟩) ZL.length ZL.length) (by omega)).drew, ((((((hb.setCell (p := ⟨w.heap.size, 0, none⟩) (by simp) (.int .i64 p)).setCell (p := ⟨w.heap.size, 1, none⟩) (by simp) (.int .i64 c)).setCell (p := ⟨w.heap.size, 2, none⟩) (by simp) (.int .i64 h)).setCell (p := ⟨w.heap.size, 3, none⟩) (by simp) (.int .i64 s)).setCell (p := ⟨(w.heap.size + 1), 0, none⟩) (by simp) (.slice (some ⟨g2, 0, none⟩) n2 c2)).setCell (p := ⟨(w.heap.size + 1), 1, none⟩) (by simp) (.slice (some ⟨ge, 0, none⟩) ZL.length ZL.length)).drew⟩
            · have f9 : (r9 == 0) = false := by rw [beq_eq_false_iff_ne]; exact e9
              obtain ⟨x0, x1, x2, x3, xf, xl⟩ := BV.four
              obtain ⟨y0, y1, yf, yl⟩ := BB.two
              obtain ⟨z0, z1, z2, z3, zf, zl⟩ := BZ.four
              obtain ⟨n0, n1_, nf, nl⟩ := BN.two
              go_wp2_with fail
              go_region
              all_goals go_wp2
              refine bodyPost_ret (v := .tuple #[.agg #[.int .i64 p, .int .i64 c, .int .i64 h, .int .i64 s], .agg #[.slice (some ⟨ge, 0, none⟩) ZL.length ZL.length, .slice (some ⟨g2, 0, none⟩) n2 c2]]) (by simp [results, Try.results48, go_sem, z0, z1, z2, z3, n0, n1_]) rfl ?_
              exact ⟨p, c, h, s, ge, g2, ZL.length, n2, ZL.length, c2, ZL, (ys.set k (wrap64 (e2 + wrap64 (c - rs)))), rfl, rfl, (by rw [List.length_set]; exact HY.out), by omega, by omega, ((((((RE.other (g := w.heap.size) (o := 0) (v := .int .i64 p) (by omega)).other (g := w.heap.size) (o := 1) (v := .int .i64 c) (by omega)).other (g := w.heap.size) (o := 2) (v := .int .i64 h) (by omega)).other (g := w.heap.size) (o := 3) (v := .int .i64 s) (by omega)).other (g := (w.heap.size + 1)) (o := 0) (v := .slice (some ⟨ge, 0, none⟩) ZL.length ZL.length) (by omega)).other (g := (w.heap.size + 1)) (o := 1) (v := .slice (some ⟨g2, 0, none⟩) n2 c2) (by omega)).drew, ((((((R2.other (g := w.heap.size) (o := 0) (v := .int .i64 p) (by omega)).other (g := w.heap.size) (o := 1) (v := .int .i64 c) (by omega)).other (g := w.heap.size) (o := 2) (v := .int .i64 h) (by omega)).other (g := w.heap.size) (o := 3) (v := .int .i64 s) (by omega)).other (g := (w.heap.size + 1)) (o := 0) (v := .slice (some ⟨ge, 0, none⟩) ZL.length ZL.length) (by omega)).other (g := (w.heap.size + 1)) (o := 1) (v := .slice (some ⟨g2, 0, none⟩) n2 c2) (by omega)).drew, ((((((hb.setCell (p := ⟨w.heap.size, 0, none⟩) (by simp) (.int .i64 p)).setCell (p := ⟨w.heap.size, 1, none⟩) (by simp) (.int .i64 c)).setCell (p := ⟨w.heap.size, 2, none⟩) (by simp) (.int .i64 h)).setCell (p := ⟨w.heap.size, 3, none⟩) (by simp) (.int .i64 s)).setCell (p := ⟨(w.heap.size + 1), 0, none⟩) (by simp) (.slice (some ⟨ge, 0, none⟩) ZL.length ZL.length)).setCell (p := ⟨(w.heap.size + 1), 1, none⟩) (by simp) (.slice (some ⟨g2, 0, none⟩) n2 c2)).drew⟩
          · go_simp
            refine (sumAny (some ⟨g2, 0, none⟩) n2 c2 ys _ HY.out l2 R2.irow).mono ?_
            rintro e wB ⟨rs, rfl, rfl⟩
            (try go_wp2_with fail)
            refine hK.out _ _ ⟨BV.four.1, BV.four.2.1, BV.four.2.2.1, BV.four.2.2.2.1, BB.two.1, BB.two.2.1⟩ (fun hHeld => ?_)
            clear hK K
            try simp only [Act.put, List.setIfInBounds_toArray, List.set_cons_zero, List.set_cons_succ]
            refine wpAnyH_take (i := 14) (oi := { dst := some 47, op := _, type := _, pos := _, after := _, guard := _ }) (v := ?_) rfl (by kernel_rfl) (by kernel_rfl) (by kernel_rfl) (fun _ _ _ h => h) (Or.inl ⟨by rfl, ?_⟩) (by assumption) ?_
            rotate_left
            · intro w hSw
              (try dsimp only at hSw)
              go_simp
              (try (with_reducible rfl))
            try simp only [Act.put, List.setIfInBounds_toArray, List.set_cons_zero, List.set_cons_succ]
            refine wpAnyH_ready (rs := [8]) (by kernel_rfl) (by simp) ?_
            refine AllReadyH.cons (o := { dst := some 41, op := _, type := _, pos := _, after := _, guard := _ }) rfl (fun K hK => ?_) AllReadyH.nil
            have cR2 := R2.cell k (by have := HY.out; omega)
            obtain ⟨e2, he2⟩ : ∃ v, ys.getD k 0 = v := ⟨_, rfl⟩
            rw [he2] at cR2
            clear he2
            go_simp
            (try go_wp2_with fail)
            refine hK.out _ _ ⟨BV.four.1, BV.four.2.1, BV.four.2.2.1, BV.four.2.2.2.1, BB.two.1, BB.two.2.1⟩ (fun hHeld => ?_)
            clear hK K
            try simp only [Act.put, List.setIfInBounds_toArray, List.set_cons_zero, List.set_cons_succ]
            clear cR2
            refine wpAnyH_take (i := 15) (oi := { dst := some 48, op := _, type := _, pos := _, after := _, guard := _ }) (v := ?_) rfl (by kernel_rfl) (by kernel_rfl) (by kernel_rfl) (fun _ _ _ h => h) (Or.inl ⟨by rfl, ?_⟩) (by assumption) ?_
            rotate_left
            · intro w hSw
              (try dsimp only at hSw)
              go_simp
              (try (with_reducible rfl))
            try simp only [Act.put, List.setIfInBounds_toArray, List.set_cons_zero, List.set_cons_succ]
            refine wpAnyH_take (i := 16) (oi := { dst := some 49, op := _, type := _, pos := _, after := _, guard := _ }) (v := ?_) rfl (by kernel_rfl) (by kernel_rfl) (by kernel_rfl) (fun _ _ _ h => h) (Or.inl ⟨by rfl, ?_⟩) (by assumption) ?_
            rotate_left
            · intro w hSw
              (try dsimp only at hSw)
              go_simp
              (try (with_reducible rfl))
            try simp only [Act.put, List.setIfInBounds_toArray, List.set_cons_zero, List.set_cons_succ]
            refine wpAnyH_ready (rs := [17]) (by kernel_rfl) (by simp) ?_
            refine AllReadyH.cons (o := { dst := none, op := _, type := _, pos := _, after := _, guard := _ }) rfl (fun K hK => ?_) AllReadyH.nil
            have fR2 := fun i => R2.free i
            have cR2 := R2.cell k (by have := HY.out; omega)
            go_simp
            (try go_wp2_with fail)
            refine hK.out _ _ ⟨(BV.other (g := g2) (o := k) (v := .int .i64 (IntKind.i64.wrap (e2 + IntKind.i64.wrap (c - rs)))) (by omega)).four.1, (BV.other (g := g2) (o := k) (v := .int .i64 (IntKind.i64.wrap (e2 + IntKind.i64.wrap (c - rs)))) (by omega)).four.2.1, (BV.other (g := g2) (o := k) (v := .int .i64 (IntKind.i64.wrap (e2 + IntKind.i64.wrap (c - rs)))) (by omega)).four.2.2.1, (BV.other (g := g2) (o := k) (v := .int .i64 (IntKind.i64.wrap (e2 + IntKind.i64.wrap (c - rs)))) (by omega)).four.2.2.2.1, (BB.other (g := g2) (o := k) (v := .int .i64 (IntKind.i64.wrap (e2 + IntKind.i64.wrap (c - rs)))) (by omega)).two.1, (BB.other (g := g2) (o := k) (v := .int .i64 (IntKind.i64.wrap (e2 + IntKind.i64.wrap (c - rs)))) (by omega)).two.2.1⟩ (fun hHeld => ?_)
            clear hK K
            try simp only [Act.put, List.setIfInBounds_toArray, List.set_cons_zero, List.set_cons_succ]
            clear fR2 cR2
            replace BZ := BZ.other (g := g2) (o := k) (v := .int .i64 (IntKind.i64.wrap (e2 + IntKind.i64.wrap (c - rs)))) (by omega)
            replace BN := BN.other (g := g2) (o := k) (v := .int .i64 (IntKind.i64.wrap (e2 + IntKind.i64.wrap (c - rs)))) (by omega)
            replace BV := BV.other (g := g2) (o := k) (v := .int .i64 (IntKind.i64.wrap (e2 + IntKind.i64.wrap (c - rs)))) (by omega)
            replace BB := BB.other (g := g2) (o := k) (v := .int .i64 (IntKind.i64.wrap (e2 + IntKind.i64.wrap (c - rs)))) (by omega)
            replace RE := RE.other (g := g2) (o := k) (v := .int .i64 (IntKind.i64.wrap (e2 + IntKind.i64.wrap (c - rs)))) (by omega)
            replace R2 := R2.set k (IntKind.i64.wrap (e2 + IntKind.i64.wrap (c - rs)))
            replace hS := hS.set (g' := g2) (o := k) (v := .int .i64 (IntKind.i64.wrap (e2 + IntKind.i64.wrap (c - rs)))) (by omega) (by omega)
            replace hb := hb.setCell (p := ⟨g2, k, none⟩) (by simp; omega) (.int .i64 (IntKind.i64.wrap (e2 + IntKind.i64.wrap (c - rs))))
            refine wpAnyH_done (by kernel_rfl) ?_ _
            clear hHeld
            have hnv : IntKind.i64.wrap (e2 + IntKind.i64.wrap (c - rs)) = wrap64 (e2 + wrap64 (c - rs)) := by rw [IntWalk.i64_left, IntWalk.i64_left]
            rw [hnv] at BZ BN BV BB RE R2 hS hb
            obtain ⟨x0, x1, x2, x3, xf, xl⟩ := BV.four
            obtain ⟨y0, y1, yf, yl⟩ := BB.two
            go_wp2_with fail
            clear x0 x1 x2 x3 xf xl y0 y1 yf yl
            refine (next_any B0 g a len cap 4 _ hS (by omega)).mono ?_
            rintro e w30 ⟨r9, rfl, q9, u9, hS, hg9⟩
            have hz_hg9 := hg9.size
            replace BZ := BZ.grown hg9 (by omega)
            replace BN := BN.grown hg9 (by omega)
            replace BV := BV.grown hg9 (by omega)
            replace BB := BB.grown hg9 (by omega)
            replace RE := RE.grown hg9 (by omega)
            replace R2 := R2.grown hg9 (by omega)
            replace hb := chain_grown hb hg9 (by omega)
            clear hg9
            by_cases e9 : r9 = 0
            · have f9 : (r9 == 0) = true := by rw [beq_iff_eq]; exact e9
              obtain ⟨x0, x1, x2, x3, xf, xl⟩ := BV.four
              obtain ⟨y0, y1, yf, yl⟩ := BB.two
              obtain ⟨z0, z1, z2, z3, zf, zl⟩ := BZ.four
              obtain ⟨n0, n1_, nf, nl⟩ := BN.two
              go_wp2_with fail
              replace RE := (RE.other (g := bb) (o := 0) (v := .slice (some ⟨g2, 0, none⟩) n2 c2) (by omega)).other (g := bb) (o := 1) (v := .slice (some ⟨ge, 0, none⟩) ZL.length ZL.length) (by omega)
              replace R2 := (R2.other (g := bb) (o := 0) (v := .slice (some ⟨g2, 0, none⟩) n2 c2) (by omega)).other (g := bb) (o := 1) (v := .slice (some ⟨ge, 0, none⟩) ZL.length ZL.length) (by omega)
              replace hb := (hb.setCell (p := ⟨bb, 0, none⟩) (by simp; omega) (.slice (some ⟨g2, 0, none⟩) n2 c2)).setCell (p := ⟨bb, 1, none⟩) (by simp; omega) (.slice (some ⟨ge, 0, none⟩) ZL.length ZL.length)
              go_region
              all_goals go_wp2
              refine bodyPost_ret (v := .tuple #[.agg #[.int .i64 p, .int .i64 c, .int .i64 h, .int .i64 s], .agg #[.slice (some ⟨g2, 0, none⟩) n2 c2, .slice (some ⟨ge, 0, none⟩) ZL.length ZL.length]]) (by simp [results, Try.results48, go_sem, z0, z1, z2, z3, n0, n1_]) rfl ?_
              exact ⟨p, c, h, s, g2, ge, n2, ZL.length, c2, ZL.length, (ys.set k (wrap64 (e2 + wrap64 (c - rs)))), ZL, rfl, (by rw [List.length_set]; exact HY.out), rfl, by omega, by omega, ((((((R2.other (g := w.heap.size) (o := 0) (v := .int .i64 p) (by omega)).other (g := w.heap.size) (o := 1) (v := .int .i64 c) (by omega)).other (g := w.heap.size) (o := 2) (v := .int .i64 h) (by omega)).other (g := w.heap.size) (o := 3) (v := .int .i64 s) (by omega)).other (g := (w.heap.size + 1)) (o := 0) (v := .slice (some ⟨g2, 0, none⟩) n2 c2) (by omega)).other (g := (w.heap.size + 1)) (o := 1) (v := .slice (some ⟨ge, 0, none⟩) ZL.length ZL.length) (by omega)).drew, ((((((RE.other (g := w.heap.size) (o := 0) (v := .int .i64 p) (by omega)).other (g := w.heap.size) (o := 1) (v := .int .i64 c) (by omega)).other (g := w.heap.size) (o := 2) (v := .int .i64 h) (by omega)).other (g := w.heap.size) (o := 3) (v := .int .i64 s) (by omega)).other (g := (w.heap.size + 1)) (o := 0) (v := .slice (some ⟨g2, 0, none⟩) n2 c2) (by omega)).other (g := (w.heap.size + 1)) (o := 1) (v := .slice (some ⟨ge, 0, none⟩) ZL.length ZL.length) (by omega)).drew, ((((((hb.setCell (p := ⟨w.heap.size, 0, none⟩) (by simp) (.int .i64 p)).setCell (p := ⟨w.heap.size, 1, none⟩) (by simp) (.int .i64 c)).setCell (p := ⟨w.heap.size, 2, none⟩) (by simp) (.int .i64 h)).setCell (p := ⟨w.heap.size, 3, none⟩) (by simp) (.int .i64 s)).setCell (p := ⟨(w.heap.size + 1), 0, none⟩) (by simp) (.slice (some ⟨g2, 0, none⟩) n2 c2)).setCell (p := ⟨(w.heap.size + 1), 1, none⟩) (by simp) (.slice (some ⟨ge, 0, none⟩) ZL.length ZL.length)).drew⟩
            · have f9 : (r9 == 0) = false := by rw [beq_eq_false_iff_ne]; exact e9
              obtain ⟨x0, x1, x2, x3, xf, xl⟩ := BV.four
              obtain ⟨y0, y1, yf, yl⟩ := BB.two
              obtain ⟨z0, z1, z2, z3, zf, zl⟩ := BZ.four
              obtain ⟨n0, n1_, nf, nl⟩ := BN.two
              go_wp2_with fail
              go_region
              all_goals go_wp2
              refine bodyPost_ret (v := .tuple #[.agg #[.int .i64 p, .int .i64 c, .int .i64 h, .int .i64 s], .agg #[.slice (some ⟨ge, 0, none⟩) ZL.length ZL.length, .slice (some ⟨g2, 0, none⟩) n2 c2]]) (by simp [results, Try.results48, go_sem, z0, z1, z2, z3, n0, n1_]) rfl ?_
              exact ⟨p, c, h, s, ge, g2, ZL.length, n2, ZL.length, c2, ZL, (ys.set k (wrap64 (e2 + wrap64 (c - rs)))), rfl, rfl, (by rw [List.length_set]; exact HY.out), by omega, by omega, ((((((RE.other (g := w.heap.size) (o := 0) (v := .int .i64 p) (by omega)).other (g := w.heap.size) (o := 1) (v := .int .i64 c) (by omega)).other (g := w.heap.size) (o := 2) (v := .int .i64 h) (by omega)).other (g := w.heap.size) (o := 3) (v := .int .i64 s) (by omega)).other (g := (w.heap.size + 1)) (o := 0) (v := .slice (some ⟨ge, 0, none⟩) ZL.length ZL.length) (by omega)).other (g := (w.heap.size + 1)) (o := 1) (v := .slice (some ⟨g2, 0, none⟩) n2 c2) (by omega)).drew, ((((((R2.other (g := w.heap.size) (o := 0) (v := .int .i64 p) (by omega)).other (g := w.heap.size) (o := 1) (v := .int .i64 c) (by omega)).other (g := w.heap.size) (o := 2) (v := .int .i64 h) (by omega)).other (g := w.heap.size) (o := 3) (v := .int .i64 s) (by omega)).other (g := (w.heap.size + 1)) (o := 0) (v := .slice (some ⟨ge, 0, none⟩) ZL.length ZL.length) (by omega)).other (g := (w.heap.size + 1)) (o := 1) (v := .slice (some ⟨g2, 0, none⟩) n2 c2) (by omega)).drew, ((((((hb.setCell (p := ⟨w.heap.size, 0, none⟩) (by simp) (.int .i64 p)).setCell (p := ⟨w.heap.size, 1, none⟩) (by simp) (.int .i64 c)).setCell (p := ⟨w.heap.size, 2, none⟩) (by simp) (.int .i64 h)).setCell (p := ⟨w.heap.size, 3, none⟩) (by simp) (.int .i64 s)).setCell (p := ⟨(w.heap.size + 1), 0, none⟩) (by simp) (.slice (some ⟨ge, 0, none⟩) ZL.length ZL.length)).setCell (p := ⟨(w.heap.size + 1), 1, none⟩) (by simp) (.slice (some ⟨g2, 0, none⟩) n2 c2)).drew⟩
end Go.Proofs.Ytkddeoifdecniaa
