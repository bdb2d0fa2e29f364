/- The model's draws of a variant and a board, sometimes ones that are not valid. -/
import Derived.Test.YtjepbhainidpgaaDraw3
namespace Go.Proofs.Ytjepbhainidpgaa
open Go.ChangeShapes Go.WideShapes Go.ChangeAt Go.RowKit
set_option linter.unusedVariables false
set_option linter.unusedSimpArgs false
set_option maxRecDepth 4000

theorem Row.take {w : World} {g : Nat} {xs : List Int} (h : Row w g xs) (k : Nat) : Row w g (xs.take k) := by
  obtain ⟨cur, hB, h1, h2⟩ := h
  refine ⟨cur, hB, by simp; omega, ?_⟩
  rw [List.length_take, ← List.take_take, h2, ints, ints, List.map_take]
theorem fin6 {B g g1 g2 len cap : Nat} {a : Option Addr} {xs ys : List Int} {w W : World} (hS : Src B W g a len cap) (hG : w.grownBy W (some g)) (R1 : Row W g1 xs) (R2 : Row W g2 ys) (hl : g < w.heap.size) (hB : B ≤ w.heap.size) (h1 : w.heap.size + 1 < g1) (h2 : w.heap.size + 1 < g2) (v0 v1 v2 v3 v4 v5 : Value) :
    Src B ((((((W.setCell ⟨w.heap.size, 0, none⟩ v0).setCell ⟨w.heap.size, 1, none⟩ v1).setCell ⟨w.heap.size, 2, none⟩ v2).setCell ⟨w.heap.size, 3, none⟩ v3).setCell ⟨w.heap.size + 1, 0, none⟩ v4).setCell ⟨w.heap.size + 1, 1, none⟩ v5) g a len cap ∧
    w.grownBy ((((((W.setCell ⟨w.heap.size, 0, none⟩ v0).setCell ⟨w.heap.size, 1, none⟩ v1).setCell ⟨w.heap.size, 2, none⟩ v2).setCell ⟨w.heap.size, 3, none⟩ v3).setCell ⟨w.heap.size + 1, 0, none⟩ v4).setCell ⟨w.heap.size + 1, 1, none⟩ v5) (some g) ∧
    Row ((((((W.setCell ⟨w.heap.size, 0, none⟩ v0).setCell ⟨w.heap.size, 1, none⟩ v1).setCell ⟨w.heap.size, 2, none⟩ v2).setCell ⟨w.heap.size, 3, none⟩ v3).setCell ⟨w.heap.size + 1, 0, none⟩ v4).setCell ⟨w.heap.size + 1, 1, none⟩ v5) g1 xs ∧
    Row ((((((W.setCell ⟨w.heap.size, 0, none⟩ v0).setCell ⟨w.heap.size, 1, none⟩ v1).setCell ⟨w.heap.size, 2, none⟩ v2).setCell ⟨w.heap.size, 3, none⟩ v3).setCell ⟨w.heap.size + 1, 0, none⟩ v4).setCell ⟨w.heap.size + 1, 1, none⟩ v5) g2 ys :=
  ⟨(((((hS.set (by omega) (by omega)).set (by omega) (by omega)).set (by omega) (by omega)).set (by omega) (by omega)).set (by omega) (by omega)).set (by omega) (by omega),
   grown_new (grown_new (grown_new (grown_new (grown_new (grown_new hG (by omega)) (by omega)) (by omega)) (by omega)) (by omega)) (by omega),
   (((((R1.other (by omega)).other (by omega)).other (by omega)).other (by omega)).other (by omega)).other (by omega),
   (((((R2.other (by omega)).other (by omega)).other (by omega)).other (by omega)).other (by omega)).other (by omega)⟩
theorem keepS {w W w2 : World} {B g P len cap b1 b2 : Nat} {c h s : Int} {a : Option Addr} (hS : W.cell? ⟨b1, 0, none⟩ = some (.int .i64 (P : Int)) ∧ W.cell? ⟨b1, 1, none⟩ = some (.int .i64 c) ∧ W.cell? ⟨b1, 2, none⟩ = some (.int .i64 h) ∧ W.cell? ⟨b1, 3, none⟩ = some (.int .i64 s) ∧ (Blk W b1 #[.int .i64 (P : Int), .int .i64 c, .int .i64 h, .int .i64 s] 26 ∧ Src B W g a len cap ∧ w.grownBy W (some g) ∧ (∃ u0 u1, Blk W b2 #[u0, u1] 34) ∧ Blk W w.heap.size #[.int .i64 0, .int .i64 0, .int .i64 0, .int .i64 0] 26 ∧ Blk W (w.heap.size + 1) #[.slice none 0 0, .slice none 0 0] 34)) (hb : Below W.heap.size W w2) : w2.cell? ⟨b1, 0, none⟩ = some (.int .i64 (P : Int)) ∧ w2.cell? ⟨b1, 1, none⟩ = some (.int .i64 c) ∧ w2.cell? ⟨b1, 2, none⟩ = some (.int .i64 h) ∧ w2.cell? ⟨b1, 3, none⟩ = some (.int .i64 s) ∧ (Blk w2 b1 #[.int .i64 (P : Int), .int .i64 c, .int .i64 h, .int .i64 s] 26 ∧ Src B w2 g a len cap ∧ w.grownBy w2 (some g) ∧ (∃ u0 u1, Blk w2 b2 #[u0, u1] 34) ∧ Blk w2 w.heap.size #[.int .i64 0, .int .i64 0, .int .i64 0, .int .i64 0] 26 ∧ Blk w2 (w.heap.size + 1) #[.slice none 0 0, .slice none 0 0] 34) := by
  obtain ⟨-, -, -, -, h1, h2, h3, ⟨u0, u1, h4⟩, h5, h6⟩ := hS
  have h1' := h1.below hb
  obtain ⟨x0, x1, x2, x3, xf, xl⟩ := h1'.four
  exact ⟨x0, x1, x2, x3, h1', h2.below hb, grown_trans h3 (grown_of_below hb _), ⟨u0, u1, h4.below hb⟩, h5.below hb, h6.below hb⟩
theorem storeS {w W : World} {B g P len cap b1 b2 : Nat} {c h s : Int} {a : Option Addr} (hS : W.cell? ⟨b1, 0, none⟩ = some (.int .i64 (P : Int)) ∧ W.cell? ⟨b1, 1, none⟩ = some (.int .i64 c) ∧ W.cell? ⟨b1, 2, none⟩ = some (.int .i64 h) ∧ W.cell? ⟨b1, 3, none⟩ = some (.int .i64 s) ∧ (Blk W b1 #[.int .i64 (P : Int), .int .i64 c, .int .i64 h, .int .i64 s] 26 ∧ Src B W g a len cap ∧ w.grownBy W (some g) ∧ (∃ u0 u1, Blk W b2 #[u0, u1] 34) ∧ Blk W w.heap.size #[.int .i64 0, .int .i64 0, .int .i64 0, .int .i64 0] 26 ∧ Blk W (w.heap.size + 1) #[.slice none 0 0, .slice none 0 0] 34)) (n1 : b2 ≠ b1) (n2 : b2 ≠ w.heap.size) (n3 : b2 ≠ w.heap.size + 1) (n4 : b2 ≠ g) (n5 : B ≤ b2) (n6 : w.heap.size ≤ b2) (v0 v1 : Value) : ((W.setCell ⟨b2, 0, none⟩ v0).setCell ⟨b2, 1, none⟩ v1).cell? ⟨b1, 0, none⟩ = some (.int .i64 (P : Int)) ∧ ((W.setCell ⟨b2, 0, none⟩ v0).setCell ⟨b2, 1, none⟩ v1).cell? ⟨b1, 1, none⟩ = some (.int .i64 c) ∧ ((W.setCell ⟨b2, 0, none⟩ v0).setCell ⟨b2, 1, none⟩ v1).cell? ⟨b1, 2, none⟩ = some (.int .i64 h) ∧ ((W.setCell ⟨b2, 0, none⟩ v0).setCell ⟨b2, 1, none⟩ v1).cell? ⟨b1, 3, none⟩ = some (.int .i64 s) ∧ (Blk ((W.setCell ⟨b2, 0, none⟩ v0).setCell ⟨b2, 1, none⟩ v1) b1 #[.int .i64 (P : Int), .int .i64 c, .int .i64 h, .int .i64 s] 26 ∧ Src B ((W.setCell ⟨b2, 0, none⟩ v0).setCell ⟨b2, 1, none⟩ v1) g a len cap ∧ w.grownBy ((W.setCell ⟨b2, 0, none⟩ v0).setCell ⟨b2, 1, none⟩ v1) (some g) ∧ (∃ u0 u1, Blk ((W.setCell ⟨b2, 0, none⟩ v0).setCell ⟨b2, 1, none⟩ v1) b2 #[u0, u1] 34) ∧ Blk ((W.setCell ⟨b2, 0, none⟩ v0).setCell ⟨b2, 1, none⟩ v1) w.heap.size #[.int .i64 0, .int .i64 0, .int .i64 0, .int .i64 0] 26 ∧ Blk ((W.setCell ⟨b2, 0, none⟩ v0).setCell ⟨b2, 1, none⟩ v1) (w.heap.size + 1) #[.slice none 0 0, .slice none 0 0] 34) := by
  obtain ⟨-, -, -, -, h1, h2, h3, ⟨u0, u1, h4⟩, h5, h6⟩ := hS
  have h1' := (h1.other (o := 0) (v := v0) (fun e => n1 e.symm)).other (o := 1) (v := v1) (fun e => n1 e.symm)
  obtain ⟨x0, x1, x2, x3, xf, xl⟩ := h1'.four
  exact ⟨x0, x1, x2, x3, h1', (h2.set n4 n5).set n4 n5, grown_new (grown_new h3 n6) n6, ⟨v0, v1, (h4.set v0).set v1⟩, (h5.other (fun e => n2 e.symm)).other (fun e => n2 e.symm), (h6.other (fun e => n3 e.symm)).other (fun e => n3 e.symm)⟩
/-- A variant and a board have been drawn. -/
def PairPost (B g : Nat) (a : Option Addr) (len cap : Nat) (w : World) (e : Ending) (w' : World) : Prop :=
  ∃ (p c h s : Int) (g1 g2 n1 n2 c1 c2 : Nat) (xs ys : List Int), e = .returned (.tuple #[.agg #[.int .i64 p, .int .i64 c, .int .i64 h, .int .i64 s], .agg #[.slice (some ⟨g1, 0, none⟩) n1 c1, .slice (some ⟨g2, 0, none⟩) n2 c2]]) ∧ (-1000 ≤ p ∧ p ≤ 1000 ∧ -1000 ≤ s ∧ s ≤ 1000) ∧
    xs.length = n1 ∧ ys.length = n2 ∧ n1 ≤ 1000 ∧ n2 ≤ 1000 ∧ g1 ≠ g ∧ g2 ≠ g ∧ w.heap.size ≤ g1 ∧ w.heap.size ≤ g2 ∧ Row w' g1 xs ∧ Row w' g2 ys ∧ Src B w' g a len cap ∧ w.grownBy w' (some g)
set_option maxRecDepth 8000 in
set_option maxHeartbeats 4000000 in
theorem drawPair_any (B g : Nat) (a : Option Addr) (len cap : Nat) (w : World) (hS : Src B w g a len cap) :
    Calls Try.prog 73 #[.pointer (some ⟨g, 0, none⟩)] w (PairPost B g a len cap w) := by
  have hl := hS.lt
  have hBg := hS.base
  obtain ⟨BZ, BN, hb, hz⟩ := two_new w #[.int .i64 0, .int .i64 0, .int .i64 0, .int .i64 0] #[.slice none 0 0, .slice none 0 0] 26 34
  replace hS := (hS.alloc (.cells #[.int .i64 0, .int .i64 0, .int .i64 0, .int .i64 0] 26)).alloc (.cells #[.slice none 0 0, .slice none 0 0] 34)
  have hG : w.grownBy ((w.alloc (.cells #[.int .i64 0, .int .i64 0, .int .i64 0, .int .i64 0] 26)).alloc (.cells #[.slice none 0 0, .slice none 0 0] 34)) (some g) := grown_of_below hb _
  go_enter Try.func73, Try.ntmps73
  go_wp2_with fail
  generalize ((w.alloc (.cells #[.int .i64 0, .int .i64 0, .int .i64 0, .int .i64 0] 26)).alloc (.cells #[.slice none 0 0, .slice none 0 0] 34)) = v0 at *
  refine (drawValid_any B g a len cap _ hS).mono ?_
  rintro e w1 ⟨p, c, h, s, rfl, bp, bc, bh, bs, hS, hg⟩
  obtain ⟨P, rfl⟩ := Int.eq_ofNat_of_zero_le (by omega : 0 ≤ p)
  have gv : vB (P : Int) c h s = true := vB_iff.2 ⟨bp.1, bp.2, bc.1, bc.2, bh.1, bh.2, bs.1, bs.2⟩
  have hz1 := hg.size
  replace BZ := (BZ.grown hg (by omega)).alloc (.cells #[.int .i64 (P : Int), .int .i64 c, .int .i64 h, .int .i64 s] 26)
  replace BN := (BN.grown hg (by omega)).alloc (.cells #[.int .i64 (P : Int), .int .i64 c, .int .i64 h, .int .i64 s] 26)
  replace hG := grown_alloc (grown_trans hG hg) (.cells #[.int .i64 (P : Int), .int .i64 c, .int .i64 h, .int .i64 s] 26)
  replace hS := hS.alloc (.cells #[.int .i64 (P : Int), .int .i64 c, .int .i64 h, .int .i64 s] 26)
  have BV := Blk.new w1 #[.int .i64 (P : Int), .int .i64 c, .int .i64 h, .int .i64 s] 26
  have hv1 : (w1.alloc (.cells #[.int .i64 (P : Int), .int .i64 c, .int .i64 h, .int .i64 s] 26)).heap.size = w1.heap.size + 1 := by simp
  clear hg hb
  obtain ⟨x0, x1, x2, x3, xf, xl⟩ := BV.four
  go_wp2_with fail
  generalize (w1.alloc (.cells #[.int .i64 (P : Int), .int .i64 c, .int .i64 h, .int .i64 s] 26)) = v1 at *
  refine (draw_any B g P c h s a len cap _ gv hS).mono ?_
  rintro e w2 ⟨g1, g2, xs, ys, rfl, hx, hy, b1, b2, hne, R1, R2, hS, hg⟩
  have hz2 := hg.size
  have hl1 := R1.lt
  have hl2 := R2.lt
  replace BZ := (BZ.grown hg (by omega)).alloc (.cells #[.slice (some ⟨g1, 0, none⟩) (P + 1) (P + 1), .slice (some ⟨g2, 0, none⟩) (P + 1) (P + 1)] 34)
  replace BN := (BN.grown hg (by omega)).alloc (.cells #[.slice (some ⟨g1, 0, none⟩) (P + 1) (P + 1), .slice (some ⟨g2, 0, none⟩) (P + 1) (P + 1)] 34)
  replace BV := (BV.grown hg (by omega)).alloc (.cells #[.slice (some ⟨g1, 0, none⟩) (P + 1) (P + 1), .slice (some ⟨g2, 0, none⟩) (P + 1) (P + 1)] 34)
  replace hG := grown_alloc (grown_trans hG hg) (.cells #[.slice (some ⟨g1, 0, none⟩) (P + 1) (P + 1), .slice (some ⟨g2, 0, none⟩) (P + 1) (P + 1)] 34)
  replace hS := hS.alloc (.cells #[.slice (some ⟨g1, 0, none⟩) (P + 1) (P + 1), .slice (some ⟨g2, 0, none⟩) (P + 1) (P + 1)] 34)
  replace R1 := R1.alloc (.cells #[.slice (some ⟨g1, 0, none⟩) (P + 1) (P + 1), .slice (some ⟨g2, 0, none⟩) (P + 1) (P + 1)] 34)
  replace R2 := R2.alloc (.cells #[.slice (some ⟨g1, 0, none⟩) (P + 1) (P + 1), .slice (some ⟨g2, 0, none⟩) (P + 1) (P + 1)] 34)
  have BB := Blk.new w2 #[.slice (some ⟨g1, 0, none⟩) (P + 1) (P + 1), .slice (some ⟨g2, 0, none⟩) (P + 1) (P + 1)] 34
  have hv2 : (w2.alloc (.cells #[.slice (some ⟨g1, 0, none⟩) (P + 1) (P + 1), .slice (some ⟨g2, 0, none⟩) (P + 1) (P + 1)] 34)).heap.size = w2.heap.size + 1 := by simp
  clear hg x0 x1 x2 x3 xf xl
  obtain ⟨x0, x1, x2, x3, xf, xl⟩ := BV.four
  go_wp2_with fail
  generalize (w2.alloc (.cells #[.slice (some ⟨g1, 0, none⟩) (P + 1) (P + 1), .slice (some ⟨g2, 0, none⟩) (P + 1) (P + 1)] 34)) = v2 at *
  refine (next_any B g a len cap ((P : Int) + 1) _ hS (by omega)).mono ?_
  rintro e w3 ⟨r1, rfl, q1, u1, hS, hg⟩
  have hz3 := hg.size
  replace BZ := BZ.grown hg (by omega)
  replace BN := BN.grown hg (by omega)
  replace BV := BV.grown hg (by omega)
  replace BB := BB.grown hg (by omega)
  replace R1 := R1.grown hg (by omega)
  replace R2 := R2.grown hg (by omega)
  replace hG := grown_trans hG hg
  clear hg x0 x1 x2 x3 xf xl
  obtain ⟨k, rfl⟩ := Int.eq_ofNat_of_zero_le q1
  have hk : k < P + 1 := by omega
  go_wp2_with fail
  refine (next_any B g a len cap 40 _ hS (by omega)).mono ?_
  rintro e w4 ⟨r2, rfl, q2, u2, hS, hg⟩
  have hz4 := hg.size
  replace BZ := BZ.grown hg (by omega)
  replace BN := BN.grown hg (by omega)
  replace BV := BV.grown hg (by omega)
  replace BB := BB.grown hg (by omega)
  replace R1 := R1.grown hg (by omega)
  replace R2 := R2.grown hg (by omega)
  replace hG := grown_trans hG hg
  clear hg
  obtain ⟨x0, x1, x2, x3, xf, xl⟩ := BV.four
  obtain ⟨y0, y1, yf, yl⟩ := BB.two
  obtain ⟨z0, z1, z2, z3, zf, zl⟩ := BZ.four
  obtain ⟨n0, n1, nf, nl⟩ := BN.two
  have fR1 := fun i => R1.free i
  have fR2 := fun i => R2.free i
  have cR1 := R1.cell k (by omega)
  have cR2 := R2.cell k (by omega)
  obtain ⟨e1, he1⟩ : ∃ v, xs.getD k 0 = v := ⟨_, rfl⟩
  obtain ⟨e2, he2⟩ : ∃ v, ys.getD k 0 = v := ⟨_, rfl⟩
  rw [he1] at cR1
  rw [he2] at cR2
  clear he1 he2
  have hk1 : (k : Int) < (P : Int) + 1 := by omega
  have hk2 : (0 : Int) ≤ (k : Int) := by omega
  have HX := Lib.hid hx
  have HY := Lib.hid hy
  clear hx hy gv
  rcases (by omega : r2 = 0 ∨ r2 = 1 ∨ r2 = 2 ∨ r2 = 3 ∨ r2 = 4 ∨ r2 = 5 ∨ 6 ≤ r2) with rfl | rfl | rfl | rfl | rfl | rfl | hr2
  · go_wp2_with fail
    go_region
    all_goals go_wp2_with fail
    all_goals go_region
    all_goals go_wp2
    refine bodyPost_ret (v := .tuple #[.agg #[.int .i64 (P : Int), .int .i64 c, .int .i64 h, .int .i64 s], .agg #[.slice (some ⟨g1, 0, none⟩) (P + 1) (P + 1), .slice (some ⟨g2, 0, none⟩) (P + 1) (P + 1)]]) (by simp [results, Try.results73, go_sem, z0, z1, z2, z3, n0, n1]) rfl ?_
    have hfin := fun v0 v1 v2 v3 v4 v5 => fin6 (hS.set (g' := g1) (o := k) (v := .int .i64 (wrap64 (e1 + 1))) (by omega) (by omega)) (grown_new (g' := g1) (o := k) (v := .int .i64 (wrap64 (e1 + 1))) hG (by omega)) (R1.set k (wrap64 (e1 + 1))) (R2.other (o := k) (v := .int .i64 (wrap64 (e1 + 1))) (by omega)) hl (by omega) (by omega) (by omega) v0 v1 v2 v3 v4 v5
    obtain ⟨hq1, hq2, hq3, hq4⟩ := hfin (.int .i64 (P : Int)) (.int .i64 c) (.int .i64 h) (.int .i64 s) (.slice (some ⟨g1, 0, none⟩) (P + 1) (P + 1)) (.slice (some ⟨g2, 0, none⟩) (P + 1) (P + 1))
    clear hfin
    exact ⟨(P : Int), c, h, s, g1, g2, (P + 1), (P + 1), (P + 1), (P + 1), (xs.set k (wrap64 (e1 + 1))), ys, rfl, by omega, (by rw [List.length_set]; exact HX.out), HY.out, by omega, by omega, by omega, by omega, by omega, by omega, hq3.drew.drew, hq4.drew.drew, hq1.drew.drew, grown_drew (grown_drew (hq2))⟩
  · go_wp2_with fail
    go_region
    all_goals go_wp2
    refine bodyPost_ret (v := .tuple #[.agg #[.int .i64 (P : Int), .int .i64 c, .int .i64 h, .int .i64 s], .agg #[.slice (some ⟨g1, 0, none⟩) (P + 1) (P + 1), .slice (some ⟨g2, 0, none⟩) (P + 1) (P + 1)]]) (by simp [results, Try.results73, go_sem, z0, z1, z2, z3, n0, n1]) rfl ?_
    have hfin := fun v0 v1 v2 v3 v4 v5 => fin6 (hS.set (g' := g2) (o := k) (v := .int .i64 (-1)) (by omega) (by omega)) (grown_new (g' := g2) (o := k) (v := .int .i64 (-1)) hG (by omega)) (R1.other (o := k) (v := .int .i64 (-1)) (by omega)) (R2.set k (-1)) hl (by omega) (by omega) (by omega) v0 v1 v2 v3 v4 v5
    obtain ⟨hq1, hq2, hq3, hq4⟩ := hfin (.int .i64 (P : Int)) (.int .i64 c) (.int .i64 h) (.int .i64 s) (.slice (some ⟨g1, 0, none⟩) (P + 1) (P + 1)) (.slice (some ⟨g2, 0, none⟩) (P + 1) (P + 1))
    clear hfin
    exact ⟨(P : Int), c, h, s, g1, g2, (P + 1), (P + 1), (P + 1), (P + 1), xs, (ys.set k (-1)), rfl, by omega, HX.out, (by rw [List.length_set]; exact HY.out), by omega, by omega, by omega, by omega, by omega, by omega, hq3.drew, hq4.drew, hq1.drew, grown_drew (hq2)⟩
  · go_wp2_with fail
    go_region
    all_goals go_wp2
    refine bodyPost_ret (v := .tuple #[.agg #[.int .i64 (P : Int), .int .i64 c, .int .i64 h, .int .i64 s], .agg #[.slice (some ⟨g1, 0, none⟩) k (P + 1), .slice (some ⟨g2, 0, none⟩) (P + 1) (P + 1)]]) (by simp [results, Try.results73, go_sem, z0, z1, z2, z3, n0, n1]) rfl ?_
    have hfin := fun v0 v1 v2 v3 v4 v5 => fin6 (hS.set (g' := w2.heap.size) (o := 0) (v := .slice (some ⟨g1, 0, none⟩) k (P + 1)) (by omega) (by omega)) (grown_new (g' := w2.heap.size) (o := 0) (v := .slice (some ⟨g1, 0, none⟩) k (P + 1)) hG (by omega)) ((R1.take k).other (o := 0) (v := .slice (some ⟨g1, 0, none⟩) k (P + 1)) (by omega)) (R2.other (o := 0) (v := .slice (some ⟨g1, 0, none⟩) k (P + 1)) (by omega)) hl (by omega) (by omega) (by omega) v0 v1 v2 v3 v4 v5
    obtain ⟨hq1, hq2, hq3, hq4⟩ := hfin (.int .i64 (P : Int)) (.int .i64 c) (.int .i64 h) (.int .i64 s) (.slice (some ⟨g1, 0, none⟩) k (P + 1)) (.slice (some ⟨g2, 0, none⟩) (P + 1) (P + 1))
    clear hfin
    exact ⟨(P : Int), c, h, s, g1, g2, k, (P + 1), (P + 1), (P + 1), (xs.take k), ys, rfl, by omega, (by rw [List.length_take, HX.out]; omega), HY.out, by omega, by omega, by omega, by omega, by omega, by omega, hq3.drew, hq4.drew, hq1.drew, grown_drew (hq2)⟩
  · go_wp2_with fail
    have hzd : w4.drew.heap.size = w4.heap.size := rfl
    refine wp_region_held_drew (S := fun w' => w'.cell? ⟨w1.heap.size, 0, none⟩ = some (.int .i64 (P : Int)) ∧ w'.cell? ⟨w1.heap.size, 1, none⟩ = some (.int .i64 c) ∧ w'.cell? ⟨w1.heap.size, 2, none⟩ = some (.int .i64 h) ∧ w'.cell? ⟨w1.heap.size, 3, none⟩ = some (.int .i64 s) ∧ (Blk w' w1.heap.size #[.int .i64 (P : Int), .int .i64 c, .int .i64 h, .int .i64 s] 26 ∧ Src B w' g a len cap ∧ w.grownBy w' (some g) ∧ (∃ u0 u1, Blk w' w2.heap.size #[u0, u1] 34) ∧ Blk w' w.heap.size #[.int .i64 0, .int .i64 0, .int .i64 0, .int .i64 0] 26 ∧ Blk w' (w.heap.size + 1) #[.slice none 0 0, .slice none 0 0] 34)) (by kernel_rfl) ⟨x0, x1, x2, x3, BV.drew, hS.drew, grown_drew hG, ⟨_, _, BB.drew⟩, BZ.drew, BN.drew⟩ (fun hHeld => ?_)
    refine wpAnyH_take (i := 0) (oi := { dst := some 46, op := _, type := _, pos := _, after := _, guard := _ }) (v := ?_) rfl (by kernel_rfl) (by kernel_rfl) (by kernel_rfl) (fun _ _ _ h => h) (Or.inl ⟨by rfl, ?_⟩) (by assumption) ?_
    rotate_left
    · intro w hSw
      (try dsimp only at hSw)
      go_simp
      (try (with_reducible rfl))
    try simp only [Act.put, List.setIfInBounds_toArray, List.set_cons_zero, List.set_cons_succ]
    refine wpAnyH_take (i := 2) (oi := { dst := some 48, op := _, type := _, pos := _, after := _, guard := _ }) (v := ?_) rfl (by kernel_rfl) (by kernel_rfl) (by kernel_rfl) (fun _ _ _ h => h) (Or.inl ⟨by rfl, ?_⟩) (by assumption) ?_
    rotate_left
    · intro w hSw
      (try dsimp only at hSw)
      go_simp
      (try (with_reducible rfl))
    try simp only [Act.put, List.setIfInBounds_toArray, List.set_cons_zero, List.set_cons_succ]
    refine wpAnyH_ready (rs := [1]) (by kernel_rfl) (by simp) ?_
    refine AllReadyH.cons (o := { dst := some 47, op := _, type := _, pos := _, after := _, guard := _ }) rfl (fun K hK => ?_) AllReadyH.nil
    go_simp
    refine (l02Empty_any P c h s _ (by omega)).mono ?_
    rintro e w5 ⟨ge1, rfl, hge1, RE1, hb1⟩
    have hrl1 : (List.replicate (P + 1) (0 : Int)).length = P + 1 := by simp
    rw [hrl1]
    have hzb1 := hb1.size
    (try go_wp2_with fail)
    refine hK.out _ _ (keepS hHeld hb1) (fun hHeld => ?_)
    clear hK K
    try simp only [Act.put, List.setIfInBounds_toArray, List.set_cons_zero, List.set_cons_succ]
    refine wpAnyH_ready (rs := [3]) (by kernel_rfl) (by simp) ?_
    refine AllReadyH.cons (o := { dst := some 49, op := _, type := _, pos := _, after := _, guard := _ }) rfl (fun K hK => ?_) AllReadyH.nil
    go_simp
    refine (l02Empty_any P c h s _ (by omega)).mono ?_
    rintro e w6 ⟨ge2, rfl, hge2, RE2, hb2⟩
    have hrl2 : (List.replicate (P + 1) (0 : Int)).length = P + 1 := by simp
    rw [hrl2]
    have hzb2 := hb2.size
    have RE1b := RE1.below hb2
    have hlE := RE1.lt
    (try go_wp2_with fail)
    refine hK.out _ _ (keepS hHeld hb2) (fun hHeld => ?_)
    clear hK K
    try simp only [Act.put, List.setIfInBounds_toArray, List.set_cons_zero, List.set_cons_succ]
    refine wpAnyH_take (i := 4) (oi := { dst := some 50, op := _, type := _, pos := _, after := _, guard := _ }) (v := ?_) rfl (by kernel_rfl) (by kernel_rfl) (by kernel_rfl) (fun _ _ _ h => h) (Or.inl ⟨by rfl, ?_⟩) (by assumption) ?_
    rotate_left
    · intro w hSw
      (try dsimp only at hSw)
      go_simp
      (try (with_reducible rfl))
    try simp only [Act.put, List.setIfInBounds_toArray, List.set_cons_zero, List.set_cons_succ]
    refine wpAnyH_ready (rs := [5]) (by kernel_rfl) (by simp) ?_
    refine AllReadyH.cons (o := { dst := none, op := _, type := _, pos := _, after := _, guard := _ }) rfl (fun K hK => ?_) AllReadyH.nil
    obtain ⟨u0, u1, BU⟩ := hHeld.2.2.2.2.2.2.2.1
    have y0 := BU.two.1
    have y1 := BU.two.2.1
    have yf := BU.two.2.2.1
    have yl := BU.two.2.2.2
    go_simp
    (try go_wp2_with fail)
    refine hK.out _ _ (storeS hHeld (by omega) (by omega) (by omega) (by omega) (by omega) (by omega) _ _) (fun hHeld => ?_)
    clear hK K
    try simp only [Act.put, List.setIfInBounds_toArray, List.set_cons_zero, List.set_cons_succ]
    refine wpAnyH_done (by kernel_rfl) ?_ _
    obtain ⟨-, -, -, -, BV5, hS5, hG5, -, BZ5, BN5⟩ := hHeld
    have BB5 := (BU.set (i := 0) (.slice (some ⟨ge1, 0, none⟩) (P + 1) (P + 1))).set (i := 1) (.slice (some ⟨ge2, 0, none⟩) (P + 1) (P + 1))
    have Q1 : Row ((w6.setCell ⟨w2.heap.size, 0, none⟩ (.slice (some ⟨ge1, 0, none⟩) (P + 1) (P + 1))).setCell ⟨w2.heap.size, 1, none⟩ (.slice (some ⟨ge2, 0, none⟩) (P + 1) (P + 1))) ge1 (List.replicate (P + 1) 0) := (RE1b.other (by omega)).other (by omega)
    have Q2 : Row ((w6.setCell ⟨w2.heap.size, 0, none⟩ (.slice (some ⟨ge1, 0, none⟩) (P + 1) (P + 1))).setCell ⟨w2.heap.size, 1, none⟩ (.slice (some ⟨ge2, 0, none⟩) (P + 1) (P + 1))) ge2 (List.replicate (P + 1) 0) := (RE2.other (by omega)).other (by omega)
    clear x0 x1 x2 x3 xf xl y0 y1 yf yl z0 z1 z2 z3 zf zl n0 n1 nf nl
    go_wp2_with fail
    generalize ((w6.setCell ⟨w2.heap.size, 0, none⟩ (.slice (some ⟨ge1, 0, none⟩) (P + 1) (P + 1))).setCell ⟨w2.heap.size, 1, none⟩ (.slice (some ⟨ge2, 0, none⟩) (P + 1) (P + 1))) = W5 at *
    have BB6 : Blk W5 w2.heap.size #[.slice (some ⟨ge1, 0, none⟩) (P + 1) (P + 1), .slice (some ⟨ge2, 0, none⟩) (P + 1) (P + 1)] 34 := BB5
    obtain ⟨x0, x1, x2, x3, xf, xl⟩ := BV5.four
    obtain ⟨y0, y1, yf, yl⟩ := BB6.two
    obtain ⟨z0, z1, z2, z3, zf, zl⟩ := BZ5.four
    obtain ⟨n0, n1, nf, nl⟩ := BN5.two
    go_region
    all_goals go_wp2
    refine bodyPost_ret (v := .tuple #[.agg #[.int .i64 (P : Int), .int .i64 c, .int .i64 h, .int .i64 s], .agg #[.slice (some ⟨ge1, 0, none⟩) (P + 1) (P + 1), .slice (some ⟨ge2, 0, none⟩) (P + 1) (P + 1)]]) (by simp [results, Try.results73, go_sem, z0, z1, z2, z3, n0, n1]) rfl ?_
    have hfin := fun v0 v1 v2 v3 v4 v5 => fin6 hS5 hG5 Q1 Q2 hl (by omega) (by omega) (by omega) v0 v1 v2 v3 v4 v5
    obtain ⟨hq1, hq2, hq3, hq4⟩ := hfin (.int .i64 (P : Int)) (.int .i64 c) (.int .i64 h) (.int .i64 s) (.slice (some ⟨ge1, 0, none⟩) (P + 1) (P + 1)) (.slice (some ⟨ge2, 0, none⟩) (P + 1) (P + 1))
    clear hfin
    exact ⟨(P : Int), c, h, s, ge1, ge2, (P + 1), (P + 1), (P + 1), (P + 1), (List.replicate (P + 1) 0), (List.replicate (P + 1) 0), rfl, by omega, (by simp), (by simp), by omega, by omega, by omega, by omega, by omega, by omega, hq3.drew, hq4.drew, hq1.drew, grown_drew (hq2)⟩
  · go_wp2_with fail
    refine (drawAny_any B g a len cap _ hS).mono ?_
    rintro e w5 ⟨p', c', h', s', rfl, bp', -, -, bs', hS, hg⟩
    replace BZ := BZ.grown hg (by omega)
    replace BN := BN.grown hg (by omega)
    replace BV := BV.grown hg (by omega)
    replace BB := BB.grown hg (by omega)
    replace R1 := R1.grown hg (by omega)
    replace R2 := R2.grown hg (by omega)
    replace hG := grown_trans hG hg
    clear hg x0 x1 x2 x3 xf xl y0 y1 yf yl z0 z1 z2 z3 zf zl n0 n1 nf nl fR1 fR2 cR1 cR2
    obtain ⟨x0, x1, x2, x3, xf, xl⟩ := BV.four
    obtain ⟨y0, y1, yf, yl⟩ := BB.two
    obtain ⟨z0, z1, z2, z3, zf, zl⟩ := BZ.four
    obtain ⟨n0, n1, nf, nl⟩ := BN.two
    go_wp2_with fail
    go_region
    all_goals go_wp2
    refine bodyPost_ret (v := .tuple #[.agg #[.int .i64 p', .int .i64 c', .int .i64 h', .int .i64 s'], .agg #[.slice (some ⟨g1, 0, none⟩) (P + 1) (P + 1), .slice (some ⟨g2, 0, none⟩) (P + 1) (P + 1)]]) (by simp [results, Try.results73, go_sem, z0, z1, z2, z3, n0, n1]) rfl ?_
    have hfin := fun v0 v1 v2 v3 v4 v5 => fin6 ((((hS.set (g' := w1.heap.size) (o := 0) (v := .int .i64 p') (by omega) (by omega)).set (g' := w1.heap.size) (o := 1) (v := .int .i64 c') (by omega) (by omega)).set (g' := w1.heap.size) (o := 2) (v := .int .i64 h') (by omega) (by omega)).set (g' := w1.heap.size) (o := 3) (v := .int .i64 s') (by omega) (by omega)) (grown_new (g' := w1.heap.size) (o := 3) (v := .int .i64 s') (grown_new (g' := w1.heap.size) (o := 2) (v := .int .i64 h') (grown_new (g' := w1.heap.size) (o := 1) (v := .int .i64 c') (grown_new (g' := w1.heap.size) (o := 0) (v := .int .i64 p') hG (by omega)) (by omega)) (by omega)) (by omega)) ((((R1.other (o := 0) (v := .int .i64 p') (by omega)).other (o := 1) (v := .int .i64 c') (by omega)).other (o := 2) (v := .int .i64 h') (by omega)).other (o := 3) (v := .int .i64 s') (by omega)) ((((R2.other (o := 0) (v := .int .i64 p') (by omega)).other (o := 1) (v := .int .i64 c') (by omega)).other (o := 2) (v := .int .i64 h') (by omega)).other (o := 3) (v := .int .i64 s') (by omega)) hl (by omega) (by omega) (by omega) v0 v1 v2 v3 v4 v5
    obtain ⟨hq1, hq2, hq3, hq4⟩ := hfin (.int .i64 p') (.int .i64 c') (.int .i64 h') (.int .i64 s') (.slice (some ⟨g1, 0, none⟩) (P + 1) (P + 1)) (.slice (some ⟨g2, 0, none⟩) (P + 1) (P + 1))
    clear hfin
    exact ⟨p', c', h', s', g1, g2, (P + 1), (P + 1), (P + 1), (P + 1), xs, ys, rfl, by omega, HX.out, HY.out, by omega, by omega, by omega, by omega, by omega, by omega, hq3.drew, hq4.drew, hq1.drew, grown_drew (hq2)⟩
  · go_wp2_with fail
    go_region
    all_goals go_wp2_with fail
    all_goals go_region
    all_goals go_wp2
    refine bodyPost_ret (v := .tuple #[.agg #[.int .i64 (P : Int), .int .i64 c, .int .i64 h, .int .i64 s], .agg #[.slice (some ⟨g1, 0, none⟩) (P + 1) (P + 1), .slice (some ⟨g2, 0, none⟩) (P + 1) (P + 1)]]) (by simp [results, Try.results73, go_sem, z0, z1, z2, z3, n0, n1]) rfl ?_
    have hfin := fun v0 v1 v2 v3 v4 v5 => fin6 (hS.set (g' := g2) (o := k) (v := .int .i64 (wrap64 (e2 + 1))) (by omega) (by omega)) (grown_new (g' := g2) (o := k) (v := .int .i64 (wrap64 (e2 + 1))) hG (by omega)) (R1.other (o := k) (v := .int .i64 (wrap64 (e2 + 1))) (by omega)) (R2.set k (wrap64 (e2 + 1))) hl (by omega) (by omega) (by omega) v0 v1 v2 v3 v4 v5
    obtain ⟨hq1, hq2, hq3, hq4⟩ := hfin (.int .i64 (P : Int)) (.int .i64 c) (.int .i64 h) (.int .i64 s) (.slice (some ⟨g1, 0, none⟩) (P + 1) (P + 1)) (.slice (some ⟨g2, 0, none⟩) (P + 1) (P + 1))
    clear hfin
    exact ⟨(P : Int), c, h, s, g1, g2, (P + 1), (P + 1), (P + 1), (P + 1), xs, (ys.set k (wrap64 (e2 + 1))), rfl, by omega, HX.out, (by rw [List.length_set]; exact HY.out), by omega, by omega, by omega, by omega, by omega, by omega, hq3.drew.drew, hq4.drew.drew, hq1.drew.drew, grown_drew (grown_drew (hq2))⟩
  · have f0 : (r2 == 0) = false := by rw [beq_eq_false_iff_ne]; omega
    have f1 : (r2 == 1) = false := by rw [beq_eq_false_iff_ne]; omega
    have f2 : (r2 == 2) = false := by rw [beq_eq_false_iff_ne]; omega
    have f3 : (r2 == 3) = false := by rw [beq_eq_false_iff_ne]; omega
    have f4 : (r2 == 4) = false := by rw [beq_eq_false_iff_ne]; omega
    have f5 : (r2 == 5) = false := by rw [beq_eq_false_iff_ne]; omega
    go_wp2_with fail
    go_region
    all_goals go_wp2
    refine bodyPost_ret (v := .tuple #[.agg #[.int .i64 (P : Int), .int .i64 c, .int .i64 h, .int .i64 s], .agg #[.slice (some ⟨g1, 0, none⟩) (P + 1) (P + 1), .slice (some ⟨g2, 0, none⟩) (P + 1) (P + 1)]]) (by simp [results, Try.results73, go_sem, z0, z1, z2, z3, n0, n1]) rfl ?_
    have hfin := fun v0 v1 v2 v3 v4 v5 => fin6 hS hG R1 R2 hl (by omega) (by omega) (by omega) v0 v1 v2 v3 v4 v5
    obtain ⟨hq1, hq2, hq3, hq4⟩ := hfin (.int .i64 (P : Int)) (.int .i64 c) (.int .i64 h) (.int .i64 s) (.slice (some ⟨g1, 0, none⟩) (P + 1) (P + 1)) (.slice (some ⟨g2, 0, none⟩) (P + 1) (P + 1))
    clear hfin
    exact ⟨(P : Int), c, h, s, g1, g2, (P + 1), (P + 1), (P + 1), (P + 1), xs, ys, rfl, by omega, HX.out, HY.out, by omega, by omega, by omega, by omega, by omega, by omega, hq3.drew, hq4.drew, hq1.drew, grown_drew (hq2)⟩
end Go.Proofs.Ytjepbhainidpgaa
