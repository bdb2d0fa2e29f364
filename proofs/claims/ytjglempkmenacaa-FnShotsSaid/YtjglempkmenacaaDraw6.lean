/- The model's draws of a board and a die, a step or a point. -/
import Derived.Test.YtjglempkmenacaaDraw5
import Derived.Test.YtjglempkmenacaaSrc2
import Derived.Test.Ytjglempkmenacaa04o
namespace Go.Proofs.Ytjglempkmenacaa
open Go.ChangeShapes Go.WideShapes Go.ChangeAt Go.RowKit
set_option linter.unusedVariables false
set_option linter.unusedSimpArgs false
set_option maxRecDepth 4000

theorem d2_grown {w W w2 : World} {B g g1 g2 b6 b7 len cap : Nat} {a : Option Addr} {p c h s : Int} {u0 u1 : Value} {xs ys : List Int} (hS : W.cell? ⟨b6, 0, none⟩ = some (.int .i64 p) ∧ W.cell? ⟨b6, 1, none⟩ = some (.int .i64 c) ∧ W.cell? ⟨b6, 2, none⟩ = some (.int .i64 h) ∧ W.cell? ⟨b6, 3, none⟩ = some (.int .i64 s) ∧ W.cell? ⟨b7, 0, none⟩ = some (u0) ∧ W.cell? ⟨b7, 1, none⟩ = some (u1) ∧ (Blk W b6 #[.int .i64 p, .int .i64 c, .int .i64 h, .int .i64 s] 25 ∧ Blk W b7 #[u0, u1] 28 ∧ Src B W g a len cap ∧ Row W g1 xs ∧ Row W g2 ys ∧ Below w.heap.size w W ∧ (∃ q0 q1 q2 q3, Blk W w.heap.size #[q0, q1, q2, q3] 25) ∧ (∃ q4 q5, Blk W (w.heap.size + 1) #[q4, q5] 28) ∧ True)) (hs : Src B w2 g a len cap) (hg : W.grownBy w2 (some g)) (e6 : b6 ≠ g) (e7 : b7 ≠ g) (e1 : g1 ≠ g) (e2 : g2 ≠ g) (hl : w.heap.size + 1 < g) : w2.cell? ⟨b6, 0, none⟩ = some (.int .i64 p) ∧ w2.cell? ⟨b6, 1, none⟩ = some (.int .i64 c) ∧ w2.cell? ⟨b6, 2, none⟩ = some (.int .i64 h) ∧ w2.cell? ⟨b6, 3, none⟩ = some (.int .i64 s) ∧ w2.cell? ⟨b7, 0, none⟩ = some (u0) ∧ w2.cell? ⟨b7, 1, none⟩ = some (u1) ∧ (Blk w2 b6 #[.int .i64 p, .int .i64 c, .int .i64 h, .int .i64 s] 25 ∧ Blk w2 b7 #[u0, u1] 28 ∧ Src B w2 g a len cap ∧ Row w2 g1 xs ∧ Row w2 g2 ys ∧ Below w.heap.size w w2 ∧ (∃ q0 q1 q2 q3, Blk w2 w.heap.size #[q0, q1, q2, q3] 25) ∧ (∃ q4 q5, Blk w2 (w.heap.size + 1) #[q4, q5] 28) ∧ True) := by
  obtain ⟨-, -, -, -, -, -, h6, h7, -, r1, r2, hb, ⟨q0, q1, q2, q3, hq⟩, ⟨q4, q5, hn⟩, -⟩ := hS
  have k6 := h6.grown hg e6
  have k7 := h7.grown hg e7
  obtain ⟨x0, x1, x2, x3, xf, xl⟩ := k6.four
  obtain ⟨y0, y1, yf, yl⟩ := k7.two
  exact ⟨x0, x1, x2, x3, y0, y1, k6, k7, hs, r1.grown hg e1, r2.grown hg e2, chain_grown hb hg (by omega), ⟨q0, q1, q2, q3, hq.grown hg (by omega)⟩, ⟨q4, q5, hn.grown hg (by omega)⟩, trivial⟩
theorem d2_store4 {w W : World} {B g g1 g2 b6 b7 len cap : Nat} {a : Option Addr} {p c h s : Int} {u0 u1 : Value} {xs ys : List Int} (hS : W.cell? ⟨b6, 0, none⟩ = some (.int .i64 p) ∧ W.cell? ⟨b6, 1, none⟩ = some (.int .i64 c) ∧ W.cell? ⟨b6, 2, none⟩ = some (.int .i64 h) ∧ W.cell? ⟨b6, 3, none⟩ = some (.int .i64 s) ∧ W.cell? ⟨b7, 0, none⟩ = some (u0) ∧ W.cell? ⟨b7, 1, none⟩ = some (u1) ∧ (Blk W b6 #[.int .i64 p, .int .i64 c, .int .i64 h, .int .i64 s] 25 ∧ Blk W b7 #[u0, u1] 28 ∧ Src B W g a len cap ∧ Row W g1 xs ∧ Row W g2 ys ∧ Below w.heap.size w W ∧ (∃ q0 q1 q2 q3, Blk W w.heap.size #[q0, q1, q2, q3] 25) ∧ (∃ q4 q5, Blk W (w.heap.size + 1) #[q4, q5] 28) ∧ True)) (e6 : w.heap.size + 1 < b6) (e7 : w.heap.size + 1 < b7) (e1 : w.heap.size + 1 < g1) (e2 : w.heap.size + 1 < g2) (hg : w.heap.size + 1 < g ∧ B ≤ w.heap.size) (v0 v1 v2 v3 : Value) : ((((W.setCell ⟨w.heap.size, 0, none⟩ v0).setCell ⟨w.heap.size, 1, none⟩ v1).setCell ⟨w.heap.size, 2, none⟩ v2).setCell ⟨w.heap.size, 3, none⟩ v3).cell? ⟨b6, 0, none⟩ = some (.int .i64 p) ∧ ((((W.setCell ⟨w.heap.size, 0, none⟩ v0).setCell ⟨w.heap.size, 1, none⟩ v1).setCell ⟨w.heap.size, 2, none⟩ v2).setCell ⟨w.heap.size, 3, none⟩ v3).cell? ⟨b6, 1, none⟩ = some (.int .i64 c) ∧ ((((W.setCell ⟨w.heap.size, 0, none⟩ v0).setCell ⟨w.heap.size, 1, none⟩ v1).setCell ⟨w.heap.size, 2, none⟩ v2).setCell ⟨w.heap.size, 3, none⟩ v3).cell? ⟨b6, 2, none⟩ = some (.int .i64 h) ∧ ((((W.setCell ⟨w.heap.size, 0, none⟩ v0).setCell ⟨w.heap.size, 1, none⟩ v1).setCell ⟨w.heap.size, 2, none⟩ v2).setCell ⟨w.heap.size, 3, none⟩ v3).cell? ⟨b6, 3, none⟩ = some (.int .i64 s) ∧ ((((W.setCell ⟨w.heap.size, 0, none⟩ v0).setCell ⟨w.heap.size, 1, none⟩ v1).setCell ⟨w.heap.size, 2, none⟩ v2).setCell ⟨w.heap.size, 3, none⟩ v3).cell? ⟨b7, 0, none⟩ = some (u0) ∧ ((((W.setCell ⟨w.heap.size, 0, none⟩ v0).setCell ⟨w.heap.size, 1, none⟩ v1).setCell ⟨w.heap.size, 2, none⟩ v2).setCell ⟨w.heap.size, 3, none⟩ v3).cell? ⟨b7, 1, none⟩ = some (u1) ∧ (Blk ((((W.setCell ⟨w.heap.size, 0, none⟩ v0).setCell ⟨w.heap.size, 1, none⟩ v1).setCell ⟨w.heap.size, 2, none⟩ v2).setCell ⟨w.heap.size, 3, none⟩ v3) b6 #[.int .i64 p, .int .i64 c, .int .i64 h, .int .i64 s] 25 ∧ Blk ((((W.setCell ⟨w.heap.size, 0, none⟩ v0).setCell ⟨w.heap.size, 1, none⟩ v1).setCell ⟨w.heap.size, 2, none⟩ v2).setCell ⟨w.heap.size, 3, none⟩ v3) b7 #[u0, u1] 28 ∧ Src B ((((W.setCell ⟨w.heap.size, 0, none⟩ v0).setCell ⟨w.heap.size, 1, none⟩ v1).setCell ⟨w.heap.size, 2, none⟩ v2).setCell ⟨w.heap.size, 3, none⟩ v3) g a len cap ∧ Row ((((W.setCell ⟨w.heap.size, 0, none⟩ v0).setCell ⟨w.heap.size, 1, none⟩ v1).setCell ⟨w.heap.size, 2, none⟩ v2).setCell ⟨w.heap.size, 3, none⟩ v3) g1 xs ∧ Row ((((W.setCell ⟨w.heap.size, 0, none⟩ v0).setCell ⟨w.heap.size, 1, none⟩ v1).setCell ⟨w.heap.size, 2, none⟩ v2).setCell ⟨w.heap.size, 3, none⟩ v3) g2 ys ∧ Below w.heap.size w ((((W.setCell ⟨w.heap.size, 0, none⟩ v0).setCell ⟨w.heap.size, 1, none⟩ v1).setCell ⟨w.heap.size, 2, none⟩ v2).setCell ⟨w.heap.size, 3, none⟩ v3) ∧ (∃ q0 q1 q2 q3, Blk ((((W.setCell ⟨w.heap.size, 0, none⟩ v0).setCell ⟨w.heap.size, 1, none⟩ v1).setCell ⟨w.heap.size, 2, none⟩ v2).setCell ⟨w.heap.size, 3, none⟩ v3) w.heap.size #[q0, q1, q2, q3] 25) ∧ (∃ q4 q5, Blk ((((W.setCell ⟨w.heap.size, 0, none⟩ v0).setCell ⟨w.heap.size, 1, none⟩ v1).setCell ⟨w.heap.size, 2, none⟩ v2).setCell ⟨w.heap.size, 3, none⟩ v3) (w.heap.size + 1) #[q4, q5] 28) ∧ True) := by
  obtain ⟨-, -, -, -, -, -, h6, h7, hs, r1, r2, hb, ⟨q0, q1, q2, q3, hq⟩, ⟨q4, q5, hn⟩, -⟩ := hS
  have k6 := ((((h6.other (g := w.heap.size) (o := 0) (v := v0) (by omega)).other (g := w.heap.size) (o := 1) (v := v1) (by omega)).other (g := w.heap.size) (o := 2) (v := v2) (by omega)).other (g := w.heap.size) (o := 3) (v := v3) (by omega))
  have k7 := ((((h7.other (g := w.heap.size) (o := 0) (v := v0) (by omega)).other (g := w.heap.size) (o := 1) (v := v1) (by omega)).other (g := w.heap.size) (o := 2) (v := v2) (by omega)).other (g := w.heap.size) (o := 3) (v := v3) (by omega))
  obtain ⟨x0, x1, x2, x3, xf, xl⟩ := k6.four
  obtain ⟨y0, y1, yf, yl⟩ := k7.two
  exact ⟨x0, x1, x2, x3, y0, y1, k6, k7, ((((hs.set (g' := w.heap.size) (o := 0) (v := v0) (by omega) (by omega)).set (g' := w.heap.size) (o := 1) (v := v1) (by omega) (by omega)).set (g' := w.heap.size) (o := 2) (v := v2) (by omega) (by omega)).set (g' := w.heap.size) (o := 3) (v := v3) (by omega) (by omega)), ((((r1.other (g := w.heap.size) (o := 0) (v := v0) (by omega)).other (g := w.heap.size) (o := 1) (v := v1) (by omega)).other (g := w.heap.size) (o := 2) (v := v2) (by omega)).other (g := w.heap.size) (o := 3) (v := v3) (by omega)), ((((r2.other (g := w.heap.size) (o := 0) (v := v0) (by omega)).other (g := w.heap.size) (o := 1) (v := v1) (by omega)).other (g := w.heap.size) (o := 2) (v := v2) (by omega)).other (g := w.heap.size) (o := 3) (v := v3) (by omega)), ((((hb.setCell (by simp; try omega) _).setCell (by simp; try omega) _).setCell (by simp; try omega) _).setCell (by simp; try omega) _), ⟨_, _, _, _, ((((hq.set v0).set v1).set v2).set v3)⟩, ⟨_, _, ((((hn.other (g := w.heap.size) (o := 0) (v := v0) (by omega)).other (g := w.heap.size) (o := 1) (v := v1) (by omega)).other (g := w.heap.size) (o := 2) (v := v2) (by omega)).other (g := w.heap.size) (o := 3) (v := v3) (by omega))⟩, trivial⟩
theorem d2_store2 {w W : World} {B g g1 g2 b6 b7 len cap : Nat} {a : Option Addr} {p c h s : Int} {u0 u1 : Value} {xs ys : List Int} (hS : W.cell? ⟨b6, 0, none⟩ = some (.int .i64 p) ∧ W.cell? ⟨b6, 1, none⟩ = some (.int .i64 c) ∧ W.cell? ⟨b6, 2, none⟩ = some (.int .i64 h) ∧ W.cell? ⟨b6, 3, none⟩ = some (.int .i64 s) ∧ W.cell? ⟨b7, 0, none⟩ = some (u0) ∧ W.cell? ⟨b7, 1, none⟩ = some (u1) ∧ (Blk W b6 #[.int .i64 p, .int .i64 c, .int .i64 h, .int .i64 s] 25 ∧ Blk W b7 #[u0, u1] 28 ∧ Src B W g a len cap ∧ Row W g1 xs ∧ Row W g2 ys ∧ Below w.heap.size w W ∧ (∃ q0 q1 q2 q3, Blk W w.heap.size #[q0, q1, q2, q3] 25) ∧ (∃ q4 q5, Blk W (w.heap.size + 1) #[q4, q5] 28) ∧ True)) (e6 : w.heap.size + 1 < b6) (e7 : w.heap.size + 1 < b7) (e1 : w.heap.size + 1 < g1) (e2 : w.heap.size + 1 < g2) (hg : w.heap.size + 1 < g ∧ B ≤ w.heap.size) (v0 v1 : Value) : ((W.setCell ⟨w.heap.size + 1, 0, none⟩ v0).setCell ⟨w.heap.size + 1, 1, none⟩ v1).cell? ⟨b6, 0, none⟩ = some (.int .i64 p) ∧ ((W.setCell ⟨w.heap.size + 1, 0, none⟩ v0).setCell ⟨w.heap.size + 1, 1, none⟩ v1).cell? ⟨b6, 1, none⟩ = some (.int .i64 c) ∧ ((W.setCell ⟨w.heap.size + 1, 0, none⟩ v0).setCell ⟨w.heap.size + 1, 1, none⟩ v1).cell? ⟨b6, 2, none⟩ = some (.int .i64 h) ∧ ((W.setCell ⟨w.heap.size + 1, 0, none⟩ v0).setCell ⟨w.heap.size + 1, 1, none⟩ v1).cell? ⟨b6, 3, none⟩ = some (.int .i64 s) ∧ ((W.setCell ⟨w.heap.size + 1, 0, none⟩ v0).setCell ⟨w.heap.size + 1, 1, none⟩ v1).cell? ⟨b7, 0, none⟩ = some (u0) ∧ ((W.setCell ⟨w.heap.size + 1, 0, none⟩ v0).setCell ⟨w.heap.size + 1, 1, none⟩ v1).cell? ⟨b7, 1, none⟩ = some (u1) ∧ (Blk ((W.setCell ⟨w.heap.size + 1, 0, none⟩ v0).setCell ⟨w.heap.size + 1, 1, none⟩ v1) b6 #[.int .i64 p, .int .i64 c, .int .i64 h, .int .i64 s] 25 ∧ Blk ((W.setCell ⟨w.heap.size + 1, 0, none⟩ v0).setCell ⟨w.heap.size + 1, 1, none⟩ v1) b7 #[u0, u1] 28 ∧ Src B ((W.setCell ⟨w.heap.size + 1, 0, none⟩ v0).setCell ⟨w.heap.size + 1, 1, none⟩ v1) g a len cap ∧ Row ((W.setCell ⟨w.heap.size + 1, 0, none⟩ v0).setCell ⟨w.heap.size + 1, 1, none⟩ v1) g1 xs ∧ Row ((W.setCell ⟨w.heap.size + 1, 0, none⟩ v0).setCell ⟨w.heap.size + 1, 1, none⟩ v1) g2 ys ∧ Below w.heap.size w ((W.setCell ⟨w.heap.size + 1, 0, none⟩ v0).setCell ⟨w.heap.size + 1, 1, none⟩ v1) ∧ (∃ q0 q1 q2 q3, Blk ((W.setCell ⟨w.heap.size + 1, 0, none⟩ v0).setCell ⟨w.heap.size + 1, 1, none⟩ v1) w.heap.size #[q0, q1, q2, q3] 25) ∧ (∃ q4 q5, Blk ((W.setCell ⟨w.heap.size + 1, 0, none⟩ v0).setCell ⟨w.heap.size + 1, 1, none⟩ v1) (w.heap.size + 1) #[q4, q5] 28) ∧ True) := by
  obtain ⟨-, -, -, -, -, -, h6, h7, hs, r1, r2, hb, ⟨q0, q1, q2, q3, hq⟩, ⟨q4, q5, hn⟩, -⟩ := hS
  have k6 := ((h6.other (g := w.heap.size + 1) (o := 0) (v := v0) (by omega)).other (g := w.heap.size + 1) (o := 1) (v := v1) (by omega))
  have k7 := ((h7.other (g := w.heap.size + 1) (o := 0) (v := v0) (by omega)).other (g := w.heap.size + 1) (o := 1) (v := v1) (by omega))
  obtain ⟨x0, x1, x2, x3, xf, xl⟩ := k6.four
  obtain ⟨y0, y1, yf, yl⟩ := k7.two
  exact ⟨x0, x1, x2, x3, y0, y1, k6, k7, ((hs.set (g' := w.heap.size + 1) (o := 0) (v := v0) (by omega) (by omega)).set (g' := w.heap.size + 1) (o := 1) (v := v1) (by omega) (by omega)), ((r1.other (g := w.heap.size + 1) (o := 0) (v := v0) (by omega)).other (g := w.heap.size + 1) (o := 1) (v := v1) (by omega)), ((r2.other (g := w.heap.size + 1) (o := 0) (v := v0) (by omega)).other (g := w.heap.size + 1) (o := 1) (v := v1) (by omega)), ((hb.setCell (by simp; try omega) _).setCell (by simp; try omega) _), ⟨_, _, _, _, ((hq.other (g := w.heap.size + 1) (o := 0) (v := v0) (by omega)).other (g := w.heap.size + 1) (o := 1) (v := v1) (by omega))⟩, ⟨_, _, ((hn.set v0).set v1)⟩, trivial⟩
/-- A variant, a board and something else have been drawn, all of it in new memory. -/
def NumNew (w : World) (e : Ending) (w' : World) : Prop :=
  ∃ (p c h s : Int) (g1 g2 n1 n2 c1 c2 : Nat) (xs ys : List Int) (i : Int), e = .returned (.tuple #[.agg #[.int .i64 p, .int .i64 c, .int .i64 h, .int .i64 s], .agg #[.slice (some ⟨g1, 0, none⟩) n1 c1, .slice (some ⟨g2, 0, none⟩) n2 c2], .int .i64 i]) ∧
    xs.length = n1 ∧ ys.length = n2 ∧ n1 ≤ 1000 ∧ n2 ≤ 1000 ∧ Row w' g1 xs ∧ Row w' g2 ys ∧ Below w.heap.size w w'
set_option maxRecDepth 8000 in
set_option maxHeartbeats 1000000 in
theorem drawLegal_any (B : Nat) (a : Option Addr) (len cap : Nat) (w : World) (hB : B ≤ w.heap.size) (hlen : len ≤ 1048576) (hcode : CodeIn B w a len) :
    Calls Try.prog 23 #[.slice a len cap] w (NumNew w) := by
  obtain ⟨BZ, BN, hb, hz⟩ := two_new w #[.int .i64 0, .int .i64 0, .int .i64 0, .int .i64 0] #[.slice none 0 0, .slice none 0 0] 25 28
  have hc1 := hcode.below (hb.mono hB)
  go_enter Try.func23, Try.ntmps23
  go_wp2_with fail
  generalize ((w.alloc (.cells #[.int .i64 0, .int .i64 0, .int .i64 0, .int .i64 0] 25)).alloc (.cells #[.slice none 0 0, .slice none 0 0] 28)) = v0 at *
  refine (from_any B a len cap _ (by omega) hlen hc1).mono ?_
  rintro e w1 ⟨g, rfl, hg, hS, hb1⟩
  replace BZ := BZ.below hb1
  replace BN := BN.below hb1
  replace hb := chain hb hb1
  have hzw := hb1.size
  go_wp2_with fail
  refine (drawPair_any B g a len cap _ hS).mono ?_
  rintro e w2 ⟨p, c, h, s, g1, g2, n1, n2, c1, c2, xs, ys, rfl, ⟨bp0, bp1, bs0, bs1⟩, hx, hy, l1, l2, e1, e2, b1, b2, R1, R2, hS2, hG⟩
  replace BZ := BZ.grown hG (by omega)
  replace BN := BN.grown hG (by omega)
  replace hb := chain_grown hb hG (by omega)
  have hzg := hG.size
  have wz : IntKind.i64.wrap (p + 1) = p + 1 := IntWalk.i64_in _ (by omega)
  have hlg := hS2.lt
  obtain ⟨BV, BB, hb2, hz2⟩ := two_new w2 #[.int .i64 p, .int .i64 c, .int .i64 h, .int .i64 s] #[.slice (some ⟨g1, 0, none⟩) n1 c1, .slice (some ⟨g2, 0, none⟩) n2 c2] 25 28
  replace BZ := BZ.below hb2
  replace BN := BN.below hb2
  replace hb := chain hb hb2
  have hS3 := hS2.below hb2
  have Q1 := R1.below hb2
  have Q2 := R2.below hb2
  have hx' := Lib.hid hx
  have hy' := Lib.hid hy
  clear hS hS2 R1 R2 hG hb1 hb2 hc1
  obtain ⟨x0, x1, x2, x3, xf, xl⟩ := BV.four
  obtain ⟨y0, y1, yf, yl⟩ := BB.two
  go_wp2_with fail
  generalize ((w2.alloc (.cells #[.int .i64 p, .int .i64 c, .int .i64 h, .int .i64 s] 25)).alloc (.cells #[.slice (some ⟨g1, 0, none⟩) n1 c1, .slice (some ⟨g2, 0, none⟩) n2 c2] 28)) = v2 at *
  refine wp_region_held_drew (S := fun w' => w'.cell? ⟨w2.heap.size, 0, none⟩ = some (.int .i64 p) ∧ w'.cell? ⟨w2.heap.size, 1, none⟩ = some (.int .i64 c) ∧ w'.cell? ⟨w2.heap.size, 2, none⟩ = some (.int .i64 h) ∧ w'.cell? ⟨w2.heap.size, 3, none⟩ = some (.int .i64 s) ∧ w'.cell? ⟨(w2.heap.size + 1), 0, none⟩ = some (.slice (some ⟨g1, 0, none⟩) n1 c1) ∧ w'.cell? ⟨(w2.heap.size + 1), 1, none⟩ = some (.slice (some ⟨g2, 0, none⟩) n2 c2) ∧ (Blk w' w2.heap.size #[.int .i64 p, .int .i64 c, .int .i64 h, .int .i64 s] 25 ∧ Blk w' (w2.heap.size + 1) #[.slice (some ⟨g1, 0, none⟩) n1 c1, .slice (some ⟨g2, 0, none⟩) n2 c2] 28 ∧ Src B w' g a len cap ∧ Row w' g1 xs ∧ Row w' g2 ys ∧ Below w.heap.size w w' ∧ (∃ q0 q1 q2 q3, Blk w' w.heap.size #[q0, q1, q2, q3] 25) ∧ (∃ q4 q5, Blk w' (w.heap.size + 1) #[q4, q5] 28) ∧ True)) (by kernel_rfl) ⟨x0, x1, x2, x3, y0, y1, BV.drew, BB.drew, hS3.drew, Q1.drew, Q2.drew, hb.drew, ⟨_, _, _, _, BZ.drew⟩, ⟨_, _, BN.drew⟩, trivial⟩ (fun hHeld => ?_)
  refine wpAnyH_take (i := 0) (oi := { dst := some 15, op := _, type := _, pos := _, after := _, guard := _ }) (v := ?_) rfl (by kernel_rfl) (by kernel_rfl) (by kernel_rfl) (fun _ _ _ h => h) (Or.inl ⟨by rfl, ?_⟩) (by assumption) ?_
  rotate_left
  · intro w hSw
    (try dsimp only at hSw)
    go_simp
    (try (with_reducible rfl))
  try simp only [Act.put, List.setIfInBounds_toArray, List.set_cons_zero, List.set_cons_succ]
  refine wpAnyH_take (i := 1) (oi := { dst := some 16, op := _, type := _, pos := _, after := _, guard := _ }) (v := ?_) rfl (by kernel_rfl) (by kernel_rfl) (by kernel_rfl) (fun _ _ _ h => h) (Or.inl ⟨by rfl, ?_⟩) (by assumption) ?_
  rotate_left
  · intro w hSw
    (try dsimp only at hSw)
    go_simp
    (try (with_reducible rfl))
  try simp only [Act.put, List.setIfInBounds_toArray, List.set_cons_zero, List.set_cons_succ]
  refine wpAnyH_take (i := 2) (oi := { dst := some 17, op := _, type := _, pos := _, after := _, guard := _ }) (v := ?_) rfl (by kernel_rfl) (by kernel_rfl) (by kernel_rfl) (fun _ _ _ h => h) (Or.inl ⟨by rfl, ?_⟩) (by assumption) ?_
  rotate_left
  · intro w hSw
    (try dsimp only at hSw)
    go_simp
    (try (with_reducible rfl))
  try simp only [Act.put, List.setIfInBounds_toArray, List.set_cons_zero, List.set_cons_succ]
  refine wpAnyH_take (i := 3) (oi := { dst := some 18, op := _, type := _, pos := _, after := _, guard := _ }) (v := ?_) rfl (by kernel_rfl) (by kernel_rfl) (by kernel_rfl) (fun _ _ _ h => h) (Or.inl ⟨by rfl, ?_⟩) (by assumption) ?_
  rotate_left
  · intro w hSw
    (try dsimp only at hSw)
    go_simp
    (try (with_reducible rfl))
  try simp only [Act.put, List.setIfInBounds_toArray, List.set_cons_zero, List.set_cons_succ]
  refine wpAnyH_ready (rs := [4]) (by kernel_rfl) (by simp) ?_
  refine AllReadyH.cons (o := { dst := some 19, op := _, type := _, pos := _, after := _, guard := _ }) rfl (fun K hK => ?_) AllReadyH.nil
  go_simp
  refine (drawDie_any B g p c h s a len cap _ bs0 bs1 hHeld.2.2.2.2.2.2.2.2.1).mono ?_
  rintro e w8 ⟨d, rfl, d0, d1, hS8, hg8⟩
  (try go_wp2_with fail)
  refine hK.out _ _ (d2_grown hHeld hS8 hg8 (by omega) (by omega) (by omega) (by omega) (by omega)) (fun hHeld => ?_)
  clear hK K
  try simp only [Act.put, List.setIfInBounds_toArray, List.set_cons_zero, List.set_cons_succ]
  refine wpAnyH_ready (rs := [5]) (by kernel_rfl) (by simp) ?_
  refine AllReadyH.cons (o := { dst := none, op := _, type := _, pos := _, after := _, guard := _ }) rfl (fun K hK => ?_) AllReadyH.nil
  obtain ⟨q0, q1, q2, q3, BU⟩ := hHeld.2.2.2.2.2.2.2.2.2.2.2.2.1
  obtain ⟨z0, z1, z2, z3, zf, zl⟩ := BU.four
  go_simp
  (try go_wp2_with fail)
  refine hK.out _ _ (d2_store4 hHeld (by omega) (by omega) (by omega) (by omega) (by omega) _ _ _ _) (fun hHeld => ?_)
  clear hK K
  try simp only [Act.put, List.setIfInBounds_toArray, List.set_cons_zero, List.set_cons_succ]
  refine wpAnyH_ready (rs := [6]) (by kernel_rfl) (by simp) ?_
  refine AllReadyH.cons (o := { dst := none, op := _, type := _, pos := _, after := _, guard := _ }) rfl (fun K hK => ?_) AllReadyH.nil
  obtain ⟨q4, q5, BU2⟩ := hHeld.2.2.2.2.2.2.2.2.2.2.2.2.2.1
  obtain ⟨m0, m1, nf, nl⟩ := BU2.two
  go_simp
  (try go_wp2_with fail)
  refine hK.out _ _ (d2_store2 hHeld (by omega) (by omega) (by omega) (by omega) (by omega) _ _) (fun hHeld => ?_)
  clear hK K
  try simp only [Act.put, List.setIfInBounds_toArray, List.set_cons_zero, List.set_cons_succ]
  refine wpAnyH_take (i := 7) (oi := { dst := some 4, op := _, type := _, pos := _, after := _, guard := _ }) (v := ?_) rfl (by kernel_rfl) (by kernel_rfl) (by kernel_rfl) (fun _ _ _ h => h) (Or.inl ⟨by rfl, ?_⟩) (by assumption) ?_
  rotate_left
  · intro w hSw
    (try dsimp only at hSw)
    go_simp
    (try (with_reducible rfl))
  try simp only [Act.put, List.setIfInBounds_toArray, List.set_cons_zero, List.set_cons_succ]
  refine wpAnyH_done (by kernel_rfl) ?_ _
  go_wp2
  obtain ⟨-, -, -, -, -, -, -, -, -, RR1, RR2, hbb, -, -, -⟩ := hHeld
  refine bodyPost_ret (v := .tuple #[.agg #[.int .i64 p, .int .i64 c, .int .i64 h, .int .i64 s], .agg #[.slice (some ⟨g1, 0, none⟩) n1 c1, .slice (some ⟨g2, 0, none⟩) n2 c2], .int .i64 d]) (by simp [results, Try.results23, go_sem, z0, z1, z2, z3, m0, m1]) rfl ?_
  exact ⟨p, c, h, s, g1, g2, n1, n2, c1, c2, xs, ys, d, rfl, hx'.out, hy'.out, l1, l2, RR1, RR2, hbb⟩
theorem dL_grown {w W w2 : World} {B g g1 g2 b6 b7 len cap : Nat} {a : Option Addr} {p c h s : Int} {u0 u1 : Value} {xs ys : List Int} {g3 : Nat} {L : List Int} (hS : W.cell? ⟨b6, 0, none⟩ = some (.int .i64 p) ∧ W.cell? ⟨b6, 1, none⟩ = some (.int .i64 c) ∧ W.cell? ⟨b6, 2, none⟩ = some (.int .i64 h) ∧ W.cell? ⟨b6, 3, none⟩ = some (.int .i64 s) ∧ W.cell? ⟨b7, 0, none⟩ = some (u0) ∧ W.cell? ⟨b7, 1, none⟩ = some (u1) ∧ (Blk W b6 #[.int .i64 p, .int .i64 c, .int .i64 h, .int .i64 s] 25 ∧ Blk W b7 #[u0, u1] 28 ∧ Src B W g a len cap ∧ Row W g1 xs ∧ Row W g2 ys ∧ Below w.heap.size w W ∧ (∃ q0 q1 q2 q3, Blk W w.heap.size #[q0, q1, q2, q3] 25) ∧ (∃ q4 q5, Blk W (w.heap.size + 1) #[q4, q5] 28) ∧ (Row W g3 L ∧ ∀ j, j < L.length → W.cell? ⟨g3, j, none⟩ = some (.int .i64 (L.getD j 0))))) (hs : Src B w2 g a len cap) (hg : W.grownBy w2 (some g)) (e6 : b6 ≠ g) (e7 : b7 ≠ g) (e1 : g1 ≠ g) (e2 : g2 ≠ g) (eL : g3 ≠ g) (hl : w.heap.size + 1 < g) : w2.cell? ⟨b6, 0, none⟩ = some (.int .i64 p) ∧ w2.cell? ⟨b6, 1, none⟩ = some (.int .i64 c) ∧ w2.cell? ⟨b6, 2, none⟩ = some (.int .i64 h) ∧ w2.cell? ⟨b6, 3, none⟩ = some (.int .i64 s) ∧ w2.cell? ⟨b7, 0, none⟩ = some (u0) ∧ w2.cell? ⟨b7, 1, none⟩ = some (u1) ∧ (Blk w2 b6 #[.int .i64 p, .int .i64 c, .int .i64 h, .int .i64 s] 25 ∧ Blk w2 b7 #[u0, u1] 28 ∧ Src B w2 g a len cap ∧ Row w2 g1 xs ∧ Row w2 g2 ys ∧ Below w.heap.size w w2 ∧ (∃ q0 q1 q2 q3, Blk w2 w.heap.size #[q0, q1, q2, q3] 25) ∧ (∃ q4 q5, Blk w2 (w.heap.size + 1) #[q4, q5] 28) ∧ (Row w2 g3 L ∧ ∀ j, j < L.length → w2.cell? ⟨g3, j, none⟩ = some (.int .i64 (L.getD j 0)))) := by
  obtain ⟨-, -, -, -, -, -, h6, h7, -, r1, r2, hb, ⟨q0, q1, q2, q3, hq⟩, ⟨q4, q5, hn⟩, ⟨hL, -⟩⟩ := hS
  have k6 := h6.grown hg e6
  have k7 := h7.grown hg e7
  obtain ⟨x0, x1, x2, x3, xf, xl⟩ := k6.four
  obtain ⟨y0, y1, yf, yl⟩ := k7.two
  exact ⟨x0, x1, x2, x3, y0, y1, k6, k7, hs, r1.grown hg e1, r2.grown hg e2, chain_grown hb hg (by omega), ⟨q0, q1, q2, q3, hq.grown hg (by omega)⟩, ⟨q4, q5, hn.grown hg (by omega)⟩, ⟨hL.grown hg eL, fun j hj => (hL.grown hg eL).cell j hj⟩⟩
theorem dL_store4 {w W : World} {B g g1 g2 b6 b7 len cap : Nat} {a : Option Addr} {p c h s : Int} {u0 u1 : Value} {xs ys : List Int} {g3 : Nat} {L : List Int} (hS : W.cell? ⟨b6, 0, none⟩ = some (.int .i64 p) ∧ W.cell? ⟨b6, 1, none⟩ = some (.int .i64 c) ∧ W.cell? ⟨b6, 2, none⟩ = some (.int .i64 h) ∧ W.cell? ⟨b6, 3, none⟩ = some (.int .i64 s) ∧ W.cell? ⟨b7, 0, none⟩ = some (u0) ∧ W.cell? ⟨b7, 1, none⟩ = some (u1) ∧ (Blk W b6 #[.int .i64 p, .int .i64 c, .int .i64 h, .int .i64 s] 25 ∧ Blk W b7 #[u0, u1] 28 ∧ Src B W g a len cap ∧ Row W g1 xs ∧ Row W g2 ys ∧ Below w.heap.size w W ∧ (∃ q0 q1 q2 q3, Blk W w.heap.size #[q0, q1, q2, q3] 25) ∧ (∃ q4 q5, Blk W (w.heap.size + 1) #[q4, q5] 28) ∧ (Row W g3 L ∧ ∀ j, j < L.length → W.cell? ⟨g3, j, none⟩ = some (.int .i64 (L.getD j 0))))) (eL : w.heap.size + 1 < g3) (e6 : w.heap.size + 1 < b6) (e7 : w.heap.size + 1 < b7) (e1 : w.heap.size + 1 < g1) (e2 : w.heap.size + 1 < g2) (hg : w.heap.size + 1 < g ∧ B ≤ w.heap.size) (v0 v1 v2 v3 : Value) : ((((W.setCell ⟨w.heap.size, 0, none⟩ v0).setCell ⟨w.heap.size, 1, none⟩ v1).setCell ⟨w.heap.size, 2, none⟩ v2).setCell ⟨w.heap.size, 3, none⟩ v3).cell? ⟨b6, 0, none⟩ = some (.int .i64 p) ∧ ((((W.setCell ⟨w.heap.size, 0, none⟩ v0).setCell ⟨w.heap.size, 1, none⟩ v1).setCell ⟨w.heap.size, 2, none⟩ v2).setCell ⟨w.heap.size, 3, none⟩ v3).cell? ⟨b6, 1, none⟩ = some (.int .i64 c) ∧ ((((W.setCell ⟨w.heap.size, 0, none⟩ v0).setCell ⟨w.heap.size, 1, none⟩ v1).setCell ⟨w.heap.size, 2, none⟩ v2).setCell ⟨w.heap.size, 3, none⟩ v3).cell? ⟨b6, 2, none⟩ = some (.int .i64 h) ∧ ((((W.setCell ⟨w.heap.size, 0, none⟩ v0).setCell ⟨w.heap.size, 1, none⟩ v1).setCell ⟨w.heap.size, 2, none⟩ v2).setCell ⟨w.heap.size, 3, none⟩ v3).cell? ⟨b6, 3, none⟩ = some (.int .i64 s) ∧ ((((W.setCell ⟨w.heap.size, 0, none⟩ v0).setCell ⟨w.heap.size, 1, none⟩ v1).setCell ⟨w.heap.size, 2, none⟩ v2).setCell ⟨w.heap.size, 3, none⟩ v3).cell? ⟨b7, 0, none⟩ = some (u0) ∧ ((((W.setCell ⟨w.heap.size, 0, none⟩ v0).setCell ⟨w.heap.size, 1, none⟩ v1).setCell ⟨w.heap.size, 2, none⟩ v2).setCell ⟨w.heap.size, 3, none⟩ v3).cell? ⟨b7, 1, none⟩ = some (u1) ∧ (Blk ((((W.setCell ⟨w.heap.size, 0, none⟩ v0).setCell ⟨w.heap.size, 1, none⟩ v1).setCell ⟨w.heap.size, 2, none⟩ v2).setCell ⟨w.heap.size, 3, none⟩ v3) b6 #[.int .i64 p, .int .i64 c, .int .i64 h, .int .i64 s] 25 ∧ Blk ((((W.setCell ⟨w.heap.size, 0, none⟩ v0).setCell ⟨w.heap.size, 1, none⟩ v1).setCell ⟨w.heap.size, 2, none⟩ v2).setCell ⟨w.heap.size, 3, none⟩ v3) b7 #[u0, u1] 28 ∧ Src B ((((W.setCell ⟨w.heap.size, 0, none⟩ v0).setCell ⟨w.heap.size, 1, none⟩ v1).setCell ⟨w.heap.size, 2, none⟩ v2).setCell ⟨w.heap.size, 3, none⟩ v3) g a len cap ∧ Row ((((W.setCell ⟨w.heap.size, 0, none⟩ v0).setCell ⟨w.heap.size, 1, none⟩ v1).setCell ⟨w.heap.size, 2, none⟩ v2).setCell ⟨w.heap.size, 3, none⟩ v3) g1 xs ∧ Row ((((W.setCell ⟨w.heap.size, 0, none⟩ v0).setCell ⟨w.heap.size, 1, none⟩ v1).setCell ⟨w.heap.size, 2, none⟩ v2).setCell ⟨w.heap.size, 3, none⟩ v3) g2 ys ∧ Below w.heap.size w ((((W.setCell ⟨w.heap.size, 0, none⟩ v0).setCell ⟨w.heap.size, 1, none⟩ v1).setCell ⟨w.heap.size, 2, none⟩ v2).setCell ⟨w.heap.size, 3, none⟩ v3) ∧ (∃ q0 q1 q2 q3, Blk ((((W.setCell ⟨w.heap.size, 0, none⟩ v0).setCell ⟨w.heap.size, 1, none⟩ v1).setCell ⟨w.heap.size, 2, none⟩ v2).setCell ⟨w.heap.size, 3, none⟩ v3) w.heap.size #[q0, q1, q2, q3] 25) ∧ (∃ q4 q5, Blk ((((W.setCell ⟨w.heap.size, 0, none⟩ v0).setCell ⟨w.heap.size, 1, none⟩ v1).setCell ⟨w.heap.size, 2, none⟩ v2).setCell ⟨w.heap.size, 3, none⟩ v3) (w.heap.size + 1) #[q4, q5] 28) ∧ (Row ((((W.setCell ⟨w.heap.size, 0, none⟩ v0).setCell ⟨w.heap.size, 1, none⟩ v1).setCell ⟨w.heap.size, 2, none⟩ v2).setCell ⟨w.heap.size, 3, none⟩ v3) g3 L ∧ ∀ j, j < L.length → ((((W.setCell ⟨w.heap.size, 0, none⟩ v0).setCell ⟨w.heap.size, 1, none⟩ v1).setCell ⟨w.heap.size, 2, none⟩ v2).setCell ⟨w.heap.size, 3, none⟩ v3).cell? ⟨g3, j, none⟩ = some (.int .i64 (L.getD j 0)))) := by
  obtain ⟨-, -, -, -, -, -, h6, h7, hs, r1, r2, hb, ⟨q0, q1, q2, q3, hq⟩, ⟨q4, q5, hn⟩, ⟨hL, -⟩⟩ := hS
  have k6 := ((((h6.other (g := w.heap.size) (o := 0) (v := v0) (by omega)).other (g := w.heap.size) (o := 1) (v := v1) (by omega)).other (g := w.heap.size) (o := 2) (v := v2) (by omega)).other (g := w.heap.size) (o := 3) (v := v3) (by omega))
  have k7 := ((((h7.other (g := w.heap.size) (o := 0) (v := v0) (by omega)).other (g := w.heap.size) (o := 1) (v := v1) (by omega)).other (g := w.heap.size) (o := 2) (v := v2) (by omega)).other (g := w.heap.size) (o := 3) (v := v3) (by omega))
  obtain ⟨x0, x1, x2, x3, xf, xl⟩ := k6.four
  obtain ⟨y0, y1, yf, yl⟩ := k7.two
  exact ⟨x0, x1, x2, x3, y0, y1, k6, k7, ((((hs.set (g' := w.heap.size) (o := 0) (v := v0) (by omega) (by omega)).set (g' := w.heap.size) (o := 1) (v := v1) (by omega) (by omega)).set (g' := w.heap.size) (o := 2) (v := v2) (by omega) (by omega)).set (g' := w.heap.size) (o := 3) (v := v3) (by omega) (by omega)), ((((r1.other (g := w.heap.size) (o := 0) (v := v0) (by omega)).other (g := w.heap.size) (o := 1) (v := v1) (by omega)).other (g := w.heap.size) (o := 2) (v := v2) (by omega)).other (g := w.heap.size) (o := 3) (v := v3) (by omega)), ((((r2.other (g := w.heap.size) (o := 0) (v := v0) (by omega)).other (g := w.heap.size) (o := 1) (v := v1) (by omega)).other (g := w.heap.size) (o := 2) (v := v2) (by omega)).other (g := w.heap.size) (o := 3) (v := v3) (by omega)), ((((hb.setCell (by simp; try omega) _).setCell (by simp; try omega) _).setCell (by simp; try omega) _).setCell (by simp; try omega) _), ⟨_, _, _, _, ((((hq.set v0).set v1).set v2).set v3)⟩, ⟨_, _, ((((hn.other (g := w.heap.size) (o := 0) (v := v0) (by omega)).other (g := w.heap.size) (o := 1) (v := v1) (by omega)).other (g := w.heap.size) (o := 2) (v := v2) (by omega)).other (g := w.heap.size) (o := 3) (v := v3) (by omega))⟩, ⟨((((hL.other (g := w.heap.size) (o := 0) (v := v0) (by omega)).other (g := w.heap.size) (o := 1) (v := v1) (by omega)).other (g := w.heap.size) (o := 2) (v := v2) (by omega)).other (g := w.heap.size) (o := 3) (v := v3) (by omega)), fun j hj => (((((hL.other (g := w.heap.size) (o := 0) (v := v0) (by omega)).other (g := w.heap.size) (o := 1) (v := v1) (by omega)).other (g := w.heap.size) (o := 2) (v := v2) (by omega)).other (g := w.heap.size) (o := 3) (v := v3) (by omega))).cell j hj⟩⟩
theorem dL_store2 {w W : World} {B g g1 g2 b6 b7 len cap : Nat} {a : Option Addr} {p c h s : Int} {u0 u1 : Value} {xs ys : List Int} {g3 : Nat} {L : List Int} (hS : W.cell? ⟨b6, 0, none⟩ = some (.int .i64 p) ∧ W.cell? ⟨b6, 1, none⟩ = some (.int .i64 c) ∧ W.cell? ⟨b6, 2, none⟩ = some (.int .i64 h) ∧ W.cell? ⟨b6, 3, none⟩ = some (.int .i64 s) ∧ W.cell? ⟨b7, 0, none⟩ = some (u0) ∧ W.cell? ⟨b7, 1, none⟩ = some (u1) ∧ (Blk W b6 #[.int .i64 p, .int .i64 c, .int .i64 h, .int .i64 s] 25 ∧ Blk W b7 #[u0, u1] 28 ∧ Src B W g a len cap ∧ Row W g1 xs ∧ Row W g2 ys ∧ Below w.heap.size w W ∧ (∃ q0 q1 q2 q3, Blk W w.heap.size #[q0, q1, q2, q3] 25) ∧ (∃ q4 q5, Blk W (w.heap.size + 1) #[q4, q5] 28) ∧ (Row W g3 L ∧ ∀ j, j < L.length → W.cell? ⟨g3, j, none⟩ = some (.int .i64 (L.getD j 0))))) (eL : w.heap.size + 1 < g3) (e6 : w.heap.size + 1 < b6) (e7 : w.heap.size + 1 < b7) (e1 : w.heap.size + 1 < g1) (e2 : w.heap.size + 1 < g2) (hg : w.heap.size + 1 < g ∧ B ≤ w.heap.size) (v0 v1 : Value) : ((W.setCell ⟨w.heap.size + 1, 0, none⟩ v0).setCell ⟨w.heap.size + 1, 1, none⟩ v1).cell? ⟨b6, 0, none⟩ = some (.int .i64 p) ∧ ((W.setCell ⟨w.heap.size + 1, 0, none⟩ v0).setCell ⟨w.heap.size + 1, 1, none⟩ v1).cell? ⟨b6, 1, none⟩ = some (.int .i64 c) ∧ ((W.setCell ⟨w.heap.size + 1, 0, none⟩ v0).setCell ⟨w.heap.size + 1, 1, none⟩ v1).cell? ⟨b6, 2, none⟩ = some (.int .i64 h) ∧ ((W.setCell ⟨w.heap.size + 1, 0, none⟩ v0).setCell ⟨w.heap.size + 1, 1, none⟩ v1).cell? ⟨b6, 3, none⟩ = some (.int .i64 s) ∧ ((W.setCell ⟨w.heap.size + 1, 0, none⟩ v0).setCell ⟨w.heap.size + 1, 1, none⟩ v1).cell? ⟨b7, 0, none⟩ = some (u0) ∧ ((W.setCell ⟨w.heap.size + 1, 0, none⟩ v0).setCell ⟨w.heap.size + 1, 1, none⟩ v1).cell? ⟨b7, 1, none⟩ = some (u1) ∧ (Blk ((W.setCell ⟨w.heap.size + 1, 0, none⟩ v0).setCell ⟨w.heap.size + 1, 1, none⟩ v1) b6 #[.int .i64 p, .int .i64 c, .int .i64 h, .int .i64 s] 25 ∧ Blk ((W.setCell ⟨w.heap.size + 1, 0, none⟩ v0).setCell ⟨w.heap.size + 1, 1, none⟩ v1) b7 #[u0, u1] 28 ∧ Src B ((W.setCell ⟨w.heap.size + 1, 0, none⟩ v0).setCell ⟨w.heap.size + 1, 1, none⟩ v1) g a len cap ∧ Row ((W.setCell ⟨w.heap.size + 1, 0, none⟩ v0).setCell ⟨w.heap.size + 1, 1, none⟩ v1) g1 xs ∧ Row ((W.setCell ⟨w.heap.size + 1, 0, none⟩ v0).setCell ⟨w.heap.size + 1, 1, none⟩ v1) g2 ys ∧ Below w.heap.size w ((W.setCell ⟨w.heap.size + 1, 0, none⟩ v0).setCell ⟨w.heap.size + 1, 1, none⟩ v1) ∧ (∃ q0 q1 q2 q3, Blk ((W.setCell ⟨w.heap.size + 1, 0, none⟩ v0).setCell ⟨w.heap.size + 1, 1, none⟩ v1) w.heap.size #[q0, q1, q2, q3] 25) ∧ (∃ q4 q5, Blk ((W.setCell ⟨w.heap.size + 1, 0, none⟩ v0).setCell ⟨w.heap.size + 1, 1, none⟩ v1) (w.heap.size + 1) #[q4, q5] 28) ∧ (Row ((W.setCell ⟨w.heap.size + 1, 0, none⟩ v0).setCell ⟨w.heap.size + 1, 1, none⟩ v1) g3 L ∧ ∀ j, j < L.length → ((W.setCell ⟨w.heap.size + 1, 0, none⟩ v0).setCell ⟨w.heap.size + 1, 1, none⟩ v1).cell? ⟨g3, j, none⟩ = some (.int .i64 (L.getD j 0)))) := by
  obtain ⟨-, -, -, -, -, -, h6, h7, hs, r1, r2, hb, ⟨q0, q1, q2, q3, hq⟩, ⟨q4, q5, hn⟩, ⟨hL, -⟩⟩ := hS
  have k6 := ((h6.other (g := w.heap.size + 1) (o := 0) (v := v0) (by omega)).other (g := w.heap.size + 1) (o := 1) (v := v1) (by omega))
  have k7 := ((h7.other (g := w.heap.size + 1) (o := 0) (v := v0) (by omega)).other (g := w.heap.size + 1) (o := 1) (v := v1) (by omega))
  obtain ⟨x0, x1, x2, x3, xf, xl⟩ := k6.four
  obtain ⟨y0, y1, yf, yl⟩ := k7.two
  exact ⟨x0, x1, x2, x3, y0, y1, k6, k7, ((hs.set (g' := w.heap.size + 1) (o := 0) (v := v0) (by omega) (by omega)).set (g' := w.heap.size + 1) (o := 1) (v := v1) (by omega) (by omega)), ((r1.other (g := w.heap.size + 1) (o := 0) (v := v0) (by omega)).other (g := w.heap.size + 1) (o := 1) (v := v1) (by omega)), ((r2.other (g := w.heap.size + 1) (o := 0) (v := v0) (by omega)).other (g := w.heap.size + 1) (o := 1) (v := v1) (by omega)), ((hb.setCell (by simp; try omega) _).setCell (by simp; try omega) _), ⟨_, _, _, _, ((hq.other (g := w.heap.size + 1) (o := 0) (v := v0) (by omega)).other (g := w.heap.size + 1) (o := 1) (v := v1) (by omega))⟩, ⟨_, _, ((hn.set v0).set v1)⟩, ⟨((hL.other (g := w.heap.size + 1) (o := 0) (v := v0) (by omega)).other (g := w.heap.size + 1) (o := 1) (v := v1) (by omega)), fun j hj => (((hL.other (g := w.heap.size + 1) (o := 0) (v := v0) (by omega)).other (g := w.heap.size + 1) (o := 1) (v := v1) (by omega))).cell j hj⟩⟩
theorem OSl.grown {lo hi g : Nat} {w w' : World} {a : Option Addr} {l : List Int} (h : OSl lo hi w a l) (hg : w.grownBy w' (some g)) (hne : g < lo) : OSl lo hi w' a l := by
  rcases h with h | ⟨k, e, h1, h2, r⟩
  · exact .inl h
  · exact .inr ⟨k, e, h1, h2, r.grown hg (by omega)⟩
set_option maxRecDepth 8000 in
set_option maxHeartbeats 4000000 in
theorem drawShots_any (B : Nat) (a : Option Addr) (len cap : Nat) (w : World) (hB : B ≤ w.heap.size) (hlen : len ≤ 1048576) (hcode : CodeIn B w a len) :
    Calls Try.prog 28 #[.slice a len cap] w (NumNew w) := by
  obtain ⟨BZ, BN, hb, hz⟩ := two_new w #[.int .i64 0, .int .i64 0, .int .i64 0, .int .i64 0] #[.slice none 0 0, .slice none 0 0] 25 28
  have hc1 := hcode.below (hb.mono hB)
  go_enter Try.func28, Try.ntmps28
  go_wp2_with fail
  generalize ((w.alloc (.cells #[.int .i64 0, .int .i64 0, .int .i64 0, .int .i64 0] 25)).alloc (.cells #[.slice none 0 0, .slice none 0 0] 28)) = v0 at *
  refine (from_any B a len cap _ (by omega) hlen hc1).mono ?_
  rintro e w1 ⟨g, rfl, hg, hS, hb1⟩
  replace BZ := BZ.below hb1
  replace BN := BN.below hb1
  replace hb := chain hb hb1
  have hzw := hb1.size
  go_wp2_with fail
  refine (drawPair_any B g a len cap _ hS).mono ?_
  rintro e w2 ⟨p, c, h, s, g1, g2, n1, n2, c1, c2, xs, ys, rfl, ⟨bp0, bp1, bs0, bs1⟩, hx, hy, l1, l2, e1, e2, b1, b2, R1, R2, hS2, hG⟩
  replace BZ := BZ.grown hG (by omega)
  replace BN := BN.grown hG (by omega)
  replace hb := chain_grown hb hG (by omega)
  have hzg := hG.size
  have wz : IntKind.i64.wrap (p + 1) = p + 1 := IntWalk.i64_in _ (by omega)
  have hlg := hS2.lt
  obtain ⟨BV, BB, hb2, hz2⟩ := two_new w2 #[.int .i64 p, .int .i64 c, .int .i64 h, .int .i64 s] #[.slice (some ⟨g1, 0, none⟩) n1 c1, .slice (some ⟨g2, 0, none⟩) n2 c2] 25 28
  replace BZ := BZ.below hb2
  replace BN := BN.below hb2
  replace hb := chain hb hb2
  have hS3 := hS2.below hb2
  have Q1 := R1.below hb2
  have Q2 := R2.below hb2
  have hx' := Lib.hid hx
  have hy' := Lib.hid hy
  clear hS hS2 R1 R2 hG hb1 hb2 hc1
  obtain ⟨x0, x1, x2, x3, xf, xl⟩ := BV.four
  obtain ⟨y0, y1, yf, yl⟩ := BB.two
  go_wp2_with fail
  generalize ((w2.alloc (.cells #[.int .i64 p, .int .i64 c, .int .i64 h, .int .i64 s] 25)).alloc (.cells #[.slice (some ⟨g1, 0, none⟩) n1 c1, .slice (some ⟨g2, 0, none⟩) n2 c2] 28)) = v2 at *
  have hls := specBlotsOf_any p c h s (some ⟨g1, 0, none⟩) (some ⟨g2, 0, none⟩) n1 n2 c1 c2 xs ys v2 hx hy (by omega) (by omega) Q1.irow Q2.irow
  have hLl := blL_length p c h s xs ys
  obtain ⟨L, hL⟩ : ∃ L, blL p c h s xs ys = L := ⟨_, rfl⟩
  obtain ⟨LR, hLR⟩ : ∃ L, blR p c h s xs ys = L := ⟨_, rfl⟩
  rw [hL, hLR] at hls
  rw [hL] at hLl
  clear hL hLR x0 x1 x2 x3 xf xl y0 y1 yf yl
  have hzv := hS3.lt
  refine hls.mono ?_
  rintro e w3 ⟨aL, kL, rfl, OL, hb3⟩
  clear hls
  replace BV := BV.below hb3
  replace BB := BB.below hb3
  replace BZ := BZ.below hb3
  replace BN := BN.below hb3
  replace Q1 := Q1.below hb3
  replace Q2 := Q2.below hb3
  replace hb := chain hb hb3
  replace hS3 := hS3.below hb3
  clear hb3
  by_cases hL0 : L.length = 0
  · rw [hL0]
    clear OL hLl
    have hf0 : decide ((0 : Int) < ((0 : Nat) : Int)) = false := by simp
    obtain ⟨x0, x1, x2, x3, xf, xl⟩ := BV.four
    obtain ⟨y0, y1, yf, yl⟩ := BB.two
    go_wp2_with fail
    clear x0 x1 x2 x3 xf xl y0 y1 yf yl
    refine wp_region_held_drew (S := fun w' => w'.cell? ⟨w2.heap.size, 0, none⟩ = some (.int .i64 p) ∧ w'.cell? ⟨w2.heap.size, 1, none⟩ = some (.int .i64 c) ∧ w'.cell? ⟨w2.heap.size, 2, none⟩ = some (.int .i64 h) ∧ w'.cell? ⟨w2.heap.size, 3, none⟩ = some (.int .i64 s) ∧ w'.cell? ⟨(w2.heap.size + 1), 0, none⟩ = some (.slice (some ⟨g1, 0, none⟩) n1 c1) ∧ w'.cell? ⟨(w2.heap.size + 1), 1, none⟩ = some (.slice (some ⟨g2, 0, none⟩) n2 c2) ∧ (Blk w' w2.heap.size #[.int .i64 p, .int .i64 c, .int .i64 h, .int .i64 s] 25 ∧ Blk w' (w2.heap.size + 1) #[.slice (some ⟨g1, 0, none⟩) n1 c1, .slice (some ⟨g2, 0, none⟩) n2 c2] 28 ∧ Src B w' g a len cap ∧ Row w' g1 xs ∧ Row w' g2 ys ∧ Below w.heap.size w w' ∧ (∃ q0 q1 q2 q3, Blk w' w.heap.size #[q0, q1, q2, q3] 25) ∧ (∃ q4 q5, Blk w' (w.heap.size + 1) #[q4, q5] 28) ∧ True)) (by kernel_rfl) ⟨BV.four.1, BV.four.2.1, BV.four.2.2.1, BV.four.2.2.2.1, BB.two.1, BB.two.2.1, BV.drew, BB.drew, hS3.drew, Q1.drew, Q2.drew, hb.drew, ⟨_, _, _, _, BZ.drew⟩, ⟨_, _, BN.drew⟩, trivial⟩ (fun hHeld => ?_)
    refine wpAnyH_take (i := 0) (oi := { dst := some 40, op := _, type := _, pos := _, after := _, guard := _ }) (v := ?_) rfl (by kernel_rfl) (by kernel_rfl) (by kernel_rfl) (fun _ _ _ h => h) (Or.inl ⟨by rfl, ?_⟩) (by assumption) ?_
    rotate_left
    · intro w hSw
      (try dsimp only at hSw)
      go_simp
      (try (with_reducible rfl))
    try simp only [Act.put, List.setIfInBounds_toArray, List.set_cons_zero, List.set_cons_succ]
    refine wpAnyH_take (i := 1) (oi := { dst := some 41, op := _, type := _, pos := _, after := _, guard := _ }) (v := ?_) rfl (by kernel_rfl) (by kernel_rfl) (by kernel_rfl) (fun _ _ _ h => h) (Or.inl ⟨by rfl, ?_⟩) (by assumption) ?_
    rotate_left
    · intro w hSw
      (try dsimp only at hSw)
      go_simp
      (try (with_reducible rfl))
    try simp only [Act.put, List.setIfInBounds_toArray, List.set_cons_zero, List.set_cons_succ]
    refine wpAnyH_take (i := 2) (oi := { dst := some 42, op := _, type := _, pos := _, after := _, guard := _ }) (v := ?_) rfl (by kernel_rfl) (by kernel_rfl) (by kernel_rfl) (fun _ _ _ h => h) (Or.inl ⟨by rfl, ?_⟩) (by assumption) ?_
    rotate_left
    · intro w hSw
      (try dsimp only at hSw)
      go_simp
      (try (with_reducible rfl))
    try simp only [Act.put, List.setIfInBounds_toArray, List.set_cons_zero, List.set_cons_succ]
    refine wpAnyH_take (i := 3) (oi := { dst := some 43, op := _, type := _, pos := _, after := _, guard := _ }) (v := ?_) rfl (by kernel_rfl) (by kernel_rfl) (by kernel_rfl) (fun _ _ _ h => h) (Or.inl ⟨by rfl, ?_⟩) (by assumption) ?_
    rotate_left
    · intro w hSw
      (try dsimp only at hSw)
      go_simp
      (try (with_reducible rfl))
    try simp only [Act.put, List.setIfInBounds_toArray, List.set_cons_zero, List.set_cons_succ]
    refine wpAnyH_take (i := 4) (oi := { dst := some 44, op := _, type := _, pos := _, after := _, guard := _ }) (v := ?_) rfl (by kernel_rfl) (by kernel_rfl) (by kernel_rfl) (fun _ _ _ h => h) (Or.inl ⟨by rfl, ?_⟩) (by assumption) ?_
    rotate_left
    · intro w hSw
      (try dsimp only at hSw)
      go_simp
      (try (with_reducible rfl))
    try simp only [Act.put, List.setIfInBounds_toArray, List.set_cons_zero, List.set_cons_succ]
    refine wpAnyH_take (i := 5) (oi := { dst := some 45, op := _, type := _, pos := _, after := _, guard := _ }) (v := ?_) rfl (by kernel_rfl) (by kernel_rfl) (by kernel_rfl) (fun _ _ _ h => h) (Or.inl ⟨by rfl, ?_⟩) (by assumption) ?_
    rotate_left
    · intro w hSw
      (try dsimp only at hSw)
      go_simp
      (try (with_reducible rfl))
    try simp only [Act.put, List.setIfInBounds_toArray, List.set_cons_zero, List.set_cons_succ]
    refine wpAnyH_take (i := 7) (oi := { dst := some 47, op := _, type := _, pos := _, after := _, guard := _ }) (v := ?_) rfl (by kernel_rfl) (by kernel_rfl) (by kernel_rfl) (fun _ _ _ h => h) (Or.inl ⟨by rfl, ?_⟩) (by assumption) ?_
    rotate_left
    · intro w hSw
      (try dsimp only at hSw)
      go_simp
      (try (with_reducible rfl))
    try simp only [Act.put, List.setIfInBounds_toArray, List.set_cons_zero, List.set_cons_succ]
    refine wpAnyH_ready (rs := [6]) (by kernel_rfl) (by simp) ?_
    refine AllReadyH.cons (o := { dst := some 46, op := _, type := _, pos := _, after := _, guard := _ }) rfl (fun K hK => ?_) AllReadyH.nil
    go_simp
    refine (next_any B g a len cap (p + 1) _ hHeld.2.2.2.2.2.2.2.2.1 (by omega)).mono ?_
    rintro e w8 ⟨r1, rfl, q_r1, u_r1, hS8, hg8⟩
    (try go_wp2_with fail)
    refine hK.out _ _ (d2_grown hHeld hS8 hg8 (by omega) (by omega) (by omega) (by omega) (by omega)) (fun hHeld => ?_)
    clear hK K
    try simp only [Act.put, List.setIfInBounds_toArray, List.set_cons_zero, List.set_cons_succ]
    refine wpAnyH_ready (rs := [8]) (by kernel_rfl) (by simp) ?_
    refine AllReadyH.cons (o := { dst := some 48, op := _, type := _, pos := _, after := _, guard := _ }) rfl (fun K hK => ?_) AllReadyH.nil
    go_simp
    refine (next_any B g a len cap 16 _ hHeld.2.2.2.2.2.2.2.2.1 (by omega)).mono ?_
    rintro e w8 ⟨r2, rfl, q_r2, u_r2, hS8, hg8⟩
    (try go_wp2_with fail)
    refine hK.out _ _ (d2_grown hHeld hS8 hg8 (by omega) (by omega) (by omega) (by omega) (by omega)) (fun hHeld => ?_)
    clear hK K
    try simp only [Act.put, List.setIfInBounds_toArray, List.set_cons_zero, List.set_cons_succ]
    refine wpAnyH_take (i := 9) (oi := { dst := some 49, op := _, type := _, pos := _, after := _, guard := _ }) (v := ?_) rfl (by kernel_rfl) (by kernel_rfl) (by kernel_rfl) (fun _ _ _ h => h) (Or.inl ⟨by rfl, ?_⟩) (by assumption) ?_
    rotate_left
    · intro w hSw
      (try dsimp only at hSw)
      go_simp
      (try (with_reducible rfl))
    try simp only [Act.put, List.setIfInBounds_toArray, List.set_cons_zero, List.set_cons_succ]
    refine wpAnyH_take (i := 10) (oi := { dst := some 50, op := _, type := _, pos := _, after := _, guard := _ }) (v := ?_) rfl (by kernel_rfl) (by kernel_rfl) (by kernel_rfl) (fun _ _ _ h => h) (Or.inl ⟨by rfl, ?_⟩) (by assumption) ?_
    rotate_left
    · intro w hSw
      (try dsimp only at hSw)
      go_simp
      (try (with_reducible rfl))
    try simp only [Act.put, List.setIfInBounds_toArray, List.set_cons_zero, List.set_cons_succ]
    refine wpAnyH_ready (rs := [11]) (by kernel_rfl) (by simp) ?_
    refine AllReadyH.cons (o := { dst := none, op := _, type := _, pos := _, after := _, guard := _ }) rfl (fun K hK => ?_) AllReadyH.nil
    obtain ⟨q0, q1, q2, q3, BU⟩ := hHeld.2.2.2.2.2.2.2.2.2.2.2.2.1
    obtain ⟨z0, z1, z2, z3, zf, zl⟩ := BU.four
    go_simp
    (try go_wp2_with fail)
    refine hK.out _ _ (d2_store4 hHeld (by omega) (by omega) (by omega) (by omega) (by omega) _ _ _ _) (fun hHeld => ?_)
    clear hK K
    try simp only [Act.put, List.setIfInBounds_toArray, List.set_cons_zero, List.set_cons_succ]
    refine wpAnyH_ready (rs := [12]) (by kernel_rfl) (by simp) ?_
    refine AllReadyH.cons (o := { dst := none, op := _, type := _, pos := _, after := _, guard := _ }) rfl (fun K hK => ?_) AllReadyH.nil
    obtain ⟨q4, q5, BU2⟩ := hHeld.2.2.2.2.2.2.2.2.2.2.2.2.2.1
    obtain ⟨m0, m1, nf, nl⟩ := BU2.two
    go_simp
    (try go_wp2_with fail)
    refine hK.out _ _ (d2_store2 hHeld (by omega) (by omega) (by omega) (by omega) (by omega) _ _) (fun hHeld => ?_)
    clear hK K
    try simp only [Act.put, List.setIfInBounds_toArray, List.set_cons_zero, List.set_cons_succ]
    refine wpAnyH_take (i := 13) (oi := { dst := some 4, op := _, type := _, pos := _, after := _, guard := _ }) (v := ?_) rfl (by kernel_rfl) (by kernel_rfl) (by kernel_rfl) (fun _ _ _ h => h) (Or.inl ⟨by rfl, ?_⟩) (by assumption) ?_
    rotate_left
    · intro w hSw
      (try dsimp only at hSw)
      go_simp
      (try (with_reducible rfl))
    try simp only [Act.put, List.setIfInBounds_toArray, List.set_cons_zero, List.set_cons_succ]
    refine wpAnyH_done (by kernel_rfl) ?_ _
    go_wp2
    obtain ⟨-, -, -, -, -, -, -, -, -, RR1, RR2, hbb, -, -, -⟩ := hHeld
    refine bodyPost_ret (v := .tuple #[.agg #[.int .i64 p, .int .i64 c, .int .i64 h, .int .i64 s], .agg #[.slice (some ⟨g1, 0, none⟩) n1 c1, .slice (some ⟨g2, 0, none⟩) n2 c2], .int .i64 (IntKind.i64.wrap (r1 - IntKind.i64.wrap (r2.tdiv 15)))]) (by simp [results, Try.results28, go_sem, z0, z1, z2, z3, m0, m1]) rfl ?_
    exact ⟨p, c, h, s, g1, g2, n1, n2, c1, c2, xs, ys, _, rfl, hx'.out, hy'.out, l1, l2, RR1, RR2, hbb⟩
  · have hLp : (0 : Int) < (L.length : Int) := by omega
    have hLp2 : 0 < L.length := by omega
    have hLp3 : decide ((0 : Int) < (L.length : Int)) = true := by simp; omega
    have hLp4 : decide (0 < L.length) = true := by simp; omega
    have hLp5 : L ≠ [] := by intro e; rw [e] at hLp2; simp at hLp2
    go_wp2_with fail
    refine (next_any B g a len cap 6 _ hS3 (by omega)).mono ?_
    rintro e w4 ⟨r4, rfl, q4, u4, hS3, hg4⟩
    replace BV := BV.grown hg4 (by omega)
    replace BB := BB.grown hg4 (by omega)
    replace BZ := BZ.grown hg4 (by omega)
    replace BN := BN.grown hg4 (by omega)
    replace Q1 := Q1.grown hg4 (by omega)
    replace Q2 := Q2.grown hg4 (by omega)
    replace hb := chain_grown hb hg4 (by omega)
    replace OL := OL.grown hg4 (by omega)
    clear hg4
    by_cases h4 : r4 = 0
    · subst h4
      clear OL hLl
      obtain ⟨x0, x1, x2, x3, xf, xl⟩ := BV.four
      obtain ⟨y0, y1, yf, yl⟩ := BB.two
      go_wp2_with fail
      clear x0 x1 x2 x3 xf xl y0 y1 yf yl
      refine wp_region_held_drew (S := fun w' => w'.cell? ⟨w2.heap.size, 0, none⟩ = some (.int .i64 p) ∧ w'.cell? ⟨w2.heap.size, 1, none⟩ = some (.int .i64 c) ∧ w'.cell? ⟨w2.heap.size, 2, none⟩ = some (.int .i64 h) ∧ w'.cell? ⟨w2.heap.size, 3, none⟩ = some (.int .i64 s) ∧ w'.cell? ⟨(w2.heap.size + 1), 0, none⟩ = some (.slice (some ⟨g1, 0, none⟩) n1 c1) ∧ w'.cell? ⟨(w2.heap.size + 1), 1, none⟩ = some (.slice (some ⟨g2, 0, none⟩) n2 c2) ∧ (Blk w' w2.heap.size #[.int .i64 p, .int .i64 c, .int .i64 h, .int .i64 s] 25 ∧ Blk w' (w2.heap.size + 1) #[.slice (some ⟨g1, 0, none⟩) n1 c1, .slice (some ⟨g2, 0, none⟩) n2 c2] 28 ∧ Src B w' g a len cap ∧ Row w' g1 xs ∧ Row w' g2 ys ∧ Below w.heap.size w w' ∧ (∃ q0 q1 q2 q3, Blk w' w.heap.size #[q0, q1, q2, q3] 25) ∧ (∃ q4 q5, Blk w' (w.heap.size + 1) #[q4, q5] 28) ∧ True)) (by kernel_rfl) ⟨BV.four.1, BV.four.2.1, BV.four.2.2.1, BV.four.2.2.2.1, BB.two.1, BB.two.2.1, BV.drew, BB.drew, hS3.drew, Q1.drew, Q2.drew, hb.drew, ⟨_, _, _, _, BZ.drew⟩, ⟨_, _, BN.drew⟩, trivial⟩ (fun hHeld => ?_)
      refine wpAnyH_take (i := 0) (oi := { dst := some 40, op := _, type := _, pos := _, after := _, guard := _ }) (v := ?_) rfl (by kernel_rfl) (by kernel_rfl) (by kernel_rfl) (fun _ _ _ h => h) (Or.inl ⟨by rfl, ?_⟩) (by assumption) ?_
      rotate_left
      · intro w hSw
        (try dsimp only at hSw)
        go_simp
        (try (with_reducible rfl))
      try simp only [Act.put, List.setIfInBounds_toArray, List.set_cons_zero, List.set_cons_succ]
      refine wpAnyH_take (i := 1) (oi := { dst := some 41, op := _, type := _, pos := _, after := _, guard := _ }) (v := ?_) rfl (by kernel_rfl) (by kernel_rfl) (by kernel_rfl) (fun _ _ _ h => h) (Or.inl ⟨by rfl, ?_⟩) (by assumption) ?_
      rotate_left
      · intro w hSw
        (try dsimp only at hSw)
        go_simp
        (try (with_reducible rfl))
      try simp only [Act.put, List.setIfInBounds_toArray, List.set_cons_zero, List.set_cons_succ]
      refine wpAnyH_take (i := 2) (oi := { dst := some 42, op := _, type := _, pos := _, after := _, guard := _ }) (v := ?_) rfl (by kernel_rfl) (by kernel_rfl) (by kernel_rfl) (fun _ _ _ h => h) (Or.inl ⟨by rfl, ?_⟩) (by assumption) ?_
      rotate_left
      · intro w hSw
        (try dsimp only at hSw)
        go_simp
        (try (with_reducible rfl))
      try simp only [Act.put, List.setIfInBounds_toArray, List.set_cons_zero, List.set_cons_succ]
      refine wpAnyH_take (i := 3) (oi := { dst := some 43, op := _, type := _, pos := _, after := _, guard := _ }) (v := ?_) rfl (by kernel_rfl) (by kernel_rfl) (by kernel_rfl) (fun _ _ _ h => h) (Or.inl ⟨by rfl, ?_⟩) (by assumption) ?_
      rotate_left
      · intro w hSw
        (try dsimp only at hSw)
        go_simp
        (try (with_reducible rfl))
      try simp only [Act.put, List.setIfInBounds_toArray, List.set_cons_zero, List.set_cons_succ]
      refine wpAnyH_take (i := 4) (oi := { dst := some 44, op := _, type := _, pos := _, after := _, guard := _ }) (v := ?_) rfl (by kernel_rfl) (by kernel_rfl) (by kernel_rfl) (fun _ _ _ h => h) (Or.inl ⟨by rfl, ?_⟩) (by assumption) ?_
      rotate_left
      · intro w hSw
        (try dsimp only at hSw)
        go_simp
        (try (with_reducible rfl))
      try simp only [Act.put, List.setIfInBounds_toArray, List.set_cons_zero, List.set_cons_succ]
      refine wpAnyH_take (i := 5) (oi := { dst := some 45, op := _, type := _, pos := _, after := _, guard := _ }) (v := ?_) rfl (by kernel_rfl) (by kernel_rfl) (by kernel_rfl) (fun _ _ _ h => h) (Or.inl ⟨by rfl, ?_⟩) (by assumption) ?_
      rotate_left
      · intro w hSw
        (try dsimp only at hSw)
        go_simp
        (try (with_reducible rfl))
      try simp only [Act.put, List.setIfInBounds_toArray, List.set_cons_zero, List.set_cons_succ]
      refine wpAnyH_take (i := 7) (oi := { dst := some 47, op := _, type := _, pos := _, after := _, guard := _ }) (v := ?_) rfl (by kernel_rfl) (by kernel_rfl) (by kernel_rfl) (fun _ _ _ h => h) (Or.inl ⟨by rfl, ?_⟩) (by assumption) ?_
      rotate_left
      · intro w hSw
        (try dsimp only at hSw)
        go_simp
        (try (with_reducible rfl))
      try simp only [Act.put, List.setIfInBounds_toArray, List.set_cons_zero, List.set_cons_succ]
      refine wpAnyH_ready (rs := [6]) (by kernel_rfl) (by simp) ?_
      refine AllReadyH.cons (o := { dst := some 46, op := _, type := _, pos := _, after := _, guard := _ }) rfl (fun K hK => ?_) AllReadyH.nil
      go_simp
      refine (next_any B g a len cap (p + 1) _ hHeld.2.2.2.2.2.2.2.2.1 (by omega)).mono ?_
      rintro e w8 ⟨r1, rfl, q_r1, u_r1, hS8, hg8⟩
      (try go_wp2_with fail)
      refine hK.out _ _ (d2_grown hHeld hS8 hg8 (by omega) (by omega) (by omega) (by omega) (by omega)) (fun hHeld => ?_)
      clear hK K
      try simp only [Act.put, List.setIfInBounds_toArray, List.set_cons_zero, List.set_cons_succ]
      refine wpAnyH_ready (rs := [8]) (by kernel_rfl) (by simp) ?_
      refine AllReadyH.cons (o := { dst := some 48, op := _, type := _, pos := _, after := _, guard := _ }) rfl (fun K hK => ?_) AllReadyH.nil
      go_simp
      refine (next_any B g a len cap 16 _ hHeld.2.2.2.2.2.2.2.2.1 (by omega)).mono ?_
      rintro e w8 ⟨r2, rfl, q_r2, u_r2, hS8, hg8⟩
      (try go_wp2_with fail)
      refine hK.out _ _ (d2_grown hHeld hS8 hg8 (by omega) (by omega) (by omega) (by omega) (by omega)) (fun hHeld => ?_)
      clear hK K
      try simp only [Act.put, List.setIfInBounds_toArray, List.set_cons_zero, List.set_cons_succ]
      refine wpAnyH_take (i := 9) (oi := { dst := some 49, op := _, type := _, pos := _, after := _, guard := _ }) (v := ?_) rfl (by kernel_rfl) (by kernel_rfl) (by kernel_rfl) (fun _ _ _ h => h) (Or.inl ⟨by rfl, ?_⟩) (by assumption) ?_
      rotate_left
      · intro w hSw
        (try dsimp only at hSw)
        go_simp
        (try (with_reducible rfl))
      try simp only [Act.put, List.setIfInBounds_toArray, List.set_cons_zero, List.set_cons_succ]
      refine wpAnyH_take (i := 10) (oi := { dst := some 50, op := _, type := _, pos := _, after := _, guard := _ }) (v := ?_) rfl (by kernel_rfl) (by kernel_rfl) (by kernel_rfl) (fun _ _ _ h => h) (Or.inl ⟨by rfl, ?_⟩) (by assumption) ?_
      rotate_left
      · intro w hSw
        (try dsimp only at hSw)
        go_simp
        (try (with_reducible rfl))
      try simp only [Act.put, List.setIfInBounds_toArray, List.set_cons_zero, List.set_cons_succ]
      refine wpAnyH_ready (rs := [11]) (by kernel_rfl) (by simp) ?_
      refine AllReadyH.cons (o := { dst := none, op := _, type := _, pos := _, after := _, guard := _ }) rfl (fun K hK => ?_) AllReadyH.nil
      obtain ⟨q0, q1, q2, q3, BU⟩ := hHeld.2.2.2.2.2.2.2.2.2.2.2.2.1
      obtain ⟨z0, z1, z2, z3, zf, zl⟩ := BU.four
      go_simp
      (try go_wp2_with fail)
      refine hK.out _ _ (d2_store4 hHeld (by omega) (by omega) (by omega) (by omega) (by omega) _ _ _ _) (fun hHeld => ?_)
      clear hK K
      try simp only [Act.put, List.setIfInBounds_toArray, List.set_cons_zero, List.set_cons_succ]
      refine wpAnyH_ready (rs := [12]) (by kernel_rfl) (by simp) ?_
      refine AllReadyH.cons (o := { dst := none, op := _, type := _, pos := _, after := _, guard := _ }) rfl (fun K hK => ?_) AllReadyH.nil
      obtain ⟨q4, q5, BU2⟩ := hHeld.2.2.2.2.2.2.2.2.2.2.2.2.2.1
      obtain ⟨m0, m1, nf, nl⟩ := BU2.two
      go_simp
      (try go_wp2_with fail)
      refine hK.out _ _ (d2_store2 hHeld (by omega) (by omega) (by omega) (by omega) (by omega) _ _) (fun hHeld => ?_)
      clear hK K
      try simp only [Act.put, List.setIfInBounds_toArray, List.set_cons_zero, List.set_cons_succ]
      refine wpAnyH_take (i := 13) (oi := { dst := some 4, op := _, type := _, pos := _, after := _, guard := _ }) (v := ?_) rfl (by kernel_rfl) (by kernel_rfl) (by kernel_rfl) (fun _ _ _ h => h) (Or.inl ⟨by rfl, ?_⟩) (by assumption) ?_
      rotate_left
      · intro w hSw
        (try dsimp only at hSw)
        go_simp
        (try (with_reducible rfl))
      try simp only [Act.put, List.setIfInBounds_toArray, List.set_cons_zero, List.set_cons_succ]
      refine wpAnyH_done (by kernel_rfl) ?_ _
      go_wp2
      obtain ⟨-, -, -, -, -, -, -, -, -, RR1, RR2, hbb, -, -, -⟩ := hHeld
      refine bodyPost_ret (v := .tuple #[.agg #[.int .i64 p, .int .i64 c, .int .i64 h, .int .i64 s], .agg #[.slice (some ⟨g1, 0, none⟩) n1 c1, .slice (some ⟨g2, 0, none⟩) n2 c2], .int .i64 (IntKind.i64.wrap (r1 - IntKind.i64.wrap (r2.tdiv 15)))]) (by simp [results, Try.results28, go_sem, z0, z1, z2, z3, m0, m1]) rfl ?_
      exact ⟨p, c, h, s, g1, g2, n1, n2, c1, c2, xs, ys, _, rfl, hx'.out, hy'.out, l1, l2, RR1, RR2, hbb⟩
    · have h4p : 0 < r4 := by omega
      rcases OL with ⟨_, h⟩ | ⟨g3, rfl, b3, b4, RL⟩
      · exact absurd h hLp5
      obtain ⟨x0, x1, x2, x3, xf, xl⟩ := BV.four
      obtain ⟨y0, y1, yf, yl⟩ := BB.two
      go_wp2_with fail
      clear x0 x1 x2 x3 xf xl y0 y1 yf yl
      refine wp_region_held_drew (S := fun w' => w'.cell? ⟨w2.heap.size, 0, none⟩ = some (.int .i64 p) ∧ w'.cell? ⟨w2.heap.size, 1, none⟩ = some (.int .i64 c) ∧ w'.cell? ⟨w2.heap.size, 2, none⟩ = some (.int .i64 h) ∧ w'.cell? ⟨w2.heap.size, 3, none⟩ = some (.int .i64 s) ∧ w'.cell? ⟨(w2.heap.size + 1), 0, none⟩ = some (.slice (some ⟨g1, 0, none⟩) n1 c1) ∧ w'.cell? ⟨(w2.heap.size + 1), 1, none⟩ = some (.slice (some ⟨g2, 0, none⟩) n2 c2) ∧ (Blk w' w2.heap.size #[.int .i64 p, .int .i64 c, .int .i64 h, .int .i64 s] 25 ∧ Blk w' (w2.heap.size + 1) #[.slice (some ⟨g1, 0, none⟩) n1 c1, .slice (some ⟨g2, 0, none⟩) n2 c2] 28 ∧ Src B w' g a len cap ∧ Row w' g1 xs ∧ Row w' g2 ys ∧ Below w.heap.size w w' ∧ (∃ q0 q1 q2 q3, Blk w' w.heap.size #[q0, q1, q2, q3] 25) ∧ (∃ q4 q5, Blk w' (w.heap.size + 1) #[q4, q5] 28) ∧ (Row w' g3 L ∧ ∀ j, j < L.length → w'.cell? ⟨g3, j, none⟩ = some (.int .i64 (L.getD j 0))))) (by kernel_rfl) ⟨BV.four.1, BV.four.2.1, BV.four.2.2.1, BV.four.2.2.2.1, BB.two.1, BB.two.2.1, BV.drew, BB.drew, hS3.drew, Q1.drew, Q2.drew, hb.drew, ⟨_, _, _, _, BZ.drew⟩, ⟨_, _, BN.drew⟩, ⟨RL.drew, fun j hj => RL.cell j hj⟩⟩ (fun hHeld => ?_)
      refine wpAnyH_take (i := 0) (oi := { dst := some 31, op := _, type := _, pos := _, after := _, guard := _ }) (v := ?_) rfl (by kernel_rfl) (by kernel_rfl) (by kernel_rfl) (fun _ _ _ h => h) (Or.inl ⟨by rfl, ?_⟩) (by assumption) ?_
      rotate_left
      · intro w hSw
        (try dsimp only at hSw)
        go_simp
        (try (with_reducible rfl))
      try simp only [Act.put, List.setIfInBounds_toArray, List.set_cons_zero, List.set_cons_succ]
      refine wpAnyH_take (i := 1) (oi := { dst := some 32, op := _, type := _, pos := _, after := _, guard := _ }) (v := ?_) rfl (by kernel_rfl) (by kernel_rfl) (by kernel_rfl) (fun _ _ _ h => h) (Or.inl ⟨by rfl, ?_⟩) (by assumption) ?_
      rotate_left
      · intro w hSw
        (try dsimp only at hSw)
        go_simp
        (try (with_reducible rfl))
      try simp only [Act.put, List.setIfInBounds_toArray, List.set_cons_zero, List.set_cons_succ]
      refine wpAnyH_take (i := 2) (oi := { dst := some 33, op := _, type := _, pos := _, after := _, guard := _ }) (v := ?_) rfl (by kernel_rfl) (by kernel_rfl) (by kernel_rfl) (fun _ _ _ h => h) (Or.inl ⟨by rfl, ?_⟩) (by assumption) ?_
      rotate_left
      · intro w hSw
        (try dsimp only at hSw)
        go_simp
        (try (with_reducible rfl))
      try simp only [Act.put, List.setIfInBounds_toArray, List.set_cons_zero, List.set_cons_succ]
      refine wpAnyH_take (i := 3) (oi := { dst := some 34, op := _, type := _, pos := _, after := _, guard := _ }) (v := ?_) rfl (by kernel_rfl) (by kernel_rfl) (by kernel_rfl) (fun _ _ _ h => h) (Or.inl ⟨by rfl, ?_⟩) (by assumption) ?_
      rotate_left
      · intro w hSw
        (try dsimp only at hSw)
        go_simp
        (try (with_reducible rfl))
      try simp only [Act.put, List.setIfInBounds_toArray, List.set_cons_zero, List.set_cons_succ]
      refine wpAnyH_take (i := 4) (oi := { dst := some 35, op := _, type := _, pos := _, after := _, guard := _ }) (v := ?_) rfl (by kernel_rfl) (by kernel_rfl) (by kernel_rfl) (fun _ _ _ h => h) (Or.inl ⟨by rfl, ?_⟩) (by assumption) ?_
      rotate_left
      · intro w hSw
        (try dsimp only at hSw)
        go_simp
        (try (with_reducible rfl))
      try simp only [Act.put, List.setIfInBounds_toArray, List.set_cons_zero, List.set_cons_succ]
      refine wpAnyH_take (i := 5) (oi := { dst := some 36, op := _, type := _, pos := _, after := _, guard := _ }) (v := ?_) rfl (by kernel_rfl) (by kernel_rfl) (by kernel_rfl) (fun _ _ _ h => h) (Or.inl ⟨by rfl, ?_⟩) (by assumption) ?_
      rotate_left
      · intro w hSw
        (try dsimp only at hSw)
        go_simp
        (try (with_reducible rfl))
      try simp only [Act.put, List.setIfInBounds_toArray, List.set_cons_zero, List.set_cons_succ]
      refine wpAnyH_ready (rs := [6]) (by kernel_rfl) (by simp) ?_
      refine AllReadyH.cons (o := { dst := some 37, op := _, type := _, pos := _, after := _, guard := _ }) rfl (fun K hK => ?_) AllReadyH.nil
      go_simp
      refine (next_any B g a len cap (L.length : Int) _ hHeld.2.2.2.2.2.2.2.2.1 (by omega)).mono ?_
      rintro e w8 ⟨r5, rfl, q_r5, u_r5, hS8, hg8⟩
      obtain ⟨k, rfl⟩ := Int.eq_ofNat_of_zero_le q_r5
      have hkL : k < L.length := by omega
      have hkI : (k : Int) < (L.length : Int) := by omega
      have hk0 : (0 : Int) ≤ (k : Int) := by omega
      (try go_wp2_with fail)
      refine hK.out _ _ (dL_grown hHeld hS8 hg8 (by omega) (by omega) (by omega) (by omega) (by omega) (by omega)) (fun hHeld => ?_)
      clear hK K
      try simp only [Act.put, List.setIfInBounds_toArray, List.set_cons_zero, List.set_cons_succ]
      refine wpAnyH_take (i := 7) (oi := { dst := some 38, op := _, type := _, pos := _, after := _, guard := _ }) (v := ?_) rfl (by kernel_rfl) (by kernel_rfl) (by kernel_rfl) (fun _ _ _ h => h) (Or.inl ⟨by rfl, ?_⟩) (by assumption) ?_
      rotate_left
      · intro w hSw
        (try dsimp only at hSw)
        go_simp
        (try (with_reducible rfl))
      try simp only [Act.put, List.setIfInBounds_toArray, List.set_cons_zero, List.set_cons_succ]
      refine wpAnyH_take (i := 8) (oi := { dst := some 39, op := _, type := _, pos := _, after := _, guard := _ }) (v := ?_) rfl (by kernel_rfl) (by kernel_rfl) (by kernel_rfl) (fun _ _ _ h => h) (Or.inl ⟨by rfl, ?_⟩) (by assumption) ?_
      rotate_left
      · intro w hSw
        (try dsimp only at hSw)
        go_simp
        (try (with_reducible rfl))
      try simp only [Act.put, List.setIfInBounds_toArray, List.set_cons_zero, List.set_cons_succ]
      refine wpAnyH_ready (rs := [9]) (by kernel_rfl) (by simp) ?_
      refine AllReadyH.cons (o := { dst := none, op := _, type := _, pos := _, after := _, guard := _ }) rfl (fun K hK => ?_) AllReadyH.nil
      obtain ⟨q0, q1, q2, q3, BU⟩ := hHeld.2.2.2.2.2.2.2.2.2.2.2.2.1
      obtain ⟨z0, z1, z2, z3, zf, zl⟩ := BU.four
      go_simp
      (try go_wp2_with fail)
      refine hK.out _ _ (dL_store4 hHeld (by omega) (by omega) (by omega) (by omega) (by omega) (by omega) _ _ _ _) (fun hHeld => ?_)
      clear hK K
      try simp only [Act.put, List.setIfInBounds_toArray, List.set_cons_zero, List.set_cons_succ]
      refine wpAnyH_ready (rs := [10]) (by kernel_rfl) (by simp) ?_
      refine AllReadyH.cons (o := { dst := none, op := _, type := _, pos := _, after := _, guard := _ }) rfl (fun K hK => ?_) AllReadyH.nil
      obtain ⟨q4, q5, BU2⟩ := hHeld.2.2.2.2.2.2.2.2.2.2.2.2.2.1
      obtain ⟨m0, m1, nf, nl⟩ := BU2.two
      go_simp
      (try go_wp2_with fail)
      refine hK.out _ _ (dL_store2 hHeld (by omega) (by omega) (by omega) (by omega) (by omega) (by omega) _ _) (fun hHeld => ?_)
      clear hK K
      try simp only [Act.put, List.setIfInBounds_toArray, List.set_cons_zero, List.set_cons_succ]
      refine wpAnyH_take (i := 11) (oi := { dst := some 4, op := _, type := _, pos := _, after := _, guard := _ }) (v := ?_) rfl (by kernel_rfl) (by kernel_rfl) (by kernel_rfl) (fun _ _ _ h => h) (Or.inl ⟨by rfl, ?_⟩) (by assumption) ?_
      rotate_left
      · intro w hSw
        (try dsimp only at hSw)
        go_simp
        (try (with_reducible rfl))
      try simp only [Act.put, List.setIfInBounds_toArray, List.set_cons_zero, List.set_cons_succ]
      refine wpAnyH_done (by kernel_rfl) ?_ _
      go_wp2
      obtain ⟨-, -, -, -, -, -, -, -, -, RR1, RR2, hbb, -, -, -⟩ := hHeld
      refine bodyPost_ret (v := .tuple #[.agg #[.int .i64 p, .int .i64 c, .int .i64 h, .int .i64 s], .agg #[.slice (some ⟨g1, 0, none⟩) n1 c1, .slice (some ⟨g2, 0, none⟩) n2 c2], .int .i64 (L.getD k 0)]) (by simp [results, Try.results28, go_sem, z0, z1, z2, z3, m0, m1, hkL, List.getElem?_eq_getElem]) rfl ?_
      exact ⟨p, c, h, s, g1, g2, n1, n2, c1, c2, xs, ys, _, rfl, hx'.out, hy'.out, l1, l2, RR1, RR2, hbb⟩
end Go.Proofs.Ytjglempkmenacaa
