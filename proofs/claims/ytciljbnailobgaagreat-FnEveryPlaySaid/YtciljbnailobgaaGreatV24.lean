/- Texts of a proof, laid together. -/
import Derived.Test.YtciljbnailobgaaGreatV23
import Derived.Test.YtciljbnailobgaaGreatV04
import Derived.Test.YtciljbnailobgaaGreatV15
namespace Go.Proofs.YtciljbnailobgaaGreat
open Go.ChangeShapes Go.WideShapes Go.ChangeAt Go.RowKit
set_option linter.unusedVariables false
set_option linter.unusedSimpArgs false
set_option maxRecDepth 4000
def StartFull (n : Nat) (w : World) (e : Ending) (w' : World) : Prop :=
  ∃ g1 g2 xs ys, e = .returned (.tuple #[.agg #[.slice (some ⟨g1, 0, none⟩) n n, .slice (some ⟨g2, 0, none⟩) n n], .bool true]) ∧ xs.length = n ∧ ys.length = n ∧ w.heap.size ≤ g1 ∧ g1 < g2 ∧ Row w' g1 xs ∧ Row w' g2 ys ∧ Below w.heap.size w w'
set_option maxRecDepth 8000 in
set_option maxHeartbeats 1000000 in
theorem specStartFull_any (p c h s : Int) (w : World) (g : vB p c h s = true) (p4 : 4 ≤ p) : Calls Tryz.prog 72 #[.agg #[.int .i64 p, .int .i64 c, .int .i64 h, .int .i64 s]] w (StartFull (p.toNat + 1) w) := by
  obtain ⟨BV, BR, hb, hz⟩ := two_new w #[.int .i64 p, .int .i64 c, .int .i64 h, .int .i64 s] #[.slice none 0 0, .slice none 0 0] 25 28
  obtain ⟨x0, x1, x2, x3, xf, xl⟩ := BV.four
  obtain ⟨y0, y1, yf, yl⟩ := BR.two
  have hv := fun W => specIsVariant_any p c h s W
  simp only [g] at hv
  have HV := Lib.hid hv
  clear hv
  have hSL := startL_length p c h s
  go_enter Tryz.func72, Tryz.ntmps72
  go_wp2_with (go_at_call 62; refine (HV.out _).mono ?_; rintro e w1 ⟨rfl, hb0⟩; obtain ⟨x0, x1, x2, x3, xf, xl⟩ := (BV.below hb0).four; obtain ⟨y0, y1, yf, yl⟩ := (BR.below hb0).two)
  have hz0 : w.heap.size + 1 + 1 ≤ w1.heap.size := by have := hb0.size; omega
  refine wp_region_held_drew (S := fun w' => w'.cell? ⟨w.heap.size, 0, none⟩ = some (.int .i64 p) ∧ w'.cell? ⟨w.heap.size, 1, none⟩ = some (.int .i64 c) ∧ w'.cell? ⟨w.heap.size, 2, none⟩ = some (.int .i64 h) ∧ w'.cell? ⟨w.heap.size, 3, none⟩ = some (.int .i64 s) ∧ Below w.heap.size w w' ∧ ∃ u0 u1, Blk w' (w.heap.size + 1) #[u0, u1] 28) (by kernel_rfl) ⟨x0, x1, x2, x3, (chain hb hb0).drew, _, _, (BR.below hb0).drew⟩ (fun hHeld => ?_)
  refine tk 0 13 ?_
  refine tk 2 15 ?_
  refine rdk 1 14 fun K hK => ?_
  go_simp
  refine (l02Start_any p c h s _ g p4).mono ?_
  rintro e w5 ⟨g1, rfl, hg1, R1, hb1⟩
  have hS := heldVR hHeld hb1
  (try go_wp2_with fail)
  refine hko hK hS fun hHeld => ?_
  clear hK K
  refine rdk 3 16 fun K hK => ?_
  go_simp
  refine (l02Start_any p c h s _ g p4).mono ?_
  rintro e w6 ⟨g2, rfl, hg2, R2, hb2⟩
  have R1b := R1.below hb2
  have hl0 := R1.lt
  have hS := heldVR hHeld hb2
  (try go_wp2_with fail)
  refine hko hK hS fun hHeld => ?_
  clear hK K
  refine tk 4 17 ?_
  refine rdn 5 fun K hK => ?_
  obtain ⟨u0, u1, BU⟩ := hHeld.2.2.2.2.2
  have y0 := BU.two.1
  have y1 := BU.two.2.1
  have yf := BU.two.2.2.1
  have yl := BU.two.2.2.2
  go_simp
  (try go_wp2_with fail)
  refine hko hK (storeVR hHeld _ _) fun hHeld => ?_
  clear hK K
  refine tk 6 3 ?_
  refine wpAnyH_done (by kernel_rfl) ?_ _
  go_wp2
  have hbz := hHeld.2.2.2.2.1
  have hg1' : w1.heap.size ≤ g1 := hg1
  refine bodyPost_ret (v := .tuple #[.agg #[.slice (some ⟨g1, 0, none⟩) (p.toNat + 1) (p.toNat + 1), .slice (some ⟨g2, 0, none⟩) (p.toNat + 1) (p.toNat + 1)], .bool true]) (by simp [results, Tryz.results72, go_sem, y0, y1]) rfl ?_
  exact ⟨g1, g2, startL p c h s, startL p c h s, rfl, hSL, hSL, by omega, by omega, (R1b.other (by omega)).other (by omega), (R2.other (by omega)).other (by omega), hbz⟩
def BdPost (B g n : Nat) (a : Option Addr) (len cap : Nat) (w : World) (e : Ending) (w' : World) : Prop :=
  ∃ g1 g2 xs ys, e = .returned (.agg #[.slice (some ⟨g1, 0, none⟩) n n, .slice (some ⟨g2, 0, none⟩) n n]) ∧ xs.length = n ∧ ys.length = n ∧ w.heap.size ≤ g1 ∧ w.heap.size ≤ g2 ∧ g1 ≠ g2 ∧ Row w' g1 xs ∧ Row w' g2 ys ∧ Src B w' g a len cap ∧ w.grownBy w' (some g)
theorem heldSD {w W w2 : World} {B g P len cap : Nat} {c h s : Int} {a : Option Addr} (hS : W.cell? ⟨w.heap.size, 0, none⟩ = some (.int .i64 (P : Int)) ∧ W.cell? ⟨w.heap.size, 1, none⟩ = some (.int .i64 c) ∧ W.cell? ⟨w.heap.size, 2, none⟩ = some (.int .i64 h) ∧ W.cell? ⟨w.heap.size, 3, none⟩ = some (.int .i64 s) ∧ (Blk W w.heap.size #[.int .i64 (P : Int), .int .i64 c, .int .i64 h, .int .i64 s] 25 ∧ Src B W g a len cap ∧ w.grownBy W (some g) ∧ Blk W (w.heap.size + 1) #[.slice none 0 0, .slice none 0 0] 28)) (hb : Below W.heap.size W w2) : w2.cell? ⟨w.heap.size, 0, none⟩ = some (.int .i64 (P : Int)) ∧ w2.cell? ⟨w.heap.size, 1, none⟩ = some (.int .i64 c) ∧ w2.cell? ⟨w.heap.size, 2, none⟩ = some (.int .i64 h) ∧ w2.cell? ⟨w.heap.size, 3, none⟩ = some (.int .i64 s) ∧ (Blk w2 w.heap.size #[.int .i64 (P : Int), .int .i64 c, .int .i64 h, .int .i64 s] 25 ∧ Src B w2 g a len cap ∧ w.grownBy w2 (some g) ∧ Blk w2 (w.heap.size + 1) #[.slice none 0 0, .slice none 0 0] 28) := by
  obtain ⟨-, -, -, -, h1, h2, h3, h4⟩ := hS
  have h1' := h1.below hb
  obtain ⟨x0, x1, x2, x3, xf, xl⟩ := h1'.four
  exact ⟨x0, x1, x2, x3, h1', h2.below hb, grown_trans h3 (grown_of_below hb _), h4.below hb⟩
theorem heldSG {w W w2 : World} {B g P len cap : Nat} {c h s : Int} {a : Option Addr} (hS : W.cell? ⟨w.heap.size, 0, none⟩ = some (.int .i64 (P : Int)) ∧ W.cell? ⟨w.heap.size, 1, none⟩ = some (.int .i64 c) ∧ W.cell? ⟨w.heap.size, 2, none⟩ = some (.int .i64 h) ∧ W.cell? ⟨w.heap.size, 3, none⟩ = some (.int .i64 s) ∧ (Blk W w.heap.size #[.int .i64 (P : Int), .int .i64 c, .int .i64 h, .int .i64 s] 25 ∧ Src B W g a len cap ∧ w.grownBy W (some g) ∧ Blk W (w.heap.size + 1) #[.slice none 0 0, .slice none 0 0] 28)) (hs : Src B w2 g a len cap) (hg : W.grownBy w2 (some g)) (hl : g < w.heap.size) : w2.cell? ⟨w.heap.size, 0, none⟩ = some (.int .i64 (P : Int)) ∧ w2.cell? ⟨w.heap.size, 1, none⟩ = some (.int .i64 c) ∧ w2.cell? ⟨w.heap.size, 2, none⟩ = some (.int .i64 h) ∧ w2.cell? ⟨w.heap.size, 3, none⟩ = some (.int .i64 s) ∧ (Blk w2 w.heap.size #[.int .i64 (P : Int), .int .i64 c, .int .i64 h, .int .i64 s] 25 ∧ Src B w2 g a len cap ∧ w.grownBy w2 (some g) ∧ Blk w2 (w.heap.size + 1) #[.slice none 0 0, .slice none 0 0] 28) := by
  obtain ⟨-, -, -, -, h1, h2, h3, h4⟩ := hS
  have h1' := h1.grown hg (by omega)
  obtain ⟨x0, x1, x2, x3, xf, xl⟩ := h1'.four
  exact ⟨x0, x1, x2, x3, h1', hs, grown_trans h3 hg, h4.grown hg (by omega)⟩
set_option maxRecDepth 8000 in
set_option maxHeartbeats 2000000 in
theorem draw_any (B g P : Nat) (c h s : Int) (a : Option Addr) (len cap : Nat) (w : World) (gv : vB (P : Int) c h s = true) (hS : Src B w g a len cap) :
    Calls Tryz.prog 46 #[.pointer (some ⟨g, 0, none⟩), .agg #[.int .i64 (P : Int), .int .i64 c, .int .i64 h, .int .i64 s]] w (BdPost B g (P + 1) a len cap w) := by
  obtain ⟨v0, v1, v2, v3, v4, v5, v6, v7⟩ := vB_iff.1 gv
  have hl := hS.lt
  have hBg := hS.base
  obtain ⟨BV, BR, hb, hz⟩ := two_new w #[.int .i64 (P : Int), .int .i64 c, .int .i64 h, .int .i64 s] #[.slice none 0 0, .slice none 0 0] 25 28
  replace hS := (hS.alloc (.cells #[.int .i64 (P : Int), .int .i64 c, .int .i64 h, .int .i64 s] 25)).alloc (.cells #[.slice none 0 0, .slice none 0 0] 28)
  have hG : w.grownBy ((w.alloc (.cells #[.int .i64 (P : Int), .int .i64 c, .int .i64 h, .int .i64 s] 25)).alloc (.cells #[.slice none 0 0, .slice none 0 0] 28)) (some g) := grown_of_below hb _
  go_enter Tryz.func46, Tryz.ntmps46
  go_wp2_with fail
  generalize ((w.alloc (.cells #[.int .i64 (P : Int), .int .i64 c, .int .i64 h, .int .i64 s] 25)).alloc (.cells #[.slice none 0 0, .slice none 0 0] 28)) = v0 at *
  refine (next_any B g a len cap 4 _ hS (by omega)).mono ?_
  rintro e w1 ⟨r1, rfl, q1, u1, hS, hg⟩
  replace BV := BV.grown hg (by omega)
  replace BR := BR.grown hg (by omega)
  replace hG := grown_trans hG hg
  have hz1 : w.heap.size + 1 < w1.heap.size := BR.lt
  clear hg hb hz
  obtain ⟨x0, x1, x2, x3, xf, xl⟩ := BV.four
  obtain ⟨y0, y1, yf, yl⟩ := BR.two
  by_cases hst : r1 = 0 ∧ 4 ≤ (P : Int)
  · obtain ⟨rfl, p4⟩ := hst
    go_wp2_with fail
    refine (specStartFull_any (P : Int) c h s _ gv p4).mono ?_
    rintro e w2 ⟨g1, g2, xs, ys, rfl, hx, hy, b1, b2, R1, R2, hb2⟩
    have ePn : ((P : Int)).toNat = P := by omega
    rw [ePn] at hx hy ⊢
    have Bx := Blk.new w2 #[.slice (some ⟨g1, 0, none⟩) (P + 1) (P + 1), .slice (some ⟨g2, 0, none⟩) (P + 1) (P + 1)] 28
    have hz2 := hb2.size
    have hl2 := R2.lt
    replace BR := (BR.below hb2).alloc (.cells #[.slice (some ⟨g1, 0, none⟩) (P + 1) (P + 1), .slice (some ⟨g2, 0, none⟩) (P + 1) (P + 1)] 28)
    replace hS := (hS.below hb2).alloc (.cells #[.slice (some ⟨g1, 0, none⟩) (P + 1) (P + 1), .slice (some ⟨g2, 0, none⟩) (P + 1) (P + 1)] 28)
    replace hG := grown_alloc (grown_trans hG (grown_of_below hb2 _)) (.cells #[.slice (some ⟨g1, 0, none⟩) (P + 1) (P + 1), .slice (some ⟨g2, 0, none⟩) (P + 1) (P + 1)] 28)
    clear x0 x1 x2 x3 xf xl y0 y1 yf yl
    obtain ⟨y0, y1, yf, yl⟩ := BR.two
    obtain ⟨t0, t1, tf, tl⟩ := Bx.two
    go_wp2
    refine bodyPost_ret (v := .agg #[.slice (some ⟨g1, 0, none⟩) (P + 1) (P + 1), .slice (some ⟨g2, 0, none⟩) (P + 1) (P + 1)]) (by simp [results, Tryz.results46, go_sem, y0, y1]) rfl ?_
    exact ⟨g1, g2, xs, ys, rfl, hx, hy, by omega, by omega, by omega, ((R1.alloc _).other (by omega)).other (by omega), ((R2.alloc _).other (by omega)).other (by omega), (hS.set (by omega) (by omega)).set (by omega) (by omega), grown_new (grown_new hG (by omega)) (by omega)⟩
  · have hno : (r1 == 0 && decide (4 ≤ (P : Int))) = false := by
      rw [Bool.and_eq_false_iff, beq_eq_false_iff_ne, decide_eq_false_iff_not]
      by_cases e : r1 = 0
      · exact .inr (fun k => hst ⟨e, k⟩)
      · exact .inl e
    by_cases e1 : r1 = 0
    · subst e1
      have p4 : ¬ (4 ≤ (P : Int)) := fun k => hst ⟨rfl, k⟩
      clear hno hst
      go_wp2_with fail
      refine wp_region_held_drew (S := fun w' => w'.cell? ⟨w.heap.size, 0, none⟩ = some (.int .i64 (P : Int)) ∧ w'.cell? ⟨w.heap.size, 1, none⟩ = some (.int .i64 c) ∧ w'.cell? ⟨w.heap.size, 2, none⟩ = some (.int .i64 h) ∧ w'.cell? ⟨w.heap.size, 3, none⟩ = some (.int .i64 s) ∧ (Blk w' w.heap.size #[.int .i64 (P : Int), .int .i64 c, .int .i64 h, .int .i64 s] 25 ∧ Src B w' g a len cap ∧ w.grownBy w' (some g) ∧ Blk w' (w.heap.size + 1) #[.slice none 0 0, .slice none 0 0] 28)) (by kernel_rfl) ⟨x0, x1, x2, x3, BV.drew, hS.drew, grown_drew hG, BR.drew⟩ (fun hHeld => ?_)
      refine tk 0 23 ?_
      refine tk 1 24 ?_
      refine tk 2 25 ?_
      refine rdk 3 26 fun K hK => ?_
      go_simp
      refine (l02Empty_any P c h s _ (by omega)).mono ?_
      rintro e w2 ⟨ge, rfl, hge, RE, hb2⟩
      have hrl : (List.replicate (P + 1) (0 : Int)).length = P + 1 := by simp
      rw [hrl]
      have hz2 := hb2.size
      have hz2d : w1.drew.heap.size = w1.heap.size := rfl
      (try go_wp2_with fail)
      refine hko hK (heldSD hHeld hb2) fun hHeld => ?_
      clear hK K
      refine rdk 4 27 fun K hK => ?_
      go_simp
      refine (drawSide_any B g P ge _ c h s a len cap (List.replicate (P + 1) 0) _ (by omega) (by omega) v2 v3 hrl (by omega) RE hHeld.2.2.2.2.2.1).mono ?_
      rintro e w3 ⟨go1, xs, rfl, hx, hxb, R1, hgo1, hS3, hg3⟩
      have hz3 := hg3.size
      (try go_wp2_with fail)
      refine hko hK (heldSG hHeld hS3 hg3 hl) fun hHeld => ?_
      clear hK K
      refine tk 5 7 ?_
      refine wpAnyH_done (by kernel_rfl) ?_ _
      obtain ⟨-, -, -, -, BV3, hSs, hGs, BR3⟩ := hHeld
      clear x0 x1 x2 x3 xf xl y0 y1 yf yl BV BR hG hS hS3 hg3 RE hrl
      obtain ⟨x0, x1, x2, x3, xf, xl⟩ := BV3.four
      go_wp2_with fail
      refine (drawSide_any B g P go1 _ c h s a len cap xs _ (by omega) (by omega) v2 v3 hx (by omega) R1 hSs).mono ?_
      rintro e w4 ⟨go2, ys, rfl, hy, hyb, R2, hgo2, hS, hg4⟩
      have hz4 := hg4.size
      have hlt1 := R1.lt
      replace R1 := R1.grown hg4 (by omega)
      replace BR3 := BR3.grown hg4 (by omega)
      have hG := grown_trans hGs hg4
      have R2L := R2.lt
      have s1 := sum_bound xs hxb
      have s2 := sum_bound ys hyb
      clear x0 x1 x2 x3 xf xl hg4 BV3 hSs hGs
      have i1 := R1.irow
      have i2 := R2.irow
      go_wp2_with fail
      refine (l02Sum_any _ (P + 1) _ xs _ hx (by omega) (fun x h => by have := hxb x h; omega) i1).mono ?_
      rintro e w5 ⟨rfl, rfl⟩
      go_wp2_with fail
      refine (l02Sum_any _ (P + 1) _ ys _ hy (by omega) (fun x h => by have := hyb x h; omega) i2).mono ?_
      rintro e w6 ⟨rfl, rfl⟩
      obtain ⟨X, hX⟩ : ∃ X, xs.sum = X := ⟨_, rfl⟩
      obtain ⟨Y, hY⟩ : ∃ Y, ys.sum = Y := ⟨_, rfl⟩
      rw [hX] at s1 ⊢
      rw [hY] at s2 ⊢
      clear hX hY i1 i2
      have t1 : 0 ≤ X := s1.1
      have t2 : X ≤ 375 := by have := s1.2; omega
      have t3 : 0 ≤ Y := s2.1
      have t4 : Y ≤ 375 := by have := s2.2; omega
      have f0 := fun i => R1.free i
      have c0 := R1.cell 0 (by omega)
      obtain ⟨v, hv⟩ : ∃ v, xs.getD 0 0 = v := ⟨_, rfl⟩
      rw [hv] at c0
      clear hv s1 s2
      by_cases z : X + Y = 0
      · have z' : (X + Y == 0) = true := by rw [beq_iff_eq]; exact z
        obtain ⟨y0, y1, yf, yl⟩ := BR3.two
        go_wp2
        refine bodyPost_ret (v := .agg #[.slice (some ⟨go1, 0, none⟩) (P + 1) (P + 1), .slice (some ⟨go2, 0, none⟩) (P + 1) (P + 1)]) (by simp [results, Tryz.results46, go_sem, y0, y1]) rfl ?_
        exact ⟨go1, go2, xs.set 0 1, ys, rfl, by simp [hx], hy, by omega, by omega, by omega, ((R1.set 0 1).other (by omega)).other (by omega), ((R2.other (by omega)).other (by omega)).other (by omega), ((hS.set (by omega) (by omega)).set (by omega) (by omega)).set (by omega) (by omega), grown_new (grown_new (grown_new hG (by omega)) (by omega)) (by omega)⟩
      · have z' : (X + Y == 0) = false := by rw [beq_eq_false_iff_ne]; exact z
        obtain ⟨y0, y1, yf, yl⟩ := BR3.two
        go_wp2
        refine bodyPost_ret (v := .agg #[.slice (some ⟨go1, 0, none⟩) (P + 1) (P + 1), .slice (some ⟨go2, 0, none⟩) (P + 1) (P + 1)]) (by simp [results, Tryz.results46, go_sem, y0, y1]) rfl ?_
        exact ⟨go1, go2, xs, ys, rfl, hx, hy, by omega, by omega, by omega, (R1.other (by omega)).other (by omega), (R2.other (by omega)).other (by omega), (hS.set (by omega) (by omega)).set (by omega) (by omega), grown_new (grown_new hG (by omega)) (by omega)⟩
    · have e2 : (r1 == 0) = false := by rw [beq_eq_false_iff_ne]; exact e1
      clear hno hst
      go_wp2_with fail
      refine wp_region_held_drew (S := fun w' => w'.cell? ⟨w.heap.size, 0, none⟩ = some (.int .i64 (P : Int)) ∧ w'.cell? ⟨w.heap.size, 1, none⟩ = some (.int .i64 c) ∧ w'.cell? ⟨w.heap.size, 2, none⟩ = some (.int .i64 h) ∧ w'.cell? ⟨w.heap.size, 3, none⟩ = some (.int .i64 s) ∧ (Blk w' w.heap.size #[.int .i64 (P : Int), .int .i64 c, .int .i64 h, .int .i64 s] 25 ∧ Src B w' g a len cap ∧ w.grownBy w' (some g) ∧ Blk w' (w.heap.size + 1) #[.slice none 0 0, .slice none 0 0] 28)) (by kernel_rfl) ⟨x0, x1, x2, x3, BV.drew, hS.drew, grown_drew hG, BR.drew⟩ (fun hHeld => ?_)
      refine tk 0 23 ?_
      refine tk 1 24 ?_
      refine tk 2 25 ?_
      refine rdk 3 26 fun K hK => ?_
      go_simp
      refine (l02Empty_any P c h s _ (by omega)).mono ?_
      rintro e w2 ⟨ge, rfl, hge, RE, hb2⟩
      have hrl : (List.replicate (P + 1) (0 : Int)).length = P + 1 := by simp
      rw [hrl]
      have hz2 := hb2.size
      have hz2d : w1.drew.heap.size = w1.heap.size := rfl
      (try go_wp2_with fail)
      refine hko hK (heldSD hHeld hb2) fun hHeld => ?_
      clear hK K
      refine rdk 4 27 fun K hK => ?_
      go_simp
      refine (drawSide_any B g P ge _ c h s a len cap (List.replicate (P + 1) 0) _ (by omega) (by omega) v2 v3 hrl (by omega) RE hHeld.2.2.2.2.2.1).mono ?_
      rintro e w3 ⟨go1, xs, rfl, hx, hxb, R1, hgo1, hS3, hg3⟩
      have hz3 := hg3.size
      (try go_wp2_with fail)
      refine hko hK (heldSG hHeld hS3 hg3 hl) fun hHeld => ?_
      clear hK K
      refine tk 5 7 ?_
      refine wpAnyH_done (by kernel_rfl) ?_ _
      obtain ⟨-, -, -, -, BV3, hSs, hGs, BR3⟩ := hHeld
      clear x0 x1 x2 x3 xf xl y0 y1 yf yl BV BR hG hS hS3 hg3 RE hrl
      obtain ⟨x0, x1, x2, x3, xf, xl⟩ := BV3.four
      go_wp2_with fail
      refine (drawSide_any B g P go1 _ c h s a len cap xs _ (by omega) (by omega) v2 v3 hx (by omega) R1 hSs).mono ?_
      rintro e w4 ⟨go2, ys, rfl, hy, hyb, R2, hgo2, hS, hg4⟩
      have hz4 := hg4.size
      have hlt1 := R1.lt
      replace R1 := R1.grown hg4 (by omega)
      replace BR3 := BR3.grown hg4 (by omega)
      have hG := grown_trans hGs hg4
      have R2L := R2.lt
      have s1 := sum_bound xs hxb
      have s2 := sum_bound ys hyb
      clear x0 x1 x2 x3 xf xl hg4 BV3 hSs hGs
      have i1 := R1.irow
      have i2 := R2.irow
      go_wp2_with fail
      refine (l02Sum_any _ (P + 1) _ xs _ hx (by omega) (fun x h => by have := hxb x h; omega) i1).mono ?_
      rintro e w5 ⟨rfl, rfl⟩
      go_wp2_with fail
      refine (l02Sum_any _ (P + 1) _ ys _ hy (by omega) (fun x h => by have := hyb x h; omega) i2).mono ?_
      rintro e w6 ⟨rfl, rfl⟩
      obtain ⟨X, hX⟩ : ∃ X, xs.sum = X := ⟨_, rfl⟩
      obtain ⟨Y, hY⟩ : ∃ Y, ys.sum = Y := ⟨_, rfl⟩
      rw [hX] at s1 ⊢
      rw [hY] at s2 ⊢
      clear hX hY i1 i2
      have t1 : 0 ≤ X := s1.1
      have t2 : X ≤ 375 := by have := s1.2; omega
      have t3 : 0 ≤ Y := s2.1
      have t4 : Y ≤ 375 := by have := s2.2; omega
      have f0 := fun i => R1.free i
      have c0 := R1.cell 0 (by omega)
      obtain ⟨v, hv⟩ : ∃ v, xs.getD 0 0 = v := ⟨_, rfl⟩
      rw [hv] at c0
      clear hv s1 s2
      by_cases z : X + Y = 0
      · have z' : (X + Y == 0) = true := by rw [beq_iff_eq]; exact z
        obtain ⟨y0, y1, yf, yl⟩ := BR3.two
        go_wp2
        refine bodyPost_ret (v := .agg #[.slice (some ⟨go1, 0, none⟩) (P + 1) (P + 1), .slice (some ⟨go2, 0, none⟩) (P + 1) (P + 1)]) (by simp [results, Tryz.results46, go_sem, y0, y1]) rfl ?_
        exact ⟨go1, go2, xs.set 0 1, ys, rfl, by simp [hx], hy, by omega, by omega, by omega, ((R1.set 0 1).other (by omega)).other (by omega), ((R2.other (by omega)).other (by omega)).other (by omega), ((hS.set (by omega) (by omega)).set (by omega) (by omega)).set (by omega) (by omega), grown_new (grown_new (grown_new hG (by omega)) (by omega)) (by omega)⟩
      · have z' : (X + Y == 0) = false := by rw [beq_eq_false_iff_ne]; exact z
        obtain ⟨y0, y1, yf, yl⟩ := BR3.two
        go_wp2
        refine bodyPost_ret (v := .agg #[.slice (some ⟨go1, 0, none⟩) (P + 1) (P + 1), .slice (some ⟨go2, 0, none⟩) (P + 1) (P + 1)]) (by simp [results, Tryz.results46, go_sem, y0, y1]) rfl ?_
        exact ⟨go1, go2, xs, ys, rfl, hx, hy, by omega, by omega, by omega, (R1.other (by omega)).other (by omega), (R2.other (by omega)).other (by omega), (hS.set (by omega) (by omega)).set (by omega) (by omega), grown_new (grown_new hG (by omega)) (by omega)⟩
theorem Row.take {w : World} {g : Nat} {xs : List Int} (h : Row w g xs) (k : Nat) : Row w g (xs.take k) := by
  obtain ⟨cur, hB, h1, h2⟩ := h
  refine ⟨cur, hB, by simp; omega, ?_⟩
  rw [List.length_take, ← List.take_take, h2, ints, ints, List.map_take]
theorem fin6 {B g g1 g2 len cap : Nat} {a : Option Addr} {xs ys : List Int} {w W : World} (hS : Src B W g a len cap) (hG : w.grownBy W (some g)) (R1 : Row W g1 xs) (R2 : Row W g2 ys) (hl : g < w.heap.size) (hB : B ≤ w.heap.size) (h1 : w.heap.size + 1 < g1) (h2 : w.heap.size + 1 < g2) (v0 v1 v2 v3 v4 v5 : Value) :
    Src B ((((((W.setCell ⟨w.heap.size, 0, none⟩ v0).setCell ⟨w.heap.size, 1, none⟩ v1).setCell ⟨w.heap.size, 2, none⟩ v2).setCell ⟨w.heap.size, 3, none⟩ v3).setCell ⟨w.heap.size + 1, 0, none⟩ v4).setCell ⟨w.heap.size + 1, 1, none⟩ v5) g a len cap ∧
    w.grownBy ((((((W.setCell ⟨w.heap.size, 0, none⟩ v0).setCell ⟨w.heap.size, 1, none⟩ v1).setCell ⟨w.heap.size, 2, none⟩ v2).setCell ⟨w.heap.size, 3, none⟩ v3).setCell ⟨w.heap.size + 1, 0, none⟩ v4).setCell ⟨w.heap.size + 1, 1, none⟩ v5) (some g) ∧
    Row ((((((W.setCell ⟨w.heap.size, 0, none⟩ v0).setCell ⟨w.heap.size, 1, none⟩ v1).setCell ⟨w.heap.size, 2, none⟩ v2).setCell ⟨w.heap.size, 3, none⟩ v3).setCell ⟨w.heap.size + 1, 0, none⟩ v4).setCell ⟨w.heap.size + 1, 1, none⟩ v5) g1 xs ∧
    Row ((((((W.setCell ⟨w.heap.size, 0, none⟩ v0).setCell ⟨w.heap.size, 1, none⟩ v1).setCell ⟨w.heap.size, 2, none⟩ v2).setCell ⟨w.heap.size, 3, none⟩ v3).setCell ⟨w.heap.size + 1, 0, none⟩ v4).setCell ⟨w.heap.size + 1, 1, none⟩ v5) g2 ys :=
  ⟨(((((hS.set (by omega) (by omega)).set (by omega) (by omega)).set (by omega) (by omega)).set (by omega) (by omega)).set (by omega) (by omega)).set (by omega) (by omega),
   grown_new (grown_new (grown_new (grown_new (grown_new (grown_new hG (by omega)) (by omega)) (by omega)) (by omega)) (by omega)) (by omega),
   (((((R1.other (by omega)).other (by omega)).other (by omega)).other (by omega)).other (by omega)).other (by omega),
   (((((R2.other (by omega)).other (by omega)).other (by omega)).other (by omega)).other (by omega)).other (by omega)⟩
theorem keepS {w W w2 : World} {B g P len cap b1 b2 : Nat} {c h s : Int} {a : Option Addr} (hS : W.cell? ⟨b1, 0, none⟩ = some (.int .i64 (P : Int)) ∧ W.cell? ⟨b1, 1, none⟩ = some (.int .i64 c) ∧ W.cell? ⟨b1, 2, none⟩ = some (.int .i64 h) ∧ W.cell? ⟨b1, 3, none⟩ = some (.int .i64 s) ∧ (Blk W b1 #[.int .i64 (P : Int), .int .i64 c, .int .i64 h, .int .i64 s] 25 ∧ Src B W g a len cap ∧ w.grownBy W (some g) ∧ (∃ u0 u1, Blk W b2 #[u0, u1] 28) ∧ Blk W w.heap.size #[.int .i64 0, .int .i64 0, .int .i64 0, .int .i64 0] 25 ∧ Blk W (w.heap.size + 1) #[.slice none 0 0, .slice none 0 0] 28)) (hb : Below W.heap.size W w2) : w2.cell? ⟨b1, 0, none⟩ = some (.int .i64 (P : Int)) ∧ w2.cell? ⟨b1, 1, none⟩ = some (.int .i64 c) ∧ w2.cell? ⟨b1, 2, none⟩ = some (.int .i64 h) ∧ w2.cell? ⟨b1, 3, none⟩ = some (.int .i64 s) ∧ (Blk w2 b1 #[.int .i64 (P : Int), .int .i64 c, .int .i64 h, .int .i64 s] 25 ∧ Src B w2 g a len cap ∧ w.grownBy w2 (some g) ∧ (∃ u0 u1, Blk w2 b2 #[u0, u1] 28) ∧ Blk w2 w.heap.size #[.int .i64 0, .int .i64 0, .int .i64 0, .int .i64 0] 25 ∧ Blk w2 (w.heap.size + 1) #[.slice none 0 0, .slice none 0 0] 28) := by
  obtain ⟨-, -, -, -, h1, h2, h3, ⟨u0, u1, h4⟩, h5, h6⟩ := hS
  have h1' := h1.below hb
  obtain ⟨x0, x1, x2, x3, xf, xl⟩ := h1'.four
  exact ⟨x0, x1, x2, x3, h1', h2.below hb, grown_trans h3 (grown_of_below hb _), ⟨u0, u1, h4.below hb⟩, h5.below hb, h6.below hb⟩
theorem storeS {w W : World} {B g P len cap b1 b2 : Nat} {c h s : Int} {a : Option Addr} (hS : W.cell? ⟨b1, 0, none⟩ = some (.int .i64 (P : Int)) ∧ W.cell? ⟨b1, 1, none⟩ = some (.int .i64 c) ∧ W.cell? ⟨b1, 2, none⟩ = some (.int .i64 h) ∧ W.cell? ⟨b1, 3, none⟩ = some (.int .i64 s) ∧ (Blk W b1 #[.int .i64 (P : Int), .int .i64 c, .int .i64 h, .int .i64 s] 25 ∧ Src B W g a len cap ∧ w.grownBy W (some g) ∧ (∃ u0 u1, Blk W b2 #[u0, u1] 28) ∧ Blk W w.heap.size #[.int .i64 0, .int .i64 0, .int .i64 0, .int .i64 0] 25 ∧ Blk W (w.heap.size + 1) #[.slice none 0 0, .slice none 0 0] 28)) (n1 : b2 ≠ b1) (n2 : b2 ≠ w.heap.size) (n3 : b2 ≠ w.heap.size + 1) (n4 : b2 ≠ g) (n5 : B ≤ b2) (n6 : w.heap.size ≤ b2) (v0 v1 : Value) : ((W.setCell ⟨b2, 0, none⟩ v0).setCell ⟨b2, 1, none⟩ v1).cell? ⟨b1, 0, none⟩ = some (.int .i64 (P : Int)) ∧ ((W.setCell ⟨b2, 0, none⟩ v0).setCell ⟨b2, 1, none⟩ v1).cell? ⟨b1, 1, none⟩ = some (.int .i64 c) ∧ ((W.setCell ⟨b2, 0, none⟩ v0).setCell ⟨b2, 1, none⟩ v1).cell? ⟨b1, 2, none⟩ = some (.int .i64 h) ∧ ((W.setCell ⟨b2, 0, none⟩ v0).setCell ⟨b2, 1, none⟩ v1).cell? ⟨b1, 3, none⟩ = some (.int .i64 s) ∧ (Blk ((W.setCell ⟨b2, 0, none⟩ v0).setCell ⟨b2, 1, none⟩ v1) b1 #[.int .i64 (P : Int), .int .i64 c, .int .i64 h, .int .i64 s] 25 ∧ Src B ((W.setCell ⟨b2, 0, none⟩ v0).setCell ⟨b2, 1, none⟩ v1) g a len cap ∧ w.grownBy ((W.setCell ⟨b2, 0, none⟩ v0).setCell ⟨b2, 1, none⟩ v1) (some g) ∧ (∃ u0 u1, Blk ((W.setCell ⟨b2, 0, none⟩ v0).setCell ⟨b2, 1, none⟩ v1) b2 #[u0, u1] 28) ∧ Blk ((W.setCell ⟨b2, 0, none⟩ v0).setCell ⟨b2, 1, none⟩ v1) w.heap.size #[.int .i64 0, .int .i64 0, .int .i64 0, .int .i64 0] 25 ∧ Blk ((W.setCell ⟨b2, 0, none⟩ v0).setCell ⟨b2, 1, none⟩ v1) (w.heap.size + 1) #[.slice none 0 0, .slice none 0 0] 28) := by
  obtain ⟨-, -, -, -, h1, h2, h3, ⟨u0, u1, h4⟩, h5, h6⟩ := hS
  have h1' := (h1.other (o := 0) (v := v0) (fun e => n1 e.symm)).other (o := 1) (v := v1) (fun e => n1 e.symm)
  obtain ⟨x0, x1, x2, x3, xf, xl⟩ := h1'.four
  exact ⟨x0, x1, x2, x3, h1', (h2.set n4 n5).set n4 n5, grown_new (grown_new h3 n6) n6, ⟨v0, v1, (h4.set v0).set v1⟩, (h5.other (fun e => n2 e.symm)).other (fun e => n2 e.symm), (h6.other (fun e => n3 e.symm)).other (fun e => n3 e.symm)⟩
def PairPost (B g : Nat) (a : Option Addr) (len cap : Nat) (w : World) (e : Ending) (w' : World) : Prop :=
  ∃ (p c h s : Int) (g1 g2 n1 n2 c1 c2 : Nat) (xs ys : List Int), e = .returned (.tuple #[.agg #[.int .i64 p, .int .i64 c, .int .i64 h, .int .i64 s], .agg #[.slice (some ⟨g1, 0, none⟩) n1 c1, .slice (some ⟨g2, 0, none⟩) n2 c2]]) ∧ (-1000 ≤ p ∧ p ≤ 1000 ∧ -1000 ≤ s ∧ s ≤ 1000) ∧
    xs.length = n1 ∧ ys.length = n2 ∧ n1 ≤ 1000 ∧ n2 ≤ 1000 ∧ g1 ≠ g ∧ g2 ≠ g ∧ w.heap.size ≤ g1 ∧ w.heap.size ≤ g2 ∧ Row w' g1 xs ∧ Row w' g2 ys ∧ Src B w' g a len cap ∧ w.grownBy w' (some g)
set_option maxRecDepth 8000 in
set_option maxHeartbeats 4000000 in
theorem drawPair_any (B g : Nat) (a : Option Addr) (len cap : Nat) (w : World) (hS : Src B w g a len cap) :
    Calls Tryz.prog 42 #[.pointer (some ⟨g, 0, none⟩)] w (PairPost B g a len cap w) := by
  have hl := hS.lt
  have hBg := hS.base
  obtain ⟨BZ, BN, hb, hz⟩ := two_new w #[.int .i64 0, .int .i64 0, .int .i64 0, .int .i64 0] #[.slice none 0 0, .slice none 0 0] 25 28
  replace hS := (hS.alloc (.cells #[.int .i64 0, .int .i64 0, .int .i64 0, .int .i64 0] 25)).alloc (.cells #[.slice none 0 0, .slice none 0 0] 28)
  have hG : w.grownBy ((w.alloc (.cells #[.int .i64 0, .int .i64 0, .int .i64 0, .int .i64 0] 25)).alloc (.cells #[.slice none 0 0, .slice none 0 0] 28)) (some g) := grown_of_below hb _
  go_enter Tryz.func42, Tryz.ntmps42
  go_wp2_with fail
  generalize ((w.alloc (.cells #[.int .i64 0, .int .i64 0, .int .i64 0, .int .i64 0] 25)).alloc (.cells #[.slice none 0 0, .slice none 0 0] 28)) = v0 at *
  refine (drawValid_any B g a len cap _ hS).mono ?_
  rintro e w1 ⟨p, c, h, s, rfl, bp, bc, bh, bs, hS, hg⟩
  obtain ⟨P, rfl⟩ := Int.eq_ofNat_of_zero_le (by omega : 0 ≤ p)
  have gv : vB (P : Int) c h s = true := vB_iff.2 ⟨bp.1, bp.2, bc.1, bc.2, bh.1, bh.2, bs.1, bs.2⟩
  have hz1 := hg.size
  replace BZ := (BZ.grown hg (by omega)).alloc (.cells #[.int .i64 (P : Int), .int .i64 c, .int .i64 h, .int .i64 s] 25)
  replace BN := (BN.grown hg (by omega)).alloc (.cells #[.int .i64 (P : Int), .int .i64 c, .int .i64 h, .int .i64 s] 25)
  replace hG := grown_alloc (grown_trans hG hg) (.cells #[.int .i64 (P : Int), .int .i64 c, .int .i64 h, .int .i64 s] 25)
  replace hS := hS.alloc (.cells #[.int .i64 (P : Int), .int .i64 c, .int .i64 h, .int .i64 s] 25)
  have BV := Blk.new w1 #[.int .i64 (P : Int), .int .i64 c, .int .i64 h, .int .i64 s] 25
  have hv1 : (w1.alloc (.cells #[.int .i64 (P : Int), .int .i64 c, .int .i64 h, .int .i64 s] 25)).heap.size = w1.heap.size + 1 := by simp
  clear hg hb
  obtain ⟨x0, x1, x2, x3, xf, xl⟩ := BV.four
  go_wp2_with fail
  generalize (w1.alloc (.cells #[.int .i64 (P : Int), .int .i64 c, .int .i64 h, .int .i64 s] 25)) = v1 at *
  refine (draw_any B g P c h s a len cap _ gv hS).mono ?_
  rintro e w2 ⟨g1, g2, xs, ys, rfl, hx, hy, b1, b2, hne, R1, R2, hS, hg⟩
  have hz2 := hg.size
  have hl1 := R1.lt
  have hl2 := R2.lt
  replace BZ := (BZ.grown hg (by omega)).alloc (.cells #[.slice (some ⟨g1, 0, none⟩) (P + 1) (P + 1), .slice (some ⟨g2, 0, none⟩) (P + 1) (P + 1)] 28)
  replace BN := (BN.grown hg (by omega)).alloc (.cells #[.slice (some ⟨g1, 0, none⟩) (P + 1) (P + 1), .slice (some ⟨g2, 0, none⟩) (P + 1) (P + 1)] 28)
  replace BV := (BV.grown hg (by omega)).alloc (.cells #[.slice (some ⟨g1, 0, none⟩) (P + 1) (P + 1), .slice (some ⟨g2, 0, none⟩) (P + 1) (P + 1)] 28)
  replace hG := grown_alloc (grown_trans hG hg) (.cells #[.slice (some ⟨g1, 0, none⟩) (P + 1) (P + 1), .slice (some ⟨g2, 0, none⟩) (P + 1) (P + 1)] 28)
  replace hS := hS.alloc (.cells #[.slice (some ⟨g1, 0, none⟩) (P + 1) (P + 1), .slice (some ⟨g2, 0, none⟩) (P + 1) (P + 1)] 28)
  replace R1 := R1.alloc (.cells #[.slice (some ⟨g1, 0, none⟩) (P + 1) (P + 1), .slice (some ⟨g2, 0, none⟩) (P + 1) (P + 1)] 28)
  replace R2 := R2.alloc (.cells #[.slice (some ⟨g1, 0, none⟩) (P + 1) (P + 1), .slice (some ⟨g2, 0, none⟩) (P + 1) (P + 1)] 28)
  have BB := Blk.new w2 #[.slice (some ⟨g1, 0, none⟩) (P + 1) (P + 1), .slice (some ⟨g2, 0, none⟩) (P + 1) (P + 1)] 28
  have hv2 : (w2.alloc (.cells #[.slice (some ⟨g1, 0, none⟩) (P + 1) (P + 1), .slice (some ⟨g2, 0, none⟩) (P + 1) (P + 1)] 28)).heap.size = w2.heap.size + 1 := by simp
  clear hg x0 x1 x2 x3 xf xl
  obtain ⟨x0, x1, x2, x3, xf, xl⟩ := BV.four
  go_wp2_with fail
  generalize (w2.alloc (.cells #[.slice (some ⟨g1, 0, none⟩) (P + 1) (P + 1), .slice (some ⟨g2, 0, none⟩) (P + 1) (P + 1)] 28)) = v2 at *
  refine (next_any B g a len cap ((P : Int) + 1) _ hS (by omega)).mono ?_
  rintro e w3 ⟨r1, rfl, q1, u1, hS, hg⟩
  have hz3 := hg.size
  replace BZ := BZ.grown hg (by omega)
  replace BN := BN.grown hg (by omega)
  replace BV := BV.grown hg (by omega)
  replace BB := BB.grown hg (by omega)
  replace R1 := R1.grown hg (by omega)
  replace R2 := R2.grown hg (by omega)
  replace hG := grown_trans hG hg
  clear hg x0 x1 x2 x3 xf xl
  obtain ⟨k, rfl⟩ := Int.eq_ofNat_of_zero_le q1
  have hk : k < P + 1 := by omega
  go_wp2_with fail
  refine (next_any B g a len cap 40 _ hS (by omega)).mono ?_
  rintro e w4 ⟨r2, rfl, q2, u2, hS, hg⟩
  have hz4 := hg.size
  replace BZ := BZ.grown hg (by omega)
  replace BN := BN.grown hg (by omega)
  replace BV := BV.grown hg (by omega)
  replace BB := BB.grown hg (by omega)
  replace R1 := R1.grown hg (by omega)
  replace R2 := R2.grown hg (by omega)
  replace hG := grown_trans hG hg
  clear hg
  obtain ⟨x0, x1, x2, x3, xf, xl⟩ := BV.four
  obtain ⟨y0, y1, yf, yl⟩ := BB.two
  obtain ⟨z0, z1, z2, z3, zf, zl⟩ := BZ.four
  obtain ⟨n0, n1, nf, nl⟩ := BN.two
  have fR1 := fun i => R1.free i
  have fR2 := fun i => R2.free i
  have cR1 := R1.cell k (by omega)
  have cR2 := R2.cell k (by omega)
  obtain ⟨e1, he1⟩ : ∃ v, xs.getD k 0 = v := ⟨_, rfl⟩
  obtain ⟨e2, he2⟩ : ∃ v, ys.getD k 0 = v := ⟨_, rfl⟩
  rw [he1] at cR1
  rw [he2] at cR2
  clear he1 he2
  have hk1 : (k : Int) < (P : Int) + 1 := by omega
  have hk2 : (0 : Int) ≤ (k : Int) := by omega
  have HX := Lib.hid hx
  have HY := Lib.hid hy
  clear hx hy gv
  rcases (by omega : r2 = 0 ∨ r2 = 1 ∨ r2 = 2 ∨ r2 = 3 ∨ r2 = 4 ∨ r2 = 5 ∨ 6 ≤ r2) with rfl | rfl | rfl | rfl | rfl | rfl | hr2
  · go_wp2_with fail
    go_region
    all_goals go_wp2_with fail
    all_goals go_region
    all_goals go_wp2
    refine bodyPost_ret (v := .tuple #[.agg #[.int .i64 (P : Int), .int .i64 c, .int .i64 h, .int .i64 s], .agg #[.slice (some ⟨g1, 0, none⟩) (P + 1) (P + 1), .slice (some ⟨g2, 0, none⟩) (P + 1) (P + 1)]]) (by simp [results, Tryz.results42, go_sem, z0, z1, z2, z3, n0, n1]) rfl ?_
    have hfin := fun v0 v1 v2 v3 v4 v5 => fin6 (hS.set (g' := g1) (o := k) (v := .int .i64 (wrap64 (e1 + 1))) (by omega) (by omega)) (grown_new (g' := g1) (o := k) (v := .int .i64 (wrap64 (e1 + 1))) hG (by omega)) (R1.set k (wrap64 (e1 + 1))) (R2.other (o := k) (v := .int .i64 (wrap64 (e1 + 1))) (by omega)) hl (by omega) (by omega) (by omega) v0 v1 v2 v3 v4 v5
    obtain ⟨hq1, hq2, hq3, hq4⟩ := hfin (.int .i64 (P : Int)) (.int .i64 c) (.int .i64 h) (.int .i64 s) (.slice (some ⟨g1, 0, none⟩) (P + 1) (P + 1)) (.slice (some ⟨g2, 0, none⟩) (P + 1) (P + 1))
    clear hfin
    exact ⟨(P : Int), c, h, s, g1, g2, (P + 1), (P + 1), (P + 1), (P + 1), (xs.set k (wrap64 (e1 + 1))), ys, rfl, by omega, (by rw [List.length_set]; exact HX.out), HY.out, by omega, by omega, by omega, by omega, by omega, by omega, hq3.drew.drew, hq4.drew.drew, hq1.drew.drew, grown_drew (grown_drew (hq2))⟩
  · go_wp2_with fail
    go_region
    all_goals go_wp2
    refine bodyPost_ret (v := .tuple #[.agg #[.int .i64 (P : Int), .int .i64 c, .int .i64 h, .int .i64 s], .agg #[.slice (some ⟨g1, 0, none⟩) (P + 1) (P + 1), .slice (some ⟨g2, 0, none⟩) (P + 1) (P + 1)]]) (by simp [results, Tryz.results42, go_sem, z0, z1, z2, z3, n0, n1]) rfl ?_
    have hfin := fun v0 v1 v2 v3 v4 v5 => fin6 (hS.set (g' := g2) (o := k) (v := .int .i64 (-1)) (by omega) (by omega)) (grown_new (g' := g2) (o := k) (v := .int .i64 (-1)) hG (by omega)) (R1.other (o := k) (v := .int .i64 (-1)) (by omega)) (R2.set k (-1)) hl (by omega) (by omega) (by omega) v0 v1 v2 v3 v4 v5
    obtain ⟨hq1, hq2, hq3, hq4⟩ := hfin (.int .i64 (P : Int)) (.int .i64 c) (.int .i64 h) (.int .i64 s) (.slice (some ⟨g1, 0, none⟩) (P + 1) (P + 1)) (.slice (some ⟨g2, 0, none⟩) (P + 1) (P + 1))
    clear hfin
    exact ⟨(P : Int), c, h, s, g1, g2, (P + 1), (P + 1), (P + 1), (P + 1), xs, (ys.set k (-1)), rfl, by omega, HX.out, (by rw [List.length_set]; exact HY.out), by omega, by omega, by omega, by omega, by omega, by omega, hq3.drew, hq4.drew, hq1.drew, grown_drew (hq2)⟩
  · go_wp2_with fail
    go_region
    all_goals go_wp2
    refine bodyPost_ret (v := .tuple #[.agg #[.int .i64 (P : Int), .int .i64 c, .int .i64 h, .int .i64 s], .agg #[.slice (some ⟨g1, 0, none⟩) k (P + 1), .slice (some ⟨g2, 0, none⟩) (P + 1) (P + 1)]]) (by simp [results, Tryz.results42, go_sem, z0, z1, z2, z3, n0, n1]) rfl ?_
    have hfin := fun v0 v1 v2 v3 v4 v5 => fin6 (hS.set (g' := w2.heap.size) (o := 0) (v := .slice (some ⟨g1, 0, none⟩) k (P + 1)) (by omega) (by omega)) (grown_new (g' := w2.heap.size) (o := 0) (v := .slice (some ⟨g1, 0, none⟩) k (P + 1)) hG (by omega)) ((R1.take k).other (o := 0) (v := .slice (some ⟨g1, 0, none⟩) k (P + 1)) (by omega)) (R2.other (o := 0) (v := .slice (some ⟨g1, 0, none⟩) k (P + 1)) (by omega)) hl (by omega) (by omega) (by omega) v0 v1 v2 v3 v4 v5
    obtain ⟨hq1, hq2, hq3, hq4⟩ := hfin (.int .i64 (P : Int)) (.int .i64 c) (.int .i64 h) (.int .i64 s) (.slice (some ⟨g1, 0, none⟩) k (P + 1)) (.slice (some ⟨g2, 0, none⟩) (P + 1) (P + 1))
    clear hfin
    exact ⟨(P : Int), c, h, s, g1, g2, k, (P + 1), (P + 1), (P + 1), (xs.take k), ys, rfl, by omega, (by rw [List.length_take, HX.out]; omega), HY.out, by omega, by omega, by omega, by omega, by omega, by omega, hq3.drew, hq4.drew, hq1.drew, grown_drew (hq2)⟩
  · go_wp2_with fail
    have hzd : w4.drew.heap.size = w4.heap.size := rfl
    refine wp_region_held_drew (S := fun w' => w'.cell? ⟨w1.heap.size, 0, none⟩ = some (.int .i64 (P : Int)) ∧ w'.cell? ⟨w1.heap.size, 1, none⟩ = some (.int .i64 c) ∧ w'.cell? ⟨w1.heap.size, 2, none⟩ = some (.int .i64 h) ∧ w'.cell? ⟨w1.heap.size, 3, none⟩ = some (.int .i64 s) ∧ (Blk w' w1.heap.size #[.int .i64 (P : Int), .int .i64 c, .int .i64 h, .int .i64 s] 25 ∧ Src B w' g a len cap ∧ w.grownBy w' (some g) ∧ (∃ u0 u1, Blk w' w2.heap.size #[u0, u1] 28) ∧ Blk w' w.heap.size #[.int .i64 0, .int .i64 0, .int .i64 0, .int .i64 0] 25 ∧ Blk w' (w.heap.size + 1) #[.slice none 0 0, .slice none 0 0] 28)) (by kernel_rfl) ⟨x0, x1, x2, x3, BV.drew, hS.drew, grown_drew hG, ⟨_, _, BB.drew⟩, BZ.drew, BN.drew⟩ (fun hHeld => ?_)
    refine tk 0 46 ?_
    refine tk 2 48 ?_
    refine rdk 1 47 fun K hK => ?_
    go_simp
    refine (l02Empty_any P c h s _ (by omega)).mono ?_
    rintro e w5 ⟨ge1, rfl, hge1, RE1, hb1⟩
    have hrl1 : (List.replicate (P + 1) (0 : Int)).length = P + 1 := by simp
    rw [hrl1]
    have hzb1 := hb1.size
    (try go_wp2_with fail)
    refine hko hK (keepS hHeld hb1) fun hHeld => ?_
    clear hK K
    refine rdk 3 49 fun K hK => ?_
    go_simp
    refine (l02Empty_any P c h s _ (by omega)).mono ?_
    rintro e w6 ⟨ge2, rfl, hge2, RE2, hb2⟩
    have hrl2 : (List.replicate (P + 1) (0 : Int)).length = P + 1 := by simp
    rw [hrl2]
    have hzb2 := hb2.size
    have RE1b := RE1.below hb2
    have hlE := RE1.lt
    (try go_wp2_with fail)
    refine hko hK (keepS hHeld hb2) fun hHeld => ?_
    clear hK K
    refine tk 4 50 ?_
    refine rdn 5 fun K hK => ?_
    obtain ⟨u0, u1, BU⟩ := hHeld.2.2.2.2.2.2.2.1
    have y0 := BU.two.1
    have y1 := BU.two.2.1
    have yf := BU.two.2.2.1
    have yl := BU.two.2.2.2
    go_simp
    (try go_wp2_with fail)
    refine hko hK (storeS hHeld (by omega) (by omega) (by omega) (by omega) (by omega) (by omega) _ _) fun hHeld => ?_
    clear hK K
    refine wpAnyH_done (by kernel_rfl) ?_ _
    obtain ⟨-, -, -, -, BV5, hS5, hG5, -, BZ5, BN5⟩ := hHeld
    have BB5 := (BU.set (i := 0) (.slice (some ⟨ge1, 0, none⟩) (P + 1) (P + 1))).set (i := 1) (.slice (some ⟨ge2, 0, none⟩) (P + 1) (P + 1))
    have Q1 : Row ((w6.setCell ⟨w2.heap.size, 0, none⟩ (.slice (some ⟨ge1, 0, none⟩) (P + 1) (P + 1))).setCell ⟨w2.heap.size, 1, none⟩ (.slice (some ⟨ge2, 0, none⟩) (P + 1) (P + 1))) ge1 (List.replicate (P + 1) 0) := (RE1b.other (by omega)).other (by omega)
    have Q2 : Row ((w6.setCell ⟨w2.heap.size, 0, none⟩ (.slice (some ⟨ge1, 0, none⟩) (P + 1) (P + 1))).setCell ⟨w2.heap.size, 1, none⟩ (.slice (some ⟨ge2, 0, none⟩) (P + 1) (P + 1))) ge2 (List.replicate (P + 1) 0) := (RE2.other (by omega)).other (by omega)
    clear x0 x1 x2 x3 xf xl y0 y1 yf yl z0 z1 z2 z3 zf zl n0 n1 nf nl
    go_wp2_with fail
    generalize ((w6.setCell ⟨w2.heap.size, 0, none⟩ (.slice (some ⟨ge1, 0, none⟩) (P + 1) (P + 1))).setCell ⟨w2.heap.size, 1, none⟩ (.slice (some ⟨ge2, 0, none⟩) (P + 1) (P + 1))) = W5 at *
    have BB6 : Blk W5 w2.heap.size #[.slice (some ⟨ge1, 0, none⟩) (P + 1) (P + 1), .slice (some ⟨ge2, 0, none⟩) (P + 1) (P + 1)] 28 := BB5
    obtain ⟨x0, x1, x2, x3, xf, xl⟩ := BV5.four
    obtain ⟨y0, y1, yf, yl⟩ := BB6.two
    obtain ⟨z0, z1, z2, z3, zf, zl⟩ := BZ5.four
    obtain ⟨n0, n1, nf, nl⟩ := BN5.two
    go_region
    all_goals go_wp2
    refine bodyPost_ret (v := .tuple #[.agg #[.int .i64 (P : Int), .int .i64 c, .int .i64 h, .int .i64 s], .agg #[.slice (some ⟨ge1, 0, none⟩) (P + 1) (P + 1), .slice (some ⟨ge2, 0, none⟩) (P + 1) (P + 1)]]) (by simp [results, Tryz.results42, go_sem, z0, z1, z2, z3, n0, n1]) rfl ?_
    have hfin := fun v0 v1 v2 v3 v4 v5 => fin6 hS5 hG5 Q1 Q2 hl (by omega) (by omega) (by omega) v0 v1 v2 v3 v4 v5
    obtain ⟨hq1, hq2, hq3, hq4⟩ := hfin (.int .i64 (P : Int)) (.int .i64 c) (.int .i64 h) (.int .i64 s) (.slice (some ⟨ge1, 0, none⟩) (P + 1) (P + 1)) (.slice (some ⟨ge2, 0, none⟩) (P + 1) (P + 1))
    clear hfin
    exact ⟨(P : Int), c, h, s, ge1, ge2, (P + 1), (P + 1), (P + 1), (P + 1), (List.replicate (P + 1) 0), (List.replicate (P + 1) 0), rfl, by omega, (by simp), (by simp), by omega, by omega, by omega, by omega, by omega, by omega, hq3.drew, hq4.drew, hq1.drew, grown_drew (hq2)⟩
  · go_wp2_with fail
    refine (drawAny_any B g a len cap _ hS).mono ?_
    rintro e w5 ⟨p', c', h', s', rfl, bp', -, -, bs', hS, hg⟩
    replace BZ := BZ.grown hg (by omega)
    replace BN := BN.grown hg (by omega)
    replace BV := BV.grown hg (by omega)
    replace BB := BB.grown hg (by omega)
    replace R1 := R1.grown hg (by omega)
    replace R2 := R2.grown hg (by omega)
    replace hG := grown_trans hG hg
    clear hg x0 x1 x2 x3 xf xl y0 y1 yf yl z0 z1 z2 z3 zf zl n0 n1 nf nl fR1 fR2 cR1 cR2
    obtain ⟨x0, x1, x2, x3, xf, xl⟩ := BV.four
    obtain ⟨y0, y1, yf, yl⟩ := BB.two
    obtain ⟨z0, z1, z2, z3, zf, zl⟩ := BZ.four
    obtain ⟨n0, n1, nf, nl⟩ := BN.two
    go_wp2_with fail
    go_region
    all_goals go_wp2
    refine bodyPost_ret (v := .tuple #[.agg #[.int .i64 p', .int .i64 c', .int .i64 h', .int .i64 s'], .agg #[.slice (some ⟨g1, 0, none⟩) (P + 1) (P + 1), .slice (some ⟨g2, 0, none⟩) (P + 1) (P + 1)]]) (by simp [results, Tryz.results42, go_sem, z0, z1, z2, z3, n0, n1]) rfl ?_
    have hfin := fun v0 v1 v2 v3 v4 v5 => fin6 ((((hS.set (g' := w1.heap.size) (o := 0) (v := .int .i64 p') (by omega) (by omega)).set (g' := w1.heap.size) (o := 1) (v := .int .i64 c') (by omega) (by omega)).set (g' := w1.heap.size) (o := 2) (v := .int .i64 h') (by omega) (by omega)).set (g' := w1.heap.size) (o := 3) (v := .int .i64 s') (by omega) (by omega)) (grown_new (g' := w1.heap.size) (o := 3) (v := .int .i64 s') (grown_new (g' := w1.heap.size) (o := 2) (v := .int .i64 h') (grown_new (g' := w1.heap.size) (o := 1) (v := .int .i64 c') (grown_new (g' := w1.heap.size) (o := 0) (v := .int .i64 p') hG (by omega)) (by omega)) (by omega)) (by omega)) ((((R1.other (o := 0) (v := .int .i64 p') (by omega)).other (o := 1) (v := .int .i64 c') (by omega)).other (o := 2) (v := .int .i64 h') (by omega)).other (o := 3) (v := .int .i64 s') (by omega)) ((((R2.other (o := 0) (v := .int .i64 p') (by omega)).other (o := 1) (v := .int .i64 c') (by omega)).other (o := 2) (v := .int .i64 h') (by omega)).other (o := 3) (v := .int .i64 s') (by omega)) hl (by omega) (by omega) (by omega) v0 v1 v2 v3 v4 v5
    obtain ⟨hq1, hq2, hq3, hq4⟩ := hfin (.int .i64 p') (.int .i64 c') (.int .i64 h') (.int .i64 s') (.slice (some ⟨g1, 0, none⟩) (P + 1) (P + 1)) (.slice (some ⟨g2, 0, none⟩) (P + 1) (P + 1))
    clear hfin
    exact ⟨p', c', h', s', g1, g2, (P + 1), (P + 1), (P + 1), (P + 1), xs, ys, rfl, by omega, HX.out, HY.out, by omega, by omega, by omega, by omega, by omega, by omega, hq3.drew, hq4.drew, hq1.drew, grown_drew (hq2)⟩
  · go_wp2_with fail
    go_region
    all_goals go_wp2_with fail
    all_goals go_region
    all_goals go_wp2
    refine bodyPost_ret (v := .tuple #[.agg #[.int .i64 (P : Int), .int .i64 c, .int .i64 h, .int .i64 s], .agg #[.slice (some ⟨g1, 0, none⟩) (P + 1) (P + 1), .slice (some ⟨g2, 0, none⟩) (P + 1) (P + 1)]]) (by simp [results, Tryz.results42, go_sem, z0, z1, z2, z3, n0, n1]) rfl ?_
    have hfin := fun v0 v1 v2 v3 v4 v5 => fin6 (hS.set (g' := g2) (o := k) (v := .int .i64 (wrap64 (e2 + 1))) (by omega) (by omega)) (grown_new (g' := g2) (o := k) (v := .int .i64 (wrap64 (e2 + 1))) hG (by omega)) (R1.other (o := k) (v := .int .i64 (wrap64 (e2 + 1))) (by omega)) (R2.set k (wrap64 (e2 + 1))) hl (by omega) (by omega) (by omega) v0 v1 v2 v3 v4 v5
    obtain ⟨hq1, hq2, hq3, hq4⟩ := hfin (.int .i64 (P : Int)) (.int .i64 c) (.int .i64 h) (.int .i64 s) (.slice (some ⟨g1, 0, none⟩) (P + 1) (P + 1)) (.slice (some ⟨g2, 0, none⟩) (P + 1) (P + 1))
    clear hfin
    exact ⟨(P : Int), c, h, s, g1, g2, (P + 1), (P + 1), (P + 1), (P + 1), xs, (ys.set k (wrap64 (e2 + 1))), rfl, by omega, HX.out, (by rw [List.length_set]; exact HY.out), by omega, by omega, by omega, by omega, by omega, by omega, hq3.drew.drew, hq4.drew.drew, hq1.drew.drew, grown_drew (grown_drew (hq2))⟩
  · have f0 : (r2 == 0) = false := by rw [beq_eq_false_iff_ne]; omega
    have f1 : (r2 == 1) = false := by rw [beq_eq_false_iff_ne]; omega
    have f2 : (r2 == 2) = false := by rw [beq_eq_false_iff_ne]; omega
    have f3 : (r2 == 3) = false := by rw [beq_eq_false_iff_ne]; omega
    have f4 : (r2 == 4) = false := by rw [beq_eq_false_iff_ne]; omega
    have f5 : (r2 == 5) = false := by rw [beq_eq_false_iff_ne]; omega
    go_wp2_with fail
    go_region
    all_goals go_wp2
    refine bodyPost_ret (v := .tuple #[.agg #[.int .i64 (P : Int), .int .i64 c, .int .i64 h, .int .i64 s], .agg #[.slice (some ⟨g1, 0, none⟩) (P + 1) (P + 1), .slice (some ⟨g2, 0, none⟩) (P + 1) (P + 1)]]) (by simp [results, Tryz.results42, go_sem, z0, z1, z2, z3, n0, n1]) rfl ?_
    have hfin := fun v0 v1 v2 v3 v4 v5 => fin6 hS hG R1 R2 hl (by omega) (by omega) (by omega) v0 v1 v2 v3 v4 v5
    obtain ⟨hq1, hq2, hq3, hq4⟩ := hfin (.int .i64 (P : Int)) (.int .i64 c) (.int .i64 h) (.int .i64 s) (.slice (some ⟨g1, 0, none⟩) (P + 1) (P + 1)) (.slice (some ⟨g2, 0, none⟩) (P + 1) (P + 1))
    clear hfin
    exact ⟨(P : Int), c, h, s, g1, g2, (P + 1), (P + 1), (P + 1), (P + 1), xs, ys, rfl, by omega, HX.out, HY.out, by omega, by omega, by omega, by omega, by omega, by omega, hq3.drew, hq4.drew, hq1.drew, grown_drew (hq2)⟩
theorem pair_ex (x y : Int) (w : World) :
    Calls Tryz.prog 71 #[.int .i64 x, .int .i64 y] w fun e w' => ∃ ra rb : Int, e = .returned (.agg #[.int .i64 ra, .int .i64 rb]) ∧ Below w.heap.size w w' :=
  (l07Pair_any x y w).mono fun e w' q => ⟨_, _, q.1, q.2⟩
def RollPost (B g : Nat) (a : Option Addr) (len cap : Nat) (w : World) (e : Ending) (w' : World) : Prop :=
  ∃ ra rb : Int, e = .returned (.agg #[.int .i64 ra, .int .i64 rb]) ∧ Src B w' g a len cap ∧ w.grownBy w' (some g)
set_option maxRecDepth 8000 in
set_option maxHeartbeats 2000000 in
theorem drawRoll_any (B g : Nat) (p c h s : Int) (a : Option Addr) (len cap : Nat) (w : World) (hs : s ≤ 1000) (hS : Src B w g a len cap) :
    Calls Tryz.prog 43 #[.pointer (some ⟨g, 0, none⟩), .agg #[.int .i64 p, .int .i64 c, .int .i64 h, .int .i64 s]] w (RollPost B g a len cap w) := by
  have hl := hS.lt
  have hBg := hS.base
  obtain ⟨BV, BR, hb, hz⟩ := two_new w #[.int .i64 p, .int .i64 c, .int .i64 h, .int .i64 s] #[.int .i64 0, .int .i64 0] 25 30
  replace hS := (hS.alloc (.cells #[.int .i64 p, .int .i64 c, .int .i64 h, .int .i64 s] 25)).alloc (.cells #[.int .i64 0, .int .i64 0] 30)
  have hG : w.grownBy ((w.alloc (.cells #[.int .i64 p, .int .i64 c, .int .i64 h, .int .i64 s] 25)).alloc (.cells #[.int .i64 0, .int .i64 0] 30)) (some g) := grown_of_below hb _
  clear hb
  go_enter Tryz.func43, Tryz.ntmps43
  go_wp2_with fail
  generalize ((w.alloc (.cells #[.int .i64 p, .int .i64 c, .int .i64 h, .int .i64 s] 25)).alloc (.cells #[.int .i64 0, .int .i64 0] 30)) = v0 at *
  refine (next_any B g a len cap 20 _ hS (by omega)).mono ?_
  rintro e w1 ⟨r1, rfl, q1, u1, hS, hg⟩
  replace BV := BV.grown hg (by omega)
  replace BR := BR.grown hg (by omega)
  replace hG := grown_trans hG hg
  have hz1 := hg.size
  clear hg
  by_cases e1 : r1 = 0
  · have f0 : (r1 == 0) = true := by rw [beq_iff_eq]; exact e1
    clear e1
    go_wp2_with fail
    refine (next_any B g a len cap 8 _ hS (by omega)).mono ?_
    rintro e w2 ⟨r2, rfl, q2, u2, hS, hg⟩
    replace BV := BV.grown hg (by omega)
    replace BR := BR.grown hg (by omega)
    replace hG := grown_trans hG hg
    have hz2 := hg.size
    clear hg
    go_wp2_with fail
    refine (next_any B g a len cap 8 _ hS (by omega)).mono ?_
    rintro e w3 ⟨r3, rfl, q3, u3, hS, hg⟩
    replace BV := BV.grown hg (by omega)
    replace BR := BR.grown hg (by omega)
    replace hG := grown_trans hG hg
    have hz3 := hg.size
    clear hg
    obtain ⟨z0, z1, zf, zl⟩ := BR.two
    go_wp2_with fail
    have MR := (BR.set (i := 0) (.int .i64 r2)).set (i := 1) (.int .i64 r3)
    simp only [List.setIfInBounds_toArray, List.set_cons_zero, List.set_cons_succ] at MR
    obtain ⟨y0, y1, yf, yl⟩ := MR.two
    refine bodyPost_ret (v := .agg #[.int .i64 r2, .int .i64 r3]) (by simp [results, Tryz.results43, go_sem, y0, y1]) rfl ?_
    exact ⟨_, _, rfl, (hS.set (by omega) (by omega)).set (by omega) (by omega), grown_new (grown_new hG (by omega)) (by omega)⟩
  · have f0 : (r1 == 0) = false := by rw [beq_eq_false_iff_ne]; exact e1
    clear e1
    obtain ⟨x0, x1, x2, x3, xf, xl⟩ := BV.four
    go_wp2_with fail
    clear x0 x1 x2 x3 xf xl
    have hd_ : w1.drew.heap.size = w1.heap.size := rfl
    replace BV := BV.drew
    replace BR := BR.drew
    replace hS := hS.drew
    replace hG := grown_trans hG (grown_of_below (Below.refl _ _).drew (some g))
    refine wp_region_held_drew (S := fun w' => w'.cell? ⟨w.heap.size, 0, none⟩ = some (.int .i64 p) ∧ w'.cell? ⟨w.heap.size, 1, none⟩ = some (.int .i64 c) ∧ w'.cell? ⟨w.heap.size, 2, none⟩ = some (.int .i64 h) ∧ w'.cell? ⟨w.heap.size, 3, none⟩ = some (.int .i64 s)) (by kernel_rfl) ⟨BV.four.1, BV.four.2.1, BV.four.2.2.1, BV.four.2.2.2.1⟩ (fun hHeld => ?_)
    clear hHeld
    generalize w1.drew = vd at *
    have hHeld : vd.cell? ⟨w.heap.size, 0, none⟩ = some (.int .i64 p) ∧ vd.cell? ⟨w.heap.size, 1, none⟩ = some (.int .i64 c) ∧ vd.cell? ⟨w.heap.size, 2, none⟩ = some (.int .i64 h) ∧ vd.cell? ⟨w.heap.size, 3, none⟩ = some (.int .i64 s) := ⟨BV.four.1, BV.four.2.1, BV.four.2.2.1, BV.four.2.2.2.1⟩
    refine tk 0 13 ?_
    refine tk 1 14 ?_
    refine tk 2 15 ?_
    refine tk 5 18 ?_
    refine tk 6 19 ?_
    refine tk 7 20 ?_
    refine rdk 3 16 fun K hK => ?_
    go_simp
    refine (next_any B g a len cap s _ hS (by omega)).mono ?_
    rintro e w2 ⟨r2, rfl, q2, u2, hS, hg⟩
    replace BV := BV.grown hg (by omega)
    replace BR := BR.grown hg (by omega)
    replace hG := grown_trans hG hg
    have hz2 := hg.size
    clear hg
    (try go_wp2_with fail)
    refine hko hK (Blk.l4 BV) fun hHeld => ?_
    clear hK K
    refine tk 4 17 ?_
    refine rdk 8 21 fun K hK => ?_
    go_simp
    refine (next_any B g a len cap s _ hS (by omega)).mono ?_
    rintro e w3 ⟨r3, rfl, q3, u3, hS, hg⟩
    replace BV := BV.grown hg (by omega)
    replace BR := BR.grown hg (by omega)
    replace hG := grown_trans hG hg
    have hz3 := hg.size
    clear hg
    (try go_wp2_with fail)
    refine hko hK (Blk.l4 BV) fun hHeld => ?_
    clear hK K
    refine tk 9 22 ?_
    refine rdk 10 23 fun K hK => ?_
    go_simp
    refine (pair_ex _ _ _).mono ?_
    rintro e w4 ⟨ra, rb, rfl, hb4⟩
    replace BV := BV.below hb4
    replace BR := BR.below hb4
    replace hS := hS.below hb4
    replace hG := grown_trans hG (grown_of_below hb4 _)
    have hz4 := hb4.size
    clear hb4
    (try go_wp2_with fail)
    refine hko hK (Blk.l4 BV) fun hHeld => ?_
    clear hK K
    refine rdn 11 fun K hK => ?_
    obtain ⟨z0, z1, zf, zl⟩ := BR.two
    go_simp
    (try go_wp2_with fail)
    refine hko hK (Blk.l4 ((BV.other (g := w.heap.size + 1) (o := 0) (v := (.int .i64 ra)) (by omega)).other (g := w.heap.size + 1) (o := 1) (v := (.int .i64 rb)) (by omega))) fun hHeld => ?_
    clear hK K
    refine wpAnyH_done (by kernel_rfl) ?_ _
    clear hHeld
    go_wp2_with fail
    have MR := (BR.set (i := 0) (.int .i64 ra)).set (i := 1) (.int .i64 rb)
    simp only [List.setIfInBounds_toArray, List.set_cons_zero, List.set_cons_succ] at MR
    obtain ⟨y0, y1, yf, yl⟩ := MR.two
    refine bodyPost_ret (v := .agg #[.int .i64 ra, .int .i64 rb]) (by simp [results, Tryz.results43, go_sem, y0, y1]) rfl ?_
    exact ⟨_, _, rfl, (hS.set (by omega) (by omega)).set (by omega) (by omega), grown_new (grown_new hG (by omega)) (by omega)⟩
end Go.Proofs.YtciljbnailobgaaGreat
