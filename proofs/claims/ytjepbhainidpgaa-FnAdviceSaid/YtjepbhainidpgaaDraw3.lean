/- The model's draws of a board. -/
import Derived.Test.YtjepbhainidpgaaDraw2
import Derived.Test.YtjepbhainidpgaaStartB
import Derived.Test.YtjepbhainidpgaaL02d
namespace Go.Proofs.Ytjepbhainidpgaa
open Go.ChangeShapes Go.WideShapes Go.ChangeAt Go.RowKit
set_option linter.unusedVariables false
set_option linter.unusedSimpArgs false
set_option maxRecDepth 4000

def StartFull (n : Nat) (w : World) (e : Ending) (w' : World) : Prop :=
  ∃ g1 g2 xs ys, e = .returned (.tuple #[.agg #[.slice (some ⟨g1, 0, none⟩) n n, .slice (some ⟨g2, 0, none⟩) n n], .bool true]) ∧ xs.length = n ∧ ys.length = n ∧ w.heap.size ≤ g1 ∧ g1 < g2 ∧ Row w' g1 xs ∧ Row w' g2 ys ∧ Below w.heap.size w w'
set_option maxRecDepth 8000 in
set_option maxHeartbeats 1000000 in
theorem specStartFull_any (p c h s : Int) (w : World) (g : vB p c h s = true) (p4 : 4 ≤ p) : Calls Try.prog 94 #[.agg #[.int .i64 p, .int .i64 c, .int .i64 h, .int .i64 s]] w (StartFull (p.toNat + 1) w) := by
  obtain ⟨BV, BR, hb, hz⟩ := two_new w #[.int .i64 p, .int .i64 c, .int .i64 h, .int .i64 s] #[.slice none 0 0, .slice none 0 0] 26 34
  obtain ⟨x0, x1, x2, x3, xf, xl⟩ := BV.four
  obtain ⟨y0, y1, yf, yl⟩ := BR.two
  have hv := fun W => specIsVariant_any p c h s W
  simp only [g] at hv
  have HV := Lib.hid hv
  clear hv
  have hSL := startL_length p c h s
  go_enter Try.func94, Try.ntmps94
  go_wp2_with (go_at_call 30; refine (HV.out _).mono ?_; rintro e w1 ⟨rfl, hb0⟩; obtain ⟨x0, x1, x2, x3, xf, xl⟩ := (BV.below hb0).four; obtain ⟨y0, y1, yf, yl⟩ := (BR.below hb0).two)
  have hz0 : w.heap.size + 1 + 1 ≤ w1.heap.size := by have := hb0.size; omega
  refine wp_region_held_drew (S := fun w' => w'.cell? ⟨w.heap.size, 0, none⟩ = some (.int .i64 p) ∧ w'.cell? ⟨w.heap.size, 1, none⟩ = some (.int .i64 c) ∧ w'.cell? ⟨w.heap.size, 2, none⟩ = some (.int .i64 h) ∧ w'.cell? ⟨w.heap.size, 3, none⟩ = some (.int .i64 s) ∧ Below w.heap.size w w' ∧ ∃ u0 u1, Blk w' (w.heap.size + 1) #[u0, u1] 34) (by kernel_rfl) ⟨x0, x1, x2, x3, (chain hb hb0).drew, _, _, (BR.below hb0).drew⟩ (fun hHeld => ?_)
  refine wpAnyH_take (i := 0) (oi := { dst := some 13, op := _, type := _, pos := _, after := _, guard := _ }) (v := ?_) rfl (by kernel_rfl) (by kernel_rfl) (by kernel_rfl) (fun _ _ _ h => h) (Or.inl ⟨by rfl, ?_⟩) (by assumption) ?_
  rotate_left
  · intro w hSw
    (try dsimp only at hSw)
    go_simp
    (try (with_reducible rfl))
  try simp only [Act.put, List.setIfInBounds_toArray, List.set_cons_zero, List.set_cons_succ]
  refine wpAnyH_take (i := 2) (oi := { dst := some 15, op := _, type := _, pos := _, after := _, guard := _ }) (v := ?_) rfl (by kernel_rfl) (by kernel_rfl) (by kernel_rfl) (fun _ _ _ h => h) (Or.inl ⟨by rfl, ?_⟩) (by assumption) ?_
  rotate_left
  · intro w hSw
    (try dsimp only at hSw)
    go_simp
    (try (with_reducible rfl))
  try simp only [Act.put, List.setIfInBounds_toArray, List.set_cons_zero, List.set_cons_succ]
  refine wpAnyH_ready (rs := [1]) (by kernel_rfl) (by simp) ?_
  refine AllReadyH.cons (o := { dst := some 14, op := _, type := _, pos := _, after := _, guard := _ }) rfl (fun K hK => ?_) AllReadyH.nil
  go_simp
  refine (l02Start_any p c h s _ g p4).mono ?_
  rintro e w5 ⟨g1, rfl, hg1, R1, hb1⟩
  have hS := heldVR hHeld hb1
  (try go_wp2_with fail)
  refine hK.out _ _ hS (fun hHeld => ?_)
  clear hK K
  try simp only [Act.put, List.setIfInBounds_toArray, List.set_cons_zero, List.set_cons_succ]
  refine wpAnyH_ready (rs := [3]) (by kernel_rfl) (by simp) ?_
  refine AllReadyH.cons (o := { dst := some 16, op := _, type := _, pos := _, after := _, guard := _ }) rfl (fun K hK => ?_) AllReadyH.nil
  go_simp
  refine (l02Start_any p c h s _ g p4).mono ?_
  rintro e w6 ⟨g2, rfl, hg2, R2, hb2⟩
  have R1b := R1.below hb2
  have hl0 := R1.lt
  have hS := heldVR hHeld hb2
  (try go_wp2_with fail)
  refine hK.out _ _ hS (fun hHeld => ?_)
  clear hK K
  try simp only [Act.put, List.setIfInBounds_toArray, List.set_cons_zero, List.set_cons_succ]
  refine wpAnyH_take (i := 4) (oi := { dst := some 17, op := _, type := _, pos := _, after := _, guard := _ }) (v := ?_) rfl (by kernel_rfl) (by kernel_rfl) (by kernel_rfl) (fun _ _ _ h => h) (Or.inl ⟨by rfl, ?_⟩) (by assumption) ?_
  rotate_left
  · intro w hSw
    (try dsimp only at hSw)
    go_simp
    (try (with_reducible rfl))
  try simp only [Act.put, List.setIfInBounds_toArray, List.set_cons_zero, List.set_cons_succ]
  refine wpAnyH_ready (rs := [5]) (by kernel_rfl) (by simp) ?_
  refine AllReadyH.cons (o := { dst := none, op := _, type := _, pos := _, after := _, guard := _ }) rfl (fun K hK => ?_) AllReadyH.nil
  obtain ⟨u0, u1, BU⟩ := hHeld.2.2.2.2.2
  have y0 := BU.two.1
  have y1 := BU.two.2.1
  have yf := BU.two.2.2.1
  have yl := BU.two.2.2.2
  go_simp
  (try go_wp2_with fail)
  refine hK.out _ _ (storeVR hHeld _ _) (fun hHeld => ?_)
  clear hK K
  try simp only [Act.put, List.setIfInBounds_toArray, List.set_cons_zero, List.set_cons_succ]
  refine wpAnyH_take (i := 6) (oi := { dst := some 3, op := _, type := _, pos := _, after := _, guard := _ }) (v := ?_) rfl (by kernel_rfl) (by kernel_rfl) (by kernel_rfl) (fun _ _ _ h => h) (Or.inl ⟨by rfl, ?_⟩) (by assumption) ?_
  rotate_left
  · intro w hSw
    (try dsimp only at hSw)
    go_simp
    (try (with_reducible rfl))
  try simp only [Act.put, List.setIfInBounds_toArray, List.set_cons_zero, List.set_cons_succ]
  refine wpAnyH_done (by kernel_rfl) ?_ _
  go_wp2
  have hbz := hHeld.2.2.2.2.1
  have hg1' : w1.heap.size ≤ g1 := hg1
  refine bodyPost_ret (v := .tuple #[.agg #[.slice (some ⟨g1, 0, none⟩) (p.toNat + 1) (p.toNat + 1), .slice (some ⟨g2, 0, none⟩) (p.toNat + 1) (p.toNat + 1)], .bool true]) (by simp [results, Try.results94, go_sem, y0, y1]) rfl ?_
  exact ⟨g1, g2, startL p c h s, startL p c h s, rfl, hSL, hSL, by omega, by omega, (R1b.other (by omega)).other (by omega), (R2.other (by omega)).other (by omega), hbz⟩
/-- A board of rows of the call's own has been drawn. -/
def BdPost (B g n : Nat) (a : Option Addr) (len cap : Nat) (w : World) (e : Ending) (w' : World) : Prop :=
  ∃ g1 g2 xs ys, e = .returned (.agg #[.slice (some ⟨g1, 0, none⟩) n n, .slice (some ⟨g2, 0, none⟩) n n]) ∧ xs.length = n ∧ ys.length = n ∧ w.heap.size ≤ g1 ∧ w.heap.size ≤ g2 ∧ g1 ≠ g2 ∧ Row w' g1 xs ∧ Row w' g2 ys ∧ Src B w' g a len cap ∧ w.grownBy w' (some g)
theorem heldSD {w W w2 : World} {B g P len cap : Nat} {c h s : Int} {a : Option Addr} (hS : W.cell? ⟨w.heap.size, 0, none⟩ = some (.int .i64 (P : Int)) ∧ W.cell? ⟨w.heap.size, 1, none⟩ = some (.int .i64 c) ∧ W.cell? ⟨w.heap.size, 2, none⟩ = some (.int .i64 h) ∧ W.cell? ⟨w.heap.size, 3, none⟩ = some (.int .i64 s) ∧ (Blk W w.heap.size #[.int .i64 (P : Int), .int .i64 c, .int .i64 h, .int .i64 s] 26 ∧ Src B W g a len cap ∧ w.grownBy W (some g) ∧ Blk W (w.heap.size + 1) #[.slice none 0 0, .slice none 0 0] 34)) (hb : Below W.heap.size W w2) : w2.cell? ⟨w.heap.size, 0, none⟩ = some (.int .i64 (P : Int)) ∧ w2.cell? ⟨w.heap.size, 1, none⟩ = some (.int .i64 c) ∧ w2.cell? ⟨w.heap.size, 2, none⟩ = some (.int .i64 h) ∧ w2.cell? ⟨w.heap.size, 3, none⟩ = some (.int .i64 s) ∧ (Blk w2 w.heap.size #[.int .i64 (P : Int), .int .i64 c, .int .i64 h, .int .i64 s] 26 ∧ Src B w2 g a len cap ∧ w.grownBy w2 (some g) ∧ Blk w2 (w.heap.size + 1) #[.slice none 0 0, .slice none 0 0] 34) := by
  obtain ⟨-, -, -, -, h1, h2, h3, h4⟩ := hS
  have h1' := h1.below hb
  obtain ⟨x0, x1, x2, x3, xf, xl⟩ := h1'.four
  exact ⟨x0, x1, x2, x3, h1', h2.below hb, grown_trans h3 (grown_of_below hb _), h4.below hb⟩
theorem heldSG {w W w2 : World} {B g P len cap : Nat} {c h s : Int} {a : Option Addr} (hS : W.cell? ⟨w.heap.size, 0, none⟩ = some (.int .i64 (P : Int)) ∧ W.cell? ⟨w.heap.size, 1, none⟩ = some (.int .i64 c) ∧ W.cell? ⟨w.heap.size, 2, none⟩ = some (.int .i64 h) ∧ W.cell? ⟨w.heap.size, 3, none⟩ = some (.int .i64 s) ∧ (Blk W w.heap.size #[.int .i64 (P : Int), .int .i64 c, .int .i64 h, .int .i64 s] 26 ∧ Src B W g a len cap ∧ w.grownBy W (some g) ∧ Blk W (w.heap.size + 1) #[.slice none 0 0, .slice none 0 0] 34)) (hs : Src B w2 g a len cap) (hg : W.grownBy w2 (some g)) (hl : g < w.heap.size) : w2.cell? ⟨w.heap.size, 0, none⟩ = some (.int .i64 (P : Int)) ∧ w2.cell? ⟨w.heap.size, 1, none⟩ = some (.int .i64 c) ∧ w2.cell? ⟨w.heap.size, 2, none⟩ = some (.int .i64 h) ∧ w2.cell? ⟨w.heap.size, 3, none⟩ = some (.int .i64 s) ∧ (Blk w2 w.heap.size #[.int .i64 (P : Int), .int .i64 c, .int .i64 h, .int .i64 s] 26 ∧ Src B w2 g a len cap ∧ w.grownBy w2 (some g) ∧ Blk w2 (w.heap.size + 1) #[.slice none 0 0, .slice none 0 0] 34) := by
  obtain ⟨-, -, -, -, h1, h2, h3, h4⟩ := hS
  have h1' := h1.grown hg (by omega)
  obtain ⟨x0, x1, x2, x3, xf, xl⟩ := h1'.four
  exact ⟨x0, x1, x2, x3, h1', hs, grown_trans h3 hg, h4.grown hg (by omega)⟩
set_option maxRecDepth 8000 in
set_option maxHeartbeats 2000000 in
theorem draw_any (B g P : Nat) (c h s : Int) (a : Option Addr) (len cap : Nat) (w : World) (gv : vB (P : Int) c h s = true) (hS : Src B w g a len cap) :
    Calls Try.prog 87 #[.pointer (some ⟨g, 0, none⟩), .agg #[.int .i64 (P : Int), .int .i64 c, .int .i64 h, .int .i64 s]] w (BdPost B g (P + 1) a len cap w) := by
  obtain ⟨v0, v1, v2, v3, v4, v5, v6, v7⟩ := vB_iff.1 gv
  have hl := hS.lt
  have hBg := hS.base
  obtain ⟨BV, BR, hb, hz⟩ := two_new w #[.int .i64 (P : Int), .int .i64 c, .int .i64 h, .int .i64 s] #[.slice none 0 0, .slice none 0 0] 26 34
  replace hS := (hS.alloc (.cells #[.int .i64 (P : Int), .int .i64 c, .int .i64 h, .int .i64 s] 26)).alloc (.cells #[.slice none 0 0, .slice none 0 0] 34)
  have hG : w.grownBy ((w.alloc (.cells #[.int .i64 (P : Int), .int .i64 c, .int .i64 h, .int .i64 s] 26)).alloc (.cells #[.slice none 0 0, .slice none 0 0] 34)) (some g) := grown_of_below hb _
  go_enter Try.func87, Try.ntmps87
  go_wp2_with fail
  generalize ((w.alloc (.cells #[.int .i64 (P : Int), .int .i64 c, .int .i64 h, .int .i64 s] 26)).alloc (.cells #[.slice none 0 0, .slice none 0 0] 34)) = v0 at *
  refine (next_any B g a len cap 4 _ hS (by omega)).mono ?_
  rintro e w1 ⟨r1, rfl, q1, u1, hS, hg⟩
  replace BV := BV.grown hg (by omega)
  replace BR := BR.grown hg (by omega)
  replace hG := grown_trans hG hg
  have hz1 : w.heap.size + 1 < w1.heap.size := BR.lt
  clear hg hb hz
  obtain ⟨x0, x1, x2, x3, xf, xl⟩ := BV.four
  obtain ⟨y0, y1, yf, yl⟩ := BR.two
  by_cases hst : r1 = 0 ∧ 4 ≤ (P : Int)
  · obtain ⟨rfl, p4⟩ := hst
    go_wp2_with fail
    refine (specStartFull_any (P : Int) c h s _ gv p4).mono ?_
    rintro e w2 ⟨g1, g2, xs, ys, rfl, hx, hy, b1, b2, R1, R2, hb2⟩
    have ePn : ((P : Int)).toNat = P := by omega
    rw [ePn] at hx hy ⊢
    have Bx := Blk.new w2 #[.slice (some ⟨g1, 0, none⟩) (P + 1) (P + 1), .slice (some ⟨g2, 0, none⟩) (P + 1) (P + 1)] 34
    have hz2 := hb2.size
    have hl2 := R2.lt
    replace BR := (BR.below hb2).alloc (.cells #[.slice (some ⟨g1, 0, none⟩) (P + 1) (P + 1), .slice (some ⟨g2, 0, none⟩) (P + 1) (P + 1)] 34)
    replace hS := (hS.below hb2).alloc (.cells #[.slice (some ⟨g1, 0, none⟩) (P + 1) (P + 1), .slice (some ⟨g2, 0, none⟩) (P + 1) (P + 1)] 34)
    replace hG := grown_alloc (grown_trans hG (grown_of_below hb2 _)) (.cells #[.slice (some ⟨g1, 0, none⟩) (P + 1) (P + 1), .slice (some ⟨g2, 0, none⟩) (P + 1) (P + 1)] 34)
    clear x0 x1 x2 x3 xf xl y0 y1 yf yl
    obtain ⟨y0, y1, yf, yl⟩ := BR.two
    obtain ⟨t0, t1, tf, tl⟩ := Bx.two
    go_wp2
    refine bodyPost_ret (v := .agg #[.slice (some ⟨g1, 0, none⟩) (P + 1) (P + 1), .slice (some ⟨g2, 0, none⟩) (P + 1) (P + 1)]) (by simp [results, Try.results87, go_sem, y0, y1]) rfl ?_
    exact ⟨g1, g2, xs, ys, rfl, hx, hy, by omega, by omega, by omega, ((R1.alloc _).other (by omega)).other (by omega), ((R2.alloc _).other (by omega)).other (by omega), (hS.set (by omega) (by omega)).set (by omega) (by omega), grown_new (grown_new hG (by omega)) (by omega)⟩
  · have hno : (r1 == 0 && decide (4 ≤ (P : Int))) = false := by
      rw [Bool.and_eq_false_iff, beq_eq_false_iff_ne, decide_eq_false_iff_not]
      by_cases e : r1 = 0
      · exact .inr (fun k => hst ⟨e, k⟩)
      · exact .inl e
    by_cases e1 : r1 = 0
    · subst e1
      have p4 : ¬ (4 ≤ (P : Int)) := fun k => hst ⟨rfl, k⟩
      clear hno hst
      go_wp2_with fail
      refine wp_region_held_drew (S := fun w' => w'.cell? ⟨w.heap.size, 0, none⟩ = some (.int .i64 (P : Int)) ∧ w'.cell? ⟨w.heap.size, 1, none⟩ = some (.int .i64 c) ∧ w'.cell? ⟨w.heap.size, 2, none⟩ = some (.int .i64 h) ∧ w'.cell? ⟨w.heap.size, 3, none⟩ = some (.int .i64 s) ∧ (Blk w' w.heap.size #[.int .i64 (P : Int), .int .i64 c, .int .i64 h, .int .i64 s] 26 ∧ Src B w' g a len cap ∧ w.grownBy w' (some g) ∧ Blk w' (w.heap.size + 1) #[.slice none 0 0, .slice none 0 0] 34)) (by kernel_rfl) ⟨x0, x1, x2, x3, BV.drew, hS.drew, grown_drew hG, BR.drew⟩ (fun hHeld => ?_)
      refine wpAnyH_take (i := 0) (oi := { dst := some 23, op := _, type := _, pos := _, after := _, guard := _ }) (v := ?_) rfl (by kernel_rfl) (by kernel_rfl) (by kernel_rfl) (fun _ _ _ h => h) (Or.inl ⟨by rfl, ?_⟩) (by assumption) ?_
      rotate_left
      · intro w hSw
        (try dsimp only at hSw)
        go_simp
        (try (with_reducible rfl))
      try simp only [Act.put, List.setIfInBounds_toArray, List.set_cons_zero, List.set_cons_succ]
      refine wpAnyH_take (i := 1) (oi := { dst := some 24, op := _, type := _, pos := _, after := _, guard := _ }) (v := ?_) rfl (by kernel_rfl) (by kernel_rfl) (by kernel_rfl) (fun _ _ _ h => h) (Or.inl ⟨by rfl, ?_⟩) (by assumption) ?_
      rotate_left
      · intro w hSw
        (try dsimp only at hSw)
        go_simp
        (try (with_reducible rfl))
      try simp only [Act.put, List.setIfInBounds_toArray, List.set_cons_zero, List.set_cons_succ]
      refine wpAnyH_take (i := 2) (oi := { dst := some 25, op := _, type := _, pos := _, after := _, guard := _ }) (v := ?_) rfl (by kernel_rfl) (by kernel_rfl) (by kernel_rfl) (fun _ _ _ h => h) (Or.inl ⟨by rfl, ?_⟩) (by assumption) ?_
      rotate_left
      · intro w hSw
        (try dsimp only at hSw)
        go_simp
        (try (with_reducible rfl))
      try simp only [Act.put, List.setIfInBounds_toArray, List.set_cons_zero, List.set_cons_succ]
      refine wpAnyH_ready (rs := [3]) (by kernel_rfl) (by simp) ?_
      refine AllReadyH.cons (o := { dst := some 26, op := _, type := _, pos := _, after := _, guard := _ }) rfl (fun K hK => ?_) AllReadyH.nil
      go_simp
      refine (l02Empty_any P c h s _ (by omega)).mono ?_
      rintro e w2 ⟨ge, rfl, hge, RE, hb2⟩
      have hrl : (List.replicate (P + 1) (0 : Int)).length = P + 1 := by simp
      rw [hrl]
      have hz2 := hb2.size
      have hz2d : w1.drew.heap.size = w1.heap.size := rfl
      (try go_wp2_with fail)
      refine hK.out _ _ (heldSD hHeld hb2) (fun hHeld => ?_)
      clear hK K
      try simp only [Act.put, List.setIfInBounds_toArray, List.set_cons_zero, List.set_cons_succ]
      refine wpAnyH_ready (rs := [4]) (by kernel_rfl) (by simp) ?_
      refine AllReadyH.cons (o := { dst := some 27, op := _, type := _, pos := _, after := _, guard := _ }) rfl (fun K hK => ?_) AllReadyH.nil
      go_simp
      refine (drawSide_any B g P ge _ c h s a len cap (List.replicate (P + 1) 0) _ (by omega) (by omega) v2 v3 hrl (by omega) RE hHeld.2.2.2.2.2.1).mono ?_
      rintro e w3 ⟨go1, xs, rfl, hx, hxb, R1, hgo1, hS3, hg3⟩
      have hz3 := hg3.size
      (try go_wp2_with fail)
      refine hK.out _ _ (heldSG hHeld hS3 hg3 hl) (fun hHeld => ?_)
      clear hK K
      try simp only [Act.put, List.setIfInBounds_toArray, List.set_cons_zero, List.set_cons_succ]
      refine wpAnyH_take (i := 5) (oi := { dst := some 7, op := _, type := _, pos := _, after := _, guard := _ }) (v := ?_) rfl (by kernel_rfl) (by kernel_rfl) (by kernel_rfl) (fun _ _ _ h => h) (Or.inl ⟨by rfl, ?_⟩) (by assumption) ?_
      rotate_left
      · intro w hSw
        (try dsimp only at hSw)
        go_simp
        (try (with_reducible rfl))
      try simp only [Act.put, List.setIfInBounds_toArray, List.set_cons_zero, List.set_cons_succ]
      refine wpAnyH_done (by kernel_rfl) ?_ _
      obtain ⟨-, -, -, -, BV3, hSs, hGs, BR3⟩ := hHeld
      clear x0 x1 x2 x3 xf xl y0 y1 yf yl BV BR hG hS hS3 hg3 RE hrl
      obtain ⟨x0, x1, x2, x3, xf, xl⟩ := BV3.four
      go_wp2_with fail
      refine (drawSide_any B g P go1 _ c h s a len cap xs _ (by omega) (by omega) v2 v3 hx (by omega) R1 hSs).mono ?_
      rintro e w4 ⟨go2, ys, rfl, hy, hyb, R2, hgo2, hS, hg4⟩
      have hz4 := hg4.size
      have hlt1 := R1.lt
      replace R1 := R1.grown hg4 (by omega)
      replace BR3 := BR3.grown hg4 (by omega)
      have hG := grown_trans hGs hg4
      have R2L := R2.lt
      have s1 := sum_bound xs hxb
      have s2 := sum_bound ys hyb
      clear x0 x1 x2 x3 xf xl hg4 BV3 hSs hGs
      have i1 := R1.irow
      have i2 := R2.irow
      go_wp2_with fail
      refine (l02Sum_any _ (P + 1) _ xs _ hx (by omega) (fun x h => by have := hxb x h; omega) i1).mono ?_
      rintro e w5 ⟨rfl, rfl⟩
      go_wp2_with fail
      refine (l02Sum_any _ (P + 1) _ ys _ hy (by omega) (fun x h => by have := hyb x h; omega) i2).mono ?_
      rintro e w6 ⟨rfl, rfl⟩
      obtain ⟨X, hX⟩ : ∃ X, xs.sum = X := ⟨_, rfl⟩
      obtain ⟨Y, hY⟩ : ∃ Y, ys.sum = Y := ⟨_, rfl⟩
      rw [hX] at s1 ⊢
      rw [hY] at s2 ⊢
      clear hX hY i1 i2
      have t1 : 0 ≤ X := s1.1
      have t2 : X ≤ 375 := by have := s1.2; omega
      have t3 : 0 ≤ Y := s2.1
      have t4 : Y ≤ 375 := by have := s2.2; omega
      have f0 := fun i => R1.free i
      have c0 := R1.cell 0 (by omega)
      obtain ⟨v, hv⟩ : ∃ v, xs.getD 0 0 = v := ⟨_, rfl⟩
      rw [hv] at c0
      clear hv s1 s2
      by_cases z : X + Y = 0
      · have z' : (X + Y == 0) = true := by rw [beq_iff_eq]; exact z
        obtain ⟨y0, y1, yf, yl⟩ := BR3.two
        go_wp2
        refine bodyPost_ret (v := .agg #[.slice (some ⟨go1, 0, none⟩) (P + 1) (P + 1), .slice (some ⟨go2, 0, none⟩) (P + 1) (P + 1)]) (by simp [results, Try.results87, go_sem, y0, y1]) rfl ?_
        exact ⟨go1, go2, xs.set 0 1, ys, rfl, by simp [hx], hy, by omega, by omega, by omega, ((R1.set 0 1).other (by omega)).other (by omega), ((R2.other (by omega)).other (by omega)).other (by omega), ((hS.set (by omega) (by omega)).set (by omega) (by omega)).set (by omega) (by omega), grown_new (grown_new (grown_new hG (by omega)) (by omega)) (by omega)⟩
      · have z' : (X + Y == 0) = false := by rw [beq_eq_false_iff_ne]; exact z
        obtain ⟨y0, y1, yf, yl⟩ := BR3.two
        go_wp2
        refine bodyPost_ret (v := .agg #[.slice (some ⟨go1, 0, none⟩) (P + 1) (P + 1), .slice (some ⟨go2, 0, none⟩) (P + 1) (P + 1)]) (by simp [results, Try.results87, go_sem, y0, y1]) rfl ?_
        exact ⟨go1, go2, xs, ys, rfl, hx, hy, by omega, by omega, by omega, (R1.other (by omega)).other (by omega), (R2.other (by omega)).other (by omega), (hS.set (by omega) (by omega)).set (by omega) (by omega), grown_new (grown_new hG (by omega)) (by omega)⟩
    · have e2 : (r1 == 0) = false := by rw [beq_eq_false_iff_ne]; exact e1
      clear hno hst
      go_wp2_with fail
      refine wp_region_held_drew (S := fun w' => w'.cell? ⟨w.heap.size, 0, none⟩ = some (.int .i64 (P : Int)) ∧ w'.cell? ⟨w.heap.size, 1, none⟩ = some (.int .i64 c) ∧ w'.cell? ⟨w.heap.size, 2, none⟩ = some (.int .i64 h) ∧ w'.cell? ⟨w.heap.size, 3, none⟩ = some (.int .i64 s) ∧ (Blk w' w.heap.size #[.int .i64 (P : Int), .int .i64 c, .int .i64 h, .int .i64 s] 26 ∧ Src B w' g a len cap ∧ w.grownBy w' (some g) ∧ Blk w' (w.heap.size + 1) #[.slice none 0 0, .slice none 0 0] 34)) (by kernel_rfl) ⟨x0, x1, x2, x3, BV.drew, hS.drew, grown_drew hG, BR.drew⟩ (fun hHeld => ?_)
      refine wpAnyH_take (i := 0) (oi := { dst := some 23, op := _, type := _, pos := _, after := _, guard := _ }) (v := ?_) rfl (by kernel_rfl) (by kernel_rfl) (by kernel_rfl) (fun _ _ _ h => h) (Or.inl ⟨by rfl, ?_⟩) (by assumption) ?_
      rotate_left
      · intro w hSw
        (try dsimp only at hSw)
        go_simp
        (try (with_reducible rfl))
      try simp only [Act.put, List.setIfInBounds_toArray, List.set_cons_zero, List.set_cons_succ]
      refine wpAnyH_take (i := 1) (oi := { dst := some 24, op := _, type := _, pos := _, after := _, guard := _ }) (v := ?_) rfl (by kernel_rfl) (by kernel_rfl) (by kernel_rfl) (fun _ _ _ h => h) (Or.inl ⟨by rfl, ?_⟩) (by assumption) ?_
      rotate_left
      · intro w hSw
        (try dsimp only at hSw)
        go_simp
        (try (with_reducible rfl))
      try simp only [Act.put, List.setIfInBounds_toArray, List.set_cons_zero, List.set_cons_succ]
      refine wpAnyH_take (i := 2) (oi := { dst := some 25, op := _, type := _, pos := _, after := _, guard := _ }) (v := ?_) rfl (by kernel_rfl) (by kernel_rfl) (by kernel_rfl) (fun _ _ _ h => h) (Or.inl ⟨by rfl, ?_⟩) (by assumption) ?_
      rotate_left
      · intro w hSw
        (try dsimp only at hSw)
        go_simp
        (try (with_reducible rfl))
      try simp only [Act.put, List.setIfInBounds_toArray, List.set_cons_zero, List.set_cons_succ]
      refine wpAnyH_ready (rs := [3]) (by kernel_rfl) (by simp) ?_
      refine AllReadyH.cons (o := { dst := some 26, op := _, type := _, pos := _, after := _, guard := _ }) rfl (fun K hK => ?_) AllReadyH.nil
      go_simp
      refine (l02Empty_any P c h s _ (by omega)).mono ?_
      rintro e w2 ⟨ge, rfl, hge, RE, hb2⟩
      have hrl : (List.replicate (P + 1) (0 : Int)).length = P + 1 := by simp
      rw [hrl]
      have hz2 := hb2.size
      have hz2d : w1.drew.heap.size = w1.heap.size := rfl
      (try go_wp2_with fail)
      refine hK.out _ _ (heldSD hHeld hb2) (fun hHeld => ?_)
      clear hK K
      try simp only [Act.put, List.setIfInBounds_toArray, List.set_cons_zero, List.set_cons_succ]
      refine wpAnyH_ready (rs := [4]) (by kernel_rfl) (by simp) ?_
      refine AllReadyH.cons (o := { dst := some 27, op := _, type := _, pos := _, after := _, guard := _ }) rfl (fun K hK => ?_) AllReadyH.nil
      go_simp
      refine (drawSide_any B g P ge _ c h s a len cap (List.replicate (P + 1) 0) _ (by omega) (by omega) v2 v3 hrl (by omega) RE hHeld.2.2.2.2.2.1).mono ?_
      rintro e w3 ⟨go1, xs, rfl, hx, hxb, R1, hgo1, hS3, hg3⟩
      have hz3 := hg3.size
      (try go_wp2_with fail)
      refine hK.out _ _ (heldSG hHeld hS3 hg3 hl) (fun hHeld => ?_)
      clear hK K
      try simp only [Act.put, List.setIfInBounds_toArray, List.set_cons_zero, List.set_cons_succ]
      refine wpAnyH_take (i := 5) (oi := { dst := some 7, op := _, type := _, pos := _, after := _, guard := _ }) (v := ?_) rfl (by kernel_rfl) (by kernel_rfl) (by kernel_rfl) (fun _ _ _ h => h) (Or.inl ⟨by rfl, ?_⟩) (by assumption) ?_
      rotate_left
      · intro w hSw
        (try dsimp only at hSw)
        go_simp
        (try (with_reducible rfl))
      try simp only [Act.put, List.setIfInBounds_toArray, List.set_cons_zero, List.set_cons_succ]
      refine wpAnyH_done (by kernel_rfl) ?_ _
      obtain ⟨-, -, -, -, BV3, hSs, hGs, BR3⟩ := hHeld
      clear x0 x1 x2 x3 xf xl y0 y1 yf yl BV BR hG hS hS3 hg3 RE hrl
      obtain ⟨x0, x1, x2, x3, xf, xl⟩ := BV3.four
      go_wp2_with fail
      refine (drawSide_any B g P go1 _ c h s a len cap xs _ (by omega) (by omega) v2 v3 hx (by omega) R1 hSs).mono ?_
      rintro e w4 ⟨go2, ys, rfl, hy, hyb, R2, hgo2, hS, hg4⟩
      have hz4 := hg4.size
      have hlt1 := R1.lt
      replace R1 := R1.grown hg4 (by omega)
      replace BR3 := BR3.grown hg4 (by omega)
      have hG := grown_trans hGs hg4
      have R2L := R2.lt
      have s1 := sum_bound xs hxb
      have s2 := sum_bound ys hyb
      clear x0 x1 x2 x3 xf xl hg4 BV3 hSs hGs
      have i1 := R1.irow
      have i2 := R2.irow
      go_wp2_with fail
      refine (l02Sum_any _ (P + 1) _ xs _ hx (by omega) (fun x h => by have := hxb x h; omega) i1).mono ?_
      rintro e w5 ⟨rfl, rfl⟩
      go_wp2_with fail
      refine (l02Sum_any _ (P + 1) _ ys _ hy (by omega) (fun x h => by have := hyb x h; omega) i2).mono ?_
      rintro e w6 ⟨rfl, rfl⟩
      obtain ⟨X, hX⟩ : ∃ X, xs.sum = X := ⟨_, rfl⟩
      obtain ⟨Y, hY⟩ : ∃ Y, ys.sum = Y := ⟨_, rfl⟩
      rw [hX] at s1 ⊢
      rw [hY] at s2 ⊢
      clear hX hY i1 i2
      have t1 : 0 ≤ X := s1.1
      have t2 : X ≤ 375 := by have := s1.2; omega
      have t3 : 0 ≤ Y := s2.1
      have t4 : Y ≤ 375 := by have := s2.2; omega
      have f0 := fun i => R1.free i
      have c0 := R1.cell 0 (by omega)
      obtain ⟨v, hv⟩ : ∃ v, xs.getD 0 0 = v := ⟨_, rfl⟩
      rw [hv] at c0
      clear hv s1 s2
      by_cases z : X + Y = 0
      · have z' : (X + Y == 0) = true := by rw [beq_iff_eq]; exact z
        obtain ⟨y0, y1, yf, yl⟩ := BR3.two
        go_wp2
        refine bodyPost_ret (v := .agg #[.slice (some ⟨go1, 0, none⟩) (P + 1) (P + 1), .slice (some ⟨go2, 0, none⟩) (P + 1) (P + 1)]) (by simp [results, Try.results87, go_sem, y0, y1]) rfl ?_
        exact ⟨go1, go2, xs.set 0 1, ys, rfl, by simp [hx], hy, by omega, by omega, by omega, ((R1.set 0 1).other (by omega)).other (by omega), ((R2.other (by omega)).other (by omega)).other (by omega), ((hS.set (by omega) (by omega)).set (by omega) (by omega)).set (by omega) (by omega), grown_new (grown_new (grown_new hG (by omega)) (by omega)) (by omega)⟩
      · have z' : (X + Y == 0) = false := by rw [beq_eq_false_iff_ne]; exact z
        obtain ⟨y0, y1, yf, yl⟩ := BR3.two
        go_wp2
        refine bodyPost_ret (v := .agg #[.slice (some ⟨go1, 0, none⟩) (P + 1) (P + 1), .slice (some ⟨go2, 0, none⟩) (P + 1) (P + 1)]) (by simp [results, Try.results87, go_sem, y0, y1]) rfl ?_
        exact ⟨go1, go2, xs, ys, rfl, hx, hy, by omega, by omega, by omega, (R1.other (by omega)).other (by omega), (R2.other (by omega)).other (by omega), (hS.set (by omega) (by omega)).set (by omega) (by omega), grown_new (grown_new hG (by omega)) (by omega)⟩
end Go.Proofs.Ytjepbhainidpgaa
