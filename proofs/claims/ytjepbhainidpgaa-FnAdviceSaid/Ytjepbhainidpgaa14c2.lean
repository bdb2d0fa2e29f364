/- The racers of a race. -/
import Derived.Test.Ytjepbhainidpgaa14c
namespace Go.Proofs.Ytjepbhainidpgaa
open Go.ChangeShapes Go.WideShapes Go.ChangeAt Go.RowKit
set_option linter.unusedVariables false
set_option linter.unusedSimpArgs false
set_option maxRecDepth 4000

set_option maxRecDepth 8000 in
set_option maxHeartbeats 4000000 in
theorem racersOf_any (p c h s : Int) (a1 a2 : Option Addr) (n1 n2 c1 c2 : Nat) (xs ys : List Int) (w : World) (h1 : xs.length = n1) (h2 : ys.length = n2) (l1 : n1 ≤ 1048576) (l2 : n2 ≤ 1048576) (r1 : IRow w a1 xs) (r2 : IRow w a2 ys) (g : raceB p c h s xs ys = true) :
    Calls Try.prog 38 #[.agg #[.int .i64 p, .int .i64 c, .int .i64 h, .int .i64 s], .agg #[.slice a1 n1 c1, .slice a2 n2 c2]] w fun e w' => ∃ B, e = .returned (.tuple #[.agg #[.int .i64 p, .int .i64 c, .int .i64 h, .int .i64 s, .int .i64 p, fv 79 B, fv 80 B, fv 79 B], .agg #[.int .i64 p, .int .i64 c, .int .i64 h, .int .i64 s, .int .i64 p, fv 79 B, fv 80 B, fv 80 B], .int .i64 0]) ∧ Pays 79 B xs w' ∧ Pays 80 B ys w' ∧ Below w.heap.size w w' := by
  obtain ⟨g, gO, gK⟩ := raceB_parts g
  obtain ⟨BV, BB, BO, BP, hb, hz⟩ := four_new w #[.int .i64 p, .int .i64 c, .int .i64 h, .int .i64 s] #[.slice a1 n1 c1, .slice a2 n2 c2] #[.int .i64 0, .int .i64 0, .int .i64 0, .int .i64 0, .int .i64 0, .nilFunc, .nilFunc, .nilFunc] #[.int .i64 0, .int .i64 0, .int .i64 0, .int .i64 0, .int .i64 0, .nilFunc, .nilFunc, .nilFunc] 26 34 61 61
  obtain ⟨x0, x1, x2, x3, xf, xl⟩ := BV.four; obtain ⟨y0, y1, yf, yl⟩ := BB.two; obtain ⟨u0, u1, u2, u3, u4, u5, u6, u7, uf, ul⟩ := BO.eight; obtain ⟨v0, v1, v2, v3, v4, v5, v6, v7, vf, vl⟩ := BP.eight
  have hB := fun W (q1 : IRow W a1 xs) (q2 : IRow W a2 ys) => isBoard_any p c h s a1 a2 n1 n2 c1 c2 xs ys W h1 h2 l1 l2 q1 q2
  simp only [g] at hB
  have HB := Lib.hid hB
  clear hB
  obtain ⟨p0, p1, k0, k1, k2, k3, N1, N2, hx, hy, s0, s1, s2, s3⟩ := isB_parts g
  have ho := fun B W (q1 : Pays 79 B xs W) (q2 : Pays 80 B ys W) => over_any p 79 80 B xs ys W p0 p1 N1 N2 hx hy q1 q2
  have hct := fun B W (q1 : Pays 79 B xs W) (q2 : Pays 80 B ys W) => contact_any p 79 80 B xs ys W p0 p1 N1 N2 hx hy q1 q2
  rw [gO] at ho
  rw [gK] at hct
  have HO := Lib.hid ho
  have HK := Lib.hid hct
  clear ho hct gO gK hx hy N1 N2 g
  go_enter Try.func38, Try.ntmps38
  go_wp2_with (first | (go_at_call 48; refine (HB.out _ (r1.below hb) (r2.below hb)).mono ?_; rintro e w1 ⟨rfl, hb1⟩; replace BV := BV.below hb1; replace BO := BO.below hb1; replace BP := BP.below hb1; replace hb := chain hb hb1; replace BB := BB.below hb1; clear hb1 x0 x1 x2 x3 xf xl y0 y1 yf yl u0 u1 u2 u3 u4 u5 u6 u7 uf ul v0 v1 v2 v3 v4 v5 v6 v7 vf vl; obtain ⟨x0, x1, x2, x3, xf, xl⟩ := BV.four; obtain ⟨u0, u1, u2, u3, u4, u5, u6, u7, uf, ul⟩ := BO.eight; obtain ⟨v0, v1, v2, v3, v4, v5, v6, v7, vf, vl⟩ := BP.eight; obtain ⟨y0, y1, yf, yl⟩ := BB.two) | (go_at_call 49; refine (countsOf2_any _ c h s a1 a2 n1 c1 n2 c2 _).mono ?_; rintro e w2 ⟨B, rfl, hBg, BQ, hb2⟩; have hBw : w.heap.size + 1 + 1 + 1 < B := Nat.lt_of_lt_of_le BP.lt hBg; replace BV := BV.below hb2; replace BO := BO.below hb2; replace BP := BP.below hb2; replace hb := chain hb hb2; clear hb2 BB hBg x0 x1 x2 x3 xf xl y0 y1 yf yl u0 u1 u2 u3 u4 u5 u6 u7 uf ul v0 v1 v2 v3 v4 v5 v6 v7 vf vl))
  have BC_ := Blk.new w2 #[.int .i64 p, fv 79 B, fv 80 B] 59
  have hCw : w.heap.size + 1 + 1 + 1 < w2.heap.size := BP.lt
  replace BV := BV.alloc (.cells #[.int .i64 p, fv 79 B, fv 80 B] 59)
  replace BO := BO.alloc (.cells #[.int .i64 p, fv 79 B, fv 80 B] 59)
  replace BP := BP.alloc (.cells #[.int .i64 p, fv 79 B, fv 80 B] 59)
  replace BQ := BQ.alloc (.cells #[.int .i64 p, fv 79 B, fv 80 B] 59)
  replace hb := hb.alloc hb.size (.cells #[.int .i64 p, fv 79 B, fv 80 B] 59)
  generalize (w2.alloc (.cells #[.int .i64 p, fv 79 B, fv 80 B] 59)) = w3 at *
  refine (HO.out _ _ (own_pays B a1 a2 n1 c1 n2 c2 xs _ BQ h1 (r1.below hb)) (other_pays B a1 a2 n1 c1 n2 c2 ys _ BQ h2 (r2.below hb))).mono ?_
  rintro e w4 ⟨rfl, hb4⟩
  replace BV := BV.below hb4
  replace BO := BO.below hb4
  replace BP := BP.below hb4
  replace BQ := BQ.below hb4
  replace BC_ := BC_.below hb4
  replace hb := chain hb hb4
  clear hb4
  clear HO
  obtain ⟨z0, z1, z2, zf, zl⟩ := BC_.tri
  go_wp2_with (go_at_call 63; refine (HK.out _ _ (own_pays B a1 a2 n1 c1 n2 c2 xs _ BQ h1 (r1.below hb)) (other_pays B a1 a2 n1 c1 n2 c2 ys _ BQ h2 (r2.below hb))).mono ?_; rintro e w5 ⟨rfl, hb5⟩; clear z0 z1 z2 zf zl; replace BV := BV.below hb5; replace BO := BO.below hb5; replace BP := BP.below hb5; replace BQ := BQ.below hb5; replace BC_ := BC_.below hb5; replace hb := chain hb hb5; clear hb5)
  clear HK
  have hd_ : w5.drew.heap.size = w5.heap.size := rfl
  replace BV := BV.drew
  replace BC_ := BC_.drew
  replace BO := BO.drew
  replace BP := BP.drew
  replace BQ := BQ.drew
  replace hb := hb.drew
  refine wp_region_held_drew (S := fun w' => w'.cell? ⟨w.heap.size, 0, none⟩ = some (.int .i64 p) ∧ w'.cell? ⟨w.heap.size, 1, none⟩ = some (.int .i64 c) ∧ w'.cell? ⟨w.heap.size, 2, none⟩ = some (.int .i64 h) ∧ w'.cell? ⟨w.heap.size, 3, none⟩ = some (.int .i64 s) ∧ w'.cell? ⟨w2.heap.size, 0, none⟩ = some (.int .i64 p) ∧ w'.cell? ⟨w2.heap.size, 1, none⟩ = some (fv 79 B) ∧ w'.cell? ⟨w2.heap.size, 2, none⟩ = some (fv 80 B)) (by kernel_rfl) ⟨BV.four.1, BV.four.2.1, BV.four.2.2.1, BV.four.2.2.2.1, BC_.tri.1, BC_.tri.2.1, BC_.tri.2.2.1⟩ (fun hHeld => ?_)
  clear hHeld
  generalize w5.drew = vd at *
  have hHeld : vd.cell? ⟨w.heap.size, 0, none⟩ = some (.int .i64 p) ∧ vd.cell? ⟨w.heap.size, 1, none⟩ = some (.int .i64 c) ∧ vd.cell? ⟨w.heap.size, 2, none⟩ = some (.int .i64 h) ∧ vd.cell? ⟨w.heap.size, 3, none⟩ = some (.int .i64 s) ∧ vd.cell? ⟨w2.heap.size, 0, none⟩ = some (.int .i64 p) ∧ vd.cell? ⟨w2.heap.size, 1, none⟩ = some (fv 79 B) ∧ vd.cell? ⟨w2.heap.size, 2, none⟩ = some (fv 80 B) := ⟨BV.four.1, BV.four.2.1, BV.four.2.2.1, BV.four.2.2.2.1, BC_.tri.1, BC_.tri.2.1, BC_.tri.2.2.1⟩
  refine wpAnyH_take (i := 0) (oi := { dst := some 25, op := _, type := _, pos := _, after := _, guard := _ }) (v := ?_) rfl (by kernel_rfl) (by kernel_rfl) (by kernel_rfl) (fun _ _ _ h => h) (Or.inl ⟨by rfl, ?_⟩) (by assumption) ?_
  rotate_left
  · intro w hSw
    (try dsimp only at hSw)
    go_simp
    (try (with_reducible rfl))
  try simp only [Act.put, List.setIfInBounds_toArray, List.set_cons_zero, List.set_cons_succ]
  refine wpAnyH_take (i := 1) (oi := { dst := some 26, op := _, type := _, pos := _, after := _, guard := _ }) (v := ?_) rfl (by kernel_rfl) (by kernel_rfl) (by kernel_rfl) (fun _ _ _ h => h) (Or.inl ⟨by rfl, ?_⟩) (by assumption) ?_
  rotate_left
  · intro w hSw
    (try dsimp only at hSw)
    go_simp
    (try (with_reducible rfl))
  try simp only [Act.put, List.setIfInBounds_toArray, List.set_cons_zero, List.set_cons_succ]
  refine wpAnyH_take (i := 2) (oi := { dst := some 27, op := _, type := _, pos := _, after := _, guard := _ }) (v := ?_) rfl (by kernel_rfl) (by kernel_rfl) (by kernel_rfl) (fun _ _ _ h => h) (Or.inl ⟨by rfl, ?_⟩) (by assumption) ?_
  rotate_left
  · intro w hSw
    (try dsimp only at hSw)
    go_simp
    (try (with_reducible rfl))
  try simp only [Act.put, List.setIfInBounds_toArray, List.set_cons_zero, List.set_cons_succ]
  refine wpAnyH_take (i := 3) (oi := { dst := some 28, op := _, type := _, pos := _, after := _, guard := _ }) (v := ?_) rfl (by kernel_rfl) (by kernel_rfl) (by kernel_rfl) (fun _ _ _ h => h) (Or.inl ⟨by rfl, ?_⟩) (by assumption) ?_
  rotate_left
  · intro w hSw
    (try dsimp only at hSw)
    go_simp
    (try (with_reducible rfl))
  try simp only [Act.put, List.setIfInBounds_toArray, List.set_cons_zero, List.set_cons_succ]
  refine wpAnyH_take (i := 4) (oi := { dst := some 29, op := _, type := _, pos := _, after := _, guard := _ }) (v := ?_) rfl (by kernel_rfl) (by kernel_rfl) (by kernel_rfl) (fun _ _ _ h => h) (Or.inl ⟨by rfl, ?_⟩) (by assumption) ?_
  rotate_left
  · intro w hSw
    (try dsimp only at hSw)
    go_simp
    (try (with_reducible rfl))
  try simp only [Act.put, List.setIfInBounds_toArray, List.set_cons_zero, List.set_cons_succ]
  refine wpAnyH_take (i := 5) (oi := { dst := some 30, op := _, type := _, pos := _, after := _, guard := _ }) (v := ?_) rfl (by kernel_rfl) (by kernel_rfl) (by kernel_rfl) (fun _ _ _ h => h) (Or.inl ⟨by rfl, ?_⟩) (by assumption) ?_
  rotate_left
  · intro w hSw
    (try dsimp only at hSw)
    go_simp
    (try (with_reducible rfl))
  try simp only [Act.put, List.setIfInBounds_toArray, List.set_cons_zero, List.set_cons_succ]
  refine wpAnyH_take (i := 6) (oi := { dst := some 31, op := _, type := _, pos := _, after := _, guard := _ }) (v := ?_) rfl (by kernel_rfl) (by kernel_rfl) (by kernel_rfl) (fun _ _ _ h => h) (Or.inl ⟨by rfl, ?_⟩) (by assumption) ?_
  rotate_left
  · intro w hSw
    (try dsimp only at hSw)
    go_simp
    (try (with_reducible rfl))
  try simp only [Act.put, List.setIfInBounds_toArray, List.set_cons_zero, List.set_cons_succ]
  refine wpAnyH_take (i := 7) (oi := { dst := some 32, op := _, type := _, pos := _, after := _, guard := _ }) (v := ?_) rfl (by kernel_rfl) (by kernel_rfl) (by kernel_rfl) (fun _ _ _ h => h) (Or.inl ⟨by rfl, ?_⟩) (by assumption) ?_
  rotate_left
  · intro w hSw
    (try dsimp only at hSw)
    go_simp
    (try (with_reducible rfl))
  try simp only [Act.put, List.setIfInBounds_toArray, List.set_cons_zero, List.set_cons_succ]
  refine wpAnyH_take (i := 8) (oi := { dst := some 33, op := _, type := _, pos := _, after := _, guard := _ }) (v := ?_) rfl (by kernel_rfl) (by kernel_rfl) (by kernel_rfl) (fun _ _ _ h => h) (Or.inl ⟨by rfl, ?_⟩) (by assumption) ?_
  rotate_left
  · intro w hSw
    (try dsimp only at hSw)
    go_simp
    (try (with_reducible rfl))
  try simp only [Act.put, List.setIfInBounds_toArray, List.set_cons_zero, List.set_cons_succ]
  refine wpAnyH_take (i := 9) (oi := { dst := some 34, op := _, type := _, pos := _, after := _, guard := _ }) (v := ?_) rfl (by kernel_rfl) (by kernel_rfl) (by kernel_rfl) (fun _ _ _ h => h) (Or.inl ⟨by rfl, ?_⟩) (by assumption) ?_
  rotate_left
  · intro w hSw
    (try dsimp only at hSw)
    go_simp
    (try (with_reducible rfl))
  try simp only [Act.put, List.setIfInBounds_toArray, List.set_cons_zero, List.set_cons_succ]
  refine wpAnyH_ready (rs := [10]) (by kernel_rfl) (by simp) ?_
  refine AllReadyH.cons (o := { dst := none, op := _, type := _, pos := _, after := _, guard := _ }) rfl (fun K hK => ?_) AllReadyH.nil
  obtain ⟨u0, u1, u2, u3, u4, u5, u6, u7, uf, ul⟩ := BO.eight
  go_simp
  (try go_wp2_with fail)
  refine hK.out _ _ ⟨(BV.farR8 (B := w.heap.size + 1 + 1) (by omega) (.int .i64 p) (.int .i64 c) (.int .i64 h) (.int .i64 s) (.int .i64 p) (fv 79 B) (fv 80 B) (fv 79 B)).four.1, (BV.farR8 (B := w.heap.size + 1 + 1) (by omega) (.int .i64 p) (.int .i64 c) (.int .i64 h) (.int .i64 s) (.int .i64 p) (fv 79 B) (fv 80 B) (fv 79 B)).four.2.1, (BV.farR8 (B := w.heap.size + 1 + 1) (by omega) (.int .i64 p) (.int .i64 c) (.int .i64 h) (.int .i64 s) (.int .i64 p) (fv 79 B) (fv 80 B) (fv 79 B)).four.2.2.1, (BV.farR8 (B := w.heap.size + 1 + 1) (by omega) (.int .i64 p) (.int .i64 c) (.int .i64 h) (.int .i64 s) (.int .i64 p) (fv 79 B) (fv 80 B) (fv 79 B)).four.2.2.2.1, (BC_.farR8 (B := w.heap.size + 1 + 1) (by omega) (.int .i64 p) (.int .i64 c) (.int .i64 h) (.int .i64 s) (.int .i64 p) (fv 79 B) (fv 80 B) (fv 79 B)).tri.1, (BC_.farR8 (B := w.heap.size + 1 + 1) (by omega) (.int .i64 p) (.int .i64 c) (.int .i64 h) (.int .i64 s) (.int .i64 p) (fv 79 B) (fv 80 B) (fv 79 B)).tri.2.1, (BC_.farR8 (B := w.heap.size + 1 + 1) (by omega) (.int .i64 p) (.int .i64 c) (.int .i64 h) (.int .i64 s) (.int .i64 p) (fv 79 B) (fv 80 B) (fv 79 B)).tri.2.2.1⟩ (fun hHeld => ?_)
  clear hK K
  try simp only [Act.put, List.setIfInBounds_toArray, List.set_cons_zero, List.set_cons_succ]
  refine wpAnyH_ready (rs := [11]) (by kernel_rfl) (by simp) ?_
  refine AllReadyH.cons (o := { dst := none, op := _, type := _, pos := _, after := _, guard := _ }) rfl (fun K hK => ?_) AllReadyH.nil
  clear u0 u1 u2 u3 u4 u5 u6 u7 uf ul
  have BO1 := BO.setR8 (.int .i64 p) (.int .i64 c) (.int .i64 h) (.int .i64 s) (.int .i64 p) (fv 79 B) (fv 80 B) (fv 79 B)
  have BP1 := (BP.farR8 (B := w.heap.size + 1 + 1) (by omega) (.int .i64 p) (.int .i64 c) (.int .i64 h) (.int .i64 s) (.int .i64 p) (fv 79 B) (fv 80 B) (fv 79 B))
  have BQ1 := (BQ.farR8 (B := w.heap.size + 1 + 1) (by omega) (.int .i64 p) (.int .i64 c) (.int .i64 h) (.int .i64 s) (.int .i64 p) (fv 79 B) (fv 80 B) (fv 79 B))
  have BV1 := (BV.farR8 (B := w.heap.size + 1 + 1) (by omega) (.int .i64 p) (.int .i64 c) (.int .i64 h) (.int .i64 s) (.int .i64 p) (fv 79 B) (fv 80 B) (fv 79 B))
  have BC_1 := (BC_.farR8 (B := w.heap.size + 1 + 1) (by omega) (.int .i64 p) (.int .i64 c) (.int .i64 h) (.int .i64 s) (.int .i64 p) (fv 79 B) (fv 80 B) (fv 79 B))
  have hb1 := Below.farR8 hb (B := w.heap.size + 1 + 1) (by omega) (.int .i64 p) (.int .i64 c) (.int .i64 h) (.int .i64 s) (.int .i64 p) (fv 79 B) (fv 80 B) (fv 79 B)
  clear BO BP BQ BV BC_ hb
  generalize ((((((((vd.setCell ⟨(w.heap.size + 1 + 1), 0, none⟩ (.int .i64 p)).setCell ⟨(w.heap.size + 1 + 1), 1, none⟩ (.int .i64 c)).setCell ⟨(w.heap.size + 1 + 1), 2, none⟩ (.int .i64 h)).setCell ⟨(w.heap.size + 1 + 1), 3, none⟩ (.int .i64 s)).setCell ⟨(w.heap.size + 1 + 1), 4, none⟩ (.int .i64 p)).setCell ⟨(w.heap.size + 1 + 1), 5, none⟩ (fv 79 B)).setCell ⟨(w.heap.size + 1 + 1), 6, none⟩ (fv 80 B)).setCell ⟨(w.heap.size + 1 + 1), 7, none⟩ (fv 79 B)) = ve at *
  obtain ⟨v0, v1, v2, v3, v4, v5, v6, v7, vf, vl⟩ := BP1.eight
  go_simp
  (try go_wp2_with fail)
  refine hK.out _ _ ⟨(BV1.farR8 (B := w.heap.size + 1 + 1 + 1) (by omega) (.int .i64 p) (.int .i64 c) (.int .i64 h) (.int .i64 s) (.int .i64 p) (fv 79 B) (fv 80 B) (fv 80 B)).four.1, (BV1.farR8 (B := w.heap.size + 1 + 1 + 1) (by omega) (.int .i64 p) (.int .i64 c) (.int .i64 h) (.int .i64 s) (.int .i64 p) (fv 79 B) (fv 80 B) (fv 80 B)).four.2.1, (BV1.farR8 (B := w.heap.size + 1 + 1 + 1) (by omega) (.int .i64 p) (.int .i64 c) (.int .i64 h) (.int .i64 s) (.int .i64 p) (fv 79 B) (fv 80 B) (fv 80 B)).four.2.2.1, (BV1.farR8 (B := w.heap.size + 1 + 1 + 1) (by omega) (.int .i64 p) (.int .i64 c) (.int .i64 h) (.int .i64 s) (.int .i64 p) (fv 79 B) (fv 80 B) (fv 80 B)).four.2.2.2.1, (BC_1.farR8 (B := w.heap.size + 1 + 1 + 1) (by omega) (.int .i64 p) (.int .i64 c) (.int .i64 h) (.int .i64 s) (.int .i64 p) (fv 79 B) (fv 80 B) (fv 80 B)).tri.1, (BC_1.farR8 (B := w.heap.size + 1 + 1 + 1) (by omega) (.int .i64 p) (.int .i64 c) (.int .i64 h) (.int .i64 s) (.int .i64 p) (fv 79 B) (fv 80 B) (fv 80 B)).tri.2.1, (BC_1.farR8 (B := w.heap.size + 1 + 1 + 1) (by omega) (.int .i64 p) (.int .i64 c) (.int .i64 h) (.int .i64 s) (.int .i64 p) (fv 79 B) (fv 80 B) (fv 80 B)).tri.2.2.1⟩ (fun hHeld => ?_)
  clear hK K
  try simp only [Act.put, List.setIfInBounds_toArray, List.set_cons_zero, List.set_cons_succ]
  refine wpAnyH_take (i := 12) (oi := { dst := some 6, op := _, type := _, pos := _, after := _, guard := _ }) (v := ?_) rfl (by kernel_rfl) (by kernel_rfl) (by kernel_rfl) (fun _ _ _ h => h) (Or.inl ⟨by rfl, ?_⟩) (by assumption) ?_
  rotate_left
  · intro w hSw
    (try dsimp only at hSw)
    go_simp
    (try (with_reducible rfl))
  try simp only [Act.put, List.setIfInBounds_toArray, List.set_cons_zero, List.set_cons_succ]
  refine wpAnyH_done (by kernel_rfl) ?_ _
  clear hHeld
  go_wp2
  have MO := (BO1.farR8 (B := w.heap.size + 1 + 1 + 1) (by omega) (.int .i64 p) (.int .i64 c) (.int .i64 h) (.int .i64 s) (.int .i64 p) (fv 79 B) (fv 80 B) (fv 80 B))
  have MP := BP1.setR8 (.int .i64 p) (.int .i64 c) (.int .i64 h) (.int .i64 s) (.int .i64 p) (fv 79 B) (fv 80 B) (fv 80 B)
  have MQ := (BQ1.farR8 (B := w.heap.size + 1 + 1 + 1) (by omega) (.int .i64 p) (.int .i64 c) (.int .i64 h) (.int .i64 s) (.int .i64 p) (fv 79 B) (fv 80 B) (fv 80 B))
  have hM := Below.farR8 hb1 (B := w.heap.size + 1 + 1 + 1) (by omega) (.int .i64 p) (.int .i64 c) (.int .i64 h) (.int .i64 s) (.int .i64 p) (fv 79 B) (fv 80 B) (fv 80 B)
  clear BO1 BP1 BQ1 BV1 BC_1 hb1 v0 v1 v2 v3 v4 v5 v6 v7 vf vl
  generalize ((((((((ve.setCell ⟨(w.heap.size + 1 + 1 + 1), 0, none⟩ (.int .i64 p)).setCell ⟨(w.heap.size + 1 + 1 + 1), 1, none⟩ (.int .i64 c)).setCell ⟨(w.heap.size + 1 + 1 + 1), 2, none⟩ (.int .i64 h)).setCell ⟨(w.heap.size + 1 + 1 + 1), 3, none⟩ (.int .i64 s)).setCell ⟨(w.heap.size + 1 + 1 + 1), 4, none⟩ (.int .i64 p)).setCell ⟨(w.heap.size + 1 + 1 + 1), 5, none⟩ (fv 79 B)).setCell ⟨(w.heap.size + 1 + 1 + 1), 6, none⟩ (fv 80 B)).setCell ⟨(w.heap.size + 1 + 1 + 1), 7, none⟩ (fv 80 B)) = we at *
  obtain ⟨u0, u1, u2, u3, u4, u5, u6, u7, uf, ul⟩ := MO.eight
  obtain ⟨v0, v1, v2, v3, v4, v5, v6, v7, vf, vl⟩ := MP.eight
  refine bodyPost_ret (v := .tuple #[.agg #[.int .i64 p, .int .i64 c, .int .i64 h, .int .i64 s, .int .i64 p, fv 79 B, fv 80 B, fv 79 B], .agg #[.int .i64 p, .int .i64 c, .int .i64 h, .int .i64 s, .int .i64 p, fv 79 B, fv 80 B, fv 80 B], .int .i64 0]) (by simp [results, Try.results38, go_sem, u0, u1, u2, u3, u4, u5, u6, u7, v0, v1, v2, v3, v4, v5, v6, v7]) rfl ?_
  exact ⟨B, rfl, own_pays B a1 a2 n1 c1 n2 c2 xs _ MQ h1 (r1.below hM), other_pays B a1 a2 n1 c1 n2 c2 ys _ MQ h2 (r2.below hM), hM⟩
end Go.Proofs.Ytjepbhainidpgaa
