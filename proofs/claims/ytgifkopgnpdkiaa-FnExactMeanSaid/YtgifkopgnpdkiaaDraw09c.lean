/- The model's draws of chapter 9: a variant and two exact numbers. -/
import Derived.Test.YtgifkopgnpdkiaaDraw09b
namespace Go.Proofs.Ytgifkopgnpdkiaa
open Go.ChangeShapes Go.WideShapes Go.ChangeAt Go.RowKit
set_option linter.unusedVariables false
set_option linter.unusedSimpArgs false

/-- A variant and two exact numbers have been drawn from a code. -/
def AdNew (w : World) (e : Ending) (w' : World) : Prop := ∃ p c h s xn xd yn yd : Int, e = .returned (.tuple #[.agg #[.int .i64 p, .int .i64 c, .int .i64 h, .int .i64 s], .agg #[.int .i64 xn, .int .i64 xd], .agg #[.int .i64 yn, .int .i64 yd]]) ∧ (-9223372036854775808 ≤ xd ∧ xd ≤ 9223372036854775807) ∧ (-9223372036854775808 ≤ yd ∧ yd ≤ 9223372036854775807) ∧ Below w.heap.size w w'
set_option maxRecDepth 8000 in
set_option maxHeartbeats 1000000 in
theorem drawAdd9_any (B : Nat) (a : Option Addr) (len cap : Nat) (w : World) (hB : B ≤ w.heap.size) (hlen : len ≤ 1048576) (hcode : CodeIn B w a len) :
    Calls Try.prog 34 #[.slice a len cap] w (AdNew w) := by
  obtain ⟨RV, RX, RY, hb, hz⟩ := three_new w #[.int .i64 0, .int .i64 0, .int .i64 0, .int .i64 0] #[.int .i64 0, .int .i64 0] #[.int .i64 0, .int .i64 0] 27 29 29
  have hc1 := hcode.below (hb.mono hB)
  go_enter Try.func34, Try.ntmps34
  go_wp2_with fail
  generalize (((w.alloc (.cells #[.int .i64 0, .int .i64 0, .int .i64 0, .int .i64 0] 27)).alloc (.cells #[.int .i64 0, .int .i64 0] 29)).alloc (.cells #[.int .i64 0, .int .i64 0] 29)) = v0 at *
  refine (from_any B a len cap _ (by omega) hlen hc1).mono ?_
  rintro e w1 ⟨g, rfl, hg, hS, hb1⟩
  replace RV := RV.below hb1
  replace RX := RX.below hb1
  replace RY := RY.below hb1
  replace hb := chain hb hb1
  have hgw : w.heap.size + 1 + 1 < g := by omega
  clear hb1 hc1
  go_wp2_with fail
  refine (draw9Variant_any B g a len cap _ hS).mono ?_
  rintro e w2 ⟨p, c, h, s, rfl, hS, hg2⟩
  have hz2 := hg2.size
  have hl2 := hS.lt
  replace RV := RV.grown hg2 (by omega)
  replace RX := RX.grown hg2 (by omega)
  replace RY := RY.grown hg2 (by omega)
  replace hb := chain_grown hb hg2 (by omega)
  have Bv := Blk.new w2 #[.int .i64 p, .int .i64 c, .int .i64 h, .int .i64 s] 27
  have hv2 := RY.lt
  replace RV := RV.alloc (.cells #[.int .i64 p, .int .i64 c, .int .i64 h, .int .i64 s] 27)
  replace RX := RX.alloc (.cells #[.int .i64 p, .int .i64 c, .int .i64 h, .int .i64 s] 27)
  replace RY := RY.alloc (.cells #[.int .i64 p, .int .i64 c, .int .i64 h, .int .i64 s] 27)
  replace hS := hS.alloc (.cells #[.int .i64 p, .int .i64 c, .int .i64 h, .int .i64 s] 27)
  replace hb := chain_alloc hb (.cells #[.int .i64 p, .int .i64 c, .int .i64 h, .int .i64 s] 27)
  obtain ⟨x0, x1, x2, x3, xf, xl⟩ := Bv.four
  go_wp2_with fail
  clear x0 x1 x2 x3 xf xl
  generalize w2.alloc (.cells #[.int .i64 p, .int .i64 c, .int .i64 h, .int .i64 s] 27) = wv at *
  generalize w2.heap.size = gv at *
  refine (draw9Exact_any B g a len cap p c h s _ hS).mono ?_
  rintro e w3 ⟨xn, xd, rfl, hxd, hS, hg3⟩
  have hz3 := hg3.size
  have hl3 := hS.lt
  replace RV := RV.grown hg3 (by omega)
  replace RX := RX.grown hg3 (by omega)
  replace RY := RY.grown hg3 (by omega)
  replace Bv := Bv.grown hg3 (by omega)
  replace hb := chain_grown hb hg3 (by omega)
  have Bx := Blk.new w3 #[.int .i64 xn, .int .i64 xd] 29
  have hv3 := Bv.lt
  replace RV := RV.alloc (.cells #[.int .i64 xn, .int .i64 xd] 29)
  replace RX := RX.alloc (.cells #[.int .i64 xn, .int .i64 xd] 29)
  replace RY := RY.alloc (.cells #[.int .i64 xn, .int .i64 xd] 29)
  replace Bv := Bv.alloc (.cells #[.int .i64 xn, .int .i64 xd] 29)
  replace hS := hS.alloc (.cells #[.int .i64 xn, .int .i64 xd] 29)
  replace hb := chain_alloc hb (.cells #[.int .i64 xn, .int .i64 xd] 29)
  obtain ⟨x0, x1, x2, x3, xf, xl⟩ := Bv.four
  obtain ⟨z0, z1, zf, zl⟩ := Bx.two
  go_wp2_with fail
  clear x0 x1 x2 x3 xf xl z0 z1 zf zl
  generalize w3.alloc (.cells #[.int .i64 xn, .int .i64 xd] 29) = wx at *
  generalize w3.heap.size = gx at *
  refine wp_region_held_drew (S := fun w' => w'.cell? ⟨gv, 0, none⟩ = some (.int .i64 p) ∧ w'.cell? ⟨gv, 1, none⟩ = some (.int .i64 c) ∧ w'.cell? ⟨gv, 2, none⟩ = some (.int .i64 h) ∧ w'.cell? ⟨gv, 3, none⟩ = some (.int .i64 s) ∧ w'.cell? ⟨gx, 0, none⟩ = some (.int .i64 xn) ∧ w'.cell? ⟨gx, 1, none⟩ = some (.int .i64 xd)) (by kernel_rfl) ⟨(Bv.drew).four.1, (Bv.drew).four.2.1, (Bv.drew).four.2.2.1, (Bv.drew).four.2.2.2.1, (Bx.drew).two.1, (Bx.drew).two.2.1⟩ (fun hHeld => ?_)
  clear hHeld
  replace RV := RV.drew
  replace RX := RX.drew
  replace RY := RY.drew
  replace Bv := Bv.drew
  replace Bx := Bx.drew
  replace hS := hS.drew
  replace hb := hb.drew
  generalize wx.drew = vd at *
  have hHeld : vd.cell? ⟨gv, 0, none⟩ = some (.int .i64 p) ∧ vd.cell? ⟨gv, 1, none⟩ = some (.int .i64 c) ∧ vd.cell? ⟨gv, 2, none⟩ = some (.int .i64 h) ∧ vd.cell? ⟨gv, 3, none⟩ = some (.int .i64 s) ∧ vd.cell? ⟨gx, 0, none⟩ = some (.int .i64 xn) ∧ vd.cell? ⟨gx, 1, none⟩ = some (.int .i64 xd) := ⟨(Bv).four.1, (Bv).four.2.1, (Bv).four.2.2.1, (Bv).four.2.2.2.1, (Bx).two.1, (Bx).two.2.1⟩
  refine wpAnyH_take (i := 0) (oi := { dst := some 15, op := _, type := _, pos := _, after := _, guard := _ }) (v := ?_) rfl (by kernel_rfl) (by kernel_rfl) (by kernel_rfl) (fun _ _ _ h => h) (Or.inl ⟨by rfl, ?_⟩) (by assumption) ?_
  rotate_left
  · intro w hSw
    (try dsimp only at hSw)
    go_simp
    (try (with_reducible rfl))
  try simp only [Act.put, List.setIfInBounds_toArray, List.set_cons_zero, List.set_cons_succ]
  refine wpAnyH_take (i := 1) (oi := { dst := some 16, op := _, type := _, pos := _, after := _, guard := _ }) (v := ?_) rfl (by kernel_rfl) (by kernel_rfl) (by kernel_rfl) (fun _ _ _ h => h) (Or.inl ⟨by rfl, ?_⟩) (by assumption) ?_
  rotate_left
  · intro w hSw
    (try dsimp only at hSw)
    go_simp
    (try (with_reducible rfl))
  try simp only [Act.put, List.setIfInBounds_toArray, List.set_cons_zero, List.set_cons_succ]
  refine wpAnyH_take (i := 2) (oi := { dst := some 17, op := _, type := _, pos := _, after := _, guard := _ }) (v := ?_) rfl (by kernel_rfl) (by kernel_rfl) (by kernel_rfl) (fun _ _ _ h => h) (Or.inl ⟨by rfl, ?_⟩) (by assumption) ?_
  rotate_left
  · intro w hSw
    (try dsimp only at hSw)
    go_simp
    (try (with_reducible rfl))
  try simp only [Act.put, List.setIfInBounds_toArray, List.set_cons_zero, List.set_cons_succ]
  refine wpAnyH_take (i := 3) (oi := { dst := some 18, op := _, type := _, pos := _, after := _, guard := _ }) (v := ?_) rfl (by kernel_rfl) (by kernel_rfl) (by kernel_rfl) (fun _ _ _ h => h) (Or.inl ⟨by rfl, ?_⟩) (by assumption) ?_
  rotate_left
  · intro w hSw
    (try dsimp only at hSw)
    go_simp
    (try (with_reducible rfl))
  try simp only [Act.put, List.setIfInBounds_toArray, List.set_cons_zero, List.set_cons_succ]
  refine wpAnyH_ready (rs := [4]) (by kernel_rfl) (by simp) ?_
  refine AllReadyH.cons (o := { dst := some 19, op := _, type := _, pos := _, after := _, guard := _ }) rfl (fun K hK => ?_) AllReadyH.nil
  go_simp
  refine (draw9Exact_any B g a len cap p c h s _ hS).mono ?_
  rintro e w4 ⟨yn, yd, rfl, hyd, hS4, hg4⟩
  have hz4 := hg4.size
  replace RV := RV.grown hg4 (by omega)
  replace RX := RX.grown hg4 (by omega)
  replace RY := RY.grown hg4 (by omega)
  replace Bv := Bv.grown hg4 (by omega)
  replace Bx := Bx.grown hg4 (by omega)
  replace hb := chain_grown hb hg4 (by omega)
  clear hg4 hS hS4
  (try go_wp2_with fail)
  refine hK.out _ _ ⟨(Bv).four.1, (Bv).four.2.1, (Bv).four.2.2.1, (Bv).four.2.2.2.1, (Bx).two.1, (Bx).two.2.1⟩ (fun hHeld => ?_)
  clear hK K
  try simp only [Act.put, List.setIfInBounds_toArray, List.set_cons_zero, List.set_cons_succ]
  refine wpAnyH_ready (rs := [5]) (by kernel_rfl) (by simp) ?_
  refine AllReadyH.cons (o := { dst := none, op := _, type := _, pos := _, after := _, guard := _ }) rfl (fun K hK => ?_) AllReadyH.nil
  clear hHeld
  obtain ⟨y0, y1, y2, y3, yf, yl⟩ := RV.four
  have SRV := RV.put4 (.int .i64 p) (.int .i64 c) (.int .i64 h) (.int .i64 s)
  have SRX := RX.away4 (B := w.heap.size) (by omega) (.int .i64 p) (.int .i64 c) (.int .i64 h) (.int .i64 s)
  have SRY := RY.away4 (B := w.heap.size) (by omega) (.int .i64 p) (.int .i64 c) (.int .i64 h) (.int .i64 s)
  have SBv := Bv.away4 (B := w.heap.size) (by omega) (.int .i64 p) (.int .i64 c) (.int .i64 h) (.int .i64 s)
  have SBx := Bx.away4 (B := w.heap.size) (by omega) (.int .i64 p) (.int .i64 c) (.int .i64 h) (.int .i64 s)
  have Sb := belowFar4 hb (B := w.heap.size) (Nat.le_refl _) (.int .i64 p) (.int .i64 c) (.int .i64 h) (.int .i64 s)
  go_simp
  (try go_wp2_with fail)
  refine hK.out _ _ ⟨(SBv).four.1, (SBv).four.2.1, (SBv).four.2.2.1, (SBv).four.2.2.2.1, (SBx).two.1, (SBx).two.2.1⟩ (fun hHeld => ?_)
  clear hK K
  try simp only [Act.put, List.setIfInBounds_toArray, List.set_cons_zero, List.set_cons_succ]
  clear y0 y1 y2 y3 yf yl hb RV RX RY Bv Bx
  generalize ((((w4.setCell ⟨w.heap.size, 0, none⟩ (.int .i64 p)).setCell ⟨w.heap.size, 1, none⟩ (.int .i64 c)).setCell ⟨w.heap.size, 2, none⟩ (.int .i64 h)).setCell ⟨w.heap.size, 3, none⟩ (.int .i64 s)) = wS at *
  have RV := SRV
  have RX := SRX
  have RY := SRY
  have Bv := SBv
  have Bx := SBx
  have hb := Sb
  clear Sb SRV SRX SRY SBv SBx
  refine wpAnyH_ready (rs := [6]) (by kernel_rfl) (by simp) ?_
  refine AllReadyH.cons (o := { dst := none, op := _, type := _, pos := _, after := _, guard := _ }) rfl (fun K hK => ?_) AllReadyH.nil
  clear hHeld
  obtain ⟨y0, y1, yf, yl⟩ := RX.two
  have SRX := RX.set2 (.int .i64 xn) (.int .i64 xd)
  have SRV := RV.far2 (B := w.heap.size + 1) (by omega) (.int .i64 xn) (.int .i64 xd)
  have SRY := RY.far2 (B := w.heap.size + 1) (by omega) (.int .i64 xn) (.int .i64 xd)
  have SBv := Bv.far2 (B := w.heap.size + 1) (by omega) (.int .i64 xn) (.int .i64 xd)
  have SBx := Bx.far2 (B := w.heap.size + 1) (by omega) (.int .i64 xn) (.int .i64 xd)
  have Sb := belowFar2 hb (B := w.heap.size + 1) (by omega) (.int .i64 xn) (.int .i64 xd)
  go_simp
  (try go_wp2_with fail)
  refine hK.out _ _ ⟨(SBv).four.1, (SBv).four.2.1, (SBv).four.2.2.1, (SBv).four.2.2.2.1, (SBx).two.1, (SBx).two.2.1⟩ (fun hHeld => ?_)
  clear hK K
  try simp only [Act.put, List.setIfInBounds_toArray, List.set_cons_zero, List.set_cons_succ]
  clear y0 y1 yf yl hb RV RX RY Bv Bx
  generalize ((wS.setCell ⟨w.heap.size + 1, 0, none⟩ (.int .i64 xn)).setCell ⟨w.heap.size + 1, 1, none⟩ (.int .i64 xd)) = wT at *
  have RV := SRV
  have RX := SRX
  have RY := SRY
  have Bv := SBv
  have Bx := SBx
  have hb := Sb
  clear Sb SRV SRX SRY SBv SBx
  refine wpAnyH_ready (rs := [7]) (by kernel_rfl) (by simp) ?_
  refine AllReadyH.cons (o := { dst := none, op := _, type := _, pos := _, after := _, guard := _ }) rfl (fun K hK => ?_) AllReadyH.nil
  clear hHeld
  obtain ⟨y0, y1, yf, yl⟩ := RY.two
  have SRY := RY.set2 (.int .i64 yn) (.int .i64 yd)
  have SRV := RV.far2 (B := w.heap.size + 1 + 1) (by omega) (.int .i64 yn) (.int .i64 yd)
  have SRX := RX.far2 (B := w.heap.size + 1 + 1) (by omega) (.int .i64 yn) (.int .i64 yd)
  have SBv := Bv.far2 (B := w.heap.size + 1 + 1) (by omega) (.int .i64 yn) (.int .i64 yd)
  have SBx := Bx.far2 (B := w.heap.size + 1 + 1) (by omega) (.int .i64 yn) (.int .i64 yd)
  have Sb := belowFar2 hb (B := w.heap.size + 1 + 1) (by omega) (.int .i64 yn) (.int .i64 yd)
  go_simp
  (try go_wp2_with fail)
  refine hK.out _ _ ⟨(SBv).four.1, (SBv).four.2.1, (SBv).four.2.2.1, (SBv).four.2.2.2.1, (SBx).two.1, (SBx).two.2.1⟩ (fun hHeld => ?_)
  clear hK K
  try simp only [Act.put, List.setIfInBounds_toArray, List.set_cons_zero, List.set_cons_succ]
  clear y0 y1 yf yl hb RV RX RY Bv Bx
  generalize ((wT.setCell ⟨w.heap.size + 1 + 1, 0, none⟩ (.int .i64 yn)).setCell ⟨w.heap.size + 1 + 1, 1, none⟩ (.int .i64 yd)) = wU at *
  have RV := SRV
  have RX := SRX
  have RY := SRY
  have Bv := SBv
  have Bx := SBx
  have hb := Sb
  clear Sb SRV SRX SRY SBv SBx
  refine wpAnyH_done (by kernel_rfl) ?_ _
  clear hHeld
  obtain ⟨y0, y1, y2, y3, yf, yl⟩ := RV.four
  obtain ⟨t0, t1, tf, tl⟩ := RX.two
  obtain ⟨v0_, v1_, vf, vl⟩ := RY.two
  (try go_wp2_with fail)
  refine bodyPost_ret (v := .tuple #[.agg #[.int .i64 p, .int .i64 c, .int .i64 h, .int .i64 s], .agg #[.int .i64 xn, .int .i64 xd], .agg #[.int .i64 yn, .int .i64 yd]]) (by simp [results, Try.results34, go_sem, y0, y1, y2, y3, t0, t1, v0_, v1_]) rfl ?_
  exact ⟨_, _, _, _, _, _, _, _, rfl, hxd, hyd, hb⟩
end Go.Proofs.Ytgifkopgnpdkiaa
