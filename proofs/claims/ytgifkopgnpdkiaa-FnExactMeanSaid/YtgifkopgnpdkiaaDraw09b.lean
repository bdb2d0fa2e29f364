/- The model's draws of chapter 9: a variant, an exact number, a factor. -/
import Derived.Test.YtgifkopgnpdkiaaDraw09
namespace Go.Proofs.Ytgifkopgnpdkiaa
open Go.ChangeShapes Go.WideShapes Go.ChangeAt Go.RowKit
set_option linter.unusedVariables false
set_option linter.unusedSimpArgs false

theorem Blk.away4 {w : World} {g B : Nat} {vs : Array Value} {t : TypeId} (h : Blk w g vs t) (hne : g ≠ B) (x y z u : Value) : Blk ((((w.setCell ⟨B, 0, none⟩ x).setCell ⟨B, 1, none⟩ y).setCell ⟨B, 2, none⟩ z).setCell ⟨B, 3, none⟩ u) g vs t :=
  (h.far3 hne x y z).other (g := B) (o := 3) (v := u) (by omega)
theorem belowFar4 {w w' : World} {m B : Nat} (h : Below m w w') (hB : m ≤ B) (x y z u : Value) : Below m w ((((w'.setCell ⟨B, 0, none⟩ x).setCell ⟨B, 1, none⟩ y).setCell ⟨B, 2, none⟩ z).setCell ⟨B, 3, none⟩ u) :=
  (belowFar3 h hB x y z).setCell (p := ⟨B, 3, none⟩) hB u
/-- A variant, an exact number and a factor have been drawn from a code. -/
def ScNew (w : World) (e : Ending) (w' : World) : Prop := ∃ p c h s xn xd k : Int, e = .returned (.tuple #[.agg #[.int .i64 p, .int .i64 c, .int .i64 h, .int .i64 s], .agg #[.int .i64 xn, .int .i64 xd], .int .i64 k]) ∧ (-9223372036854775808 ≤ xd ∧ xd ≤ 9223372036854775807) ∧ Below w.heap.size w w'
set_option maxRecDepth 8000 in
set_option maxHeartbeats 1000000 in
theorem drawScale9_any (B : Nat) (a : Option Addr) (len cap : Nat) (w : World) (hB : B ≤ w.heap.size) (hlen : len ≤ 1048576) (hcode : CodeIn B w a len) :
    Calls Try.prog 35 #[.slice a len cap] w (ScNew w) := by
  obtain ⟨RV, RX, hb, hz⟩ := two_new w #[.int .i64 0, .int .i64 0, .int .i64 0, .int .i64 0] #[.int .i64 0, .int .i64 0] 27 29
  have hc1 := hcode.below (hb.mono hB)
  go_enter Try.func35, Try.ntmps35
  go_wp2_with fail
  generalize ((w.alloc (.cells #[.int .i64 0, .int .i64 0, .int .i64 0, .int .i64 0] 27)).alloc (.cells #[.int .i64 0, .int .i64 0] 29)) = v0 at *
  refine (from_any B a len cap _ (by omega) hlen hc1).mono ?_
  rintro e w1 ⟨g, rfl, hg, hS, hb1⟩
  replace RV := RV.below hb1
  replace RX := RX.below hb1
  replace hb := chain hb hb1
  have hgw : w.heap.size + 1 < g := by omega
  clear hb1 hc1
  go_wp2_with fail
  refine (draw9Variant_any B g a len cap _ hS).mono ?_
  rintro e w2 ⟨p, c, h, s, rfl, hS, hg2⟩
  have hz2 := hg2.size
  have hl2 := hS.lt
  replace RV := RV.grown hg2 (by omega)
  replace RX := RX.grown hg2 (by omega)
  replace hb := chain_grown hb hg2 (by omega)
  have Bv := Blk.new w2 #[.int .i64 p, .int .i64 c, .int .i64 h, .int .i64 s] 27
  have hv2 := RX.lt
  replace RV := RV.alloc (.cells #[.int .i64 p, .int .i64 c, .int .i64 h, .int .i64 s] 27)
  replace RX := RX.alloc (.cells #[.int .i64 p, .int .i64 c, .int .i64 h, .int .i64 s] 27)
  replace hS := hS.alloc (.cells #[.int .i64 p, .int .i64 c, .int .i64 h, .int .i64 s] 27)
  replace hb := chain_alloc hb (.cells #[.int .i64 p, .int .i64 c, .int .i64 h, .int .i64 s] 27)
  obtain ⟨x0, x1, x2, x3, xf, xl⟩ := Bv.four
  go_wp2_with fail
  clear x0 x1 x2 x3 xf xl
  generalize w2.alloc (.cells #[.int .i64 p, .int .i64 c, .int .i64 h, .int .i64 s] 27) = wv at *
  generalize w2.heap.size = gv at *
  refine (draw9Exact_any B g a len cap p c h s _ hS).mono ?_
  rintro e w3 ⟨xn, xd, rfl, hxd, hS, hg3⟩
  have hz3 := hg3.size
  have hl3 := hS.lt
  replace RV := RV.grown hg3 (by omega)
  replace RX := RX.grown hg3 (by omega)
  replace Bv := Bv.grown hg3 (by omega)
  replace hb := chain_grown hb hg3 (by omega)
  have Bx := Blk.new w3 #[.int .i64 xn, .int .i64 xd] 29
  have hv3 := Bv.lt
  replace RV := RV.alloc (.cells #[.int .i64 xn, .int .i64 xd] 29)
  replace RX := RX.alloc (.cells #[.int .i64 xn, .int .i64 xd] 29)
  replace Bv := Bv.alloc (.cells #[.int .i64 xn, .int .i64 xd] 29)
  replace hS := hS.alloc (.cells #[.int .i64 xn, .int .i64 xd] 29)
  replace hb := chain_alloc hb (.cells #[.int .i64 xn, .int .i64 xd] 29)
  obtain ⟨x0, x1, x2, x3, xf, xl⟩ := Bv.four
  obtain ⟨z0, z1, zf, zl⟩ := Bx.two
  go_wp2_with fail
  clear x0 x1 x2 x3 xf xl z0 z1 zf zl
  generalize w3.alloc (.cells #[.int .i64 xn, .int .i64 xd] 29) = wx at *
  generalize w3.heap.size = gx at *
  refine wp_region_held_drew (S := fun w' => w'.cell? ⟨gv, 0, none⟩ = some (.int .i64 p) ∧ w'.cell? ⟨gv, 1, none⟩ = some (.int .i64 c) ∧ w'.cell? ⟨gv, 2, none⟩ = some (.int .i64 h) ∧ w'.cell? ⟨gv, 3, none⟩ = some (.int .i64 s) ∧ w'.cell? ⟨gx, 0, none⟩ = some (.int .i64 xn) ∧ w'.cell? ⟨gx, 1, none⟩ = some (.int .i64 xd)) (by kernel_rfl) ⟨(Bv.drew).four.1, (Bv.drew).four.2.1, (Bv.drew).four.2.2.1, (Bv.drew).four.2.2.2.1, (Bx.drew).two.1, (Bx.drew).two.2.1⟩ (fun hHeld => ?_)
  clear hHeld
  replace RV := RV.drew
  replace RX := RX.drew
  replace Bv := Bv.drew
  replace Bx := Bx.drew
  replace hS := hS.drew
  replace hb := hb.drew
  generalize wx.drew = vd at *
  have hHeld : vd.cell? ⟨gv, 0, none⟩ = some (.int .i64 p) ∧ vd.cell? ⟨gv, 1, none⟩ = some (.int .i64 c) ∧ vd.cell? ⟨gv, 2, none⟩ = some (.int .i64 h) ∧ vd.cell? ⟨gv, 3, none⟩ = some (.int .i64 s) ∧ vd.cell? ⟨gx, 0, none⟩ = some (.int .i64 xn) ∧ vd.cell? ⟨gx, 1, none⟩ = some (.int .i64 xd) := ⟨(Bv).four.1, (Bv).four.2.1, (Bv).four.2.2.1, (Bv).four.2.2.2.1, (Bx).two.1, (Bx).two.2.1⟩
  refine wpAnyH_take (i := 0) (oi := { dst := some 15, op := _, type := _, pos := _, after := _, guard := _ }) (v := ?_) rfl (by kernel_rfl) (by kernel_rfl) (by kernel_rfl) (fun _ _ _ h => h) (Or.inl ⟨by rfl, ?_⟩) (by assumption) ?_
  rotate_left
  · intro w hSw
    (try dsimp only at hSw)
    go_simp
    (try (with_reducible rfl))
  try simp only [Act.put, List.setIfInBounds_toArray, List.set_cons_zero, List.set_cons_succ]
  refine wpAnyH_take (i := 1) (oi := { dst := some 16, op := _, type := _, pos := _, after := _, guard := _ }) (v := ?_) rfl (by kernel_rfl) (by kernel_rfl) (by kernel_rfl) (fun _ _ _ h => h) (Or.inl ⟨by rfl, ?_⟩) (by assumption) ?_
  rotate_left
  · intro w hSw
    (try dsimp only at hSw)
    go_simp
    (try (with_reducible rfl))
  try simp only [Act.put, List.setIfInBounds_toArray, List.set_cons_zero, List.set_cons_succ]
  refine wpAnyH_take (i := 2) (oi := { dst := some 17, op := _, type := _, pos := _, after := _, guard := _ }) (v := ?_) rfl (by kernel_rfl) (by kernel_rfl) (by kernel_rfl) (fun _ _ _ h => h) (Or.inl ⟨by rfl, ?_⟩) (by assumption) ?_
  rotate_left
  · intro w hSw
    (try dsimp only at hSw)
    go_simp
    (try (with_reducible rfl))
  try simp only [Act.put, List.setIfInBounds_toArray, List.set_cons_zero, List.set_cons_succ]
  refine wpAnyH_take (i := 6) (oi := { dst := some 21, op := _, type := _, pos := _, after := _, guard := _ }) (v := ?_) rfl (by kernel_rfl) (by kernel_rfl) (by kernel_rfl) (fun _ _ _ h => h) (Or.inl ⟨by rfl, ?_⟩) (by assumption) ?_
  rotate_left
  · intro w hSw
    (try dsimp only at hSw)
    go_simp
    (try (with_reducible rfl))
  try simp only [Act.put, List.setIfInBounds_toArray, List.set_cons_zero, List.set_cons_succ]
  refine wpAnyH_ready (rs := [3]) (by kernel_rfl) (by simp) ?_
  refine AllReadyH.cons (o := { dst := some 18, op := _, type := _, pos := _, after := _, guard := _ }) rfl (fun K hK => ?_) AllReadyH.nil
  go_simp
  refine (next_any B g a len cap 60 _ hS (by omega)).mono ?_
  rintro e w60 ⟨q60, rfl, l60, u60, hS, hg60⟩
  have hz60 := hg60.size
  have hsl60 := hS.lt
  replace RV := RV.grown hg60 (by omega)
  replace RX := RX.grown hg60 (by omega)
  replace Bv := Bv.grown hg60 (by omega)
  replace Bx := Bx.grown hg60 (by omega)
  replace hb := chain_grown hb hg60 (by omega)
  clear hg60
  obtain ⟨r60, hr60⟩ : ∃ r, q60 - 30 = r := ⟨_, rfl⟩
  have wr60 : IntKind.i64.wrap (q60 - 30) = r60 := by rw [IntWalk.i64_in _ (by omega)]; exact hr60
  clear hr60
  (try go_wp2_with fail)
  refine hK.out _ _ ⟨(Bv).four.1, (Bv).four.2.1, (Bv).four.2.2.1, (Bv).four.2.2.2.1, (Bx).two.1, (Bx).two.2.1⟩ (fun hHeld => ?_)
  clear hK K
  try simp only [Act.put, List.setIfInBounds_toArray, List.set_cons_zero, List.set_cons_succ]
  refine wpAnyH_take (i := 4) (oi := { dst := some 19, op := _, type := _, pos := _, after := _, guard := _ }) (v := ?_) rfl (by kernel_rfl) (by kernel_rfl) (by kernel_rfl) (fun _ _ _ h => h) (Or.inl ⟨by rfl, ?_⟩) (by assumption) ?_
  rotate_left
  · intro w hSw
    (try dsimp only at hSw)
    go_simp
    (try (with_reducible rfl))
  try simp only [Act.put, List.setIfInBounds_toArray, List.set_cons_zero, List.set_cons_succ]
  refine wpAnyH_ready (rs := [5, 7]) (by kernel_rfl) (by simp) ?_
  refine AllReadyH.cons (o := { dst := some 20, op := _, type := _, pos := _, after := _, guard := _ }) rfl (fun K hK => ?_) (AllReadyH.cons (o := { dst := some 22, op := _, type := _, pos := _, after := _, guard := _ }) rfl (fun K hK => ?_) AllReadyH.nil)
  · go_simp
    (try go_wp2_with fail)
    refine hK.out _ _ ⟨(Bv.alloc (.cells #[.int .i64 0, .int .i64 1, .int .i64 (-1), .int .i64 2, .int .i64 4, .int .i64 9, .int .i64 36, .int .i64 1000, .int .i64 1001, .int .i64 (-1001), .int .i64 r60] 2)).four.1, (Bv.alloc (.cells #[.int .i64 0, .int .i64 1, .int .i64 (-1), .int .i64 2, .int .i64 4, .int .i64 9, .int .i64 36, .int .i64 1000, .int .i64 1001, .int .i64 (-1001), .int .i64 r60] 2)).four.2.1, (Bv.alloc (.cells #[.int .i64 0, .int .i64 1, .int .i64 (-1), .int .i64 2, .int .i64 4, .int .i64 9, .int .i64 36, .int .i64 1000, .int .i64 1001, .int .i64 (-1001), .int .i64 r60] 2)).four.2.2.1, (Bv.alloc (.cells #[.int .i64 0, .int .i64 1, .int .i64 (-1), .int .i64 2, .int .i64 4, .int .i64 9, .int .i64 36, .int .i64 1000, .int .i64 1001, .int .i64 (-1001), .int .i64 r60] 2)).four.2.2.2.1, (Bx.alloc (.cells #[.int .i64 0, .int .i64 1, .int .i64 (-1), .int .i64 2, .int .i64 4, .int .i64 9, .int .i64 36, .int .i64 1000, .int .i64 1001, .int .i64 (-1001), .int .i64 r60] 2)).two.1, (Bx.alloc (.cells #[.int .i64 0, .int .i64 1, .int .i64 (-1), .int .i64 2, .int .i64 4, .int .i64 9, .int .i64 36, .int .i64 1000, .int .i64 1001, .int .i64 (-1001), .int .i64 r60] 2)).two.2.1⟩ (fun hHeld => ?_)
    clear hK K
    try simp only [Act.put, List.setIfInBounds_toArray, List.set_cons_zero, List.set_cons_succ]
    have BL := Blk.new w60 #[.int .i64 0, .int .i64 1, .int .i64 (-1), .int .i64 2, .int .i64 4, .int .i64 9, .int .i64 36, .int .i64 1000, .int .i64 1001, .int .i64 (-1001), .int .i64 r60] 2
    have lRV_ := RV.lt
    have lRX_ := RX.lt
    have lBv_ := Bv.lt
    have lBx_ := Bx.lt
    have lS_ := hS.lt
    replace RV := RV.alloc (.cells #[.int .i64 0, .int .i64 1, .int .i64 (-1), .int .i64 2, .int .i64 4, .int .i64 9, .int .i64 36, .int .i64 1000, .int .i64 1001, .int .i64 (-1001), .int .i64 r60] 2)
    replace RX := RX.alloc (.cells #[.int .i64 0, .int .i64 1, .int .i64 (-1), .int .i64 2, .int .i64 4, .int .i64 9, .int .i64 36, .int .i64 1000, .int .i64 1001, .int .i64 (-1001), .int .i64 r60] 2)
    replace Bv := Bv.alloc (.cells #[.int .i64 0, .int .i64 1, .int .i64 (-1), .int .i64 2, .int .i64 4, .int .i64 9, .int .i64 36, .int .i64 1000, .int .i64 1001, .int .i64 (-1001), .int .i64 r60] 2)
    replace Bx := Bx.alloc (.cells #[.int .i64 0, .int .i64 1, .int .i64 (-1), .int .i64 2, .int .i64 4, .int .i64 9, .int .i64 36, .int .i64 1000, .int .i64 1001, .int .i64 (-1001), .int .i64 r60] 2)
    replace hS := hS.alloc (.cells #[.int .i64 0, .int .i64 1, .int .i64 (-1), .int .i64 2, .int .i64 4, .int .i64 9, .int .i64 36, .int .i64 1000, .int .i64 1001, .int .i64 (-1001), .int .i64 r60] 2)
    replace hb := chain_alloc hb (.cells #[.int .i64 0, .int .i64 1, .int .i64 (-1), .int .i64 2, .int .i64 4, .int .i64 9, .int .i64 36, .int .i64 1000, .int .i64 1001, .int .i64 (-1001), .int .i64 r60] 2)
    generalize w60.alloc (.cells #[.int .i64 0, .int .i64 1, .int .i64 (-1), .int .i64 2, .int .i64 4, .int .i64 9, .int .i64 36, .int .i64 1000, .int .i64 1001, .int .i64 (-1001), .int .i64 r60] 2) = wL at *
    generalize w60.heap.size = gl at *
    refine wpAnyH_ready (rs := [7]) (by kernel_rfl) (by simp) ?_
    refine AllReadyH.cons (o := { dst := some 22, op := _, type := _, pos := _, after := _, guard := _ }) rfl (fun K hK => ?_) AllReadyH.nil
    go_simp
    refine (next_any B g a len cap 11 _ hS (by omega)).mono ?_
    rintro e w11 ⟨q11, rfl, l11, u11, hS, hg11⟩
    have hz11 := hg11.size
    have hsl11 := hS.lt
    replace RV := RV.grown hg11 (by omega)
    replace RX := RX.grown hg11 (by omega)
    replace Bv := Bv.grown hg11 (by omega)
    replace Bx := Bx.grown hg11 (by omega)
    replace BL := BL.grown hg11 (by omega)
    replace hb := chain_grown hb hg11 (by omega)
    clear hg11
    obtain ⟨i, rfl⟩ := Int.eq_ofNat_of_zero_le l11
    have hi11 : i < 11 := by omega
    have hiI : (i : Int) < 11 := by omega
    (try go_wp2_with fail)
    refine hK.out _ _ ⟨(Bv).four.1, (Bv).four.2.1, (Bv).four.2.2.1, (Bv).four.2.2.2.1, (Bx).two.1, (Bx).two.2.1⟩ (fun hHeld => ?_)
    clear hK K
    try simp only [Act.put, List.setIfInBounds_toArray, List.set_cons_zero, List.set_cons_succ]
    refine wpAnyH_take (i := 8) (oi := { dst := some 23, op := _, type := _, pos := _, after := _, guard := _ }) (v := ?_) rfl (by kernel_rfl) (by kernel_rfl) (by kernel_rfl) (fun _ _ _ h => h) (Or.inl ⟨by rfl, ?_⟩) (by assumption) ?_
    rotate_left
    · intro w hSw
      (try dsimp only at hSw)
      go_simp
      (try (with_reducible rfl))
    try simp only [Act.put, List.setIfInBounds_toArray, List.set_cons_zero, List.set_cons_succ]
    refine wpAnyH_ready (rs := [9, 10]) (by kernel_rfl) (by simp) ?_
    refine AllReadyH.cons (o := { dst := some 24, op := _, type := _, pos := _, after := _, guard := _ }) rfl (fun K hK => ?_) (AllReadyH.cons (o := { dst := none, op := _, type := _, pos := _, after := _, guard := _ }) rfl (fun K hK => ?_) AllReadyH.nil)
    · obtain ⟨n, hn⟩ : ∃ n : Int, w11.cell? ⟨gl, i, none⟩ = some (.int .i64 n) := by
        have hi7 : i = 0 ∨ i = 1 ∨ i = 2 ∨ i = 3 ∨ i = 4 ∨ i = 5 ∨ i = 6 ∨ i = 7 ∨ i = 8 ∨ i = 9 ∨ i = 10 := by omega
        rcases hi7 with rfl | rfl | rfl | rfl | rfl | rfl | rfl | rfl | rfl | rfl | rfl
        · exact ⟨_, by simpa using BL.cell 0⟩
        · exact ⟨_, by simpa using BL.cell 1⟩
        · exact ⟨_, by simpa using BL.cell 2⟩
        · exact ⟨_, by simpa using BL.cell 3⟩
        · exact ⟨_, by simpa using BL.cell 4⟩
        · exact ⟨_, by simpa using BL.cell 5⟩
        · exact ⟨_, by simpa using BL.cell 6⟩
        · exact ⟨_, by simpa using BL.cell 7⟩
        · exact ⟨_, by simpa using BL.cell 8⟩
        · exact ⟨_, by simpa using BL.cell 9⟩
        · exact ⟨_, by simpa using BL.cell 10⟩
      clear BL
      go_simp
      (try go_wp2_with fail)
      refine hK.out _ _ ⟨(Bv).four.1, (Bv).four.2.1, (Bv).four.2.2.1, (Bv).four.2.2.2.1, (Bx).two.1, (Bx).two.2.1⟩ (fun hHeld => ?_)
      clear hK K
      try simp only [Act.put, List.setIfInBounds_toArray, List.set_cons_zero, List.set_cons_succ]
      clear hn
      refine wpAnyH_ready (rs := [10]) (by kernel_rfl) (by simp) ?_
      refine AllReadyH.cons (o := { dst := none, op := _, type := _, pos := _, after := _, guard := _ }) rfl (fun K hK => ?_) AllReadyH.nil
      clear hHeld
      obtain ⟨y0, y1, y2, y3, yf, yl⟩ := RV.four
      have SV := RV.put4 (.int .i64 p) (.int .i64 c) (.int .i64 h) (.int .i64 s)
      have SX := RX.away4 (B := w.heap.size) (by omega) (.int .i64 p) (.int .i64 c) (.int .i64 h) (.int .i64 s)
      have Sv := Bv.away4 (B := w.heap.size) (by omega) (.int .i64 p) (.int .i64 c) (.int .i64 h) (.int .i64 s)
      have Sx := Bx.away4 (B := w.heap.size) (by omega) (.int .i64 p) (.int .i64 c) (.int .i64 h) (.int .i64 s)
      have Sb := belowFar4 hb (B := w.heap.size) (Nat.le_refl _) (.int .i64 p) (.int .i64 c) (.int .i64 h) (.int .i64 s)
      go_simp
      (try go_wp2_with fail)
      refine hK.out _ _ ⟨(Sv).four.1, (Sv).four.2.1, (Sv).four.2.2.1, (Sv).four.2.2.2.1, (Sx).two.1, (Sx).two.2.1⟩ (fun hHeld => ?_)
      clear hK K
      try simp only [Act.put, List.setIfInBounds_toArray, List.set_cons_zero, List.set_cons_succ]
      clear y0 y1 y2 y3 yf yl RV RX Bv Bx hb hS
      generalize ((((w11.setCell ⟨w.heap.size, 0, none⟩ (.int .i64 p)).setCell ⟨w.heap.size, 1, none⟩ (.int .i64 c)).setCell ⟨w.heap.size, 2, none⟩ (.int .i64 h)).setCell ⟨w.heap.size, 3, none⟩ (.int .i64 s)) = wS at *
      have RV := SV
      have RX := SX
      have Bv := Sv
      have Bx := Sx
      have hb := Sb
      clear SV SX Sv Sx Sb
      refine wpAnyH_ready (rs := [11]) (by kernel_rfl) (by simp) ?_
      refine AllReadyH.cons (o := { dst := none, op := _, type := _, pos := _, after := _, guard := _ }) rfl (fun K hK => ?_) AllReadyH.nil
      clear hHeld
      obtain ⟨y0, y1, yf, yl⟩ := RX.two
      have SX := RX.set2 (.int .i64 xn) (.int .i64 xd)
      have SV := RV.far2 (B := w.heap.size + 1) (by omega) (.int .i64 xn) (.int .i64 xd)
      have Sv := Bv.far2 (B := w.heap.size + 1) (by omega) (.int .i64 xn) (.int .i64 xd)
      have Sx := Bx.far2 (B := w.heap.size + 1) (by omega) (.int .i64 xn) (.int .i64 xd)
      have Sb := belowFar2 hb (B := w.heap.size + 1) (by omega) (.int .i64 xn) (.int .i64 xd)
      go_simp
      (try go_wp2_with fail)
      refine hK.out _ _ ⟨(Sv).four.1, (Sv).four.2.1, (Sv).four.2.2.1, (Sv).four.2.2.2.1, (Sx).two.1, (Sx).two.2.1⟩ (fun hHeld => ?_)
      clear hK K
      try simp only [Act.put, List.setIfInBounds_toArray, List.set_cons_zero, List.set_cons_succ]
      clear y0 y1 yf yl RV RX Bv Bx hb
      generalize ((wS.setCell ⟨w.heap.size + 1, 0, none⟩ (.int .i64 xn)).setCell ⟨w.heap.size + 1, 1, none⟩ (.int .i64 xd)) = wT at *
      have RV := SV
      have RX := SX
      have Bv := Sv
      have Bx := Sx
      have hb := Sb
      clear SV SX Sv Sx Sb
      refine wpAnyH_take (i := 12) (oi := { dst := some 4, op := _, type := _, pos := _, after := _, guard := _ }) (v := ?_) rfl (by kernel_rfl) (by kernel_rfl) (by kernel_rfl) (fun _ _ _ h => h) (Or.inl ⟨by rfl, ?_⟩) (by assumption) ?_
      rotate_left
      · intro w hSw
        (try dsimp only at hSw)
        go_simp
        (try (with_reducible rfl))
      try simp only [Act.put, List.setIfInBounds_toArray, List.set_cons_zero, List.set_cons_succ]
      refine wpAnyH_done (by kernel_rfl) ?_ _
      clear hHeld
      obtain ⟨y0, y1, y2, y3, yf, yl⟩ := RV.four
      obtain ⟨t0, t1, tf, tl⟩ := RX.two
      (try go_wp2_with fail)
      refine bodyPost_ret (v := .tuple #[.agg #[.int .i64 p, .int .i64 c, .int .i64 h, .int .i64 s], .agg #[.int .i64 xn, .int .i64 xd], .int .i64 n]) (by simp [results, Try.results35, go_sem, y0, y1, y2, y3, t0, t1]) rfl ?_
      exact ⟨_, _, _, _, _, _, _, rfl, hxd, hb⟩
    · clear hHeld
      obtain ⟨y0, y1, y2, y3, yf, yl⟩ := RV.four
      have SV := RV.put4 (.int .i64 p) (.int .i64 c) (.int .i64 h) (.int .i64 s)
      have SX := RX.away4 (B := w.heap.size) (by omega) (.int .i64 p) (.int .i64 c) (.int .i64 h) (.int .i64 s)
      have Sv := Bv.away4 (B := w.heap.size) (by omega) (.int .i64 p) (.int .i64 c) (.int .i64 h) (.int .i64 s)
      have Sx := Bx.away4 (B := w.heap.size) (by omega) (.int .i64 p) (.int .i64 c) (.int .i64 h) (.int .i64 s)
      have Sb := belowFar4 hb (B := w.heap.size) (Nat.le_refl _) (.int .i64 p) (.int .i64 c) (.int .i64 h) (.int .i64 s)
      have SL := BL.away4 (B := w.heap.size) (by omega) (.int .i64 p) (.int .i64 c) (.int .i64 h) (.int .i64 s)
      go_simp
      (try go_wp2_with fail)
      refine hK.out _ _ ⟨(Sv).four.1, (Sv).four.2.1, (Sv).four.2.2.1, (Sv).four.2.2.2.1, (Sx).two.1, (Sx).two.2.1⟩ (fun hHeld => ?_)
      clear hK K
      try simp only [Act.put, List.setIfInBounds_toArray, List.set_cons_zero, List.set_cons_succ]
      clear y0 y1 y2 y3 yf yl RV RX Bv Bx hb hS BL
      generalize ((((w11.setCell ⟨w.heap.size, 0, none⟩ (.int .i64 p)).setCell ⟨w.heap.size, 1, none⟩ (.int .i64 c)).setCell ⟨w.heap.size, 2, none⟩ (.int .i64 h)).setCell ⟨w.heap.size, 3, none⟩ (.int .i64 s)) = wS at *
      have RV := SV
      have RX := SX
      have Bv := Sv
      have Bx := Sx
      have hb := Sb
      clear SV SX Sv Sx Sb
      have BL := SL
      clear SL
      refine wpAnyH_ready (rs := [9, 11]) (by kernel_rfl) (by simp) ?_
      refine AllReadyH.cons (o := { dst := some 24, op := _, type := _, pos := _, after := _, guard := _ }) rfl (fun K hK => ?_) (AllReadyH.cons (o := { dst := none, op := _, type := _, pos := _, after := _, guard := _ }) rfl (fun K hK => ?_) AllReadyH.nil)
      · obtain ⟨n, hn⟩ : ∃ n : Int, wS.cell? ⟨gl, i, none⟩ = some (.int .i64 n) := by
          have hi7 : i = 0 ∨ i = 1 ∨ i = 2 ∨ i = 3 ∨ i = 4 ∨ i = 5 ∨ i = 6 ∨ i = 7 ∨ i = 8 ∨ i = 9 ∨ i = 10 := by omega
          rcases hi7 with rfl | rfl | rfl | rfl | rfl | rfl | rfl | rfl | rfl | rfl | rfl
          · exact ⟨_, by simpa using BL.cell 0⟩
          · exact ⟨_, by simpa using BL.cell 1⟩
          · exact ⟨_, by simpa using BL.cell 2⟩
          · exact ⟨_, by simpa using BL.cell 3⟩
          · exact ⟨_, by simpa using BL.cell 4⟩
          · exact ⟨_, by simpa using BL.cell 5⟩
          · exact ⟨_, by simpa using BL.cell 6⟩
          · exact ⟨_, by simpa using BL.cell 7⟩
          · exact ⟨_, by simpa using BL.cell 8⟩
          · exact ⟨_, by simpa using BL.cell 9⟩
          · exact ⟨_, by simpa using BL.cell 10⟩
        clear BL
        go_simp
        (try go_wp2_with fail)
        refine hK.out _ _ ⟨(Bv).four.1, (Bv).four.2.1, (Bv).four.2.2.1, (Bv).four.2.2.2.1, (Bx).two.1, (Bx).two.2.1⟩ (fun hHeld => ?_)
        clear hK K
        try simp only [Act.put, List.setIfInBounds_toArray, List.set_cons_zero, List.set_cons_succ]
        clear hn
        refine wpAnyH_ready (rs := [11]) (by kernel_rfl) (by simp) ?_
        refine AllReadyH.cons (o := { dst := none, op := _, type := _, pos := _, after := _, guard := _ }) rfl (fun K hK => ?_) AllReadyH.nil
        clear hHeld
        obtain ⟨y0, y1, yf, yl⟩ := RX.two
        have SX := RX.set2 (.int .i64 xn) (.int .i64 xd)
        have SV := RV.far2 (B := w.heap.size + 1) (by omega) (.int .i64 xn) (.int .i64 xd)
        have Sv := Bv.far2 (B := w.heap.size + 1) (by omega) (.int .i64 xn) (.int .i64 xd)
        have Sx := Bx.far2 (B := w.heap.size + 1) (by omega) (.int .i64 xn) (.int .i64 xd)
        have Sb := belowFar2 hb (B := w.heap.size + 1) (by omega) (.int .i64 xn) (.int .i64 xd)
        go_simp
        (try go_wp2_with fail)
        refine hK.out _ _ ⟨(Sv).four.1, (Sv).four.2.1, (Sv).four.2.2.1, (Sv).four.2.2.2.1, (Sx).two.1, (Sx).two.2.1⟩ (fun hHeld => ?_)
        clear hK K
        try simp only [Act.put, List.setIfInBounds_toArray, List.set_cons_zero, List.set_cons_succ]
        clear y0 y1 yf yl RV RX Bv Bx hb
        generalize ((wS.setCell ⟨w.heap.size + 1, 0, none⟩ (.int .i64 xn)).setCell ⟨w.heap.size + 1, 1, none⟩ (.int .i64 xd)) = wT at *
        have RV := SV
        have RX := SX
        have Bv := Sv
        have Bx := Sx
        have hb := Sb
        clear SV SX Sv Sx Sb
        refine wpAnyH_take (i := 12) (oi := { dst := some 4, op := _, type := _, pos := _, after := _, guard := _ }) (v := ?_) rfl (by kernel_rfl) (by kernel_rfl) (by kernel_rfl) (fun _ _ _ h => h) (Or.inl ⟨by rfl, ?_⟩) (by assumption) ?_
        rotate_left
        · intro w hSw
          (try dsimp only at hSw)
          go_simp
          (try (with_reducible rfl))
        try simp only [Act.put, List.setIfInBounds_toArray, List.set_cons_zero, List.set_cons_succ]
        refine wpAnyH_done (by kernel_rfl) ?_ _
        clear hHeld
        obtain ⟨y0, y1, y2, y3, yf, yl⟩ := RV.four
        obtain ⟨t0, t1, tf, tl⟩ := RX.two
        (try go_wp2_with fail)
        refine bodyPost_ret (v := .tuple #[.agg #[.int .i64 p, .int .i64 c, .int .i64 h, .int .i64 s], .agg #[.int .i64 xn, .int .i64 xd], .int .i64 n]) (by simp [results, Try.results35, go_sem, y0, y1, y2, y3, t0, t1]) rfl ?_
        exact ⟨_, _, _, _, _, _, _, rfl, hxd, hb⟩
      · clear hHeld
        obtain ⟨y0, y1, yf, yl⟩ := RX.two
        have SX := RX.set2 (.int .i64 xn) (.int .i64 xd)
        have SV := RV.far2 (B := w.heap.size + 1) (by omega) (.int .i64 xn) (.int .i64 xd)
        have Sv := Bv.far2 (B := w.heap.size + 1) (by omega) (.int .i64 xn) (.int .i64 xd)
        have Sx := Bx.far2 (B := w.heap.size + 1) (by omega) (.int .i64 xn) (.int .i64 xd)
        have Sb := belowFar2 hb (B := w.heap.size + 1) (by omega) (.int .i64 xn) (.int .i64 xd)
        have SL := BL.far2 (B := w.heap.size + 1) (by omega) (.int .i64 xn) (.int .i64 xd)
        go_simp
        (try go_wp2_with fail)
        refine hK.out _ _ ⟨(Sv).four.1, (Sv).four.2.1, (Sv).four.2.2.1, (Sv).four.2.2.2.1, (Sx).two.1, (Sx).two.2.1⟩ (fun hHeld => ?_)
        clear hK K
        try simp only [Act.put, List.setIfInBounds_toArray, List.set_cons_zero, List.set_cons_succ]
        clear y0 y1 yf yl RV RX Bv Bx hb BL
        generalize ((wS.setCell ⟨w.heap.size + 1, 0, none⟩ (.int .i64 xn)).setCell ⟨w.heap.size + 1, 1, none⟩ (.int .i64 xd)) = wT at *
        have RV := SV
        have RX := SX
        have Bv := Sv
        have Bx := Sx
        have hb := Sb
        clear SV SX Sv Sx Sb
        have BL := SL
        clear SL
        refine wpAnyH_ready (rs := [9]) (by kernel_rfl) (by simp) ?_
        refine AllReadyH.cons (o := { dst := some 24, op := _, type := _, pos := _, after := _, guard := _ }) rfl (fun K hK => ?_) AllReadyH.nil
        obtain ⟨n, hn⟩ : ∃ n : Int, wT.cell? ⟨gl, i, none⟩ = some (.int .i64 n) := by
          have hi7 : i = 0 ∨ i = 1 ∨ i = 2 ∨ i = 3 ∨ i = 4 ∨ i = 5 ∨ i = 6 ∨ i = 7 ∨ i = 8 ∨ i = 9 ∨ i = 10 := by omega
          rcases hi7 with rfl | rfl | rfl | rfl | rfl | rfl | rfl | rfl | rfl | rfl | rfl
          · exact ⟨_, by simpa using BL.cell 0⟩
          · exact ⟨_, by simpa using BL.cell 1⟩
          · exact ⟨_, by simpa using BL.cell 2⟩
          · exact ⟨_, by simpa using BL.cell 3⟩
          · exact ⟨_, by simpa using BL.cell 4⟩
          · exact ⟨_, by simpa using BL.cell 5⟩
          · exact ⟨_, by simpa using BL.cell 6⟩
          · exact ⟨_, by simpa using BL.cell 7⟩
          · exact ⟨_, by simpa using BL.cell 8⟩
          · exact ⟨_, by simpa using BL.cell 9⟩
          · exact ⟨_, by simpa using BL.cell 10⟩
        clear BL
        go_simp
        (try go_wp2_with fail)
        refine hK.out _ _ ⟨(Bv).four.1, (Bv).four.2.1, (Bv).four.2.2.1, (Bv).four.2.2.2.1, (Bx).two.1, (Bx).two.2.1⟩ (fun hHeld => ?_)
        clear hK K
        try simp only [Act.put, List.setIfInBounds_toArray, List.set_cons_zero, List.set_cons_succ]
        clear hn
        refine wpAnyH_take (i := 12) (oi := { dst := some 4, op := _, type := _, pos := _, after := _, guard := _ }) (v := ?_) rfl (by kernel_rfl) (by kernel_rfl) (by kernel_rfl) (fun _ _ _ h => h) (Or.inl ⟨by rfl, ?_⟩) (by assumption) ?_
        rotate_left
        · intro w hSw
          (try dsimp only at hSw)
          go_simp
          (try (with_reducible rfl))
        try simp only [Act.put, List.setIfInBounds_toArray, List.set_cons_zero, List.set_cons_succ]
        refine wpAnyH_done (by kernel_rfl) ?_ _
        clear hHeld
        obtain ⟨y0, y1, y2, y3, yf, yl⟩ := RV.four
        obtain ⟨t0, t1, tf, tl⟩ := RX.two
        (try go_wp2_with fail)
        refine bodyPost_ret (v := .tuple #[.agg #[.int .i64 p, .int .i64 c, .int .i64 h, .int .i64 s], .agg #[.int .i64 xn, .int .i64 xd], .int .i64 n]) (by simp [results, Try.results35, go_sem, y0, y1, y2, y3, t0, t1]) rfl ?_
        exact ⟨_, _, _, _, _, _, _, rfl, hxd, hb⟩
  · go_simp
    refine (next_any B g a len cap 11 _ hS (by omega)).mono ?_
    rintro e w11 ⟨q11, rfl, l11, u11, hS, hg11⟩
    have hz11 := hg11.size
    have hsl11 := hS.lt
    replace RV := RV.grown hg11 (by omega)
    replace RX := RX.grown hg11 (by omega)
    replace Bv := Bv.grown hg11 (by omega)
    replace Bx := Bx.grown hg11 (by omega)
    replace hb := chain_grown hb hg11 (by omega)
    clear hg11
    obtain ⟨i, rfl⟩ := Int.eq_ofNat_of_zero_le l11
    have hi11 : i < 11 := by omega
    have hiI : (i : Int) < 11 := by omega
    (try go_wp2_with fail)
    refine hK.out _ _ ⟨(Bv).four.1, (Bv).four.2.1, (Bv).four.2.2.1, (Bv).four.2.2.2.1, (Bx).two.1, (Bx).two.2.1⟩ (fun hHeld => ?_)
    clear hK K
    try simp only [Act.put, List.setIfInBounds_toArray, List.set_cons_zero, List.set_cons_succ]
    refine wpAnyH_ready (rs := [5, 10]) (by kernel_rfl) (by simp) ?_
    refine AllReadyH.cons (o := { dst := some 20, op := _, type := _, pos := _, after := _, guard := _ }) rfl (fun K hK => ?_) (AllReadyH.cons (o := { dst := none, op := _, type := _, pos := _, after := _, guard := _ }) rfl (fun K hK => ?_) AllReadyH.nil)
    · go_simp
      (try go_wp2_with fail)
      refine hK.out _ _ ⟨(Bv.alloc (.cells #[.int .i64 0, .int .i64 1, .int .i64 (-1), .int .i64 2, .int .i64 4, .int .i64 9, .int .i64 36, .int .i64 1000, .int .i64 1001, .int .i64 (-1001), .int .i64 r60] 2)).four.1, (Bv.alloc (.cells #[.int .i64 0, .int .i64 1, .int .i64 (-1), .int .i64 2, .int .i64 4, .int .i64 9, .int .i64 36, .int .i64 1000, .int .i64 1001, .int .i64 (-1001), .int .i64 r60] 2)).four.2.1, (Bv.alloc (.cells #[.int .i64 0, .int .i64 1, .int .i64 (-1), .int .i64 2, .int .i64 4, .int .i64 9, .int .i64 36, .int .i64 1000, .int .i64 1001, .int .i64 (-1001), .int .i64 r60] 2)).four.2.2.1, (Bv.alloc (.cells #[.int .i64 0, .int .i64 1, .int .i64 (-1), .int .i64 2, .int .i64 4, .int .i64 9, .int .i64 36, .int .i64 1000, .int .i64 1001, .int .i64 (-1001), .int .i64 r60] 2)).four.2.2.2.1, (Bx.alloc (.cells #[.int .i64 0, .int .i64 1, .int .i64 (-1), .int .i64 2, .int .i64 4, .int .i64 9, .int .i64 36, .int .i64 1000, .int .i64 1001, .int .i64 (-1001), .int .i64 r60] 2)).two.1, (Bx.alloc (.cells #[.int .i64 0, .int .i64 1, .int .i64 (-1), .int .i64 2, .int .i64 4, .int .i64 9, .int .i64 36, .int .i64 1000, .int .i64 1001, .int .i64 (-1001), .int .i64 r60] 2)).two.2.1⟩ (fun hHeld => ?_)
      clear hK K
      try simp only [Act.put, List.setIfInBounds_toArray, List.set_cons_zero, List.set_cons_succ]
      have BL := Blk.new w11 #[.int .i64 0, .int .i64 1, .int .i64 (-1), .int .i64 2, .int .i64 4, .int .i64 9, .int .i64 36, .int .i64 1000, .int .i64 1001, .int .i64 (-1001), .int .i64 r60] 2
      have lRV_ := RV.lt
      have lRX_ := RX.lt
      have lBv_ := Bv.lt
      have lBx_ := Bx.lt
      have lS_ := hS.lt
      replace RV := RV.alloc (.cells #[.int .i64 0, .int .i64 1, .int .i64 (-1), .int .i64 2, .int .i64 4, .int .i64 9, .int .i64 36, .int .i64 1000, .int .i64 1001, .int .i64 (-1001), .int .i64 r60] 2)
      replace RX := RX.alloc (.cells #[.int .i64 0, .int .i64 1, .int .i64 (-1), .int .i64 2, .int .i64 4, .int .i64 9, .int .i64 36, .int .i64 1000, .int .i64 1001, .int .i64 (-1001), .int .i64 r60] 2)
      replace Bv := Bv.alloc (.cells #[.int .i64 0, .int .i64 1, .int .i64 (-1), .int .i64 2, .int .i64 4, .int .i64 9, .int .i64 36, .int .i64 1000, .int .i64 1001, .int .i64 (-1001), .int .i64 r60] 2)
      replace Bx := Bx.alloc (.cells #[.int .i64 0, .int .i64 1, .int .i64 (-1), .int .i64 2, .int .i64 4, .int .i64 9, .int .i64 36, .int .i64 1000, .int .i64 1001, .int .i64 (-1001), .int .i64 r60] 2)
      replace hS := hS.alloc (.cells #[.int .i64 0, .int .i64 1, .int .i64 (-1), .int .i64 2, .int .i64 4, .int .i64 9, .int .i64 36, .int .i64 1000, .int .i64 1001, .int .i64 (-1001), .int .i64 r60] 2)
      replace hb := chain_alloc hb (.cells #[.int .i64 0, .int .i64 1, .int .i64 (-1), .int .i64 2, .int .i64 4, .int .i64 9, .int .i64 36, .int .i64 1000, .int .i64 1001, .int .i64 (-1001), .int .i64 r60] 2)
      generalize w11.alloc (.cells #[.int .i64 0, .int .i64 1, .int .i64 (-1), .int .i64 2, .int .i64 4, .int .i64 9, .int .i64 36, .int .i64 1000, .int .i64 1001, .int .i64 (-1001), .int .i64 r60] 2) = wL at *
      generalize w11.heap.size = gl at *
      refine wpAnyH_take (i := 8) (oi := { dst := some 23, op := _, type := _, pos := _, after := _, guard := _ }) (v := ?_) rfl (by kernel_rfl) (by kernel_rfl) (by kernel_rfl) (fun _ _ _ h => h) (Or.inl ⟨by rfl, ?_⟩) (by assumption) ?_
      rotate_left
      · intro w hSw
        (try dsimp only at hSw)
        go_simp
        (try (with_reducible rfl))
      try simp only [Act.put, List.setIfInBounds_toArray, List.set_cons_zero, List.set_cons_succ]
      refine wpAnyH_ready (rs := [9, 10]) (by kernel_rfl) (by simp) ?_
      refine AllReadyH.cons (o := { dst := some 24, op := _, type := _, pos := _, after := _, guard := _ }) rfl (fun K hK => ?_) (AllReadyH.cons (o := { dst := none, op := _, type := _, pos := _, after := _, guard := _ }) rfl (fun K hK => ?_) AllReadyH.nil)
      · obtain ⟨n, hn⟩ : ∃ n : Int, wL.cell? ⟨gl, i, none⟩ = some (.int .i64 n) := by
          have hi7 : i = 0 ∨ i = 1 ∨ i = 2 ∨ i = 3 ∨ i = 4 ∨ i = 5 ∨ i = 6 ∨ i = 7 ∨ i = 8 ∨ i = 9 ∨ i = 10 := by omega
          rcases hi7 with rfl | rfl | rfl | rfl | rfl | rfl | rfl | rfl | rfl | rfl | rfl
          · exact ⟨_, by simpa using BL.cell 0⟩
          · exact ⟨_, by simpa using BL.cell 1⟩
          · exact ⟨_, by simpa using BL.cell 2⟩
          · exact ⟨_, by simpa using BL.cell 3⟩
          · exact ⟨_, by simpa using BL.cell 4⟩
          · exact ⟨_, by simpa using BL.cell 5⟩
          · exact ⟨_, by simpa using BL.cell 6⟩
          · exact ⟨_, by simpa using BL.cell 7⟩
          · exact ⟨_, by simpa using BL.cell 8⟩
          · exact ⟨_, by simpa using BL.cell 9⟩
          · exact ⟨_, by simpa using BL.cell 10⟩
        clear BL
        go_simp
        (try go_wp2_with fail)
        refine hK.out _ _ ⟨(Bv).four.1, (Bv).four.2.1, (Bv).four.2.2.1, (Bv).four.2.2.2.1, (Bx).two.1, (Bx).two.2.1⟩ (fun hHeld => ?_)
        clear hK K
        try simp only [Act.put, List.setIfInBounds_toArray, List.set_cons_zero, List.set_cons_succ]
        clear hn
        refine wpAnyH_ready (rs := [10]) (by kernel_rfl) (by simp) ?_
        refine AllReadyH.cons (o := { dst := none, op := _, type := _, pos := _, after := _, guard := _ }) rfl (fun K hK => ?_) AllReadyH.nil
        clear hHeld
        obtain ⟨y0, y1, y2, y3, yf, yl⟩ := RV.four
        have SV := RV.put4 (.int .i64 p) (.int .i64 c) (.int .i64 h) (.int .i64 s)
        have SX := RX.away4 (B := w.heap.size) (by omega) (.int .i64 p) (.int .i64 c) (.int .i64 h) (.int .i64 s)
        have Sv := Bv.away4 (B := w.heap.size) (by omega) (.int .i64 p) (.int .i64 c) (.int .i64 h) (.int .i64 s)
        have Sx := Bx.away4 (B := w.heap.size) (by omega) (.int .i64 p) (.int .i64 c) (.int .i64 h) (.int .i64 s)
        have Sb := belowFar4 hb (B := w.heap.size) (Nat.le_refl _) (.int .i64 p) (.int .i64 c) (.int .i64 h) (.int .i64 s)
        go_simp
        (try go_wp2_with fail)
        refine hK.out _ _ ⟨(Sv).four.1, (Sv).four.2.1, (Sv).four.2.2.1, (Sv).four.2.2.2.1, (Sx).two.1, (Sx).two.2.1⟩ (fun hHeld => ?_)
        clear hK K
        try simp only [Act.put, List.setIfInBounds_toArray, List.set_cons_zero, List.set_cons_succ]
        clear y0 y1 y2 y3 yf yl RV RX Bv Bx hb hS
        generalize ((((wL.setCell ⟨w.heap.size, 0, none⟩ (.int .i64 p)).setCell ⟨w.heap.size, 1, none⟩ (.int .i64 c)).setCell ⟨w.heap.size, 2, none⟩ (.int .i64 h)).setCell ⟨w.heap.size, 3, none⟩ (.int .i64 s)) = wS at *
        have RV := SV
        have RX := SX
        have Bv := Sv
        have Bx := Sx
        have hb := Sb
        clear SV SX Sv Sx Sb
        refine wpAnyH_ready (rs := [11]) (by kernel_rfl) (by simp) ?_
        refine AllReadyH.cons (o := { dst := none, op := _, type := _, pos := _, after := _, guard := _ }) rfl (fun K hK => ?_) AllReadyH.nil
        clear hHeld
        obtain ⟨y0, y1, yf, yl⟩ := RX.two
        have SX := RX.set2 (.int .i64 xn) (.int .i64 xd)
        have SV := RV.far2 (B := w.heap.size + 1) (by omega) (.int .i64 xn) (.int .i64 xd)
        have Sv := Bv.far2 (B := w.heap.size + 1) (by omega) (.int .i64 xn) (.int .i64 xd)
        have Sx := Bx.far2 (B := w.heap.size + 1) (by omega) (.int .i64 xn) (.int .i64 xd)
        have Sb := belowFar2 hb (B := w.heap.size + 1) (by omega) (.int .i64 xn) (.int .i64 xd)
        go_simp
        (try go_wp2_with fail)
        refine hK.out _ _ ⟨(Sv).four.1, (Sv).four.2.1, (Sv).four.2.2.1, (Sv).four.2.2.2.1, (Sx).two.1, (Sx).two.2.1⟩ (fun hHeld => ?_)
        clear hK K
        try simp only [Act.put, List.setIfInBounds_toArray, List.set_cons_zero, List.set_cons_succ]
        clear y0 y1 yf yl RV RX Bv Bx hb
        generalize ((wS.setCell ⟨w.heap.size + 1, 0, none⟩ (.int .i64 xn)).setCell ⟨w.heap.size + 1, 1, none⟩ (.int .i64 xd)) = wT at *
        have RV := SV
        have RX := SX
        have Bv := Sv
        have Bx := Sx
        have hb := Sb
        clear SV SX Sv Sx Sb
        refine wpAnyH_take (i := 12) (oi := { dst := some 4, op := _, type := _, pos := _, after := _, guard := _ }) (v := ?_) rfl (by kernel_rfl) (by kernel_rfl) (by kernel_rfl) (fun _ _ _ h => h) (Or.inl ⟨by rfl, ?_⟩) (by assumption) ?_
        rotate_left
        · intro w hSw
          (try dsimp only at hSw)
          go_simp
          (try (with_reducible rfl))
        try simp only [Act.put, List.setIfInBounds_toArray, List.set_cons_zero, List.set_cons_succ]
        refine wpAnyH_done (by kernel_rfl) ?_ _
        clear hHeld
        obtain ⟨y0, y1, y2, y3, yf, yl⟩ := RV.four
        obtain ⟨t0, t1, tf, tl⟩ := RX.two
        (try go_wp2_with fail)
        refine bodyPost_ret (v := .tuple #[.agg #[.int .i64 p, .int .i64 c, .int .i64 h, .int .i64 s], .agg #[.int .i64 xn, .int .i64 xd], .int .i64 n]) (by simp [results, Try.results35, go_sem, y0, y1, y2, y3, t0, t1]) rfl ?_
        exact ⟨_, _, _, _, _, _, _, rfl, hxd, hb⟩
      · clear hHeld
        obtain ⟨y0, y1, y2, y3, yf, yl⟩ := RV.four
        have SV := RV.put4 (.int .i64 p) (.int .i64 c) (.int .i64 h) (.int .i64 s)
        have SX := RX.away4 (B := w.heap.size) (by omega) (.int .i64 p) (.int .i64 c) (.int .i64 h) (.int .i64 s)
        have Sv := Bv.away4 (B := w.heap.size) (by omega) (.int .i64 p) (.int .i64 c) (.int .i64 h) (.int .i64 s)
        have Sx := Bx.away4 (B := w.heap.size) (by omega) (.int .i64 p) (.int .i64 c) (.int .i64 h) (.int .i64 s)
        have Sb := belowFar4 hb (B := w.heap.size) (Nat.le_refl _) (.int .i64 p) (.int .i64 c) (.int .i64 h) (.int .i64 s)
        have SL := BL.away4 (B := w.heap.size) (by omega) (.int .i64 p) (.int .i64 c) (.int .i64 h) (.int .i64 s)
        go_simp
        (try go_wp2_with fail)
        refine hK.out _ _ ⟨(Sv).four.1, (Sv).four.2.1, (Sv).four.2.2.1, (Sv).four.2.2.2.1, (Sx).two.1, (Sx).two.2.1⟩ (fun hHeld => ?_)
        clear hK K
        try simp only [Act.put, List.setIfInBounds_toArray, List.set_cons_zero, List.set_cons_succ]
        clear y0 y1 y2 y3 yf yl RV RX Bv Bx hb hS BL
        generalize ((((wL.setCell ⟨w.heap.size, 0, none⟩ (.int .i64 p)).setCell ⟨w.heap.size, 1, none⟩ (.int .i64 c)).setCell ⟨w.heap.size, 2, none⟩ (.int .i64 h)).setCell ⟨w.heap.size, 3, none⟩ (.int .i64 s)) = wS at *
        have RV := SV
        have RX := SX
        have Bv := Sv
        have Bx := Sx
        have hb := Sb
        clear SV SX Sv Sx Sb
        have BL := SL
        clear SL
        refine wpAnyH_ready (rs := [9, 11]) (by kernel_rfl) (by simp) ?_
        refine AllReadyH.cons (o := { dst := some 24, op := _, type := _, pos := _, after := _, guard := _ }) rfl (fun K hK => ?_) (AllReadyH.cons (o := { dst := none, op := _, type := _, pos := _, after := _, guard := _ }) rfl (fun K hK => ?_) AllReadyH.nil)
        · obtain ⟨n, hn⟩ : ∃ n : Int, wS.cell? ⟨gl, i, none⟩ = some (.int .i64 n) := by
            have hi7 : i = 0 ∨ i = 1 ∨ i = 2 ∨ i = 3 ∨ i = 4 ∨ i = 5 ∨ i = 6 ∨ i = 7 ∨ i = 8 ∨ i = 9 ∨ i = 10 := by omega
            rcases hi7 with rfl | rfl | rfl | rfl | rfl | rfl | rfl | rfl | rfl | rfl | rfl
            · exact ⟨_, by simpa using BL.cell 0⟩
            · exact ⟨_, by simpa using BL.cell 1⟩
            · exact ⟨_, by simpa using BL.cell 2⟩
            · exact ⟨_, by simpa using BL.cell 3⟩
            · exact ⟨_, by simpa using BL.cell 4⟩
            · exact ⟨_, by simpa using BL.cell 5⟩
            · exact ⟨_, by simpa using BL.cell 6⟩
            · exact ⟨_, by simpa using BL.cell 7⟩
            · exact ⟨_, by simpa using BL.cell 8⟩
            · exact ⟨_, by simpa using BL.cell 9⟩
            · exact ⟨_, by simpa using BL.cell 10⟩
          clear BL
          go_simp
          (try go_wp2_with fail)
          refine hK.out _ _ ⟨(Bv).four.1, (Bv).four.2.1, (Bv).four.2.2.1, (Bv).four.2.2.2.1, (Bx).two.1, (Bx).two.2.1⟩ (fun hHeld => ?_)
          clear hK K
          try simp only [Act.put, List.setIfInBounds_toArray, List.set_cons_zero, List.set_cons_succ]
          clear hn
          refine wpAnyH_ready (rs := [11]) (by kernel_rfl) (by simp) ?_
          refine AllReadyH.cons (o := { dst := none, op := _, type := _, pos := _, after := _, guard := _ }) rfl (fun K hK => ?_) AllReadyH.nil
          clear hHeld
          obtain ⟨y0, y1, yf, yl⟩ := RX.two
          have SX := RX.set2 (.int .i64 xn) (.int .i64 xd)
          have SV := RV.far2 (B := w.heap.size + 1) (by omega) (.int .i64 xn) (.int .i64 xd)
          have Sv := Bv.far2 (B := w.heap.size + 1) (by omega) (.int .i64 xn) (.int .i64 xd)
          have Sx := Bx.far2 (B := w.heap.size + 1) (by omega) (.int .i64 xn) (.int .i64 xd)
          have Sb := belowFar2 hb (B := w.heap.size + 1) (by omega) (.int .i64 xn) (.int .i64 xd)
          go_simp
          (try go_wp2_with fail)
          refine hK.out _ _ ⟨(Sv).four.1, (Sv).four.2.1, (Sv).four.2.2.1, (Sv).four.2.2.2.1, (Sx).two.1, (Sx).two.2.1⟩ (fun hHeld => ?_)
          clear hK K
          try simp only [Act.put, List.setIfInBounds_toArray, List.set_cons_zero, List.set_cons_succ]
          clear y0 y1 yf yl RV RX Bv Bx hb
          generalize ((wS.setCell ⟨w.heap.size + 1, 0, none⟩ (.int .i64 xn)).setCell ⟨w.heap.size + 1, 1, none⟩ (.int .i64 xd)) = wT at *
          have RV := SV
          have RX := SX
          have Bv := Sv
          have Bx := Sx
          have hb := Sb
          clear SV SX Sv Sx Sb
          refine wpAnyH_take (i := 12) (oi := { dst := some 4, op := _, type := _, pos := _, after := _, guard := _ }) (v := ?_) rfl (by kernel_rfl) (by kernel_rfl) (by kernel_rfl) (fun _ _ _ h => h) (Or.inl ⟨by rfl, ?_⟩) (by assumption) ?_
          rotate_left
          · intro w hSw
            (try dsimp only at hSw)
            go_simp
            (try (with_reducible rfl))
          try simp only [Act.put, List.setIfInBounds_toArray, List.set_cons_zero, List.set_cons_succ]
          refine wpAnyH_done (by kernel_rfl) ?_ _
          clear hHeld
          obtain ⟨y0, y1, y2, y3, yf, yl⟩ := RV.four
          obtain ⟨t0, t1, tf, tl⟩ := RX.two
          (try go_wp2_with fail)
          refine bodyPost_ret (v := .tuple #[.agg #[.int .i64 p, .int .i64 c, .int .i64 h, .int .i64 s], .agg #[.int .i64 xn, .int .i64 xd], .int .i64 n]) (by simp [results, Try.results35, go_sem, y0, y1, y2, y3, t0, t1]) rfl ?_
          exact ⟨_, _, _, _, _, _, _, rfl, hxd, hb⟩
        · clear hHeld
          obtain ⟨y0, y1, yf, yl⟩ := RX.two
          have SX := RX.set2 (.int .i64 xn) (.int .i64 xd)
          have SV := RV.far2 (B := w.heap.size + 1) (by omega) (.int .i64 xn) (.int .i64 xd)
          have Sv := Bv.far2 (B := w.heap.size + 1) (by omega) (.int .i64 xn) (.int .i64 xd)
          have Sx := Bx.far2 (B := w.heap.size + 1) (by omega) (.int .i64 xn) (.int .i64 xd)
          have Sb := belowFar2 hb (B := w.heap.size + 1) (by omega) (.int .i64 xn) (.int .i64 xd)
          have SL := BL.far2 (B := w.heap.size + 1) (by omega) (.int .i64 xn) (.int .i64 xd)
          go_simp
          (try go_wp2_with fail)
          refine hK.out _ _ ⟨(Sv).four.1, (Sv).four.2.1, (Sv).four.2.2.1, (Sv).four.2.2.2.1, (Sx).two.1, (Sx).two.2.1⟩ (fun hHeld => ?_)
          clear hK K
          try simp only [Act.put, List.setIfInBounds_toArray, List.set_cons_zero, List.set_cons_succ]
          clear y0 y1 yf yl RV RX Bv Bx hb BL
          generalize ((wS.setCell ⟨w.heap.size + 1, 0, none⟩ (.int .i64 xn)).setCell ⟨w.heap.size + 1, 1, none⟩ (.int .i64 xd)) = wT at *
          have RV := SV
          have RX := SX
          have Bv := Sv
          have Bx := Sx
          have hb := Sb
          clear SV SX Sv Sx Sb
          have BL := SL
          clear SL
          refine wpAnyH_ready (rs := [9]) (by kernel_rfl) (by simp) ?_
          refine AllReadyH.cons (o := { dst := some 24, op := _, type := _, pos := _, after := _, guard := _ }) rfl (fun K hK => ?_) AllReadyH.nil
          obtain ⟨n, hn⟩ : ∃ n : Int, wT.cell? ⟨gl, i, none⟩ = some (.int .i64 n) := by
            have hi7 : i = 0 ∨ i = 1 ∨ i = 2 ∨ i = 3 ∨ i = 4 ∨ i = 5 ∨ i = 6 ∨ i = 7 ∨ i = 8 ∨ i = 9 ∨ i = 10 := by omega
            rcases hi7 with rfl | rfl | rfl | rfl | rfl | rfl | rfl | rfl | rfl | rfl | rfl
            · exact ⟨_, by simpa using BL.cell 0⟩
            · exact ⟨_, by simpa using BL.cell 1⟩
            · exact ⟨_, by simpa using BL.cell 2⟩
            · exact ⟨_, by simpa using BL.cell 3⟩
            · exact ⟨_, by simpa using BL.cell 4⟩
            · exact ⟨_, by simpa using BL.cell 5⟩
            · exact ⟨_, by simpa using BL.cell 6⟩
            · exact ⟨_, by simpa using BL.cell 7⟩
            · exact ⟨_, by simpa using BL.cell 8⟩
            · exact ⟨_, by simpa using BL.cell 9⟩
            · exact ⟨_, by simpa using BL.cell 10⟩
          clear BL
          go_simp
          (try go_wp2_with fail)
          refine hK.out _ _ ⟨(Bv).four.1, (Bv).four.2.1, (Bv).four.2.2.1, (Bv).four.2.2.2.1, (Bx).two.1, (Bx).two.2.1⟩ (fun hHeld => ?_)
          clear hK K
          try simp only [Act.put, List.setIfInBounds_toArray, List.set_cons_zero, List.set_cons_succ]
          clear hn
          refine wpAnyH_take (i := 12) (oi := { dst := some 4, op := _, type := _, pos := _, after := _, guard := _ }) (v := ?_) rfl (by kernel_rfl) (by kernel_rfl) (by kernel_rfl) (fun _ _ _ h => h) (Or.inl ⟨by rfl, ?_⟩) (by assumption) ?_
          rotate_left
          · intro w hSw
            (try dsimp only at hSw)
            go_simp
            (try (with_reducible rfl))
          try simp only [Act.put, List.setIfInBounds_toArray, List.set_cons_zero, List.set_cons_succ]
          refine wpAnyH_done (by kernel_rfl) ?_ _
          clear hHeld
          obtain ⟨y0, y1, y2, y3, yf, yl⟩ := RV.four
          obtain ⟨t0, t1, tf, tl⟩ := RX.two
          (try go_wp2_with fail)
          refine bodyPost_ret (v := .tuple #[.agg #[.int .i64 p, .int .i64 c, .int .i64 h, .int .i64 s], .agg #[.int .i64 xn, .int .i64 xd], .int .i64 n]) (by simp [results, Try.results35, go_sem, y0, y1, y2, y3, t0, t1]) rfl ?_
          exact ⟨_, _, _, _, _, _, _, rfl, hxd, hb⟩
    · clear hHeld
      obtain ⟨y0, y1, y2, y3, yf, yl⟩ := RV.four
      have SV := RV.put4 (.int .i64 p) (.int .i64 c) (.int .i64 h) (.int .i64 s)
      have SX := RX.away4 (B := w.heap.size) (by omega) (.int .i64 p) (.int .i64 c) (.int .i64 h) (.int .i64 s)
      have Sv := Bv.away4 (B := w.heap.size) (by omega) (.int .i64 p) (.int .i64 c) (.int .i64 h) (.int .i64 s)
      have Sx := Bx.away4 (B := w.heap.size) (by omega) (.int .i64 p) (.int .i64 c) (.int .i64 h) (.int .i64 s)
      have Sb := belowFar4 hb (B := w.heap.size) (Nat.le_refl _) (.int .i64 p) (.int .i64 c) (.int .i64 h) (.int .i64 s)
      go_simp
      (try go_wp2_with fail)
      refine hK.out _ _ ⟨(Sv).four.1, (Sv).four.2.1, (Sv).four.2.2.1, (Sv).four.2.2.2.1, (Sx).two.1, (Sx).two.2.1⟩ (fun hHeld => ?_)
      clear hK K
      try simp only [Act.put, List.setIfInBounds_toArray, List.set_cons_zero, List.set_cons_succ]
      clear y0 y1 y2 y3 yf yl RV RX Bv Bx hb hS
      generalize ((((w11.setCell ⟨w.heap.size, 0, none⟩ (.int .i64 p)).setCell ⟨w.heap.size, 1, none⟩ (.int .i64 c)).setCell ⟨w.heap.size, 2, none⟩ (.int .i64 h)).setCell ⟨w.heap.size, 3, none⟩ (.int .i64 s)) = wS at *
      have RV := SV
      have RX := SX
      have Bv := Sv
      have Bx := Sx
      have hb := Sb
      clear SV SX Sv Sx Sb
      refine wpAnyH_ready (rs := [5, 11]) (by kernel_rfl) (by simp) ?_
      refine AllReadyH.cons (o := { dst := some 20, op := _, type := _, pos := _, after := _, guard := _ }) rfl (fun K hK => ?_) (AllReadyH.cons (o := { dst := none, op := _, type := _, pos := _, after := _, guard := _ }) rfl (fun K hK => ?_) AllReadyH.nil)
      · go_simp
        (try go_wp2_with fail)
        refine hK.out _ _ ⟨(Bv.alloc (.cells #[.int .i64 0, .int .i64 1, .int .i64 (-1), .int .i64 2, .int .i64 4, .int .i64 9, .int .i64 36, .int .i64 1000, .int .i64 1001, .int .i64 (-1001), .int .i64 r60] 2)).four.1, (Bv.alloc (.cells #[.int .i64 0, .int .i64 1, .int .i64 (-1), .int .i64 2, .int .i64 4, .int .i64 9, .int .i64 36, .int .i64 1000, .int .i64 1001, .int .i64 (-1001), .int .i64 r60] 2)).four.2.1, (Bv.alloc (.cells #[.int .i64 0, .int .i64 1, .int .i64 (-1), .int .i64 2, .int .i64 4, .int .i64 9, .int .i64 36, .int .i64 1000, .int .i64 1001, .int .i64 (-1001), .int .i64 r60] 2)).four.2.2.1, (Bv.alloc (.cells #[.int .i64 0, .int .i64 1, .int .i64 (-1), .int .i64 2, .int .i64 4, .int .i64 9, .int .i64 36, .int .i64 1000, .int .i64 1001, .int .i64 (-1001), .int .i64 r60] 2)).four.2.2.2.1, (Bx.alloc (.cells #[.int .i64 0, .int .i64 1, .int .i64 (-1), .int .i64 2, .int .i64 4, .int .i64 9, .int .i64 36, .int .i64 1000, .int .i64 1001, .int .i64 (-1001), .int .i64 r60] 2)).two.1, (Bx.alloc (.cells #[.int .i64 0, .int .i64 1, .int .i64 (-1), .int .i64 2, .int .i64 4, .int .i64 9, .int .i64 36, .int .i64 1000, .int .i64 1001, .int .i64 (-1001), .int .i64 r60] 2)).two.2.1⟩ (fun hHeld => ?_)
        clear hK K
        try simp only [Act.put, List.setIfInBounds_toArray, List.set_cons_zero, List.set_cons_succ]
        have BL := Blk.new wS #[.int .i64 0, .int .i64 1, .int .i64 (-1), .int .i64 2, .int .i64 4, .int .i64 9, .int .i64 36, .int .i64 1000, .int .i64 1001, .int .i64 (-1001), .int .i64 r60] 2
        have lRV_ := RV.lt
        have lRX_ := RX.lt
        have lBv_ := Bv.lt
        have lBx_ := Bx.lt
        replace RV := RV.alloc (.cells #[.int .i64 0, .int .i64 1, .int .i64 (-1), .int .i64 2, .int .i64 4, .int .i64 9, .int .i64 36, .int .i64 1000, .int .i64 1001, .int .i64 (-1001), .int .i64 r60] 2)
        replace RX := RX.alloc (.cells #[.int .i64 0, .int .i64 1, .int .i64 (-1), .int .i64 2, .int .i64 4, .int .i64 9, .int .i64 36, .int .i64 1000, .int .i64 1001, .int .i64 (-1001), .int .i64 r60] 2)
        replace Bv := Bv.alloc (.cells #[.int .i64 0, .int .i64 1, .int .i64 (-1), .int .i64 2, .int .i64 4, .int .i64 9, .int .i64 36, .int .i64 1000, .int .i64 1001, .int .i64 (-1001), .int .i64 r60] 2)
        replace Bx := Bx.alloc (.cells #[.int .i64 0, .int .i64 1, .int .i64 (-1), .int .i64 2, .int .i64 4, .int .i64 9, .int .i64 36, .int .i64 1000, .int .i64 1001, .int .i64 (-1001), .int .i64 r60] 2)
        replace hb := chain_alloc hb (.cells #[.int .i64 0, .int .i64 1, .int .i64 (-1), .int .i64 2, .int .i64 4, .int .i64 9, .int .i64 36, .int .i64 1000, .int .i64 1001, .int .i64 (-1001), .int .i64 r60] 2)
        generalize wS.alloc (.cells #[.int .i64 0, .int .i64 1, .int .i64 (-1), .int .i64 2, .int .i64 4, .int .i64 9, .int .i64 36, .int .i64 1000, .int .i64 1001, .int .i64 (-1001), .int .i64 r60] 2) = wL at *
        generalize wS.heap.size = gl at *
        refine wpAnyH_take (i := 8) (oi := { dst := some 23, op := _, type := _, pos := _, after := _, guard := _ }) (v := ?_) rfl (by kernel_rfl) (by kernel_rfl) (by kernel_rfl) (fun _ _ _ h => h) (Or.inl ⟨by rfl, ?_⟩) (by assumption) ?_
        rotate_left
        · intro w hSw
          (try dsimp only at hSw)
          go_simp
          (try (with_reducible rfl))
        try simp only [Act.put, List.setIfInBounds_toArray, List.set_cons_zero, List.set_cons_succ]
        refine wpAnyH_ready (rs := [9, 11]) (by kernel_rfl) (by simp) ?_
        refine AllReadyH.cons (o := { dst := some 24, op := _, type := _, pos := _, after := _, guard := _ }) rfl (fun K hK => ?_) (AllReadyH.cons (o := { dst := none, op := _, type := _, pos := _, after := _, guard := _ }) rfl (fun K hK => ?_) AllReadyH.nil)
        · obtain ⟨n, hn⟩ : ∃ n : Int, wL.cell? ⟨gl, i, none⟩ = some (.int .i64 n) := by
            have hi7 : i = 0 ∨ i = 1 ∨ i = 2 ∨ i = 3 ∨ i = 4 ∨ i = 5 ∨ i = 6 ∨ i = 7 ∨ i = 8 ∨ i = 9 ∨ i = 10 := by omega
            rcases hi7 with rfl | rfl | rfl | rfl | rfl | rfl | rfl | rfl | rfl | rfl | rfl
            · exact ⟨_, by simpa using BL.cell 0⟩
            · exact ⟨_, by simpa using BL.cell 1⟩
            · exact ⟨_, by simpa using BL.cell 2⟩
            · exact ⟨_, by simpa using BL.cell 3⟩
            · exact ⟨_, by simpa using BL.cell 4⟩
            · exact ⟨_, by simpa using BL.cell 5⟩
            · exact ⟨_, by simpa using BL.cell 6⟩
            · exact ⟨_, by simpa using BL.cell 7⟩
            · exact ⟨_, by simpa using BL.cell 8⟩
            · exact ⟨_, by simpa using BL.cell 9⟩
            · exact ⟨_, by simpa using BL.cell 10⟩
          clear BL
          go_simp
          (try go_wp2_with fail)
          refine hK.out _ _ ⟨(Bv).four.1, (Bv).four.2.1, (Bv).four.2.2.1, (Bv).four.2.2.2.1, (Bx).two.1, (Bx).two.2.1⟩ (fun hHeld => ?_)
          clear hK K
          try simp only [Act.put, List.setIfInBounds_toArray, List.set_cons_zero, List.set_cons_succ]
          clear hn
          refine wpAnyH_ready (rs := [11]) (by kernel_rfl) (by simp) ?_
          refine AllReadyH.cons (o := { dst := none, op := _, type := _, pos := _, after := _, guard := _ }) rfl (fun K hK => ?_) AllReadyH.nil
          clear hHeld
          obtain ⟨y0, y1, yf, yl⟩ := RX.two
          have SX := RX.set2 (.int .i64 xn) (.int .i64 xd)
          have SV := RV.far2 (B := w.heap.size + 1) (by omega) (.int .i64 xn) (.int .i64 xd)
          have Sv := Bv.far2 (B := w.heap.size + 1) (by omega) (.int .i64 xn) (.int .i64 xd)
          have Sx := Bx.far2 (B := w.heap.size + 1) (by omega) (.int .i64 xn) (.int .i64 xd)
          have Sb := belowFar2 hb (B := w.heap.size + 1) (by omega) (.int .i64 xn) (.int .i64 xd)
          go_simp
          (try go_wp2_with fail)
          refine hK.out _ _ ⟨(Sv).four.1, (Sv).four.2.1, (Sv).four.2.2.1, (Sv).four.2.2.2.1, (Sx).two.1, (Sx).two.2.1⟩ (fun hHeld => ?_)
          clear hK K
          try simp only [Act.put, List.setIfInBounds_toArray, List.set_cons_zero, List.set_cons_succ]
          clear y0 y1 yf yl RV RX Bv Bx hb
          generalize ((wL.setCell ⟨w.heap.size + 1, 0, none⟩ (.int .i64 xn)).setCell ⟨w.heap.size + 1, 1, none⟩ (.int .i64 xd)) = wT at *
          have RV := SV
          have RX := SX
          have Bv := Sv
          have Bx := Sx
          have hb := Sb
          clear SV SX Sv Sx Sb
          refine wpAnyH_take (i := 12) (oi := { dst := some 4, op := _, type := _, pos := _, after := _, guard := _ }) (v := ?_) rfl (by kernel_rfl) (by kernel_rfl) (by kernel_rfl) (fun _ _ _ h => h) (Or.inl ⟨by rfl, ?_⟩) (by assumption) ?_
          rotate_left
          · intro w hSw
            (try dsimp only at hSw)
            go_simp
            (try (with_reducible rfl))
          try simp only [Act.put, List.setIfInBounds_toArray, List.set_cons_zero, List.set_cons_succ]
          refine wpAnyH_done (by kernel_rfl) ?_ _
          clear hHeld
          obtain ⟨y0, y1, y2, y3, yf, yl⟩ := RV.four
          obtain ⟨t0, t1, tf, tl⟩ := RX.two
          (try go_wp2_with fail)
          refine bodyPost_ret (v := .tuple #[.agg #[.int .i64 p, .int .i64 c, .int .i64 h, .int .i64 s], .agg #[.int .i64 xn, .int .i64 xd], .int .i64 n]) (by simp [results, Try.results35, go_sem, y0, y1, y2, y3, t0, t1]) rfl ?_
          exact ⟨_, _, _, _, _, _, _, rfl, hxd, hb⟩
        · clear hHeld
          obtain ⟨y0, y1, yf, yl⟩ := RX.two
          have SX := RX.set2 (.int .i64 xn) (.int .i64 xd)
          have SV := RV.far2 (B := w.heap.size + 1) (by omega) (.int .i64 xn) (.int .i64 xd)
          have Sv := Bv.far2 (B := w.heap.size + 1) (by omega) (.int .i64 xn) (.int .i64 xd)
          have Sx := Bx.far2 (B := w.heap.size + 1) (by omega) (.int .i64 xn) (.int .i64 xd)
          have Sb := belowFar2 hb (B := w.heap.size + 1) (by omega) (.int .i64 xn) (.int .i64 xd)
          have SL := BL.far2 (B := w.heap.size + 1) (by omega) (.int .i64 xn) (.int .i64 xd)
          go_simp
          (try go_wp2_with fail)
          refine hK.out _ _ ⟨(Sv).four.1, (Sv).four.2.1, (Sv).four.2.2.1, (Sv).four.2.2.2.1, (Sx).two.1, (Sx).two.2.1⟩ (fun hHeld => ?_)
          clear hK K
          try simp only [Act.put, List.setIfInBounds_toArray, List.set_cons_zero, List.set_cons_succ]
          clear y0 y1 yf yl RV RX Bv Bx hb BL
          generalize ((wL.setCell ⟨w.heap.size + 1, 0, none⟩ (.int .i64 xn)).setCell ⟨w.heap.size + 1, 1, none⟩ (.int .i64 xd)) = wT at *
          have RV := SV
          have RX := SX
          have Bv := Sv
          have Bx := Sx
          have hb := Sb
          clear SV SX Sv Sx Sb
          have BL := SL
          clear SL
          refine wpAnyH_ready (rs := [9]) (by kernel_rfl) (by simp) ?_
          refine AllReadyH.cons (o := { dst := some 24, op := _, type := _, pos := _, after := _, guard := _ }) rfl (fun K hK => ?_) AllReadyH.nil
          obtain ⟨n, hn⟩ : ∃ n : Int, wT.cell? ⟨gl, i, none⟩ = some (.int .i64 n) := by
            have hi7 : i = 0 ∨ i = 1 ∨ i = 2 ∨ i = 3 ∨ i = 4 ∨ i = 5 ∨ i = 6 ∨ i = 7 ∨ i = 8 ∨ i = 9 ∨ i = 10 := by omega
            rcases hi7 with rfl | rfl | rfl | rfl | rfl | rfl | rfl | rfl | rfl | rfl | rfl
            · exact ⟨_, by simpa using BL.cell 0⟩
            · exact ⟨_, by simpa using BL.cell 1⟩
            · exact ⟨_, by simpa using BL.cell 2⟩
            · exact ⟨_, by simpa using BL.cell 3⟩
            · exact ⟨_, by simpa using BL.cell 4⟩
            · exact ⟨_, by simpa using BL.cell 5⟩
            · exact ⟨_, by simpa using BL.cell 6⟩
            · exact ⟨_, by simpa using BL.cell 7⟩
            · exact ⟨_, by simpa using BL.cell 8⟩
            · exact ⟨_, by simpa using BL.cell 9⟩
            · exact ⟨_, by simpa using BL.cell 10⟩
          clear BL
          go_simp
          (try go_wp2_with fail)
          refine hK.out _ _ ⟨(Bv).four.1, (Bv).four.2.1, (Bv).four.2.2.1, (Bv).four.2.2.2.1, (Bx).two.1, (Bx).two.2.1⟩ (fun hHeld => ?_)
          clear hK K
          try simp only [Act.put, List.setIfInBounds_toArray, List.set_cons_zero, List.set_cons_succ]
          clear hn
          refine wpAnyH_take (i := 12) (oi := { dst := some 4, op := _, type := _, pos := _, after := _, guard := _ }) (v := ?_) rfl (by kernel_rfl) (by kernel_rfl) (by kernel_rfl) (fun _ _ _ h => h) (Or.inl ⟨by rfl, ?_⟩) (by assumption) ?_
          rotate_left
          · intro w hSw
            (try dsimp only at hSw)
            go_simp
            (try (with_reducible rfl))
          try simp only [Act.put, List.setIfInBounds_toArray, List.set_cons_zero, List.set_cons_succ]
          refine wpAnyH_done (by kernel_rfl) ?_ _
          clear hHeld
          obtain ⟨y0, y1, y2, y3, yf, yl⟩ := RV.four
          obtain ⟨t0, t1, tf, tl⟩ := RX.two
          (try go_wp2_with fail)
          refine bodyPost_ret (v := .tuple #[.agg #[.int .i64 p, .int .i64 c, .int .i64 h, .int .i64 s], .agg #[.int .i64 xn, .int .i64 xd], .int .i64 n]) (by simp [results, Try.results35, go_sem, y0, y1, y2, y3, t0, t1]) rfl ?_
          exact ⟨_, _, _, _, _, _, _, rfl, hxd, hb⟩
      · clear hHeld
        obtain ⟨y0, y1, yf, yl⟩ := RX.two
        have SX := RX.set2 (.int .i64 xn) (.int .i64 xd)
        have SV := RV.far2 (B := w.heap.size + 1) (by omega) (.int .i64 xn) (.int .i64 xd)
        have Sv := Bv.far2 (B := w.heap.size + 1) (by omega) (.int .i64 xn) (.int .i64 xd)
        have Sx := Bx.far2 (B := w.heap.size + 1) (by omega) (.int .i64 xn) (.int .i64 xd)
        have Sb := belowFar2 hb (B := w.heap.size + 1) (by omega) (.int .i64 xn) (.int .i64 xd)
        go_simp
        (try go_wp2_with fail)
        refine hK.out _ _ ⟨(Sv).four.1, (Sv).four.2.1, (Sv).four.2.2.1, (Sv).four.2.2.2.1, (Sx).two.1, (Sx).two.2.1⟩ (fun hHeld => ?_)
        clear hK K
        try simp only [Act.put, List.setIfInBounds_toArray, List.set_cons_zero, List.set_cons_succ]
        clear y0 y1 yf yl RV RX Bv Bx hb
        generalize ((wS.setCell ⟨w.heap.size + 1, 0, none⟩ (.int .i64 xn)).setCell ⟨w.heap.size + 1, 1, none⟩ (.int .i64 xd)) = wT at *
        have RV := SV
        have RX := SX
        have Bv := Sv
        have Bx := Sx
        have hb := Sb
        clear SV SX Sv Sx Sb
        refine wpAnyH_ready (rs := [5]) (by kernel_rfl) (by simp) ?_
        refine AllReadyH.cons (o := { dst := some 20, op := _, type := _, pos := _, after := _, guard := _ }) rfl (fun K hK => ?_) AllReadyH.nil
        go_simp
        (try go_wp2_with fail)
        refine hK.out _ _ ⟨(Bv.alloc (.cells #[.int .i64 0, .int .i64 1, .int .i64 (-1), .int .i64 2, .int .i64 4, .int .i64 9, .int .i64 36, .int .i64 1000, .int .i64 1001, .int .i64 (-1001), .int .i64 r60] 2)).four.1, (Bv.alloc (.cells #[.int .i64 0, .int .i64 1, .int .i64 (-1), .int .i64 2, .int .i64 4, .int .i64 9, .int .i64 36, .int .i64 1000, .int .i64 1001, .int .i64 (-1001), .int .i64 r60] 2)).four.2.1, (Bv.alloc (.cells #[.int .i64 0, .int .i64 1, .int .i64 (-1), .int .i64 2, .int .i64 4, .int .i64 9, .int .i64 36, .int .i64 1000, .int .i64 1001, .int .i64 (-1001), .int .i64 r60] 2)).four.2.2.1, (Bv.alloc (.cells #[.int .i64 0, .int .i64 1, .int .i64 (-1), .int .i64 2, .int .i64 4, .int .i64 9, .int .i64 36, .int .i64 1000, .int .i64 1001, .int .i64 (-1001), .int .i64 r60] 2)).four.2.2.2.1, (Bx.alloc (.cells #[.int .i64 0, .int .i64 1, .int .i64 (-1), .int .i64 2, .int .i64 4, .int .i64 9, .int .i64 36, .int .i64 1000, .int .i64 1001, .int .i64 (-1001), .int .i64 r60] 2)).two.1, (Bx.alloc (.cells #[.int .i64 0, .int .i64 1, .int .i64 (-1), .int .i64 2, .int .i64 4, .int .i64 9, .int .i64 36, .int .i64 1000, .int .i64 1001, .int .i64 (-1001), .int .i64 r60] 2)).two.2.1⟩ (fun hHeld => ?_)
        clear hK K
        try simp only [Act.put, List.setIfInBounds_toArray, List.set_cons_zero, List.set_cons_succ]
        have BL := Blk.new wT #[.int .i64 0, .int .i64 1, .int .i64 (-1), .int .i64 2, .int .i64 4, .int .i64 9, .int .i64 36, .int .i64 1000, .int .i64 1001, .int .i64 (-1001), .int .i64 r60] 2
        have lRV_ := RV.lt
        have lRX_ := RX.lt
        have lBv_ := Bv.lt
        have lBx_ := Bx.lt
        replace RV := RV.alloc (.cells #[.int .i64 0, .int .i64 1, .int .i64 (-1), .int .i64 2, .int .i64 4, .int .i64 9, .int .i64 36, .int .i64 1000, .int .i64 1001, .int .i64 (-1001), .int .i64 r60] 2)
        replace RX := RX.alloc (.cells #[.int .i64 0, .int .i64 1, .int .i64 (-1), .int .i64 2, .int .i64 4, .int .i64 9, .int .i64 36, .int .i64 1000, .int .i64 1001, .int .i64 (-1001), .int .i64 r60] 2)
        replace Bv := Bv.alloc (.cells #[.int .i64 0, .int .i64 1, .int .i64 (-1), .int .i64 2, .int .i64 4, .int .i64 9, .int .i64 36, .int .i64 1000, .int .i64 1001, .int .i64 (-1001), .int .i64 r60] 2)
        replace Bx := Bx.alloc (.cells #[.int .i64 0, .int .i64 1, .int .i64 (-1), .int .i64 2, .int .i64 4, .int .i64 9, .int .i64 36, .int .i64 1000, .int .i64 1001, .int .i64 (-1001), .int .i64 r60] 2)
        replace hb := chain_alloc hb (.cells #[.int .i64 0, .int .i64 1, .int .i64 (-1), .int .i64 2, .int .i64 4, .int .i64 9, .int .i64 36, .int .i64 1000, .int .i64 1001, .int .i64 (-1001), .int .i64 r60] 2)
        generalize wT.alloc (.cells #[.int .i64 0, .int .i64 1, .int .i64 (-1), .int .i64 2, .int .i64 4, .int .i64 9, .int .i64 36, .int .i64 1000, .int .i64 1001, .int .i64 (-1001), .int .i64 r60] 2) = wL at *
        generalize wT.heap.size = gl at *
        refine wpAnyH_take (i := 8) (oi := { dst := some 23, op := _, type := _, pos := _, after := _, guard := _ }) (v := ?_) rfl (by kernel_rfl) (by kernel_rfl) (by kernel_rfl) (fun _ _ _ h => h) (Or.inl ⟨by rfl, ?_⟩) (by assumption) ?_
        rotate_left
        · intro w hSw
          (try dsimp only at hSw)
          go_simp
          (try (with_reducible rfl))
        try simp only [Act.put, List.setIfInBounds_toArray, List.set_cons_zero, List.set_cons_succ]
        refine wpAnyH_ready (rs := [9]) (by kernel_rfl) (by simp) ?_
        refine AllReadyH.cons (o := { dst := some 24, op := _, type := _, pos := _, after := _, guard := _ }) rfl (fun K hK => ?_) AllReadyH.nil
        obtain ⟨n, hn⟩ : ∃ n : Int, wL.cell? ⟨gl, i, none⟩ = some (.int .i64 n) := by
          have hi7 : i = 0 ∨ i = 1 ∨ i = 2 ∨ i = 3 ∨ i = 4 ∨ i = 5 ∨ i = 6 ∨ i = 7 ∨ i = 8 ∨ i = 9 ∨ i = 10 := by omega
          rcases hi7 with rfl | rfl | rfl | rfl | rfl | rfl | rfl | rfl | rfl | rfl | rfl
          · exact ⟨_, by simpa using BL.cell 0⟩
          · exact ⟨_, by simpa using BL.cell 1⟩
          · exact ⟨_, by simpa using BL.cell 2⟩
          · exact ⟨_, by simpa using BL.cell 3⟩
          · exact ⟨_, by simpa using BL.cell 4⟩
          · exact ⟨_, by simpa using BL.cell 5⟩
          · exact ⟨_, by simpa using BL.cell 6⟩
          · exact ⟨_, by simpa using BL.cell 7⟩
          · exact ⟨_, by simpa using BL.cell 8⟩
          · exact ⟨_, by simpa using BL.cell 9⟩
          · exact ⟨_, by simpa using BL.cell 10⟩
        clear BL
        go_simp
        (try go_wp2_with fail)
        refine hK.out _ _ ⟨(Bv).four.1, (Bv).four.2.1, (Bv).four.2.2.1, (Bv).four.2.2.2.1, (Bx).two.1, (Bx).two.2.1⟩ (fun hHeld => ?_)
        clear hK K
        try simp only [Act.put, List.setIfInBounds_toArray, List.set_cons_zero, List.set_cons_succ]
        clear hn
        refine wpAnyH_take (i := 12) (oi := { dst := some 4, op := _, type := _, pos := _, after := _, guard := _ }) (v := ?_) rfl (by kernel_rfl) (by kernel_rfl) (by kernel_rfl) (fun _ _ _ h => h) (Or.inl ⟨by rfl, ?_⟩) (by assumption) ?_
        rotate_left
        · intro w hSw
          (try dsimp only at hSw)
          go_simp
          (try (with_reducible rfl))
        try simp only [Act.put, List.setIfInBounds_toArray, List.set_cons_zero, List.set_cons_succ]
        refine wpAnyH_done (by kernel_rfl) ?_ _
        clear hHeld
        obtain ⟨y0, y1, y2, y3, yf, yl⟩ := RV.four
        obtain ⟨t0, t1, tf, tl⟩ := RX.two
        (try go_wp2_with fail)
        refine bodyPost_ret (v := .tuple #[.agg #[.int .i64 p, .int .i64 c, .int .i64 h, .int .i64 s], .agg #[.int .i64 xn, .int .i64 xd], .int .i64 n]) (by simp [results, Try.results35, go_sem, y0, y1, y2, y3, t0, t1]) rfl ?_
        exact ⟨_, _, _, _, _, _, _, rfl, hxd, hb⟩
end Go.Proofs.Ytgifkopgnpdkiaa
