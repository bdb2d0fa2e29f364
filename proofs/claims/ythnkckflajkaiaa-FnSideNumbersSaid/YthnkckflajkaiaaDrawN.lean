/- The model's draw of a number of a side. -/
import Derived.Test.YthnkckflajkaiaaSrc4
import Derived.Test.YthnkckflajkaiaaL03cN
import Derived.Lib.MinMax
namespace Go.Proofs.Ythnkckflajkaiaa
open Go.ChangeShapes Go.WideShapes Go.ChangeAt Go.RowKit
set_option linter.unusedVariables false
set_option linter.unusedSimpArgs false

/-- A variant and a number have been drawn. -/
def NumNew (w : World) (e : Ending) (w' : World) : Prop :=
  ∃ p c h s k : Int, e = .returned (.tuple #[.agg #[.int .i64 p, .int .i64 c, .int .i64 h, .int .i64 s], .int .i64 k]) ∧ -100 ≤ k ∧ k ≤ 2000000000000 ∧ Below w.heap.size w w'
theorem prod_bnd (x y : Int) (hx : 0 ≤ x) (hx' : x ≤ 16777216) (hy : 0 ≤ y) (hy' : y ≤ 16777216) : 0 ≤ x * y ∧ x * y ≤ 281474976710656 :=
  ⟨Int.mul_nonneg hx hy, Int.le_trans (Int.mul_le_mul hx' hy' hy (by omega)) (by omega)⟩
set_option maxHeartbeats 2000000 in
theorem drawNum_any (B : Nat) (a : Option Addr) (len cap : Nat) (w : World) (hB : B ≤ w.heap.size) (hlen : len ≤ 1048576) (hcode : CodeIn B w a len) :
    Calls Try.prog 50 #[.slice a len cap] w (NumNew w) := by
  have BZ := Blk.new w #[.int .i64 0, .int .i64 0, .int .i64 0, .int .i64 0] 26
  have hb : Below w.heap.size w (w.alloc (.cells #[.int .i64 0, .int .i64 0, .int .i64 0, .int .i64 0] 26)) := (Below.refl _ _).alloc (Nat.le_refl _) _
  have hl0 := BZ.lt
  have hc1 := hcode.below (hb.mono hB)
  go_enter Try.func50, Try.ntmps50
  go_wp2_with fail
  generalize (w.alloc (.cells #[.int .i64 0, .int .i64 0, .int .i64 0, .int .i64 0] 26)) = v0 at *
  refine (from_any B a len cap _ (by omega) hlen hc1).mono ?_
  rintro e w1 ⟨g, rfl, hg, hS, hb1⟩
  replace BZ := BZ.below hb1
  replace hb := chain hb hb1
  have hs1 := hb1.size
  clear hb1 hc1 hcode
  go_wp2_with fail
  refine (drawAny_any B g a len cap _ hS).mono ?_
  rintro e w2 ⟨p, c, h, s, rfl, bp, bc, bh, bs, hS, hG⟩
  replace BZ := BZ.grown hG (by omega)
  replace hb := chain_grown hb hG (by omega)
  have hs2 := hG.size
  have hgl := hS.lt
  clear hG
  have BV := Blk.new w2 #[.int .i64 p, .int .i64 c, .int .i64 h, .int .i64 s] 26
  have hal : Below w2.heap.size w2 (w2.alloc (.cells #[.int .i64 p, .int .i64 c, .int .i64 h, .int .i64 s] 26)) := (Below.refl _ _).alloc (Nat.le_refl _) _
  replace BZ := BZ.below hal
  replace hS := hS.below hal
  replace hb := chain hb hal
  have hs3 : w2.heap.size + 1 ≤ (w2.alloc (.cells #[.int .i64 p, .int .i64 c, .int .i64 h, .int .i64 s] 26)).heap.size := by simp
  clear hal
  obtain ⟨bv, hbv⟩ : ∃ bv, w2.heap.size = bv := ⟨_, rfl⟩
  obtain ⟨x0, x1, x2, x3, xf, xl⟩ := BV.four
  go_wp2_with fail
  generalize (w2.alloc (.cells #[.int .i64 p, .int .i64 c, .int .i64 h, .int .i64 s] 26)) = v2 at *
  clear x0 x1 x2 x3 xf xl
  rw [hbv] at BV hs2 hs3 hgl
  clear hbv
  have hsc : -1 ≤ scI p c h s ∧ scI p c h s ≤ 1099511627776 ∧ scI p c h s ≠ 0 := by
    unfold scI
    split
    · rename_i gg
      have hv := vB_iff.1 gg
      have := cnt_bnd (p + 1).toNat c.toNat (by omega) (by omega)
      omega
    · omega
  have hcs := fun W => specSideCount_any p c h s W
  obtain ⟨N, hN⟩ : ∃ N, scI p c h s = N := ⟨_, rfl⟩
  rw [hN] at hsc hcs
  refine (hcs _).mono ?_
  rintro e w3 ⟨rfl, hb3⟩
  replace BZ := BZ.below hb3
  replace BV := BV.below hb3
  replace hS := hS.below hb3
  replace hb := chain hb hb3
  have hs4 := hb3.size
  clear hb3 hcs hN
  go_wp2_with fail
  refine (next_any B g a len cap 12 _ hS (by omega)).mono ?_
  rintro e w3 ⟨r0, rfl, q0, u0, hS, hg0⟩
  replace BV := BV.grown hg0 (by omega)
  replace BZ := BZ.grown hg0 (by omega)
  replace hb := chain_grown hb hg0 (by omega)
  have hs5 := hg0.size
  clear hg0
  have hsc1 := hsc.1
  have hsc2 := hsc.2.1
  by_cases hr0 : r0 = 0
  · subst hr0
    go_wp2_with fail
    have hdd : w3.heap.size ≤ w3.drew.heap.size := Nat.le_refl _
    replace BV := BV.drew
    replace BZ := BZ.drew
    replace hS := hS.drew
    replace hb := hb.drew
    refine wp_region_held_drew (S := fun w' => w'.cell? ⟨bv, 0, none⟩ = some (.int .i64 p) ∧ w'.cell? ⟨bv, 1, none⟩ = some (.int .i64 c) ∧ w'.cell? ⟨bv, 2, none⟩ = some (.int .i64 h) ∧ w'.cell? ⟨bv, 3, none⟩ = some (.int .i64 s)) (by kernel_rfl) ⟨BV.four.1, BV.four.2.1, BV.four.2.2.1, BV.four.2.2.2.1⟩ (fun hHeld => ?_)
    clear hHeld
    generalize w3.drew = vd at *
    have hHeld : vd.cell? ⟨bv, 0, none⟩ = some (.int .i64 p) ∧ vd.cell? ⟨bv, 1, none⟩ = some (.int .i64 c) ∧ vd.cell? ⟨bv, 2, none⟩ = some (.int .i64 h) ∧ vd.cell? ⟨bv, 3, none⟩ = some (.int .i64 s) := ⟨BV.four.1, BV.four.2.1, BV.four.2.2.1, BV.four.2.2.2.1⟩
    refine wpAnyH_take (i := 0) (oi := { dst := some 16, op := _, type := _, pos := _, after := _, guard := _ }) (v := ?_) rfl (by kernel_rfl) (by kernel_rfl) (by kernel_rfl) (fun _ _ _ h => h) (Or.inl ⟨by rfl, ?_⟩) (by assumption) ?_
    rotate_left
    · intro w hSw
      (try dsimp only at hSw)
      go_simp
      (try (with_reducible rfl))
    try simp only [Act.put, List.setIfInBounds_toArray, List.set_cons_zero, List.set_cons_succ]
    refine wpAnyH_take (i := 1) (oi := { dst := some 17, op := _, type := _, pos := _, after := _, guard := _ }) (v := ?_) rfl (by kernel_rfl) (by kernel_rfl) (by kernel_rfl) (fun _ _ _ h => h) (Or.inl ⟨by rfl, ?_⟩) (by assumption) ?_
    rotate_left
    · intro w hSw
      (try dsimp only at hSw)
      go_simp
      (try (with_reducible rfl))
    try simp only [Act.put, List.setIfInBounds_toArray, List.set_cons_zero, List.set_cons_succ]
    refine wpAnyH_take (i := 2) (oi := { dst := some 18, op := _, type := _, pos := _, after := _, guard := _ }) (v := ?_) rfl (by kernel_rfl) (by kernel_rfl) (by kernel_rfl) (fun _ _ _ h => h) (Or.inl ⟨by rfl, ?_⟩) (by assumption) ?_
    rotate_left
    · intro w hSw
      (try dsimp only at hSw)
      go_simp
      (try (with_reducible rfl))
    try simp only [Act.put, List.setIfInBounds_toArray, List.set_cons_zero, List.set_cons_succ]
    refine wpAnyH_ready (rs := [3]) (by kernel_rfl) (by simp) ?_
    refine AllReadyH.cons (o := { dst := some 19, op := _, type := _, pos := _, after := _, guard := _ }) rfl (fun K hK => ?_) AllReadyH.nil
    go_simp
    refine (next_any B g a len cap 2 _ hS (by omega)).mono ?_
    rintro e w4 ⟨r1, rfl, q_r1, u_r1, hS, hg⟩
    replace BV := BV.grown hg (by omega)
    replace BZ := BZ.grown hg (by omega)
    replace hb := chain_grown hb hg (by omega)
    have hsz_w4 := hg.size
    clear hg
    (try go_wp2_with fail)
    refine hK.out _ _ ⟨BV.four.1, BV.four.2.1, BV.four.2.2.1, BV.four.2.2.2.1⟩ (fun hHeld => ?_)
    clear hK K
    try simp only [Act.put, List.setIfInBounds_toArray, List.set_cons_zero, List.set_cons_succ]
    refine wpAnyH_take (i := 4) (oi := { dst := some 20, op := _, type := _, pos := _, after := _, guard := _ }) (v := ?_) rfl (by kernel_rfl) (by kernel_rfl) (by kernel_rfl) (fun _ _ _ h => h) (Or.inl ⟨by rfl, ?_⟩) (by assumption) ?_
    rotate_left
    · intro w hSw
      (try dsimp only at hSw)
      go_simp
      (try (with_reducible rfl))
    try simp only [Act.put, List.setIfInBounds_toArray, List.set_cons_zero, List.set_cons_succ]
    refine wpAnyH_ready (rs := [5]) (by kernel_rfl) (by simp) ?_
    refine AllReadyH.cons (o := { dst := none, op := _, type := _, pos := _, after := _, guard := _ }) rfl (fun K hK => ?_) AllReadyH.nil
    have z0 := BZ.four.1
    have z1 := BZ.four.2.1
    have z2 := BZ.four.2.2.1
    have z3 := BZ.four.2.2.2.1
    have zf := BZ.four.2.2.2.2.1
    have zl := BZ.four.2.2.2.2.2
    go_simp
    (try go_wp2_with fail)
    refine hK.out _ _ ⟨((((BV.other (by omega)).other (by omega)).other (by omega)).other (by omega)).four.1, ((((BV.other (by omega)).other (by omega)).other (by omega)).other (by omega)).four.2.1, ((((BV.other (by omega)).other (by omega)).other (by omega)).other (by omega)).four.2.2.1, ((((BV.other (by omega)).other (by omega)).other (by omega)).other (by omega)).four.2.2.2.1⟩ (fun hHeld => ?_)
    clear hK K
    try simp only [Act.put, List.setIfInBounds_toArray, List.set_cons_zero, List.set_cons_succ]
    refine wpAnyH_take (i := 6) (oi := { dst := some 3, op := _, type := _, pos := _, after := _, guard := _ }) (v := ?_) rfl (by kernel_rfl) (by kernel_rfl) (by kernel_rfl) (fun _ _ _ h => h) (Or.inl ⟨by rfl, ?_⟩) (by assumption) ?_
    rotate_left
    · intro w hSw
      (try dsimp only at hSw)
      go_simp
      (try (with_reducible rfl))
    try simp only [Act.put, List.setIfInBounds_toArray, List.set_cons_zero, List.set_cons_succ]
    refine wpAnyH_done (by kernel_rfl) ?_ _
    go_wp2_with fail
    have BZn := (((BZ.set (i := 0) (.int .i64 p)).set (i := 1) (.int .i64 c)).set (i := 2) (.int .i64 h)).set (i := 3) (.int .i64 s)
    obtain ⟨t0, t1, t2, t3, tf, tl⟩ := BZn.four
    refine bodyPost_ret (v := .tuple #[.agg #[.int .i64 p, .int .i64 c, .int .i64 h, .int .i64 s], .int .i64 (IntKind.i64.wrap (N - r1))]) (by simp [results, Try.results50, go_sem, t0, t1, t2, t3]) rfl ?_
    have hk : IntKind.i64.wrap (N - r1) = N - r1 := IntWalk.i64_in _ (by omega)
    rw [hk]
    exact ⟨p, c, h, s, _, rfl, by omega, by omega, (((hb.setCell (by simp) _).setCell (by simp) _).setCell (by simp) _).setCell (by simp) _⟩
  · have hr0' : (r0 == 0) = false := by rw [beq_eq_false_iff_ne]; exact hr0
    clear hr0
    obtain ⟨M, hM⟩ : ∃ M, max 1 N = M := ⟨_, rfl⟩
    have hM1 : 1 ≤ M ∧ M ≤ 1099511627776 := by omega
    have n0 : (M = 0) = False := by rw [eq_iff_iff, iff_false]; omega
    go_wp2_with fail
    have hdd : w3.heap.size ≤ w3.drew.heap.size := Nat.le_refl _
    replace BV := BV.drew
    replace BZ := BZ.drew
    replace hS := hS.drew
    replace hb := hb.drew
    refine wp_region_held_drew (S := fun w' => w'.cell? ⟨bv, 0, none⟩ = some (.int .i64 p) ∧ w'.cell? ⟨bv, 1, none⟩ = some (.int .i64 c) ∧ w'.cell? ⟨bv, 2, none⟩ = some (.int .i64 h) ∧ w'.cell? ⟨bv, 3, none⟩ = some (.int .i64 s)) (by kernel_rfl) ⟨BV.four.1, BV.four.2.1, BV.four.2.2.1, BV.four.2.2.2.1⟩ (fun hHeld => ?_)
    clear hHeld
    generalize w3.drew = vd at *
    have hHeld : vd.cell? ⟨bv, 0, none⟩ = some (.int .i64 p) ∧ vd.cell? ⟨bv, 1, none⟩ = some (.int .i64 c) ∧ vd.cell? ⟨bv, 2, none⟩ = some (.int .i64 h) ∧ vd.cell? ⟨bv, 3, none⟩ = some (.int .i64 s) := ⟨BV.four.1, BV.four.2.1, BV.four.2.2.1, BV.four.2.2.2.1⟩
    refine wpAnyH_take (i := 0) (oi := { dst := some 21, op := _, type := _, pos := _, after := _, guard := _ }) (v := ?_) rfl (by kernel_rfl) (by kernel_rfl) (by kernel_rfl) (fun _ _ _ h => h) (Or.inl ⟨by rfl, ?_⟩) (by assumption) ?_
    rotate_left
    · intro w hSw
      (try dsimp only at hSw)
      go_simp
      (try (with_reducible rfl))
    try simp only [Act.put, List.setIfInBounds_toArray, List.set_cons_zero, List.set_cons_succ]
    refine wpAnyH_take (i := 1) (oi := { dst := some 22, op := _, type := _, pos := _, after := _, guard := _ }) (v := ?_) rfl (by kernel_rfl) (by kernel_rfl) (by kernel_rfl) (fun _ _ _ h => h) (Or.inl ⟨by rfl, ?_⟩) (by assumption) ?_
    rotate_left
    · intro w hSw
      (try dsimp only at hSw)
      go_simp
      (try (with_reducible rfl))
    try simp only [Act.put, List.setIfInBounds_toArray, List.set_cons_zero, List.set_cons_succ]
    refine wpAnyH_take (i := 3) (oi := { dst := some 24, op := _, type := _, pos := _, after := _, guard := _ }) (v := ?_) rfl (by kernel_rfl) (by kernel_rfl) (by kernel_rfl) (fun _ _ _ h => h) (Or.inl ⟨by rfl, ?_⟩) (by assumption) ?_
    rotate_left
    · intro w hSw
      (try dsimp only at hSw)
      go_simp
      (try (with_reducible rfl))
    try simp only [Act.put, List.setIfInBounds_toArray, List.set_cons_zero, List.set_cons_succ]
    refine wpAnyH_take (i := 6) (oi := { dst := some 27, op := _, type := _, pos := _, after := _, guard := _ }) (v := ?_) rfl (by kernel_rfl) (by kernel_rfl) (by kernel_rfl) (fun _ _ _ h => h) (Or.inl ⟨by rfl, ?_⟩) (by assumption) ?_
    rotate_left
    · intro w hSw
      (try dsimp only at hSw)
      go_simp
      (try (with_reducible rfl))
    try simp only [Act.put, List.setIfInBounds_toArray, List.set_cons_zero, List.set_cons_succ]
    refine wpAnyH_take (i := 7) (oi := { dst := some 28, op := _, type := _, pos := _, after := _, guard := _ }) (v := ?_) rfl (by kernel_rfl) (by kernel_rfl) (by kernel_rfl) (fun _ _ _ h => h) (Or.inl ⟨by rfl, ?_⟩) (by assumption) ?_
    rotate_left
    · intro w hSw
      (try dsimp only at hSw)
      go_simp
      (try (with_reducible rfl))
    try simp only [Act.put, List.setIfInBounds_toArray, List.set_cons_zero, List.set_cons_succ]
    refine wpAnyH_take (i := 9) (oi := { dst := some 30, op := _, type := _, pos := _, after := _, guard := _ }) (v := ?_) rfl (by kernel_rfl) (by kernel_rfl) (by kernel_rfl) (fun _ _ _ h => h) (Or.inl ⟨by rfl, ?_⟩) (by assumption) ?_
    rotate_left
    · intro w hSw
      (try dsimp only at hSw)
      go_simp
      (try (with_reducible rfl))
    try simp only [Act.put, List.setIfInBounds_toArray, List.set_cons_zero, List.set_cons_succ]
    refine wpAnyH_ready (rs := [2]) (by kernel_rfl) (by simp) ?_
    refine AllReadyH.cons (o := { dst := some 23, op := _, type := _, pos := _, after := _, guard := _ }) rfl (fun K hK => ?_) AllReadyH.nil
    go_simp
    refine (next_any B g a len cap 16777216 _ hS (by omega)).mono ?_
    rintro e w4 ⟨r1, rfl, q_r1, u_r1, hS, hg⟩
    replace BV := BV.grown hg (by omega)
    replace BZ := BZ.grown hg (by omega)
    replace hb := chain_grown hb hg (by omega)
    have hsz_w4 := hg.size
    clear hg
    (try go_wp2_with fail)
    refine hK.out _ _ ⟨BV.four.1, BV.four.2.1, BV.four.2.2.1, BV.four.2.2.2.1⟩ (fun hHeld => ?_)
    clear hK K
    try simp only [Act.put, List.setIfInBounds_toArray, List.set_cons_zero, List.set_cons_succ]
    refine wpAnyH_ready (rs := [4]) (by kernel_rfl) (by simp) ?_
    refine AllReadyH.cons (o := { dst := some 25, op := _, type := _, pos := _, after := _, guard := _ }) rfl (fun K hK => ?_) AllReadyH.nil
    go_simp
    refine (next_any B g a len cap 16777216 _ hS (by omega)).mono ?_
    rintro e w5 ⟨r2, rfl, q_r2, u_r2, hS, hg⟩
    replace BV := BV.grown hg (by omega)
    replace BZ := BZ.grown hg (by omega)
    replace hb := chain_grown hb hg (by omega)
    have hsz_w5 := hg.size
    clear hg
    (try go_wp2_with fail)
    refine hK.out _ _ ⟨BV.four.1, BV.four.2.1, BV.four.2.2.1, BV.four.2.2.2.1⟩ (fun hHeld => ?_)
    clear hK K
    try simp only [Act.put, List.setIfInBounds_toArray, List.set_cons_zero, List.set_cons_succ]
    refine wpAnyH_take (i := 5) (oi := { dst := some 26, op := _, type := _, pos := _, after := _, guard := _ }) (v := ?_) rfl (by kernel_rfl) (by kernel_rfl) (by kernel_rfl) (fun _ _ _ h => h) (Or.inl ⟨by rfl, ?_⟩) (by assumption) ?_
    rotate_left
    · intro w hSw
      (try dsimp only at hSw)
      go_simp
      (try (with_reducible rfl))
    try simp only [Act.put, List.setIfInBounds_toArray, List.set_cons_zero, List.set_cons_succ]
    refine wpAnyH_take (i := 8) (oi := { dst := some 29, op := _, type := _, pos := _, after := _, guard := _ }) (v := ?_) rfl (by kernel_rfl) (by kernel_rfl) (by kernel_rfl) (fun _ _ _ h => h) (Or.inl ⟨by rfl, ?_⟩) (by assumption) ?_
    rotate_left
    · intro w hSw
      (try dsimp only at hSw)
      go_simp
      (try (with_reducible rfl))
    try simp only [Act.put, List.setIfInBounds_toArray, List.set_cons_zero, List.set_cons_succ]
    refine wpAnyH_ready (rs := [10]) (by kernel_rfl) (by simp) ?_
    refine AllReadyH.cons (o := { dst := some 31, op := _, type := _, pos := _, after := _, guard := _ }) rfl (fun K hK => ?_) AllReadyH.nil
    go_simp
    refine (next_any B g a len cap 24 _ hS (by omega)).mono ?_
    rintro e w6 ⟨r3, rfl, q_r3, u_r3, hS, hg⟩
    replace BV := BV.grown hg (by omega)
    replace BZ := BZ.grown hg (by omega)
    replace hb := chain_grown hb hg (by omega)
    have hsz_w6 := hg.size
    clear hg
    (try go_wp2_with fail)
    refine hK.out _ _ ⟨BV.four.1, BV.four.2.1, BV.four.2.2.1, BV.four.2.2.2.1⟩ (fun hHeld => ?_)
    clear hK K
    try simp only [Act.put, List.setIfInBounds_toArray, List.set_cons_zero, List.set_cons_succ]
    refine wpAnyH_take (i := 11) (oi := { dst := some 32, op := _, type := _, pos := _, after := _, guard := _ }) (v := ?_) rfl (by kernel_rfl) (by kernel_rfl) (by kernel_rfl) (fun _ _ _ h => h) (Or.inl ⟨by rfl, ?_⟩) (by assumption) ?_
    rotate_left
    · intro w hSw
      (try dsimp only at hSw)
      go_simp
      (try (with_reducible rfl))
    try simp only [Act.put, List.setIfInBounds_toArray, List.set_cons_zero, List.set_cons_succ]
    refine wpAnyH_take (i := 12) (oi := { dst := some 33, op := _, type := _, pos := _, after := _, guard := _ }) (v := ?_) rfl (by kernel_rfl) (by kernel_rfl) (by kernel_rfl) (fun _ _ _ h => h) (Or.inl ⟨by rfl, ?_⟩) (by assumption) ?_
    rotate_left
    · intro w hSw
      (try dsimp only at hSw)
      go_simp
      (try (with_reducible rfl))
    try simp only [Act.put, List.setIfInBounds_toArray, List.set_cons_zero, List.set_cons_succ]
    refine wpAnyH_ready (rs := [13]) (by kernel_rfl) (by simp) ?_
    refine AllReadyH.cons (o := { dst := none, op := _, type := _, pos := _, after := _, guard := _ }) rfl (fun K hK => ?_) AllReadyH.nil
    have z0 := BZ.four.1
    have z1 := BZ.four.2.1
    have z2 := BZ.four.2.2.1
    have z3 := BZ.four.2.2.2.1
    have zf := BZ.four.2.2.2.2.1
    have zl := BZ.four.2.2.2.2.2
    go_simp
    (try go_wp2_with fail)
    refine hK.out _ _ ⟨((((BV.other (by omega)).other (by omega)).other (by omega)).other (by omega)).four.1, ((((BV.other (by omega)).other (by omega)).other (by omega)).other (by omega)).four.2.1, ((((BV.other (by omega)).other (by omega)).other (by omega)).other (by omega)).four.2.2.1, ((((BV.other (by omega)).other (by omega)).other (by omega)).other (by omega)).four.2.2.2.1⟩ (fun hHeld => ?_)
    clear hK K
    try simp only [Act.put, List.setIfInBounds_toArray, List.set_cons_zero, List.set_cons_succ]
    refine wpAnyH_take (i := 14) (oi := { dst := some 3, op := _, type := _, pos := _, after := _, guard := _ }) (v := ?_) rfl (by kernel_rfl) (by kernel_rfl) (by kernel_rfl) (fun _ _ _ h => h) (Or.inl ⟨by rfl, ?_⟩) (by assumption) ?_
    rotate_left
    · intro w hSw
      (try dsimp only at hSw)
      go_simp
      (try (with_reducible rfl))
    try simp only [Act.put, List.setIfInBounds_toArray, List.set_cons_zero, List.set_cons_succ]
    refine wpAnyH_done (by kernel_rfl) ?_ _
    go_wp2_with fail
    have BZn := (((BZ.set (i := 0) (.int .i64 p)).set (i := 1) (.int .i64 c)).set (i := 2) (.int .i64 h)).set (i := 3) (.int .i64 s)
    obtain ⟨t0, t1, t2, t3, tf, tl⟩ := BZn.four
    refine bodyPost_ret (v := .tuple #[.agg #[.int .i64 p, .int .i64 c, .int .i64 h, .int .i64 s], .int .i64 (IntKind.i64.wrap ((IntKind.i64.wrap (r1 * r2)).tmod M - IntKind.i64.wrap (r3.tdiv 23)))]) (by simp [results, Try.results50, go_sem, t0, t1, t2, t3]) rfl ?_
    have e1 : IntKind.i64.wrap (r1 * r2) = r1 * r2 := IntWalk.i64_in _ ⟨by have := prod_bnd r1 r2 (by omega) (by omega) (by omega) (by omega); omega, by have := prod_bnd r1 r2 (by omega) (by omega) (by omega) (by omega); omega⟩
    have e2 : r3.tdiv 23 = r3 / 23 := Int.tdiv_eq_ediv_of_nonneg (by omega)
    have e3 : IntKind.i64.wrap (r3 / 23) = r3 / 23 := IntWalk.i64_in _ (by omega)
    have m0 := prod_bnd r1 r2 (by omega) (by omega) (by omega) (by omega)
    have e4 : (r1 * r2).tmod M = (r1 * r2) % M := Int.tmod_eq_emod_of_nonneg m0.1
    have m1 := Int.emod_nonneg (r1 * r2) (show M ≠ 0 by omega)
    have m2 := Int.emod_lt_of_pos (r1 * r2) (show 0 < M by omega)
    rw [e1, e2, e3, e4, IntWalk.i64_in _ (by omega)]
    exact ⟨p, c, h, s, _, rfl, by omega, by omega, (((hb.setCell (by simp) _).setCell (by simp) _).setCell (by simp) _).setCell (by simp) _⟩
end Go.Proofs.Ythnkckflajkaiaa
