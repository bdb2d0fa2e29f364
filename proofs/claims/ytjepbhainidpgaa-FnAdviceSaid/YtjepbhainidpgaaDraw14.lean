/- The model's draws of a race: contracts. -/
import Derived.Test.YtjepbhainidpgaaDraw4
import Derived.Test.YtjepbhainidpgaaSrc2
namespace Go.Proofs.Ytjepbhainidpgaa
open Go.ChangeShapes Go.WideShapes Go.ChangeAt Go.RowKit
set_option linter.unusedVariables false
set_option linter.unusedSimpArgs false
set_option maxRecDepth 4000

/-- A race may have been drawn: its sides have been given checkers. -/
def SideAt (P g1 : Nat) (w : World) : Prop := ∃ ys : List Int, ys.length = P + 1 ∧ Row w g1 ys
theorem SideAt.grown {P g1 g : Nat} {w w' : World} (h : SideAt P g1 w) (hg : w.grownBy w' (some g)) (hne : g1 ≠ g) : SideAt P g1 w' := by
  obtain ⟨ys, hy, R⟩ := h
  exact ⟨ys, hy, R.grown hg hne⟩
theorem SideAt.other {P g1 g o : Nat} {w : World} {v : Value} (h : SideAt P g1 w) (hne : g1 ≠ g) : SideAt P g1 (w.setCell ⟨g, o, none⟩ v) := by
  obtain ⟨ys, hy, R⟩ := h
  exact ⟨ys, hy, R.other hne⟩
set_option maxRecDepth 8000 in
set_option maxHeartbeats 4000000 in
theorem drawRace_any (B g : Nat) (a : Option Addr) (len cap : Nat) (w : World) (hS : Src B w g a len cap) :
    Calls Try.prog 47 #[.pointer (some ⟨g, 0, none⟩)] w (PairPost B g a len cap w) := by
  have hl := hS.lt
  have hBg := hS.base
  obtain ⟨BZ, BN, hb, hz⟩ := two_new w #[.int .i64 0, .int .i64 0, .int .i64 0, .int .i64 0] #[.slice none 0 0, .slice none 0 0] 26 34
  replace hS := (hS.alloc (.cells #[.int .i64 0, .int .i64 0, .int .i64 0, .int .i64 0] 26)).alloc (.cells #[.slice none 0 0, .slice none 0 0] 34)
  have hG : w.grownBy ((w.alloc (.cells #[.int .i64 0, .int .i64 0, .int .i64 0, .int .i64 0] 26)).alloc (.cells #[.slice none 0 0, .slice none 0 0] 34)) (some g) := grown_of_below hb _
  go_enter Try.func47, Try.ntmps47
  go_wp2_with fail
  generalize ((w.alloc (.cells #[.int .i64 0, .int .i64 0, .int .i64 0, .int .i64 0] 26)).alloc (.cells #[.slice none 0 0, .slice none 0 0] 34)) = v0 at *
  clear hb
  refine (next_any B g a len cap 8 _ hS (by omega)).mono ?_
  rintro e w0 ⟨r0, rfl, q0, u0, hS, hg⟩
  have hz0 := hg.size
  replace BZ := BZ.grown hg (by omega)
  replace BN := BN.grown hg (by omega)
  replace hG := grown_trans hG hg
  clear hg
  by_cases e0 : r0 = 0
  · have f0 : (r0 == 0) = true := by rw [beq_iff_eq]; exact e0
    clear e0
    go_wp2_with fail
    refine (drawPair_any B g a len cap _ hS).mono ?_
    rintro e w1 ⟨p, c, h, s, g1, g2, n1, n2, c1, c2, xs, ys, rfl, hpb, hx, hy, l1, l2, d1, d2, b1, b2, R1, R2, hS, hg⟩
    replace BZ := BZ.grown hg (by omega)
    replace BN := BN.grown hg (by omega)
    replace hG := grown_trans hG hg
    have HX := Lib.hid hx
    have HY := Lib.hid hy
    clear hg hx hy
    obtain ⟨z0, z1, z2, z3, zf, zl⟩ := BZ.four
    obtain ⟨n0, n1', nf, nl⟩ := BN.two
    go_wp2
    refine bodyPost_ret (v := .tuple #[.agg #[.int .i64 p, .int .i64 c, .int .i64 h, .int .i64 s], .agg #[.slice (some ⟨g1, 0, none⟩) n1 c1, .slice (some ⟨g2, 0, none⟩) n2 c2]]) (by simp [results, Try.results47, go_sem, z0, z1, z2, z3, n0, n1']) rfl ?_
    have hfin := fun v0 v1 v2 v3 v4 v5 => fin6 hS hG R1 R2 hl (by omega) (by omega) (by omega) v0 v1 v2 v3 v4 v5
    obtain ⟨hq1, hq2, hq3, hq4⟩ := hfin (.int .i64 p) (.int .i64 c) (.int .i64 h) (.int .i64 s) (.slice (some ⟨g1, 0, none⟩) n1 c1) (.slice (some ⟨g2, 0, none⟩) n2 c2)
    clear hfin
    exact ⟨p, c, h, s, g1, g2, n1, n2, c1, c2, xs, ys, rfl, hpb, HX.out, HY.out, by omega, by omega, by omega, by omega, by omega, by omega, hq3, hq4, hq1, hq2⟩
  · have f0 : (r0 == 0) = false := by rw [beq_eq_false_iff_ne]; exact e0
    clear e0
    go_wp2_with fail
    refine (drawValid_any B g a len cap _ hS).mono ?_
    rintro e w1 ⟨p, c, h, s, rfl, bp, bc, bh, bs, hS, hg⟩
    obtain ⟨P, rfl⟩ := Int.eq_ofNat_of_zero_le (by omega : 0 ≤ p)
    have hz1 := hg.size
    replace BZ := (BZ.grown hg (by omega)).alloc (.cells #[.int .i64 (P : Int), .int .i64 c, .int .i64 h, .int .i64 s] 26)
    replace BN := (BN.grown hg (by omega)).alloc (.cells #[.int .i64 (P : Int), .int .i64 c, .int .i64 h, .int .i64 s] 26)
    replace hG := grown_alloc (grown_trans hG hg) (.cells #[.int .i64 (P : Int), .int .i64 c, .int .i64 h, .int .i64 s] 26)
    replace hS := hS.alloc (.cells #[.int .i64 (P : Int), .int .i64 c, .int .i64 h, .int .i64 s] 26)
    have BV := Blk.new w1 #[.int .i64 (P : Int), .int .i64 c, .int .i64 h, .int .i64 s] 26
    have hv1 : (w1.alloc (.cells #[.int .i64 (P : Int), .int .i64 c, .int .i64 h, .int .i64 s] 26)).heap.size = w1.heap.size + 1 := by simp
    clear hg
    go_wp2_with fail
    generalize (w1.alloc (.cells #[.int .i64 (P : Int), .int .i64 c, .int .i64 h, .int .i64 s] 26)) = v1 at *
    have hd_ : v1.drew.heap.size = v1.heap.size := rfl
    replace BV := BV.drew
    replace BZ := BZ.drew
    replace BN := BN.drew
    replace hS := hS.drew
    replace hG := grown_drew hG
    refine wp_region_held_drew (S := fun w' => w'.cell? ⟨w1.heap.size, 0, none⟩ = some (.int .i64 (P : Int)) ∧ w'.cell? ⟨w1.heap.size, 1, none⟩ = some (.int .i64 c) ∧ w'.cell? ⟨w1.heap.size, 2, none⟩ = some (.int .i64 h) ∧ w'.cell? ⟨w1.heap.size, 3, none⟩ = some (.int .i64 s)) (by kernel_rfl) ⟨BV.four.1, BV.four.2.1, BV.four.2.2.1, BV.four.2.2.2.1⟩ (fun hHeld => ?_)
    clear hHeld
    generalize v1.drew = vd at *
    have hHeld : vd.cell? ⟨w1.heap.size, 0, none⟩ = some (.int .i64 (P : Int)) ∧ vd.cell? ⟨w1.heap.size, 1, none⟩ = some (.int .i64 c) ∧ vd.cell? ⟨w1.heap.size, 2, none⟩ = some (.int .i64 h) ∧ vd.cell? ⟨w1.heap.size, 3, none⟩ = some (.int .i64 s) := ⟨BV.four.1, BV.four.2.1, BV.four.2.2.1, BV.four.2.2.2.1⟩
    refine wpAnyH_take (i := 0) (oi := { dst := some 21, op := _, type := _, pos := _, after := _, guard := _ }) (v := ?_) rfl (by kernel_rfl) (by kernel_rfl) (by kernel_rfl) (fun _ _ _ h => h) (Or.inl ⟨by rfl, ?_⟩) (by assumption) ?_
    rotate_left
    · intro w hSw
      (try dsimp only at hSw)
      go_simp
      (try (with_reducible rfl))
    try simp only [Act.put, List.setIfInBounds_toArray, List.set_cons_zero, List.set_cons_succ]
    refine wpAnyH_take (i := 2) (oi := { dst := some 23, op := _, type := _, pos := _, after := _, guard := _ }) (v := ?_) rfl (by kernel_rfl) (by kernel_rfl) (by kernel_rfl) (fun _ _ _ h => h) (Or.inl ⟨by rfl, ?_⟩) (by assumption) ?_
    rotate_left
    · intro w hSw
      (try dsimp only at hSw)
      go_simp
      (try (with_reducible rfl))
    try simp only [Act.put, List.setIfInBounds_toArray, List.set_cons_zero, List.set_cons_succ]
    refine wpAnyH_ready (rs := [1]) (by kernel_rfl) (by simp) ?_
    refine AllReadyH.cons (o := { dst := some 22, op := _, type := _, pos := _, after := _, guard := _ }) rfl (fun K hK => ?_) AllReadyH.nil
    go_simp
    refine (l02Empty_any P c h s _ (by omega)).mono ?_
    rintro e w3 ⟨ge1, rfl, hge1, RE1, hb1⟩
    have hrl1 : (List.replicate (P + 1) (0 : Int)).length = P + 1 := by simp
    rw [hrl1]
    have hlE1 := RE1.lt
    replace BZ := BZ.below hb1
    replace BN := BN.below hb1
    replace BV := BV.below hb1
    replace hS := hS.below hb1
    replace hG := grown_trans hG (grown_of_below hb1 _)
    have hzb1 := hb1.size
    (try go_wp2_with fail)
    refine hK.out _ _ ⟨BV.four.1, BV.four.2.1, BV.four.2.2.1, BV.four.2.2.2.1⟩ (fun hHeld => ?_)
    clear hK K
    try simp only [Act.put, List.setIfInBounds_toArray, List.set_cons_zero, List.set_cons_succ]
    refine wpAnyH_ready (rs := [3]) (by kernel_rfl) (by simp) ?_
    refine AllReadyH.cons (o := { dst := some 24, op := _, type := _, pos := _, after := _, guard := _ }) rfl (fun K hK => ?_) AllReadyH.nil
    go_simp
    refine (l02Empty_any P c h s _ (by omega)).mono ?_
    rintro e w4 ⟨ge2, rfl, hge2, RE2, hb2⟩
    have hrl2 : (List.replicate (P + 1) (0 : Int)).length = P + 1 := by simp
    rw [hrl2]
    replace BZ := BZ.below hb2
    replace BN := BN.below hb2
    replace BV := BV.below hb2
    replace hS := hS.below hb2
    replace RE1 := RE1.below hb2
    replace hG := grown_trans hG (grown_of_below hb2 _)
    have hzb2 := hb2.size
    (try go_wp2_with fail)
    refine hK.out _ _ ⟨BV.four.1, BV.four.2.1, BV.four.2.2.1, BV.four.2.2.2.1⟩ (fun hHeld => ?_)
    clear hK K
    try simp only [Act.put, List.setIfInBounds_toArray, List.set_cons_zero, List.set_cons_succ]
    refine wpAnyH_take (i := 4) (oi := { dst := some 5, op := _, type := _, pos := _, after := _, guard := _ }) (v := ?_) rfl (by kernel_rfl) (by kernel_rfl) (by kernel_rfl) (fun _ _ _ h => h) (Or.inl ⟨by rfl, ?_⟩) (by assumption) ?_
    rotate_left
    · intro w hSw
      (try dsimp only at hSw)
      go_simp
      (try (with_reducible rfl))
    try simp only [Act.put, List.setIfInBounds_toArray, List.set_cons_zero, List.set_cons_succ]
    refine wpAnyH_take (i := 5) (oi := { dst := some 6, op := _, type := _, pos := _, after := _, guard := _ }) (v := ?_) rfl (by kernel_rfl) (by kernel_rfl) (by kernel_rfl) (fun _ _ _ h => h) (Or.inl ⟨by rfl, ?_⟩) (by assumption) ?_
    rotate_left
    · intro w hSw
      (try dsimp only at hSw)
      go_simp
      (try (with_reducible rfl))
    try simp only [Act.put, List.setIfInBounds_toArray, List.set_cons_zero, List.set_cons_succ]
    refine wpAnyH_done (by kernel_rfl) ?_ _
    clear hHeld
    have SD1 : SideAt P ge1 w4 := ⟨_, hrl1, RE1⟩
    have SD2 : SideAt P ge2 w4 := ⟨_, hrl2, RE2⟩
    have hlE2 := RE2.lt
    clear RE1 RE2 hrl1 hrl2 hb1 hb2
    obtain ⟨x0, x1, x2, x3, xf, xl⟩ := BV.four
    have wzP : IntKind.i64.wrap ((P : Int) - 1) = (P : Int) - 1 := IntWalk.i64_in _ (by omega)
    go_wp2_with fail
    clear x0 x1 x2 x3 xf xl
    refine (next_any B g a len cap ((P : Int) - 1) _ hS (by omega)).mono ?_
    rintro e w5 ⟨r1, rfl, q1, u1, hS, hg⟩
    have hz5 := hg.size
    replace BZ := BZ.grown hg (by omega)
    replace BN := BN.grown hg (by omega)
    replace BV := BV.grown hg (by omega)
    replace SD1 := SD1.grown hg (by omega)
    replace SD2 := SD2.grown hg (by omega)
    replace hG := grown_trans hG hg
    clear hg
    obtain ⟨x0, x1, x2, x3, xf, xl⟩ := BV.four
    have wz1 : IntKind.i64.wrap (1 + r1) = 1 + r1 := IntWalk.i64_in _ (by omega)
    go_wp2_with fail
    clear x0 x1 x2 x3 xf xl
    refine (next_any B g a len cap c _ hS (by omega)).mono ?_
    rintro e w6 ⟨r2, rfl, q2, u2, hS, hg⟩
    have hz6 := hg.size
    replace BZ := BZ.grown hg (by omega)
    replace BN := BN.grown hg (by omega)
    replace BV := BV.grown hg (by omega)
    replace SD1 := SD1.grown hg (by omega)
    replace SD2 := SD2.grown hg (by omega)
    replace hG := grown_trans hG hg
    clear hg
    obtain ⟨m0, rfl⟩ := Int.eq_ofNat_of_zero_le q2
    have wz2 : IntKind.i64.wrap (1 + (m0 : Int)) = ((m0 + 1 : Nat) : Int) := by rw [IntWalk.i64_in _ (by omega)]; omega
    go_wp2_with fail
    go_loopg [8] (m0 + 1) (fun m k wr => k = .int .i64 m ∧ m ≤ 100 ∧ SideAt P ge1 wr ∧ SideAt P ge2 wr ∧ Blk wr w1.heap.size #[.int .i64 (P : Int), .int .i64 c, .int .i64 h, .int .i64 s] 26 ∧ Blk wr w.heap.size #[.int .i64 0, .int .i64 0, .int .i64 0, .int .i64 0] 26 ∧ Blk wr (w.heap.size + 1) #[.slice none 0 0, .slice none 0 0] 34 ∧ Src B wr g a len cap ∧ w.grownBy wr (some g))
    case atStart => exact ⟨rfl, by omega, SD1, SD2, BV, BZ, BN, hS, hG⟩
    case round =>
      clear SD1 SD2 BV BZ BN hS hG
      obtain ⟨rfl, hm, SD1, SD2, BV, BZ, BN, hS, hG⟩ := hrel
      cases gk with
      | succ m =>
        have hk0 : (0 : Int) < ((m + 1 : Nat) : Int) := by omega
        go_wp2_with fail
        refine (next_any B g a len cap (1 + r1) _ hS (by omega)).mono ?_
        rintro e w7 ⟨r3, rfl, q3, u3, hS, hg⟩
        replace BZ := BZ.grown hg (by omega)
        replace BN := BN.grown hg (by omega)
        replace BV := BV.grown hg (by omega)
        replace SD1 := SD1.grown hg (by omega)
        replace SD2 := SD2.grown hg (by omega)
        replace hG := grown_trans hG hg
        clear hg
        obtain ⟨i3, rfl⟩ := Int.eq_ofNat_of_zero_le q3
        have hi3 : i3 < P + 1 := by omega
        have j2 : (i3 : Int) < (P : Int) + 1 := by omega
        obtain ⟨ys, hy, R⟩ := SD1
        have cP := R.cell i3 (by omega)
        have f0' := fun i => R.free i
        obtain ⟨v, hv⟩ : ∃ v, ys.getD i3 0 = v := ⟨_, rfl⟩
        rw [hv] at cP
        have HY := Lib.hid hy
        clear hv hy
        go_wp2
        go_roundg m
        case measure => omega
        case rel => exact ⟨by go_num, by omega, ⟨_, by simp [HY.out], R.set i3 _⟩, SD2.other (by omega), BV.other (by omega), BZ.other (by omega), BN.other (by omega), hS.set (by omega) (by omega), grown_new hG (by omega)⟩
      | zero =>
        obtain ⟨x0, x1, x2, x3, xf, xl⟩ := BV.four
        go_wp2_with fail
        clear x0 x1 x2 x3 xf xl
        refine (next_any B g a len cap c _ hS (by omega)).mono ?_
        rintro e w8 ⟨r4, rfl, q4, u4, hS, hg⟩
        have hz8 := hg.size
        replace BZ := BZ.grown hg (by omega)
        replace BN := BN.grown hg (by omega)
        replace BV := BV.grown hg (by omega)
        replace SD1 := SD1.grown hg (by omega)
        replace SD2 := SD2.grown hg (by omega)
        replace hG := grown_trans hG hg
        clear hg
        obtain ⟨m4, rfl⟩ := Int.eq_ofNat_of_zero_le q4
        have wz4 : IntKind.i64.wrap (1 + (m4 : Int)) = ((m4 + 1 : Nat) : Int) := by rw [IntWalk.i64_in _ (by omega)]; omega
        have wz5 : IntKind.i64.wrap ((P : Int) - (1 + r1)) = (P : Int) - (1 + r1) := IntWalk.i64_in _ (by omega)
        go_wp2_with fail
        go_loopg [10] (m4 + 1) (fun m k wr => k = .int .i64 m ∧ m ≤ 100 ∧ SideAt P ge1 wr ∧ SideAt P ge2 wr ∧ Blk wr w1.heap.size #[.int .i64 (P : Int), .int .i64 c, .int .i64 h, .int .i64 s] 26 ∧ Blk wr w.heap.size #[.int .i64 0, .int .i64 0, .int .i64 0, .int .i64 0] 26 ∧ Blk wr (w.heap.size + 1) #[.slice none 0 0, .slice none 0 0] 34 ∧ Src B wr g a len cap ∧ w.grownBy wr (some g))
        case atStart => exact ⟨rfl, by omega, SD1, SD2, BV, BZ, BN, hS, hG⟩
        case round =>
          clear SD1 SD2 BV BZ BN hS hG
          obtain ⟨rfl, hm2, SD1, SD2, BV, BZ, BN, hS, hG⟩ := hrel
          obtain ⟨x0, x1, x2, x3, xf, xl⟩ := BV.four
          cases gk with
          | succ m =>
            have hk0 : (0 : Int) < ((m + 1 : Nat) : Int) := by omega
            go_wp2_with fail
            clear x0 x1 x2 x3 xf xl
            refine (next_any B g a len cap ((P : Int) - (1 + r1)) _ hS (by omega)).mono ?_
            rintro e w9 ⟨r5, rfl, q5, u5, hS, hg⟩
            replace BZ := BZ.grown hg (by omega)
            replace BN := BN.grown hg (by omega)
            replace BV := BV.grown hg (by omega)
            replace SD1 := SD1.grown hg (by omega)
            replace SD2 := SD2.grown hg (by omega)
            replace hG := grown_trans hG hg
            clear hg
            obtain ⟨i5, rfl⟩ := Int.eq_ofNat_of_zero_le q5
            have hi5 : i5 < P + 1 := by omega
            have j5 : (i5 : Int) < (P : Int) + 1 := by omega
            obtain ⟨ys, hy, R⟩ := SD2
            have cP := R.cell i5 (by omega)
            have f0' := fun i => R.free i
            obtain ⟨v, hv⟩ : ∃ v, ys.getD i5 0 = v := ⟨_, rfl⟩
            rw [hv] at cP
            have HY := Lib.hid hy
            clear hv hy
            go_wp2
            go_roundg m
            case measure => omega
            case rel => exact ⟨by go_num, by omega, SD1.other (by omega), ⟨_, by simp [HY.out], R.set i5 _⟩, BV.other (by omega), BZ.other (by omega), BN.other (by omega), hS.set (by omega) (by omega), grown_new hG (by omega)⟩
          | zero =>
            obtain ⟨xs, hx, R1⟩ := SD1
            obtain ⟨ys, hy, R2⟩ := SD2
            have HX := Lib.hid hx
            have HY := Lib.hid hy
            clear hx hy
            obtain ⟨z0, z1, z2, z3, zf, zl⟩ := BZ.four
            obtain ⟨n0, n1, nf, nl⟩ := BN.two
            go_wp2
            refine bodyPost_ret (v := .tuple #[.agg #[.int .i64 (P : Int), .int .i64 c, .int .i64 h, .int .i64 s], .agg #[.slice (some ⟨ge1, 0, none⟩) (P + 1) (P + 1), .slice (some ⟨ge2, 0, none⟩) (P + 1) (P + 1)]]) (by simp [results, Try.results47, go_sem, z0, z1, z2, z3, n0, n1]) rfl ?_
            have hfin := fun v0 v1 v2 v3 v4 v5 => fin6 hS hG R1 R2 hl (by omega) (by omega) (by omega) v0 v1 v2 v3 v4 v5
            obtain ⟨hq1, hq2, hq3, hq4⟩ := hfin (.int .i64 (P : Int)) (.int .i64 c) (.int .i64 h) (.int .i64 s) (.slice (some ⟨ge1, 0, none⟩) (P + 1) (P + 1)) (.slice (some ⟨ge2, 0, none⟩) (P + 1) (P + 1))
            clear hfin
            exact ⟨(P : Int), c, h, s, ge1, ge2, P + 1, P + 1, P + 1, P + 1, xs, ys, rfl, by omega, HX.out, HY.out, by omega, by omega, by omega, by omega, by omega, by omega, hq3, hq4, hq1, hq2⟩
/-- A pair has been drawn, all of it in new memory. -/
def PairNew14 (w : World) (e : Ending) (w' : World) : Prop :=
  ∃ (p c h s : Int) (g1 g2 n1 n2 c1 c2 : Nat) (xs ys : List Int), e = .returned (.tuple #[.agg #[.int .i64 p, .int .i64 c, .int .i64 h, .int .i64 s], .agg #[.slice (some ⟨g1, 0, none⟩) n1 c1, .slice (some ⟨g2, 0, none⟩) n2 c2]]) ∧
    xs.length = n1 ∧ ys.length = n2 ∧ n1 ≤ 1000 ∧ n2 ≤ 1000 ∧ Row w' g1 xs ∧ Row w' g2 ys ∧ Below w.heap.size w w'
set_option maxHeartbeats 2000000 in
theorem drawRaceAdvice_any (B : Nat) (a : Option Addr) (len cap : Nat) (w : World) (hB : B ≤ w.heap.size) (hlen : len ≤ 1048576) (hcode : CodeIn B w a len) :
    Calls Try.prog 27 #[.slice a len cap] w (PairNew14 w) := by
  obtain ⟨BZ, BN, hb, hz⟩ := two_new w #[.int .i64 0, .int .i64 0, .int .i64 0, .int .i64 0] #[.slice none 0 0, .slice none 0 0] 26 34
  have hc1 := hcode.below (hb.mono hB)
  go_enter Try.func27, Try.ntmps27
  go_wp2_with fail
  generalize ((w.alloc (.cells #[.int .i64 0, .int .i64 0, .int .i64 0, .int .i64 0] 26)).alloc (.cells #[.slice none 0 0, .slice none 0 0] 34)) = v0 at *
  refine (from_any B a len cap _ (by omega) hlen hc1).mono ?_
  rintro e w1 ⟨g, rfl, hg, hS, hb1⟩
  replace BZ := BZ.below hb1
  replace BN := BN.below hb1
  replace hb := chain hb hb1
  go_wp2_with fail
  refine (drawRace_any B g a len cap _ hS).mono ?_
  rintro e w2 ⟨p, c, h, s, g1, g2, n1, n2, c1, c2, xs, ys, rfl, bp, hx, hy, l1, l2, e1, e2, b1, b2, R1, R2, hS2, hG⟩
  replace BZ := BZ.grown hG (by omega)
  replace BN := BN.grown hG (by omega)
  replace hb := chain_grown hb hG (by omega)
  have hz1 := hb1.size
  obtain ⟨z0, z1, z2, z3, zf, zl⟩ := BZ.four
  obtain ⟨n0', n1', nf, nl⟩ := BN.two
  go_wp2_with fail
  refine bodyPost_ret (v := .tuple #[.agg #[.int .i64 p, .int .i64 c, .int .i64 h, .int .i64 s], .agg #[.slice (some ⟨g1, 0, none⟩) n1 c1, .slice (some ⟨g2, 0, none⟩) n2 c2]]) (by simp [results, Try.results27, go_sem, z0, z1, z2, z3, n0', n1']) rfl ?_
  exact ⟨p, c, h, s, g1, g2, n1, n2, c1, c2, xs, ys, rfl, hx, hy, l1, l2, (((((R1.other (by omega)).other (by omega)).other (by omega)).other (by omega)).other (by omega)).other (by omega),
    (((((R2.other (by omega)).other (by omega)).other (by omega)).other (by omega)).other (by omega)).other (by omega), (((((hb.setCell (by simp) _).setCell (by simp) _).setCell (by simp) _).setCell (by simp) _).setCell (by simp) _).setCell (by simp) _⟩
end Go.Proofs.Ytjepbhainidpgaa
