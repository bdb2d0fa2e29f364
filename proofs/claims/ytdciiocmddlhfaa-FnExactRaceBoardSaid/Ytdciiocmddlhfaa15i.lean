/- Contract of the program's RaceBoard: the board with two bear-off positions. -/
import Derived.Test.Ytdciiocmddlhfaa15h
import Derived.Test.Ytdciiocmddlhfaa10a
import Derived.Test.YtdciiocmddlhfaaImpl02c
import Derived.Test.YtdciiocmddlhfaaImpl02d
import Derived.Test.YtdciiocmddlhfaaOwnB
namespace Go.Proofs.Ytdciiocmddlhfaa
open Go.ChangeShapes Go.WideShapes Go.ChangeAt Go.RowKit
set_option linter.unusedVariables false
set_option linter.unusedSimpArgs false
set_option maxRecDepth 4000

set_option maxRecDepth 8000 in
theorem or64_any (g : Nat) (q r : Int) (w : World) (HB : Blk w g #[.int .i64 q, .int .i64 r] 2) :
    Calls Try.prog 18 #[.slice (some ⟨g, 0, none⟩) 2 2] w fun e w' => e = .returned (.int .i64 (if q ≠ 0 then q else r)) ∧ w = w' := by
  obtain ⟨x0, x1, xf, xl⟩ := HB.two
  by_cases hq : q = 0
  · rw [if_neg (by simpa using hq)]
    have fq : (q != 0) = false := by rw [hq]; rfl
    by_cases hr : r = 0
    · subst hr
      clear hq
      go_enter Try.func18, Try.ntmps18
      go_wp2_with fail
      refine wp_loop_rounds 3 ?_
      rw [rounds_succ]; go_wp2
      rw [rounds_succ]; go_wp2
      rw [rounds_succ]; go_wp2
      go_ret
      exact ⟨rfl, rfl⟩
    · have fr : (r != 0) = true := by simpa using hr
      clear hq hr
      go_enter Try.func18, Try.ntmps18
      go_wp2_with fail
      refine wp_loop_rounds 2 ?_
      rw [rounds_succ]; go_wp2
      rw [rounds_succ]; go_wp2
      go_ret
      exact ⟨rfl, rfl⟩
  · rw [if_pos hq]
    have fq : (q != 0) = true := by simpa using hq
    clear hq
    go_enter Try.func18, Try.ntmps18
    go_wp2_with fail
    refine wp_loop_rounds 1 ?_
    rw [rounds_succ]; go_wp2
    go_ret
    exact ⟨rfl, rfl⟩
/-- A bear-off position, followed by so many empty points. -/
def rbX (p h : Int) (xs : List Int) : List Int := xs ++ List.replicate (p + 1 - h).toNat 0
def rbC (p c h s : Int) (xs ys : List Int) : Int := if bcE p c h s xs ≠ 0 then bcE p c h s xs else bcE p c h s ys
def rbB (p c h s : Int) (xs ys : List Int) : Bool := isB p c h s (rbX p h xs) (rbX p h ys) && !contB p (rbX p h xs) (rbX p h ys)
def rbK (p c h s : Int) (xs ys : List Int) : Int := if rbC p c h s xs ys ≠ 0 then rbC p c h s xs ys else if rbB p c h s xs ys = true then 0 else 5
theorem OSl.setR {lo hi g o : Nat} {w : World} {v : Value} {a : Option Addr} {xs : List Int} (h : OSl lo hi w a xs) (hg : g < lo) : OSl lo hi (w.setCell ⟨g, o, none⟩ v) a xs := by
  rcases h with h | ⟨b, rfl, h1, h2, r⟩
  · exact .inl h
  · exact .inr ⟨b, rfl, h1, h2, r.other (by omega)⟩
/-- A board of one's own is handed back, or a code. -/
def RbGot (X Y : List Int) (k : Int) (w : World) (e : Ending) (w' : World) : Prop :=
  (k = 0 → ∃ (aO aT : Option Addr) (kO kT m n : Nat), e = .returned (.tuple #[.agg #[.slice aO X.length kO, .slice aT Y.length kT], .int .i64 0]) ∧ OSl w.heap.size m w' aO X ∧ OSl m n w' aT Y ∧ m ≤ n ∧ n ≤ w'.heap.size) ∧ (k ≠ 0 → e = .returned (.tuple #[.agg #[.slice none 0 0, .slice none 0 0], .int .i64 k])) ∧ Below w.heap.size w w'
set_option maxRecDepth 8000 in
set_option maxHeartbeats 2000000 in
theorem raceBoard_any (p c h s : Int) (a1 a2 : Option Addr) (n1 n2 c1 c2 : Nat) (xs ys : List Int) (w : World) (hn1 : xs.length = n1) (hn2 : ys.length = n2) (hl1 : n1 ≤ 1048576) (hl2 : n2 ≤ 1048576) (hr1 : IRow w a1 xs) (hr2 : IRow w a2 ys) :
    Calls Try.prog 7 #[.agg #[.int .i64 p, .int .i64 c, .int .i64 h, .int .i64 s], .slice a1 n1 c1, .slice a2 n2 c2] w (RbGot (rbX p h xs) (rbX p h ys) (rbK p c h s xs ys) w) := by
  subst hn1 hn2
  obtain ⟨BV, BO, hb, hz⟩ := two_new w #[.int .i64 p, .int .i64 c, .int .i64 h, .int .i64 s] #[.slice none 0 0, .slice none 0 0] 29 26
  have rx := hr1.below hb
  have ry := hr2.below hb
  clear hr1 hr2 hz
  have hX := fun W (r : IRow W a1 xs) => bearoffCode_any p c h s a1 xs.length c1 xs W rfl hl1 r
  have hY := fun W (r : IRow W a2 ys) => bearoffCode_any p c h s a2 ys.length c2 ys W rfl hl2 r
  obtain ⟨KX, hKX⟩ : ∃ K, bcE p c h s xs = K := ⟨_, rfl⟩
  obtain ⟨KY, hKY⟩ : ∃ K, bcE p c h s ys = K := ⟨_, rfl⟩
  rw [hKX] at hX
  rw [hKY] at hY
  have hO := fun W g (HB : Blk W g #[.int .i64 KX, .int .i64 KY] 2) => or64_any g KX KY W HB
  obtain ⟨K, hK⟩ : ∃ K, (if KX ≠ 0 then KX else KY) = K := ⟨_, rfl⟩
  rw [hK] at hO
  have HO := Lib.hid (fun (W : World) (HB : Blk (W.alloc (.cells #[.int .i64 KX, .int .i64 KY] 2)) W.heap.size #[.int .i64 KX, .int .i64 KY] 2) => hO _ _ HB)
  have HX := Lib.hid hX
  have HY := Lib.hid hY
  clear hO hX hY
  obtain ⟨x0, x1, x2, x3, xf, xl⟩ := BV.four
  go_enter Try.func7, Try.ntmps7
  go_wp2_with fail
  clear x0 x1 x2 x3 xf xl
  generalize ((w.alloc (.cells #[.int .i64 p, .int .i64 c, .int .i64 h, .int .i64 s] 29)).alloc (.cells #[.slice none 0 0, .slice none 0 0] 26)) = w1 at *
  replace BV := BV.drew
  replace BO := BO.drew
  replace rx := rx.drew
  replace ry := ry.drew
  replace hb := hb.drew
  refine wp_region_held_drew (S := fun w' => w'.cell? ⟨w.heap.size, 0, none⟩ = some (.int .i64 p) ∧ w'.cell? ⟨w.heap.size, 1, none⟩ = some (.int .i64 c) ∧ w'.cell? ⟨w.heap.size, 2, none⟩ = some (.int .i64 h) ∧ w'.cell? ⟨w.heap.size, 3, none⟩ = some (.int .i64 s)) (by kernel_rfl) ⟨BV.four.1, BV.four.2.1, BV.four.2.2.1, BV.four.2.2.2.1⟩ (fun hHeld => ?_)
  clear hHeld
  have hz_vd : w1.drew.heap.size = w1.heap.size := rfl
  generalize w1.drew = vd at *
  have hHeld : vd.cell? ⟨w.heap.size, 0, none⟩ = some (.int .i64 p) ∧ vd.cell? ⟨w.heap.size, 1, none⟩ = some (.int .i64 c) ∧ vd.cell? ⟨w.heap.size, 2, none⟩ = some (.int .i64 h) ∧ vd.cell? ⟨w.heap.size, 3, none⟩ = some (.int .i64 s) := ⟨BV.four.1, BV.four.2.1, BV.four.2.2.1, BV.four.2.2.2.1⟩
  refine tk 0 11 ?_
  refine tk 1 12 ?_
  refine tk 3 14 ?_
  refine tk 4 15 ?_
  refine rdk 2 13 fun K hK => ?_
  go_simp
  refine (HX.out _ rx).mono ?_
  rintro e w2 ⟨rfl, hb2⟩
  replace BV := BV.below hb2
  replace BO := BO.below hb2
  replace rx := rx.below hb2
  replace ry := ry.below hb2
  replace hb := chain hb hb2
  clear hb2
  (try go_wp2_with fail)
  refine hko hK (Blk.l4 BV) fun hHeld => ?_
  clear hK K
  refine rdk 5 16 fun K hK => ?_
  go_simp
  refine (HY.out _ ry).mono ?_
  rintro e w3 ⟨rfl, hb3⟩
  replace BV := BV.below hb3
  replace BO := BO.below hb3
  replace rx := rx.below hb3
  replace ry := ry.below hb3
  replace hb := chain hb hb3
  clear hb3
  (try go_wp2_with fail)
  refine hko hK (Blk.l4 BV) fun hHeld => ?_
  clear hK K
  refine rdk 6 17 fun K hK => ?_
  go_simp
  (try go_wp2_with fail)
  refine hko hK (Blk.l4 (BV.alloc (.cells #[.int .i64 KX, .int .i64 KY] 2))) fun hHeld => ?_
  clear hK K
  refine rdk 7 18 fun K hK => ?_
  go_simp
  have B8 := Blk.new w3 #[.int .i64 KX, .int .i64 KY] 2
  have hal : Below w3.heap.size w3 (w3.alloc (.cells #[.int .i64 KX, .int .i64 KY] 2)) := (Below.refl _ _).alloc (Nat.le_refl _) _
  replace BV := BV.below hal
  replace BO := BO.below hal
  replace rx := rx.below hal
  replace ry := ry.below hal
  replace hb := chain hb hal
  clear hal
  refine (HO.out _ B8).mono ?_
  rintro e w4 ⟨rfl, rfl⟩
  (try go_wp2_with fail)
  refine hko hK (Blk.l4 BV) fun hHeld => ?_
  clear hK K
  refine tk 8 8 ?_
  refine wpAnyH_done (by kernel_rfl) ?_ _
  clear hHeld
  generalize w3.alloc (.cells #[.int .i64 KX, .int .i64 KY] 2) = w4 at *
  by_cases k0 : K = 0
  · obtain ⟨hk1, hk2⟩ : KX = 0 ∧ KY = 0 := by
      rw [k0] at hK
      split at hK
      · rename_i q
        exact absurd hK q
      · rename_i q
        exact ⟨by omega, hK⟩
    have ox := okP_of (hKX.trans hk1)
    have oy := okP_of (hKY.trans hk2)
    simp only [okP, Bool.and_eq_true, vB_iff, sideB_iff] at ox oy
    obtain ⟨M, hM⟩ : ∃ M : Nat, p + 1 - h = (M : Int) := ⟨(p + 1 - h).toNat, by omega⟩
    obtain ⟨zs, hzs⟩ : ∃ z, List.replicate M (0 : Int) = z := ⟨_, rfl⟩
    have hzl : zs.length = M := by rw [← hzs, List.length_replicate]
    have hXe : rbX p h xs = xs ++ zs := by unfold rbX; rw [show (p + 1 - h).toNat = M by omega, hzs]
    have hYe : rbX p h ys = ys ++ zs := by unfold rbX; rw [show (p + 1 - h).toNat = M by omega, hzs]
    have hM1 : 1 ≤ M ∧ M ≤ 24 := by omega
    have hx0 : 0 < xs.length ∧ xs.length ≤ 24 := by omega
    have hy0 : 0 < ys.length ∧ ys.length ≤ 24 := by omega
    have hkk : rbC p c h s xs ys = 0 := by unfold rbC; rw [hKX, hKY, hk1, hk2]; simp
    have hrk : rbK p c h s xs ys = if (isB p c h s (xs ++ zs) (ys ++ zs) && !contB p (xs ++ zs) (ys ++ zs)) = true then 0 else 5 := by
      unfold rbK rbB
      rw [if_neg (by rw [hkk]; simp), hXe, hYe]
    have hcx := fun (W : World) (gl bz : Nat) (r1 : IRow W a1 xs) (r2 : IRow W (some ⟨bz, 0, none⟩) zs) (hL : Blk W gl #[.slice a1 xs.length c1, .slice (some ⟨bz, 0, none⟩) M M] 24) => concat2_any a1 (some ⟨bz, 0, none⟩) c1 M xs zs gl W hx0.1 (by omega) (by omega) (by omega) r1 r2 (by rw [hzl]; exact hL)
    have hcy := fun (W : World) (gl bz : Nat) (r1 : IRow W a2 ys) (r2 : IRow W (some ⟨bz, 0, none⟩) zs) (hL : Blk W gl #[.slice a2 ys.length c2, .slice (some ⟨bz, 0, none⟩) M M] 24) => concat2_any a2 (some ⟨bz, 0, none⟩) c2 M ys zs gl W hy0.1 (by omega) (by omega) (by omega) r1 r2 (by rw [hzl]; exact hL)
    have hlx : (xs ++ zs).length ≤ 48 := by rw [List.length_append]; omega
    have hly : (ys ++ zs).length ≤ 48 := by rw [List.length_append]; omega
    obtain ⟨X, hX⟩ : ∃ X, xs ++ zs = X := ⟨_, rfl⟩
    obtain ⟨Y, hY⟩ : ∃ Y, ys ++ zs = Y := ⟨_, rfl⟩
    rw [hX] at hcx hlx
    rw [hY] at hcy hly
    rw [hX, hY] at hrk
    obtain ⟨b1, hb1e⟩ : ∃ b, isB p c h s X Y = b := ⟨_, rfl⟩
    obtain ⟨b2, hb2e⟩ : ∃ b, contB p X Y = b := ⟨_, rfl⟩
    rw [hb1e, hb2e] at hrk
    have HRK := Lib.hid hrk
    have HXE := Lib.hid (hXe.trans hX)
    have HYE := Lib.hid (hYe.trans hY)
    have hib := fun (W : World) (aO aT : Option Addr) (kO kT : Nat) (r1 : IRow W aO X) (r2 : IRow W aT Y) => isBoard_any p c h s aO aT X.length Y.length kO kT X Y W rfl rfl (by omega) (by omega) r1 r2
    have hic := fun (W : World) (aO aT : Option Addr) (kO kT : Nat) (r1 : IRow W aO X) (r2 : IRow W aT Y) => isContact_any p c h s aO aT X.length Y.length kO kT X Y W rfl rfl (by omega) (by omega) r1 r2
    rw [hb1e] at hib
    rw [hb1e, hb2e] at hic
    have wz1 : IntKind.i64.wrap (p + 1) = p + 1 := IntWalk.i64_in _ (by omega)
    have wz : IntKind.i64.wrap (p + 1 - h) = (M : Int) := by rw [hM]; exact IntWalk.i64_in _ (by omega)
    obtain ⟨i0, hi, hz0, hz1, hz2⟩ := info_parts infoI64
    have HCX := Lib.hid hcx
    have HCY := Lib.hid hcy
    have HIB := Lib.hid hib
    have HIC := Lib.hid hic
    have HZS := Lib.hid hzs
    have HM1 := Lib.hid hM1
    clear hb1e hb2e hcx hcy hib hic ox oy hK hKX hKY hk1 hk2 hkk hrk hXe hYe hzl hX hY hx0 hy0 hM hzs HO HX HY
    subst k0
    obtain ⟨x0, x1, x2, x3, xf, xl⟩ := BV.four
    go_wp2_with (at_make; refine wpList_make_row _ rfl _ _ 24 rfl 2 i0 (.int .i64 0) Try.underlying24 hi hz0 hz1 rfl .i64 .i64 M (by rfl) (by rfl) (by rw [hz2]; omega) (by omega) ?_)
    have rz := (made_row w4 M).irow
    rw [HZS.out] at rz
    replace BV := BV.alloc (.cells (madeCells #[.int .i64 0] M) 2); replace BO := BO.alloc (.cells (madeCells #[.int .i64 0] M) 2); replace rx := rx.alloc (.cells (madeCells #[.int .i64 0] M) 2); replace ry := ry.alloc (.cells (madeCells #[.int .i64 0] M) 2); replace hb := chain_alloc hb (.cells (madeCells #[.int .i64 0] M) 2)
    have hs5 : (w4.alloc (.cells (madeCells #[.int .i64 0] M) 2)).heap.size = w4.heap.size + 1 := by simp
    rw [← hs5]
    generalize (w4.alloc (.cells (madeCells #[.int .i64 0] M) 2)) = w5 at *
    generalize w4.heap.size = bz at *
    clear hs5 B8 hHeld
    have hbo5 := BO.lt
    have BL := Blk.new w5 #[.slice a1 xs.length c1, .slice (some ⟨bz, 0, none⟩) M M] 24
    replace rz := rz.alloc (.cells #[.slice a1 xs.length c1, .slice (some ⟨bz, 0, none⟩) M M] 24)
    replace BV := BV.alloc (.cells #[.slice a1 xs.length c1, .slice (some ⟨bz, 0, none⟩) M M] 24); replace BO := BO.alloc (.cells #[.slice a1 xs.length c1, .slice (some ⟨bz, 0, none⟩) M M] 24); replace rx := rx.alloc (.cells #[.slice a1 xs.length c1, .slice (some ⟨bz, 0, none⟩) M M] 24); replace ry := ry.alloc (.cells #[.slice a1 xs.length c1, .slice (some ⟨bz, 0, none⟩) M M] 24); replace hb := chain_alloc hb (.cells #[.slice a1 xs.length c1, .slice (some ⟨bz, 0, none⟩) M M] 24)
    have hs5 : w5.heap.size ≤ (w5.alloc (.cells #[.slice a1 xs.length c1, .slice (some ⟨bz, 0, none⟩) M M] 24)).heap.size := by simp
    refine (HCX.out _ _ _ rx rz BL).mono ?_
    rintro e w6 ⟨v1, rfl, hO1, hb6⟩
    obtain ⟨aO, kO, rfl⟩ := hO1.form
    have oO := hO1.osl
    have hs6 := hb6.size
    replace BV := BV.below hb6; replace BO := BO.below hb6; replace rx := rx.below hb6; replace ry := ry.below hb6; replace rz := rz.below hb6; replace hb := chain hb hb6
    clear hO1 hb6 BL
    generalize (w5.alloc (.cells #[.slice a1 xs.length c1, .slice (some ⟨bz, 0, none⟩) M M] 24)).heap.size = lO at *
    go_wp2_with fail
    have BL := Blk.new w6 #[.slice a2 ys.length c2, .slice (some ⟨bz, 0, none⟩) M M] 24
    replace rz := rz.alloc (.cells #[.slice a2 ys.length c2, .slice (some ⟨bz, 0, none⟩) M M] 24)
    replace BV := BV.alloc (.cells #[.slice a2 ys.length c2, .slice (some ⟨bz, 0, none⟩) M M] 24); replace BO := BO.alloc (.cells #[.slice a2 ys.length c2, .slice (some ⟨bz, 0, none⟩) M M] 24); replace rx := rx.alloc (.cells #[.slice a2 ys.length c2, .slice (some ⟨bz, 0, none⟩) M M] 24); replace ry := ry.alloc (.cells #[.slice a2 ys.length c2, .slice (some ⟨bz, 0, none⟩) M M] 24); replace oO := oO.alloc (.cells #[.slice a2 ys.length c2, .slice (some ⟨bz, 0, none⟩) M M] 24); replace hb := chain_alloc hb (.cells #[.slice a2 ys.length c2, .slice (some ⟨bz, 0, none⟩) M M] 24)
    have hs7 : w6.heap.size ≤ (w6.alloc (.cells #[.slice a2 ys.length c2, .slice (some ⟨bz, 0, none⟩) M M] 24)).heap.size := by simp
    refine (HCY.out _ _ _ ry rz BL).mono ?_
    rintro e w8 ⟨v2, rfl, hO2, hb8⟩
    obtain ⟨aT, kT, rfl⟩ := hO2.form
    have oT := hO2.osl
    have hs8 := hb8.size
    replace BV := BV.below hb8; replace BO := BO.below hb8; replace oO := oO.below hb8; replace hb := chain hb hb8
    clear hO2 hb8 BL rx ry rz
    generalize (w6.alloc (.cells #[.slice a2 ys.length c2, .slice (some ⟨bz, 0, none⟩) M M] 24)).heap.size = lT at *
    have B10 := Blk.new w8 #[.slice aO X.length kO, .slice aT Y.length kT] 26
    have oOi := oO.irow.alloc (.cells #[.slice aO X.length kO, .slice aT Y.length kT] 26)
    have oTi := oT.irow.alloc (.cells #[.slice aO X.length kO, .slice aT Y.length kT] 26)
    have hs9 : w8.heap.size ≤ (w8.alloc (.cells #[.slice aO X.length kO, .slice aT Y.length kT] 26)).heap.size := by simp
    replace BV := BV.alloc (.cells #[.slice aO X.length kO, .slice aT Y.length kT] 26); replace BO := BO.alloc (.cells #[.slice aO X.length kO, .slice aT Y.length kT] 26); replace oO := oO.alloc (.cells #[.slice aO X.length kO, .slice aT Y.length kT] 26); replace oT := oT.alloc (.cells #[.slice aO X.length kO, .slice aT Y.length kT] 26); replace hb := chain_alloc hb (.cells #[.slice aO X.length kO, .slice aT Y.length kT] 26)
    obtain ⟨x0, x1, x2, x3, xf, xl⟩ := BV.four
    obtain ⟨y0, y1, yf, yl⟩ := B10.two
    clear oOi oTi
    go_wp2_with fail
    clear x0 x1 x2 x3 xf xl y0 y1 yf yl
    generalize (w8.alloc (.cells #[.slice aO X.length kO, .slice aT Y.length kT] 26)) = wa at *
    refine (HIB.out _ _ _ _ _ oO.irow oT.irow).mono ?_
    rintro e w9 ⟨rfl, hb9⟩
    replace BV := BV.below hb9; replace BO := BO.below hb9; replace B10 := B10.below hb9; replace oO := oO.below hb9; replace oT := oT.below hb9; replace hb := chain hb hb9
    have hs10 := hb9.size
    clear hb9
    obtain ⟨x0, x1, x2, x3, xf, xl⟩ := BV.four
    obtain ⟨y0, y1, yf, yl⟩ := B10.two
    cases b1 with
    | false =>
      clear x0 x1 x2 x3 xf xl y0 y1 yf yl HIC
      obtain ⟨z0, z1, zf, zl⟩ := BO.two
      go_wp2_with fail
      have MO := (BO.set (i := 0) (.slice none 0 0)).set (i := 1) (.slice none 0 0)
      simp only [List.setIfInBounds_toArray, List.set_cons_zero, List.set_cons_succ] at MO
      have hM := (hb.setCell (p := ⟨w.heap.size + 1, 0, none⟩) (by simp <;> omega) (.slice none 0 0)).setCell (p := ⟨w.heap.size + 1, 1, none⟩) (by simp <;> omega) (.slice none 0 0)
      clear z0 z1 zf zl
      generalize ((w9.setCell ⟨w.heap.size + 1, 0, none⟩ (.slice none 0 0)).setCell ⟨w.heap.size + 1, 1, none⟩ (.slice none 0 0)) = we at *
      obtain ⟨z0, z1, zf, zl⟩ := MO.two
      refine bodyPost_ret (v := .tuple #[.agg #[.slice none 0 0, .slice none 0 0], .int .i64 5]) (by simp [results, Try.results7, go_sem, z0, z1]) rfl ?_
      rw [HRK.out]
      exact ⟨fun e => absurd e (by simp), fun _ => by simp, hM⟩
    | true =>
      go_wp2_with fail
      clear x0 x1 x2 x3 xf xl y0 y1 yf yl
      refine (HIC.out _ _ _ _ _ oO.irow oT.irow).mono ?_
      rintro e wb ⟨rfl, hbb⟩
      replace BV := BV.below hbb; replace BO := BO.below hbb; replace B10 := B10.below hbb; replace oO := oO.below hbb; replace oT := oT.below hbb; replace hb := chain hb hbb
      have hsb := hbb.size
      clear hbb
      cases b2 with
      | true =>
        obtain ⟨z0, z1, zf, zl⟩ := BO.two
        go_wp2_with fail
        have MO := (BO.set (i := 0) (.slice none 0 0)).set (i := 1) (.slice none 0 0)
        simp only [List.setIfInBounds_toArray, List.set_cons_zero, List.set_cons_succ] at MO
        have hM := (hb.setCell (p := ⟨w.heap.size + 1, 0, none⟩) (by simp <;> omega) (.slice none 0 0)).setCell (p := ⟨w.heap.size + 1, 1, none⟩) (by simp <;> omega) (.slice none 0 0)
        clear z0 z1 zf zl
        generalize ((wb.setCell ⟨w.heap.size + 1, 0, none⟩ (.slice none 0 0)).setCell ⟨w.heap.size + 1, 1, none⟩ (.slice none 0 0)) = we at *
        obtain ⟨z0, z1, zf, zl⟩ := MO.two
        refine bodyPost_ret (v := .tuple #[.agg #[.slice none 0 0, .slice none 0 0], .int .i64 5]) (by simp [results, Try.results7, go_sem, z0, z1]) rfl ?_
        rw [HRK.out]
        exact ⟨fun e => absurd e (by simp), fun _ => by simp, hM⟩
      | false =>
        obtain ⟨y0, y1, yf, yl⟩ := B10.two
        obtain ⟨z0, z1, zf, zl⟩ := BO.two
        go_wp2_with fail
        have MO := (BO.set (i := 0) (.slice aO X.length kO)).set (i := 1) (.slice aT Y.length kT)
        simp only [List.setIfInBounds_toArray, List.set_cons_zero, List.set_cons_succ] at MO
        have hM := (hb.setCell (p := ⟨w.heap.size + 1, 0, none⟩) (by simp <;> omega) (.slice aO X.length kO)).setCell (p := ⟨w.heap.size + 1, 1, none⟩) (by simp <;> omega) (.slice aT Y.length kT)
        have oOn := (oO.setR (g := w.heap.size + 1) (o := 0) (v := .slice aO X.length kO) (by omega)).setR (g := w.heap.size + 1) (o := 1) (v := .slice aT Y.length kT) (by omega)
        have oTn := (oT.setR (g := w.heap.size + 1) (o := 0) (v := .slice aO X.length kO) (by omega)).setR (g := w.heap.size + 1) (o := 1) (v := .slice aT Y.length kT) (by omega)
        have hse : wb.heap.size = ((wb.setCell ⟨w.heap.size + 1, 0, none⟩ (.slice aO X.length kO)).setCell ⟨w.heap.size + 1, 1, none⟩ (.slice aT Y.length kT)).heap.size := by simp [World.setCell]
        clear z0 z1 zf zl y0 y1 yf yl
        generalize ((wb.setCell ⟨w.heap.size + 1, 0, none⟩ (.slice aO X.length kO)).setCell ⟨w.heap.size + 1, 1, none⟩ (.slice aT Y.length kT)) = we at *
        obtain ⟨z0, z1, zf, zl⟩ := MO.two
        refine bodyPost_ret (v := .tuple #[.agg #[.slice aO X.length kO, .slice aT Y.length kT], .int .i64 0]) (by simp [results, Try.results7, go_sem, z0, z1]) rfl ?_
        rw [HXE.out, HYE.out, HRK.out]
        exact ⟨fun _ => ⟨aO, aT, kO, kT, w6.heap.size, w8.heap.size, rfl, oOn.mono (by omega) (Nat.le_refl _), oTn.mono (by omega) (Nat.le_refl _), by omega, by omega⟩, fun e => absurd rfl e, hM⟩
  · have fk : (K == 0) = false := by rw [beq_eq_false_iff_ne]; exact k0
    have fk2 : (K != 0) = true := by rw [bne, fk]; rfl
    have hrk : rbK p c h s xs ys = K := by
      have e : rbC p c h s xs ys = K := by unfold rbC; rw [hKX, hKY, hK]
      unfold rbK
      rw [if_pos (by rw [e]; exact k0), e]
    have HRK := Lib.hid hrk
    clear hrk
    obtain ⟨z0, z1, zf, zl⟩ := BO.two
    go_wp2_with fail
    have MO := (BO.set (i := 0) (.slice none 0 0)).set (i := 1) (.slice none 0 0)
    simp only [List.setIfInBounds_toArray, List.set_cons_zero, List.set_cons_succ] at MO
    have hM := (hb.setCell (p := ⟨w.heap.size + 1, 0, none⟩) (by simp <;> omega) (.slice none 0 0)).setCell (p := ⟨w.heap.size + 1, 1, none⟩) (by simp <;> omega) (.slice none 0 0)
    clear z0 z1 zf zl
    generalize ((w4.setCell ⟨w.heap.size + 1, 0, none⟩ (.slice none 0 0)).setCell ⟨w.heap.size + 1, 1, none⟩ (.slice none 0 0)) = we at *
    obtain ⟨z0, z1, zf, zl⟩ := MO.two
    refine bodyPost_ret (v := .tuple #[.agg #[.slice none 0 0, .slice none 0 0], .int .i64 K]) (by simp [results, Try.results7, go_sem, z0, z1]) rfl ?_
    exact ⟨fun e => absurd (HRK.out.symm.trans e) k0, fun _ => by rw [HRK.out], hM⟩
end Go.Proofs.Ytdciiocmddlhfaa
