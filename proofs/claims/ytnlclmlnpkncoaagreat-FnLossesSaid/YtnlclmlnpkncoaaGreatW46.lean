/- Texts of a proof, laid together. -/
import Derived.Test.YtnlclmlnpkncoaaGreatW28
import Derived.Test.YtnlclmlnpkncoaaGreatW02
import Derived.Test.YtnlclmlnpkncoaaGreatW30
import Derived.Test.YtnlclmlnpkncoaaGreatW31
import Derived.Test.YtnlclmlnpkncoaaGreatW40
import Derived.Test.YtnlclmlnpkncoaaGreatW35
import Derived.Test.YtnlclmlnpkncoaaGreatW01
import Derived.Test.YtnlclmlnpkncoaaGreatW13
import Derived.StillTailTactics
import Derived.Deep.LoopGhost
import Derived.BigQuiet
import Derived.Deep.QuietTactic
namespace Go.Proofs.YtnlclmlnpkncoaaGreat
open Go.ChangeShapes Go.WideShapes Go.ChangeAt Go.RowKit
set_option linter.unusedVariables false
set_option linter.unusedSimpArgs false
set_option maxRecDepth 4000
def brO (S : Nat) (xs ys : List Int) (ra rb : Int) : List Int × Int := match bst (tp S) (wc S ys) (resI xs (ordersP ra rb)) with
  | some q => ((resI xs (ordersP ra rb)).getD q.1 [], 0)
  | none => ([], 3)
def brV (p c h s : Int) (xs ys : List Int) (ra rb : Int) : List Int × Int := if tnE p c h s xs ys ra rb = 0 then brO s.toNat xs ys ra rb else ([], tnE p c h s xs ys ra rb)
set_option maxRecDepth 8000 in
set_option maxHeartbeats 2000000 in
theorem bestRaceResult_any (p c h s : Int) (a1 a2 : Option Addr) (n1 n2 c1 c2 : Nat) (xs ys : List Int) (ra rb : Int) (w : World) (hn1 : xs.length = n1) (hn2 : ys.length = n2) (hl1 : n1 ≤ 1048576) (hl2 : n2 ≤ 1048576) (hr1 : IRow w a1 xs) (hr2 : IRow w a2 ys) :
    Calls Tryz.prog 14 #[.agg #[.int .i64 p, .int .i64 c, .int .i64 h, .int .i64 s], .slice a1 n1 c1, .slice a2 n2 c2, .agg #[.int .i64 ra, .int .i64 rb]] w (SliceGot2 (brV p c h s xs ys ra rb).1 (brV p c h s xs ys ra rb).2 w) := by
  obtain ⟨BV, BR, hb, hz⟩ := two_new w #[.int .i64 p, .int .i64 c, .int .i64 h, .int .i64 s] #[.int .i64 ra, .int .i64 rb] 25 39
  have hzz : w.heap.size + 1 < ((w.alloc (.cells #[.int .i64 p, .int .i64 c, .int .i64 h, .int .i64 s] 25)).alloc (.cells #[.int .i64 ra, .int .i64 rb] 39)).heap.size := by rw [hz]; omega
  clear hz
  have HRO1 := Lib.hid hr1
  have HRO2 := Lib.hid hr2
  have HC := Lib.hid (turnCode_any p c h s a1 a2 n1 n2 c1 c2 xs ys ra rb _ hn1 hn2 hl1 hl2 (hr1.below hb) (hr2.below hb))
  clear hr1 hr2
  obtain ⟨x0, x1, x2, x3, xf, xl⟩ := BV.four
  obtain ⟨y0, y1, yf, yl⟩ := BR.two
  by_cases k0 : tnE p c h s xs ys ra rb = 0
  · rw [brV, if_pos k0]
    rw [k0] at HC
    obtain ⟨kO, hrl⟩ := tnE_zero k0
    obtain ⟨S, rfl, hS, hxp, hyp, hcn, few⟩ := rc_ready (rcE_zero (ocE_zero kO).1).1
    rw [Int.toNat_natCast]
    have HBR0 := Lib.hid (show brO S xs ys ra rb = match bst (tp S) (wc S ys) (resI xs (ordersP ra rb)) with | some q => ((resI xs (ordersP ra rb)).getD q.1 [], (0 : Int)) | none => ([], 3) from rfl)
    have HRL := Lib.hid hrl
    clear k0 kO hrl
    go_enter Tryz.func14, Tryz.ntmps14
    go_wp2_with fail
    refine (HC.out).mono ?_
    rintro e w1 ⟨rfl, hb1⟩
    have hz1 := hb1.size
    replace BV := BV.below hb1
    replace BR := BR.below hb1
    replace hb := chain hb hb1
    clear x0 x1 x2 x3 xf xl y0 y1 yf yl hb1 HC
    obtain ⟨x0, x1, x2, x3, xf, xl⟩ := BV.four
    have HCU := Lib.hid (chancesUpTo_any p c h S hS a1 a2 n1 n2 c1 c2 xs ys w1 hxp hyp hcn hn1 hn2 (HRO1.out.below hb) (HRO2.out.below hb))
    go_wp2_with fail
    refine (HCU.out).mono ?_
    rintro e w2 ⟨t, rfl, rfl, rfl, rfl, rfl, hK, hI, hgR0, hgC0, hb2⟩
    clear x0 x1 x2 x3 xf xl HCU
    have hw2 := hb2.size
    have hsw := hb.size
    replace BV := BV.below hb2
    replace BR := BR.below hb2
    replace hb := chain hb hb2
    have hgR : w.heap.size ≤ t.gR := by omega
    have hgC : w.heap.size ≤ t.gC := by omega
    obtain ⟨hx, hy, hK1⟩ := Tb.in_of hxp hyp hcn hK
    obtain ⟨hrb, hrn, hrm, hrp, hrt⟩ := res_ready (ys := ys) hS hx HRL.out
    obtain ⟨Y, hY⟩ : ∃ Y, nm t.c ys = Y := ⟨_, rfl⟩
    have HBE := Lib.hid (fun (gl k : Nat) W (q : TabI t W) (r : Row W gl ((resI xs (ordersP ra rb)).map fun z => (nm t.c z : Int))) => best_any t hS (pwT xs + pwT ys + 1) (win_any t hS few hK1 _) (resI xs (ordersP ra rb)) _ ys Y gl k W q rfl hrn hrm hrt hy hY r)
    obtain ⟨p1, p2, p3, p4, -⟩ := hx.1.po
    have HB := Lib.hid (fun (W : World) (r : IRow W a1 xs) => bearoffResultsM_any a1 n1 c1 xs ra rb W hn1 (by omega) (by omega) (by rw [← hn1, p4]; exact p1) hrb.1 hrb.2.1 hrb.2.2 r)
    have HLEN := Lib.hid (And.intro hrn hrm)
    have HPS := Lib.hid hrp
    have HY := Lib.hid hY
    have HYY := Lib.hid hy
    have HBR := HBR0
    clear hb2 hw2 hsw hgR0 hgC0 hK hrn hrm hrp hrt hrb p1 p2 p3 p4 hY hx hy hxp hyp hcn HRL HBR0
    go_upto_region 5 with (fail)
    clear BV
    go_cut [12, 13] from 14 (fun q12 q13 wr => ∃ (f : Int) (g8 : Nat) (y cd : Int), q12 = .int .i64 f ∧ q13 = .pointer (some ⟨g8, 0, none⟩) ∧ TabI t wr ∧ Blk wr g8 #[.int .i64 y, .int .i64 cd] 67 ∧ Hid (PV t.S ((bst (tp t.S) (wc t.S ys) (resI xs (ordersP ra rb))).map fun q => q.2) y cd) ∧ Hid (∀ q, bst (tp t.S) (wc t.S ys) (resI xs (ordersP ra rb)) = some q → f = (nm t.c ((resI xs (ordersP ra rb)).getD q.1 []) : Int) ∧ q.1 < (resI xs (ordersP ra rb)).length) ∧ Blk wr (w.heap.size + 1) #[.int .i64 ra, .int .i64 rb] 39 ∧ Below w.heap.size w wr ∧ w.heap.size ≤ g8)
    case first =>
      refine wp_region_held_drew (S := fun w' => w'.cell? ⟨t.g, 0, none⟩ = some (.int .i64 t.p) ∧ w'.cell? ⟨t.g, 1, none⟩ = some (.int .i64 t.c) ∧ w'.cell? ⟨t.g, 2, none⟩ = some (.int .i64 t.h) ∧ w'.cell? ⟨t.g, 3, none⟩ = some (.int .i64 (t.S : Int)) ∧ w'.cell? ⟨t.g, 4, none⟩ = some (.pointer (some ⟨t.gw, 0, none⟩)) ∧ w'.cell? ⟨w.heap.size + 1, 0, none⟩ = some (.int .i64 ra) ∧ w'.cell? ⟨w.heap.size + 1, 1, none⟩ = some (.int .i64 rb)) (by kernel_rfl) ⟨hI.drew.st.1.thirteen.1, hI.drew.st.1.thirteen.2.1, hI.drew.st.1.thirteen.2.2.1, hI.drew.st.1.thirteen.2.2.2.1, hI.drew.st.1.thirteen.2.2.2.2.1, BR.drew.two.1, BR.drew.two.2.1⟩ (fun hHeld => ?_)
      clear hHeld
      replace hI := hI.drew
      replace BR := BR.drew
      replace hb := hb.drew
      generalize w2.drew = vd at *
      have hHeld : vd.cell? ⟨t.g, 0, none⟩ = some (.int .i64 t.p) ∧ vd.cell? ⟨t.g, 1, none⟩ = some (.int .i64 t.c) ∧ vd.cell? ⟨t.g, 2, none⟩ = some (.int .i64 t.h) ∧ vd.cell? ⟨t.g, 3, none⟩ = some (.int .i64 (t.S : Int)) ∧ vd.cell? ⟨t.g, 4, none⟩ = some (.pointer (some ⟨t.gw, 0, none⟩)) ∧ vd.cell? ⟨w.heap.size + 1, 0, none⟩ = some (.int .i64 ra) ∧ vd.cell? ⟨w.heap.size + 1, 1, none⟩ = some (.int .i64 rb) := ⟨hI.st.1.thirteen.1, hI.st.1.thirteen.2.1, hI.st.1.thirteen.2.2.1, hI.st.1.thirteen.2.2.2.1, hI.st.1.thirteen.2.2.2.2.1, BR.two.1, BR.two.2.1⟩
      refine tk 0 27 ?_
      refine tk 1 28 ?_
      refine tk 2 29 ?_
      refine tk 3 30 ?_
      refine tk 4 31 ?_
      refine tk 5 32 ?_
      refine tk 6 33 ?_
      refine tk 9 36 ?_
      refine tk 10 37 ?_
      refine tk 11 38 ?_
      refine tk 12 39 ?_
      refine tk 13 40 ?_
      refine wpAnyH_ready (rs := [7, 19]) (by kernel_rfl) (by simp) ?_
      refine AllReadyH.cons (o := ⟨some 34, _, _, _, _, _⟩) rfl (fun K hK => ?_) (AllReadyH.cons (o := ⟨some 13, _, _, _, _, _⟩) rfl (fun K hK => ?_) AllReadyH.nil)
      · go_simp
        refine (HB.out _ (HRO1.out.below hb)).mono ?_
        rintro e w7 ⟨g5, k5, l5, rfl, -, hQ5, hnm5, hA5, -, hb5⟩
        replace hI := hI.below hb5
        replace BR := BR.below hb5
        replace hb := chain hb hb5
        clear hb5
        have hQR : QR w7 g5 l5 := ⟨hQ5, fun x hx => (hA5 x hx).2.2⟩
        have HNM := Lib.hid hnm5
        have HL5 := Lib.hid (nm_len hnm5)
        clear hQ5 hA5 hnm5
        (try go_wp2_with fail)
        refine hko hK ⟨hI.st.1.thirteen.1, hI.st.1.thirteen.2.1, hI.st.1.thirteen.2.2.1, hI.st.1.thirteen.2.2.2.1, hI.st.1.thirteen.2.2.2.2.1, (Blk.l2 BR)⟩ fun hHeld => ?_
        clear hK K
        refine wpAnyH_ready (rs := [8, 19]) (by kernel_rfl) (by simp) ?_
        refine AllReadyH.cons (o := ⟨some 35, _, _, _, _, _⟩) rfl (fun K hK => ?_) (AllReadyH.cons (o := ⟨some 13, _, _, _, _, _⟩) rfl (fun K hK => ?_) AllReadyH.nil)
        · go_simp
          refine (numbersOf_any t g5 l5.length k5 l5 _ rfl (by rw [HL5.out]; exact HLEN.out.2) hI.st.2.1 hQR.1 (fun x hx => ⟨hQR.2 x hx, HPS.out x.2.2 (by rw [← HNM.out]; exact List.mem_map.2 ⟨x, hx, rfl⟩)⟩)).mono ?_
          rintro e w8 ⟨g6, rfl, -, R6, hb6⟩
          clear hQR
          replace hI := hI.below hb6
          replace BR := BR.below hb6
          replace hb := chain hb hb6
          clear hb6
          rw [HNM.out] at R6
          rw [HL5.out]
          (try go_wp2_with fail)
          refine hko hK ⟨hI.st.1.thirteen.1, hI.st.1.thirteen.2.1, hI.st.1.thirteen.2.2.1, hI.st.1.thirteen.2.2.2.1, hI.st.1.thirteen.2.2.2.2.1, (Blk.l2 BR)⟩ fun hHeld => ?_
          clear hK K
          refine wpAnyH_ready (rs := [14, 19]) (by kernel_rfl) (by simp) ?_
          refine AllReadyH.cons (o := ⟨some 41, _, _, _, _, _⟩) rfl (fun K hK => ?_) (AllReadyH.cons (o := ⟨some 13, _, _, _, _, _⟩) rfl (fun K hK => ?_) AllReadyH.nil)
          · go_simp
            refine (numOf_any t.p t.c t.h (t.S : Int) t.gw a2 n2 c2 ys _ HYY.out.1 hn2 (HRO2.out.below hb) hI.st.2.1).mono ?_
            rintro e w14 ⟨rfl, hb4⟩
            replace hI := hI.below hb4
            replace BR := BR.below hb4
            replace R6 := R6.below hb4
            replace hb := chain hb hb4
            clear hb4
            rw [HY.out]
            (try go_wp2_with fail)
            refine hko hK ⟨hI.st.1.thirteen.1, hI.st.1.thirteen.2.1, hI.st.1.thirteen.2.2.1, hI.st.1.thirteen.2.2.2.1, hI.st.1.thirteen.2.2.2.2.1, (Blk.l2 BR)⟩ fun hHeld => ?_
            clear hK K
            refine wpAnyH_ready (rs := [15, 19]) (by kernel_rfl) (by simp) ?_
            refine AllReadyH.cons (o := ⟨some 42, _, _, _, _, _⟩) rfl (fun K hK => ?_) (AllReadyH.cons (o := ⟨some 13, _, _, _, _, _⟩) rfl (fun K hK => ?_) AllReadyH.nil)
            · go_simp
              refine (HBE.out _ _ _ hI R6).mono ?_
              rintro e w15 ⟨f, y, cd, rfl, hI2, hga, hp, hbf⟩
              replace BR := hI.tab.gr BR hga.gr (by decide) (by decide)
              have hbz := hb.size
              replace hb := hb.trans (hga.gr.below (base := w.heap.size) hgR hgC hb.size)
              clear hI hga R6 hbz
              rename TabI t w15 => hI
              have HP := Lib.hid hp
              have HBF := Lib.hid hbf
              clear hp hbf
              (try go_wp2_with fail)
              refine hko hK ⟨hI.st.1.thirteen.1, hI.st.1.thirteen.2.1, hI.st.1.thirteen.2.2.1, hI.st.1.thirteen.2.2.2.1, hI.st.1.thirteen.2.2.2.2.1, (Blk.l2 BR)⟩ fun hHeld => ?_
              clear hK K
              refine tk 16 26 ?_
              refine tk 17 43 ?_
              refine tk 18 44 ?_
              refine rdk 19 13 fun K hK => ?_
              go_simp
              have aZ := (Aw.fresh hI.ch (Nat.le_refl w15.heap.size)).below ((Below.refl _ _).alloc (Nat.le_refl _) (.cells #[.int .i64 0, .int .i64 0] 67))
              have hal : Below w15.heap.size w15 (w15.alloc (.cells #[.int .i64 0, .int .i64 0] 67)) := (Below.refl _ _).alloc (Nat.le_refl _) _
              have B8 := Blk.new w15 #[.int .i64 0, .int .i64 0] 67
              have hz8 : w.heap.size ≤ w15.heap.size := hb.size
              have hl_BR := BR.lt
              replace hI := hI.below hal
              replace BR := BR.below hal
              replace hb := chain hb hal
              clear hal
              obtain ⟨g8, hg8⟩ : ∃ g, w15.heap.size = g := ⟨_, rfl⟩
              rw [hg8] at B8 hz8 aZ hl_BR
              (try go_wp2_with fail)
              refine hko hK ⟨hI.st.1.thirteen.1, hI.st.1.thirteen.2.1, hI.st.1.thirteen.2.2.1, hI.st.1.thirteen.2.2.2.1, hI.st.1.thirteen.2.2.2.2.1, (Blk.l2 BR)⟩ fun hHeld => ?_
              clear hK K
              (try rw [hg8])
              generalize w15.alloc (.cells #[.int .i64 0, .int .i64 0] 67) = wA at *
              clear hg8
              refine tk 20 12 ?_
              refine rdn 21 fun K hK => ?_
              clear hHeld
              obtain ⟨z0, z1, zf, zl⟩ := B8.two
              have SI := (hI.away (o := 0) (u := .int .i64 y) aZ B8).away (o := 1) (u := .int .i64 cd) (aZ.away B8) (B8.set (i := 0) (.int .i64 y))
              have SBR := (BR.other (g := g8) (o := 0) (v := .int .i64 y) (by omega)).other (g := g8) (o := 1) (v := .int .i64 cd) (by omega)
              have SB8 := B8.set2 (.int .i64 y) (.int .i64 cd)
              have Shb := belowFar2 hb (B := g8) (by omega) (.int .i64 y) (.int .i64 cd)
              go_simp
              (try go_wp2_with fail)
              refine hko hK ⟨SI.st.1.thirteen.1, SI.st.1.thirteen.2.1, SI.st.1.thirteen.2.2.1, SI.st.1.thirteen.2.2.2.1, SI.st.1.thirteen.2.2.2.2.1, (Blk.l2 SBR)⟩ fun hHeld => ?_
              clear hK K
              clear z0 z1 zf zl hb B8 hI aZ BR
              generalize ((wA.setCell ⟨g8, 0, none⟩ (.int .i64 y)).setCell ⟨g8, 1, none⟩ (.int .i64 cd)) = wS at *
              have hI := SI
              have B8 := SB8
              have hb := Shb
              have BR := SBR
              clear SI SB8 Shb SBR
              refine wpAnyH_done (by kernel_rfl) ?_ _
              clear hHeld
              (try go_wp2_with fail)
              go_meet
              case rel => exact ⟨f, g8, y, cd, rfl, rfl, hI, B8, HP, HBF, BR, hb, hz8⟩
            · go_simp
              have aZ := (Aw.fresh hI.ch (Nat.le_refl w14.heap.size)).below ((Below.refl _ _).alloc (Nat.le_refl _) (.cells #[.int .i64 0, .int .i64 0] 67))
              have hal : Below w14.heap.size w14 (w14.alloc (.cells #[.int .i64 0, .int .i64 0] 67)) := (Below.refl _ _).alloc (Nat.le_refl _) _
              have B8 := Blk.new w14 #[.int .i64 0, .int .i64 0] 67
              have hz8 : w.heap.size ≤ w14.heap.size := hb.size
              have hl_BR := BR.lt
              replace hI := hI.below hal
              replace BR := BR.below hal
              replace R6 := R6.below hal
              replace hb := chain hb hal
              clear hal
              obtain ⟨g8, hg8⟩ : ∃ g, w14.heap.size = g := ⟨_, rfl⟩
              rw [hg8] at B8 hz8 aZ hl_BR
              (try go_wp2_with fail)
              refine hko hK ⟨hI.st.1.thirteen.1, hI.st.1.thirteen.2.1, hI.st.1.thirteen.2.2.1, hI.st.1.thirteen.2.2.2.1, hI.st.1.thirteen.2.2.2.2.1, (Blk.l2 BR)⟩ fun hHeld => ?_
              clear hK K
              (try rw [hg8])
              generalize w14.alloc (.cells #[.int .i64 0, .int .i64 0] 67) = wA at *
              clear hg8
              refine rdk 15 42 fun K hK => ?_
              go_simp
              have B8lt := B8.lt
              refine (HBE.out _ _ _ hI R6).mono ?_
              rintro e w15 ⟨f, y, cd, rfl, hI2, hga, hp, hbf⟩
              replace BR := hI.tab.gr BR hga.gr (by decide) (by decide)
              replace B8 := hI.tab.gr B8 hga.gr (by decide) (by decide)
              replace aZ := hga.aw _ B8lt aZ
              have hbz := hb.size
              replace hb := hb.trans (hga.gr.below (base := w.heap.size) hgR hgC hb.size)
              clear hI hga R6 hbz
              rename TabI t w15 => hI
              have HP := Lib.hid hp
              have HBF := Lib.hid hbf
              clear hp hbf
              clear B8lt
              (try go_wp2_with fail)
              refine hko hK ⟨hI.st.1.thirteen.1, hI.st.1.thirteen.2.1, hI.st.1.thirteen.2.2.1, hI.st.1.thirteen.2.2.2.1, hI.st.1.thirteen.2.2.2.2.1, (Blk.l2 BR)⟩ fun hHeld => ?_
              clear hK K
              refine tk 16 26 ?_
              refine tk 17 43 ?_
              refine tk 18 44 ?_
              refine tk 20 12 ?_
              refine rdn 21 fun K hK => ?_
              clear hHeld
              obtain ⟨z0, z1, zf, zl⟩ := B8.two
              have SI := (hI.away (o := 0) (u := .int .i64 y) aZ B8).away (o := 1) (u := .int .i64 cd) (aZ.away B8) (B8.set (i := 0) (.int .i64 y))
              have SBR := (BR.other (g := g8) (o := 0) (v := .int .i64 y) (by omega)).other (g := g8) (o := 1) (v := .int .i64 cd) (by omega)
              have SB8 := B8.set2 (.int .i64 y) (.int .i64 cd)
              have Shb := belowFar2 hb (B := g8) (by omega) (.int .i64 y) (.int .i64 cd)
              go_simp
              (try go_wp2_with fail)
              refine hko hK ⟨SI.st.1.thirteen.1, SI.st.1.thirteen.2.1, SI.st.1.thirteen.2.2.1, SI.st.1.thirteen.2.2.2.1, SI.st.1.thirteen.2.2.2.2.1, (Blk.l2 SBR)⟩ fun hHeld => ?_
              clear hK K
              clear z0 z1 zf zl hb B8 hI aZ BR
              generalize ((w15.setCell ⟨g8, 0, none⟩ (.int .i64 y)).setCell ⟨g8, 1, none⟩ (.int .i64 cd)) = wS at *
              have hI := SI
              have B8 := SB8
              have hb := Shb
              have BR := SBR
              clear SI SB8 Shb SBR
              refine wpAnyH_done (by kernel_rfl) ?_ _
              clear hHeld
              (try go_wp2_with fail)
              go_meet
              case rel => exact ⟨f, g8, y, cd, rfl, rfl, hI, B8, HP, HBF, BR, hb, hz8⟩
          · go_simp
            have aZ := (Aw.fresh hI.ch (Nat.le_refl w8.heap.size)).below ((Below.refl _ _).alloc (Nat.le_refl _) (.cells #[.int .i64 0, .int .i64 0] 67))
            have hal : Below w8.heap.size w8 (w8.alloc (.cells #[.int .i64 0, .int .i64 0] 67)) := (Below.refl _ _).alloc (Nat.le_refl _) _
            have B8 := Blk.new w8 #[.int .i64 0, .int .i64 0] 67
            have hz8 : w.heap.size ≤ w8.heap.size := hb.size
            have hl_BR := BR.lt
            replace hI := hI.below hal
            replace BR := BR.below hal
            replace R6 := R6.below hal
            replace hb := chain hb hal
            clear hal
            obtain ⟨g8, hg8⟩ : ∃ g, w8.heap.size = g := ⟨_, rfl⟩
            rw [hg8] at B8 hz8 aZ hl_BR
            (try go_wp2_with fail)
            refine hko hK ⟨hI.st.1.thirteen.1, hI.st.1.thirteen.2.1, hI.st.1.thirteen.2.2.1, hI.st.1.thirteen.2.2.2.1, hI.st.1.thirteen.2.2.2.2.1, (Blk.l2 BR)⟩ fun hHeld => ?_
            clear hK K
            (try rw [hg8])
            generalize w8.alloc (.cells #[.int .i64 0, .int .i64 0] 67) = wA at *
            clear hg8
            refine rdk 14 41 fun K hK => ?_
            go_simp
            refine (numOf_any t.p t.c t.h (t.S : Int) t.gw a2 n2 c2 ys _ HYY.out.1 hn2 (HRO2.out.below hb) hI.st.2.1).mono ?_
            rintro e w14 ⟨rfl, hb4⟩
            replace hI := hI.below hb4
            replace BR := BR.below hb4
            replace B8 := B8.below hb4
            replace aZ := aZ.below hb4
            replace R6 := R6.below hb4
            replace hb := chain hb hb4
            clear hb4
            rw [HY.out]
            (try go_wp2_with fail)
            refine hko hK ⟨hI.st.1.thirteen.1, hI.st.1.thirteen.2.1, hI.st.1.thirteen.2.2.1, hI.st.1.thirteen.2.2.2.1, hI.st.1.thirteen.2.2.2.2.1, (Blk.l2 BR)⟩ fun hHeld => ?_
            clear hK K
            refine rdk 15 42 fun K hK => ?_
            go_simp
            have B8lt := B8.lt
            refine (HBE.out _ _ _ hI R6).mono ?_
            rintro e w15 ⟨f, y, cd, rfl, hI2, hga, hp, hbf⟩
            replace BR := hI.tab.gr BR hga.gr (by decide) (by decide)
            replace B8 := hI.tab.gr B8 hga.gr (by decide) (by decide)
            replace aZ := hga.aw _ B8lt aZ
            have hbz := hb.size
            replace hb := hb.trans (hga.gr.below (base := w.heap.size) hgR hgC hb.size)
            clear hI hga R6 hbz
            rename TabI t w15 => hI
            have HP := Lib.hid hp
            have HBF := Lib.hid hbf
            clear hp hbf
            clear B8lt
            (try go_wp2_with fail)
            refine hko hK ⟨hI.st.1.thirteen.1, hI.st.1.thirteen.2.1, hI.st.1.thirteen.2.2.1, hI.st.1.thirteen.2.2.2.1, hI.st.1.thirteen.2.2.2.2.1, (Blk.l2 BR)⟩ fun hHeld => ?_
            clear hK K
            refine tk 16 26 ?_
            refine tk 17 43 ?_
            refine tk 18 44 ?_
            refine tk 20 12 ?_
            refine rdn 21 fun K hK => ?_
            clear hHeld
            obtain ⟨z0, z1, zf, zl⟩ := B8.two
            have SI := (hI.away (o := 0) (u := .int .i64 y) aZ B8).away (o := 1) (u := .int .i64 cd) (aZ.away B8) (B8.set (i := 0) (.int .i64 y))
            have SBR := (BR.other (g := g8) (o := 0) (v := .int .i64 y) (by omega)).other (g := g8) (o := 1) (v := .int .i64 cd) (by omega)
            have SB8 := B8.set2 (.int .i64 y) (.int .i64 cd)
            have Shb := belowFar2 hb (B := g8) (by omega) (.int .i64 y) (.int .i64 cd)
            go_simp
            (try go_wp2_with fail)
            refine hko hK ⟨SI.st.1.thirteen.1, SI.st.1.thirteen.2.1, SI.st.1.thirteen.2.2.1, SI.st.1.thirteen.2.2.2.1, SI.st.1.thirteen.2.2.2.2.1, (Blk.l2 SBR)⟩ fun hHeld => ?_
            clear hK K
            clear z0 z1 zf zl hb B8 hI aZ BR
            generalize ((w15.setCell ⟨g8, 0, none⟩ (.int .i64 y)).setCell ⟨g8, 1, none⟩ (.int .i64 cd)) = wS at *
            have hI := SI
            have B8 := SB8
            have hb := Shb
            have BR := SBR
            clear SI SB8 Shb SBR
            refine wpAnyH_done (by kernel_rfl) ?_ _
            clear hHeld
            (try go_wp2_with fail)
            go_meet
            case rel => exact ⟨f, g8, y, cd, rfl, rfl, hI, B8, HP, HBF, BR, hb, hz8⟩
        · go_simp
          have aZ := (Aw.fresh hI.ch (Nat.le_refl w7.heap.size)).below ((Below.refl _ _).alloc (Nat.le_refl _) (.cells #[.int .i64 0, .int .i64 0] 67))
          have hal : Below w7.heap.size w7 (w7.alloc (.cells #[.int .i64 0, .int .i64 0] 67)) := (Below.refl _ _).alloc (Nat.le_refl _) _
          have B8 := Blk.new w7 #[.int .i64 0, .int .i64 0] 67
          have hz8 : w.heap.size ≤ w7.heap.size := hb.size
          have hl_BR := BR.lt
          replace hI := hI.below hal
          replace BR := BR.below hal
          replace hQR := hQR.below hal
          replace hb := chain hb hal
          clear hal
          obtain ⟨g8, hg8⟩ : ∃ g, w7.heap.size = g := ⟨_, rfl⟩
          rw [hg8] at B8 hz8 aZ hl_BR
          (try go_wp2_with fail)
          refine hko hK ⟨hI.st.1.thirteen.1, hI.st.1.thirteen.2.1, hI.st.1.thirteen.2.2.1, hI.st.1.thirteen.2.2.2.1, hI.st.1.thirteen.2.2.2.2.1, (Blk.l2 BR)⟩ fun hHeld => ?_
          clear hK K
          (try rw [hg8])
          generalize w7.alloc (.cells #[.int .i64 0, .int .i64 0] 67) = wA at *
          clear hg8
          refine rdk 8 35 fun K hK => ?_
          go_simp
          refine (numbersOf_any t g5 l5.length k5 l5 _ rfl (by rw [HL5.out]; exact HLEN.out.2) hI.st.2.1 hQR.1 (fun x hx => ⟨hQR.2 x hx, HPS.out x.2.2 (by rw [← HNM.out]; exact List.mem_map.2 ⟨x, hx, rfl⟩)⟩)).mono ?_
          rintro e w8 ⟨g6, rfl, -, R6, hb6⟩
          clear hQR
          replace hI := hI.below hb6
          replace BR := BR.below hb6
          replace B8 := B8.below hb6
          replace aZ := aZ.below hb6
          replace hb := chain hb hb6
          clear hb6
          rw [HNM.out] at R6
          rw [HL5.out]
          (try go_wp2_with fail)
          refine hko hK ⟨hI.st.1.thirteen.1, hI.st.1.thirteen.2.1, hI.st.1.thirteen.2.2.1, hI.st.1.thirteen.2.2.2.1, hI.st.1.thirteen.2.2.2.2.1, (Blk.l2 BR)⟩ fun hHeld => ?_
          clear hK K
          refine rdk 14 41 fun K hK => ?_
          go_simp
          refine (numOf_any t.p t.c t.h (t.S : Int) t.gw a2 n2 c2 ys _ HYY.out.1 hn2 (HRO2.out.below hb) hI.st.2.1).mono ?_
          rintro e w14 ⟨rfl, hb4⟩
          replace hI := hI.below hb4
          replace BR := BR.below hb4
          replace B8 := B8.below hb4
          replace aZ := aZ.below hb4
          replace R6 := R6.below hb4
          replace hb := chain hb hb4
          clear hb4
          rw [HY.out]
          (try go_wp2_with fail)
          refine hko hK ⟨hI.st.1.thirteen.1, hI.st.1.thirteen.2.1, hI.st.1.thirteen.2.2.1, hI.st.1.thirteen.2.2.2.1, hI.st.1.thirteen.2.2.2.2.1, (Blk.l2 BR)⟩ fun hHeld => ?_
          clear hK K
          refine rdk 15 42 fun K hK => ?_
          go_simp
          have B8lt := B8.lt
          refine (HBE.out _ _ _ hI R6).mono ?_
          rintro e w15 ⟨f, y, cd, rfl, hI2, hga, hp, hbf⟩
          replace BR := hI.tab.gr BR hga.gr (by decide) (by decide)
          replace B8 := hI.tab.gr B8 hga.gr (by decide) (by decide)
          replace aZ := hga.aw _ B8lt aZ
          have hbz := hb.size
          replace hb := hb.trans (hga.gr.below (base := w.heap.size) hgR hgC hb.size)
          clear hI hga R6 hbz
          rename TabI t w15 => hI
          have HP := Lib.hid hp
          have HBF := Lib.hid hbf
          clear hp hbf
          clear B8lt
          (try go_wp2_with fail)
          refine hko hK ⟨hI.st.1.thirteen.1, hI.st.1.thirteen.2.1, hI.st.1.thirteen.2.2.1, hI.st.1.thirteen.2.2.2.1, hI.st.1.thirteen.2.2.2.2.1, (Blk.l2 BR)⟩ fun hHeld => ?_
          clear hK K
          refine tk 16 26 ?_
          refine tk 17 43 ?_
          refine tk 18 44 ?_
          refine tk 20 12 ?_
          refine rdn 21 fun K hK => ?_
          clear hHeld
          obtain ⟨z0, z1, zf, zl⟩ := B8.two
          have SI := (hI.away (o := 0) (u := .int .i64 y) aZ B8).away (o := 1) (u := .int .i64 cd) (aZ.away B8) (B8.set (i := 0) (.int .i64 y))
          have SBR := (BR.other (g := g8) (o := 0) (v := .int .i64 y) (by omega)).other (g := g8) (o := 1) (v := .int .i64 cd) (by omega)
          have SB8 := B8.set2 (.int .i64 y) (.int .i64 cd)
          have Shb := belowFar2 hb (B := g8) (by omega) (.int .i64 y) (.int .i64 cd)
          go_simp
          (try go_wp2_with fail)
          refine hko hK ⟨SI.st.1.thirteen.1, SI.st.1.thirteen.2.1, SI.st.1.thirteen.2.2.1, SI.st.1.thirteen.2.2.2.1, SI.st.1.thirteen.2.2.2.2.1, (Blk.l2 SBR)⟩ fun hHeld => ?_
          clear hK K
          clear z0 z1 zf zl hb B8 hI aZ BR
          generalize ((w15.setCell ⟨g8, 0, none⟩ (.int .i64 y)).setCell ⟨g8, 1, none⟩ (.int .i64 cd)) = wS at *
          have hI := SI
          have B8 := SB8
          have hb := Shb
          have BR := SBR
          clear SI SB8 Shb SBR
          refine wpAnyH_done (by kernel_rfl) ?_ _
          clear hHeld
          (try go_wp2_with fail)
          go_meet
          case rel => exact ⟨f, g8, y, cd, rfl, rfl, hI, B8, HP, HBF, BR, hb, hz8⟩
      · go_simp
        have aZ := (Aw.fresh hI.ch (Nat.le_refl vd.heap.size)).below ((Below.refl _ _).alloc (Nat.le_refl _) (.cells #[.int .i64 0, .int .i64 0] 67))
        have hal : Below vd.heap.size vd (vd.alloc (.cells #[.int .i64 0, .int .i64 0] 67)) := (Below.refl _ _).alloc (Nat.le_refl _) _
        have B8 := Blk.new vd #[.int .i64 0, .int .i64 0] 67
        have hz8 : w.heap.size ≤ vd.heap.size := hb.size
        have hl_BR := BR.lt
        replace hI := hI.below hal
        replace BR := BR.below hal
        replace hb := chain hb hal
        clear hal
        obtain ⟨g8, hg8⟩ : ∃ g, vd.heap.size = g := ⟨_, rfl⟩
        rw [hg8] at B8 hz8 aZ hl_BR
        (try go_wp2_with fail)
        refine hko hK ⟨hI.st.1.thirteen.1, hI.st.1.thirteen.2.1, hI.st.1.thirteen.2.2.1, hI.st.1.thirteen.2.2.2.1, hI.st.1.thirteen.2.2.2.2.1, (Blk.l2 BR)⟩ fun hHeld => ?_
        clear hK K
        (try rw [hg8])
        generalize vd.alloc (.cells #[.int .i64 0, .int .i64 0] 67) = wA at *
        clear hg8
        refine rdk 7 34 fun K hK => ?_
        go_simp
        refine (HB.out _ (HRO1.out.below hb)).mono ?_
        rintro e w7 ⟨g5, k5, l5, rfl, -, hQ5, hnm5, hA5, -, hb5⟩
        replace hI := hI.below hb5
        replace BR := BR.below hb5
        replace B8 := B8.below hb5
        replace aZ := aZ.below hb5
        replace hb := chain hb hb5
        clear hb5
        have hQR : QR w7 g5 l5 := ⟨hQ5, fun x hx => (hA5 x hx).2.2⟩
        have HNM := Lib.hid hnm5
        have HL5 := Lib.hid (nm_len hnm5)
        clear hQ5 hA5 hnm5
        (try go_wp2_with fail)
        refine hko hK ⟨hI.st.1.thirteen.1, hI.st.1.thirteen.2.1, hI.st.1.thirteen.2.2.1, hI.st.1.thirteen.2.2.2.1, hI.st.1.thirteen.2.2.2.2.1, (Blk.l2 BR)⟩ fun hHeld => ?_
        clear hK K
        refine rdk 8 35 fun K hK => ?_
        go_simp
        refine (numbersOf_any t g5 l5.length k5 l5 _ rfl (by rw [HL5.out]; exact HLEN.out.2) hI.st.2.1 hQR.1 (fun x hx => ⟨hQR.2 x hx, HPS.out x.2.2 (by rw [← HNM.out]; exact List.mem_map.2 ⟨x, hx, rfl⟩)⟩)).mono ?_
        rintro e w8 ⟨g6, rfl, -, R6, hb6⟩
        clear hQR
        replace hI := hI.below hb6
        replace BR := BR.below hb6
        replace B8 := B8.below hb6
        replace aZ := aZ.below hb6
        replace hb := chain hb hb6
        clear hb6
        rw [HNM.out] at R6
        rw [HL5.out]
        (try go_wp2_with fail)
        refine hko hK ⟨hI.st.1.thirteen.1, hI.st.1.thirteen.2.1, hI.st.1.thirteen.2.2.1, hI.st.1.thirteen.2.2.2.1, hI.st.1.thirteen.2.2.2.2.1, (Blk.l2 BR)⟩ fun hHeld => ?_
        clear hK K
        refine rdk 14 41 fun K hK => ?_
        go_simp
        refine (numOf_any t.p t.c t.h (t.S : Int) t.gw a2 n2 c2 ys _ HYY.out.1 hn2 (HRO2.out.below hb) hI.st.2.1).mono ?_
        rintro e w14 ⟨rfl, hb4⟩
        replace hI := hI.below hb4
        replace BR := BR.below hb4
        replace B8 := B8.below hb4
        replace aZ := aZ.below hb4
        replace R6 := R6.below hb4
        replace hb := chain hb hb4
        clear hb4
        rw [HY.out]
        (try go_wp2_with fail)
        refine hko hK ⟨hI.st.1.thirteen.1, hI.st.1.thirteen.2.1, hI.st.1.thirteen.2.2.1, hI.st.1.thirteen.2.2.2.1, hI.st.1.thirteen.2.2.2.2.1, (Blk.l2 BR)⟩ fun hHeld => ?_
        clear hK K
        refine rdk 15 42 fun K hK => ?_
        go_simp
        have B8lt := B8.lt
        refine (HBE.out _ _ _ hI R6).mono ?_
        rintro e w15 ⟨f, y, cd, rfl, hI2, hga, hp, hbf⟩
        replace BR := hI.tab.gr BR hga.gr (by decide) (by decide)
        replace B8 := hI.tab.gr B8 hga.gr (by decide) (by decide)
        replace aZ := hga.aw _ B8lt aZ
        have hbz := hb.size
        replace hb := hb.trans (hga.gr.below (base := w.heap.size) hgR hgC hb.size)
        clear hI hga R6 hbz
        rename TabI t w15 => hI
        have HP := Lib.hid hp
        have HBF := Lib.hid hbf
        clear hp hbf
        clear B8lt
        (try go_wp2_with fail)
        refine hko hK ⟨hI.st.1.thirteen.1, hI.st.1.thirteen.2.1, hI.st.1.thirteen.2.2.1, hI.st.1.thirteen.2.2.2.1, hI.st.1.thirteen.2.2.2.2.1, (Blk.l2 BR)⟩ fun hHeld => ?_
        clear hK K
        refine tk 16 26 ?_
        refine tk 17 43 ?_
        refine tk 18 44 ?_
        refine tk 20 12 ?_
        refine rdn 21 fun K hK => ?_
        clear hHeld
        obtain ⟨z0, z1, zf, zl⟩ := B8.two
        have SI := (hI.away (o := 0) (u := .int .i64 y) aZ B8).away (o := 1) (u := .int .i64 cd) (aZ.away B8) (B8.set (i := 0) (.int .i64 y))
        have SBR := (BR.other (g := g8) (o := 0) (v := .int .i64 y) (by omega)).other (g := g8) (o := 1) (v := .int .i64 cd) (by omega)
        have SB8 := B8.set2 (.int .i64 y) (.int .i64 cd)
        have Shb := belowFar2 hb (B := g8) (by omega) (.int .i64 y) (.int .i64 cd)
        go_simp
        (try go_wp2_with fail)
        refine hko hK ⟨SI.st.1.thirteen.1, SI.st.1.thirteen.2.1, SI.st.1.thirteen.2.2.1, SI.st.1.thirteen.2.2.2.1, SI.st.1.thirteen.2.2.2.2.1, (Blk.l2 SBR)⟩ fun hHeld => ?_
        clear hK K
        clear z0 z1 zf zl hb B8 hI aZ BR
        generalize ((w15.setCell ⟨g8, 0, none⟩ (.int .i64 y)).setCell ⟨g8, 1, none⟩ (.int .i64 cd)) = wS at *
        have hI := SI
        have B8 := SB8
        have hb := Shb
        have BR := SBR
        clear SI SB8 Shb SBR
        refine wpAnyH_done (by kernel_rfl) ?_ _
        clear hHeld
        (try go_wp2_with fail)
        go_meet
        case rel => exact ⟨f, g8, y, cd, rfl, rfl, hI, B8, HP, HBF, BR, hb, hz8⟩
    case rest =>
      rename World => wX
      clear hI BR hb
      obtain ⟨f, g8, y, cd, rfl, rfl, hI, B8, HP, HBF, BR, hb, hz8⟩ := hcut
      obtain ⟨u0, u1, uf, ul⟩ := B8.two
      cases hq : bst (tp t.S) (wc t.S ys) (resI xs (ordersP ra rb)) with
      | none =>
        have hp := HP.out
        rw [hq] at hp
        have hcd : cd = 3 := hp.1
        subst hcd
        have HV := Lib.hid (show brO t.S xs ys ra rb = ([], 3) by rw [HBR.out, hq])
        clear hp hq HP HBF HBR
        go_wp2_with fail
        clear u0 u1 uf ul
        have hd_ : wX.drew.heap.size = wX.heap.size := rfl
        replace B8 := B8.drew
        replace hb := hb.drew
        refine wp_region_held_drew (S := fun w' => w'.cell? ⟨g8, 0, none⟩ = some (.int .i64 y) ∧ w'.cell? ⟨g8, 1, none⟩ = some (.int .i64 3)) (by kernel_rfl) ⟨B8.two.1, B8.two.2.1⟩ (fun hHeld => ?_)
        clear hHeld
        generalize wX.drew = v3 at *
        have hHeld : v3.cell? ⟨g8, 0, none⟩ = some (.int .i64 y) ∧ v3.cell? ⟨g8, 1, none⟩ = some (.int .i64 3) := ⟨B8.two.1, B8.two.2.1⟩
        refine tk 0 48 ?_
        refine tk 1 49 ?_
        refine tk 2 8 ?_
        refine tk 3 9 ?_
        refine wpAnyH_done (by kernel_rfl) ?_ _
        clear hHeld
        go_wp2_with fail
        go_ret2
        rw [HV.out]
        exact ⟨none, 0, rfl, .inl ⟨rfl, rfl⟩, hb⟩
      | some q =>
        have hp := HP.out
        rw [hq] at hp
        obtain ⟨-, hcd⟩ : y = q.2 ∧ cd = 0 := hp
        obtain ⟨hf, hql⟩ := HBF.out q hq
        subst hcd
        have HV := Lib.hid (show brO t.S xs ys ra rb = ((resI xs (ordersP ra rb)).getD q.1 [], 0) by rw [HBR.out, hq])
        obtain ⟨z, hz⟩ : ∃ z, (resI xs (ordersP ra rb)).getD q.1 [] = z := ⟨_, rfl⟩
        have hzm : z ∈ resI xs (ordersP ra rb) := by
          rw [← hz, List.getD_eq_getElem?_getD, List.getElem?_eq_getElem hql]
          exact List.getElem_mem hql
        rw [hz] at hf HV
        have HPA := Lib.hid (fun W (q : WaysAt W t.gw) => posAt_any t.p t.c t.h (t.S : Int) t.gw z (nm t.c z) W (HPS.out z hzm) few rfl q)
        rw [← hf] at HPA
        clear hq HP HBF HBR hz hzm hf hql
        obtain ⟨t0, t1, t2, t3, t4, t5, t6, t7, t8, t9, tA, tB, tC, tf, tl⟩ := hI.st.1.thirteen
        go_wp2_with fail
        clear t0 t1 t2 t3 t4 t5 t6 t7 t8 t9 tA tB tC tf tl u0 u1 uf ul
        refine (HPA.out _ hI.st.2.1).mono ?_
        rintro e w9 ⟨gL, rfl, hgL, hRL, hb9⟩
        have hs1 := hb.size
        have hs2 := hRL.lt
        go_wp2_with fail
        go_ret2
        rw [HV.out]
        exact ⟨some ⟨gL, 0, none⟩, z.length, rfl, .inr ⟨gL, rfl, by omega, hs2, hRL⟩, chain hb hb9⟩
  · rw [brV, if_neg k0]
    obtain ⟨K, hK⟩ : ∃ K, tnE p c h s xs ys ra rb = K := ⟨_, rfl⟩
    rw [hK] at HC k0 ⊢
    have f0 : (K != 0) = true := by rw [bne_iff_ne]; exact k0
    clear hK
    go_enter Tryz.func14, Tryz.ntmps14
    go_wp2_with fail
    refine (HC.out).mono ?_
    rintro e w1 ⟨rfl, hb1⟩
    clear x0 x1 x2 x3 xf xl y0 y1 yf yl
    go_wp2_with fail
    go_ret2
    exact ⟨none, 0, rfl, .inl ⟨rfl, rfl⟩, chain hb hb1⟩
end Go.Proofs.YtnlclmlnpkncoaaGreat
namespace Go.Proofs.YtnlclmlnpkncoaaGreat
set_option linter.unusedVariables false
theorem brV_zero {p c h s ra rb : Int} {xs ys B : List Int} (hb : brV p c h s xs ys ra rb = (B, 0)) : tnE p c h s xs ys ra rb = 0 ∧ ∃ q, bst (tp s.toNat) (wc s.toNat ys) (resI xs (ordersP ra rb)) = some q ∧ B = (resI xs (ordersP ra rb)).getD q.1 [] := by
  unfold brV at hb
  split at hb
  · rename_i e
    unfold brO at hb
    split at hb
    · rename_i q hq
      simp only [Prod.mk.injEq, and_true] at hb
      exact ⟨e, q, hq, hb.symm⟩
    · simp at hb
  · rename_i e
    simp only [Prod.mk.injEq] at hb
    exact absurd hb.2 e
theorem loss_all {p c h s ra rb : Int} {xs ys B : List Int} (hb : brV p c h s xs ys ra rb = (B, 0)) : ∃ (L : List (List Int)) (X Z : List Rl), rsL p c h s xs ra rb = L ∧ rsC p c h s xs ra rb = 0 ∧ rcV p c h s xs ys ra rb = (X, 0) ∧ X.length = L.length ∧ Z.length = L.length ∧ 0 < L.length ∧ L.length ≤ 1048576 ∧
    raceLossV p c h s xs ys B ra rb = (0, 0, 0) ∧ B.length = xs.length ∧ (∀ z ∈ L, z.length = xs.length) ∧
    ∀ (i : Nat) (z : List Int) (l : Rl), L[i]? = some z → Z[i]? = some l → raceLossV p c h s xs ys z ra rb = (l.1, l.2, 0) ∧ 0 ≤ l.1 ∧ ∀ x0 xi, X[0]? = some x0 → X[i]? = some xi → L[0]? = some B → (l.1 = 0 ↔ xi = x0) := by
  obtain ⟨htn, q, hq, hB0⟩ := brV_zero hb
  obtain ⟨hoc, hrl⟩ := tnE_zero htn
  obtain ⟨hrc, k1, k2⟩ := ocE_zero hoc
  obtain ⟨S, rfl, hS, hx, hy, hcn, -⟩ := rc_ready (rcE_zero hrc).1
  rw [Int.toNat_natCast] at hq
  have ht := tp_in hS
  obtain ⟨q1, q2, q3, q4, -⟩ := hx.po
  obtain ⟨y1, y2, y3, -⟩ := hy.po
  have hr : 1 ≤ rb ∧ rb ≤ ra ∧ ra ≤ 6 := by
    unfold rlB inB at hrl
    simp only [Bool.and_eq_true, decide_eq_true_eq] at hrl
    omega
  have hres := fun z hz => (hx.res (r := (ra, rb)) hr.1 hr.2.1 hr.2.2 z hz).1
  have hne : 0 < (resI xs (ordersP ra rb)).length := resI_ne q2 q3 q1 hr.1 hr.2.1 hr.2.2
  have hlen : (resI xs (ordersP ra rb)).length ≤ 1048576 := by
    have := resI_len q2 q3 q1 hr.1 hr.2.1 hr.2.2
    omega
  obtain ⟨L, hL⟩ : ∃ L, resI xs (ordersP ra rb) = L := ⟨_, rfl⟩
  have hin : ∀ z x, z ∈ L → wc S ys z = some x → 0 ≤ x ∧ x ≤ tp S := fun z x hz e => wc_in hS y2 y3 y1 (hres z (by rw [hL]; exact hz)).po.1 e
  obtain ⟨l1, l2, l3⟩ := losses (S := S) (xs := xs) (ys := ys) (ra := ra) (rb := rb) (fun z x hz e => (hin z x (by rw [← hL]; exact hz) e).2) hne hq
  rw [hL] at hne hlen l1 l2 l3 hq hres hB0
  subst hB0
  have hqi := bst_in (T := tp S) (f := fun z => if z ∈ L then wc S ys z else none) (L := L) (fun z x e => by
    split at e
    · rename_i hz
      exact hin z x hz e
    · cases e) hne (q := q) (by
    rw [bst_congr (g := wc S ys) (fun z hz => by rw [if_pos hz])]
    exact hq)
  have hbm : L.getD q.1 [] ∈ L := by
    rw [List.getD_eq_getElem?_getD, List.getElem?_eq_getElem l1]
    exact List.getElem_mem _
  have hval : ∀ z ∈ L, raceLossV p c h (S : Int) xs ys z ra rb = exO S (lsO S xs ys z ra rb) := fun z hz => by
    have hz1 := hres z hz
    have hls : lsE p c h (S : Int) xs ys z ra rb = 0 := by
      unfold lsE
      rw [bcE_of hz1, if_neg (by simp)]
      exact htn
    unfold raceLossV
    rw [if_pos hls, Int.toNat_natCast]
    unfold lsR
    rw [hL, if_pos hz]
  refine ⟨L, xsL S (rcO S xs ys ra rb), L.map fun z => ((raceLossV p c h (S : Int) xs ys z ra rb).1, (raceLossV p c h (S : Int) xs ys z ra rb).2.1), ?_, ?_, ?_, ?_, by rw [List.length_map], hne, hlen, ?_, ?_, ?_, ?_⟩
  · unfold rsL rsC
    rw [bcE_of hx, if_pos rfl, if_pos hrl, if_pos rfl, hL]
  · unfold rsC
    rw [bcE_of hx, if_pos rfl, if_pos hrl]
  · unfold rcV
    rw [if_pos htn, Int.toNat_natCast, xsV_all (fun i o hi ho => by
      unfold rcO at ho
      rw [hL, List.getElem?_map] at ho
      obtain ⟨z, hz, rfl⟩ := Option.map_eq_some_iff.1 ho
      have hi2 := (List.getElem?_eq_some_iff.1 hz).1
      obtain ⟨x, ex, -⟩ := l3 i hi2
      rw [List.getD_eq_getElem?_getD, hz, Option.getD_some] at ex
      rw [ex]
      rfl)]
  · rw [xsL, List.length_map, rcO, List.length_map, hL]
  · rw [hval _ hbm, l2]
    exact exO_zero hS
  · rw [(hres _ hbm).po.2.2.2.1, q4]
  · intro z hz
    rw [(hres _ hz).po.2.2.2.1, q4]
  · intro i z l hz hl
    have hi := (List.getElem?_eq_some_iff.1 hz).1
    have hzm := List.mem_of_getElem? hz
    rw [List.getElem?_map, hz, Option.map_some] at hl
    injection hl with hl
    obtain ⟨x, ex, lx, px⟩ := l3 i hi
    rw [List.getD_eq_getElem?_getD, hz, Option.getD_some] at ex lx
    have hxi := hin z x hzm ex
    have hv := hval z hzm
    rw [lx] at hv
    obtain ⟨n, d, en, -⟩ := exO_is hS (x := q.2 - (tp S - x)) (by omega)
    have hsg := exO_sign hS (x := q.2 - (tp S - x)) px (by omega)
    rw [en] at hv hsg
    rw [hv] at hl
    subst hl
    dsimp only at hsg ⊢
    refine ⟨hv, hsg.1, fun x0 xi h0 h1 hB => ?_⟩
    have hxs : ∀ (j : Nat) (z' : List Int) (x' : Int), L[j]? = some z' → wc S ys z' = some x' → (xsL S (rcO S xs ys ra rb))[j]? = some ((exO S (some (tp S - x'))).1, (exO S (some (tp S - x'))).2.1) := fun j z' x' hj hx' => by
      rw [xsL, List.getElem?_map, rcO, hL, List.getElem?_map, hj, Option.map_some, Option.map_some, hx']
      rfl
    obtain ⟨xb, eb, lb, -⟩ := l3 q.1 l1
    rw [l2] at lb
    injection lb with lb
    have hib := hin _ xb hbm eb
    rw [hxs 0 _ xb hB eb] at h0
    rw [hxs i z x hz ex] at h1
    injection h0 with h0
    injection h1 with h1
    subst h0 h1
    have hj := exO_inj hS (x := tp S - x) (y := tp S - xb) (by omega) (by omega)
    rw [hsg.2]
    rw [Prod.mk.injEq, hj]
    omega
theorem loss_pos {p c h s ra rb : Int} {xs ys B : List Int} (hb : brV p c h s xs ys ra rb = (B, 0)) : 0 < xs.length := by
  obtain ⟨htn, -⟩ := brV_zero hb
  obtain ⟨S, rfl, -, hx, -⟩ := rc_ready (rcE_zero (ocE_zero (tnE_zero htn).1).1).1
  obtain ⟨-, q2, -, q4, -⟩ := hx.po
  omega
end Go.Proofs.YtnlclmlnpkncoaaGreat
namespace Go.Proofs.YtnlclmlnpkncoaaGreat
open Go.ChangeShapes Go.WideShapes Go.ChangeAt Go.RowKit
set_option linter.unusedVariables false
set_option linter.unusedSimpArgs false
set_option maxRecDepth 4000
set_option maxHeartbeats 1000000 in
theorem likeInts_any (a b : Option Addr) (n c1 c2 : Nat) (xs ys : List Int) (w : World) (hn : xs.length = n) (hm : ys.length = n) (hle : n ≤ 1048576) (ha : IRow w a xs) (hb : IRow w b ys) :
    Calls Tryz.prog 16 #[.slice a n c1, .slice b n c2] w fun e w' => e = .returned (.bool (decide (xs = ys))) ∧ Below w.heap.size w w' := by
  obtain ⟨Q, hQ⟩ : ∃ Q, decide (xs = ys) = Q := ⟨_, rfl⟩
  rw [hQ]
  have HQ := Lib.hid hQ
  have HN := Lib.hid hn
  have HM := Lib.hid hm
  clear hQ hn hm
  have n0 : (n : Int) ≤ 1048576 := by omega
  go_enter Tryz.func16, Tryz.ntmps16
  go_wp2
  go_loopg [5] n (fun m i wr => ∃ k : Nat, k ≤ n ∧ m = n - k ∧ i = .int .i64 k ∧ xs.take k = ys.take k ∧ Below w.heap.size w wr)
  case atStart => exact ⟨0, by omega, by omega, rfl, by simp, Below.refl _ _⟩
  case round =>
    obtain ⟨k, hk, hm, rfl, heq, hbel⟩ := hrel
    by_cases hlt : k < n
    · have hlt' : (k : Int) < (n : Int) := by omega
      have hk0 : (0 : Int) ≤ (k : Int) := by omega
      obtain ⟨b1, o1, rfl, hc1⟩ := ha.below hbel k (by rw [HN.out]; exact hlt)
      obtain ⟨b2, o2, rfl, hc2⟩ := hb.below hbel k (by rw [HM.out]; exact hlt)
      obtain ⟨x, hx⟩ : ∃ x, xs.getD k 0 = x := ⟨_, rfl⟩
      obtain ⟨y, hy⟩ : ∃ y, ys.getD k 0 = y := ⟨_, rfl⟩
      rw [hx] at hc1
      rw [hy] at hc2
      have hxk : xs[k]? = some x := by
        rw [List.getD_eq_getElem?_getD, List.getElem?_eq_getElem (by rw [HN.out]; exact hlt)] at hx
        rw [List.getElem?_eq_getElem (by rw [HN.out]; exact hlt)]
        simpa using hx
      have hyk : ys[k]? = some y := by
        rw [List.getD_eq_getElem?_getD, List.getElem?_eq_getElem (by rw [HM.out]; exact hlt)] at hy
        rw [List.getElem?_eq_getElem (by rw [HM.out]; exact hlt)]
        simpa using hy
      by_cases e : x = y
      · have heq2 : xs.take (k + 1) = ys.take (k + 1) := by rw [List.take_add_one, List.take_add_one, heq, hxk, hyk, e]
        have HE := Lib.hid heq2
        have f0 : (x != y) = false := by rw [e]; simp
        clear hx hy hxk hyk e heq heq2
        go_wp2_with fail
        go_quiet (fail)
        go_wp2
        go_roundg (n - (k + 1))
        case measure => omega
        case rel => exact ⟨k + 1, by omega, rfl, by go_num, HE.out, below_drewN hbel _⟩
      · have hne : decide (xs = ys) = false := by
          rw [decide_eq_false_iff_not]
          intro q
          rw [q, hyk] at hxk
          exact e (Option.some.inj hxk).symm
        rw [HQ.out] at hne
        subst hne
        have f0 : (x != y) = true := by rw [bne_iff_ne]; exact e
        clear hx hy hxk hyk e heq
        go_wp2_with fail
        go_quiet (fail)
        go_wp2
        go_ret
        exact ⟨rfl, below_drewN hbel _⟩
    · obtain rfl : k = n := by omega
      have he : decide (xs = ys) = true := by
        rw [decide_eq_true_eq, ← List.take_of_length_le (l := xs) (i := k) (by rw [HN.out]; exact Nat.le_refl _), heq, List.take_of_length_le (by rw [HM.out]; exact Nat.le_refl _)]
      rw [HQ.out] at he
      subst he
      clear heq
      go_wp2
      go_ret
      exact ⟨rfl, hbel⟩
set_option maxRecDepth 8000 in
set_option maxHeartbeats 2000000 in
theorem specBestRaceResult_any (p c h s : Int) (a1 a2 : Option Addr) (n1 n2 c1 c2 : Nat) (xs ys : List Int) (ra rb : Int) (w : World) (hn1 : xs.length = n1) (hn2 : ys.length = n2) (hl1 : n1 ≤ 1048576) (hl2 : n2 ≤ 1048576) (hc1 : n1 ≤ c1) (hc2 : n2 ≤ c2) (hr1 : IRow w a1 xs) (hr2 : IRow w a2 ys) :
    Calls Tryz.prog 15 #[.agg #[.int .i64 p, .int .i64 c, .int .i64 h, .int .i64 s], .slice a1 n1 c1, .slice a2 n2 c2, .agg #[.int .i64 ra, .int .i64 rb]] w (SliceGot2 (brV p c h s xs ys ra rb).1 (brV p c h s xs ys ra rb).2 w) := by
  obtain ⟨BV, BR, hb, hz⟩ := two_new w #[.int .i64 p, .int .i64 c, .int .i64 h, .int .i64 s] #[.int .i64 ra, .int .i64 rb] 25 39
  have hzz : w.heap.size + 1 < ((w.alloc (.cells #[.int .i64 p, .int .i64 c, .int .i64 h, .int .i64 s] 25)).alloc (.cells #[.int .i64 ra, .int .i64 rb] 39)).heap.size := by rw [hz]; omega
  clear hz
  have HRO1 := Lib.hid hr1
  have HRO2 := Lib.hid hr2
  have HC := Lib.hid (l12Code_any p c h s a1 a2 n1 n2 c1 c2 xs ys ra rb true true _ hn1 hn2 hl1 hl2 (hr1.below hb) (hr2.below hb))
  rw [lcE_tn] at HC
  clear hr1 hr2
  obtain ⟨x0, x1, x2, x3, xf, xl⟩ := BV.four
  obtain ⟨y0, y1, yf, yl⟩ := BR.two
  by_cases k0 : tnE p c h s xs ys ra rb = 0
  · rw [brV, if_pos k0]
    rw [k0] at HC
    obtain ⟨kO, hrl⟩ := tnE_zero k0
    have hx0 := (ocE_zero kO).2.1
    have hy0 := (ocE_zero kO).2.2
    have hvB := (okP_v (rcB_zero (rcE_zero (ocE_zero kO).1).1).1).1
    obtain ⟨S, rfl, hS, hxp, hyp, hcn, few⟩ := rc_ready (rcE_zero (ocE_zero kO).1).1
    rw [Int.toNat_natCast]
    have HNW := Lib.hid (fun W => l12New_any p c h S hvB hcn W)
    obtain ⟨r1, r2, r3⟩ : 1 ≤ rb ∧ rb ≤ ra ∧ ra ≤ 6 := by
      simp only [rlB, inB, Bool.and_eq_true, decide_eq_true_eq] at hrl
      omega
    have hsi := resS_I hxp.po.1 r1 r2
    obtain ⟨p1, p2, p3, p4, -⟩ := hxp.po
    have HSI := Lib.hid hsi
    have HRES := Lib.hid (fun W (r : IRow W a1 xs) => l10Results_any p c h (S : Int) h.toNat a1 c1 xs ra rb W p2 p3 p1 (by omega) r1 r2 r3 r)
    rw [hn1] at HRES
    have HX0 := Lib.hid hx0
    have HY0 := Lib.hid hy0
    have HRR := Lib.hid (And.intro r1 (And.intro r2 r3))
    clear k0 hvB kO hrl hsi p1 p2 p3 p4 hx0 hy0 r1 r2 r3
    go_enter Tryz.func15, Tryz.ntmps15
    go_wp2_with fail
    refine (HC.out).mono ?_
    rintro e w1 ⟨rfl, hb1⟩
    clear x0 x1 x2 x3 xf xl y0 y1 yf yl
    have hs_hb1 := hb1.size
    replace BV := BV.below hb1
    replace BR := BR.below hb1
    replace hb := chain hb hb1
    clear hb1
    clear HC
    obtain ⟨x0, x1, x2, x3, xf, xl⟩ := BV.four
    obtain ⟨y0, y1, yf, yl⟩ := BR.two
    go_wp2_with fail
    refine (HRES.out _ (HRO1.out.below hb)).mono ?_
    rintro e w2 ⟨gl, kl, l, rfl, hkl, hQ, hnm, hA, hC, hb2⟩
    clear x0 x1 x2 x3 xf xl y0 y1 yf yl
    have hsb := hb.size
    have HA := Lib.hid (fun x hx => And.intro (hA x hx).1 (hA x hx).2.1)
    have hrw : ∀ x ∈ l, Row w2 x.1 x.2.2 := fun x hx => (hA x hx).2.2
    clear hA hkl
    have hs_hb2 := hb2.size
    replace BV := BV.below hb2
    replace BR := BR.below hb2
    replace hb := chain hb hb2
    clear hb2
    obtain ⟨x0, x1, x2, x3, xf, xl⟩ := BV.four
    obtain ⟨y0, y1, yf, yl⟩ := BR.two
    go_wp2_with fail
    refine (HNW.out _).mono ?_
    rintro e w3 ⟨t, rfl, rfl, rfl, rfl, rfl, hI, hgk, hgv, hb3⟩
    clear x0 x1 x2 x3 xf xl y0 y1 yf yl
    have hlt := hI.lts
    have hzb := hb.size
    have r2 : RF t w3 a2 ys := (RF.of (m := w2.heap.size) (HRO2.out.below hb) (Nat.le_refl _) hgk hgv).gr (Gr.of hb3)
    replace hQ : QRow w3 gl l := VRow.below hQ hb3
    replace hrw : ∀ x ∈ l, Row w3 x.1 x.2.2 := fun x hx => (hrw x hx).below hb3
    have hs_hb3 := hb3.size
    replace BV := BV.below hb3
    replace BR := BR.below hb3
    replace hb := chain hb hb3
    clear hb3
    clear HNW
    have HFS := Lib.hid (resS_facts (t := t) (ys := ys) hxp HX0.out HRR.out.1 HRR.out.2.1 HRR.out.2.2)
    have hll : l.length = (resS xs ra rb).length := by rw [← hnm, List.length_map]
    have HB5 := Lib.hid (l12Best_any t hS (pwT xs + pwT ys) (wm_any t hS _) l l.length ys gl kl a2 n2 c2 w3 hI rfl (by rw [hll]; exact HFS.out.1) (by rw [hll]; exact HFS.out.2.1) hQ hrw hC (by rw [hnm]; exact HFS.out.2.2) hyp HY0.out hn2 hc2 r2)
    rw [hnm] at HB5
    have HNM := Lib.hid hnm
    have HQ := Lib.hid hQ
    have HRW := Lib.hid hrw
    have HI3 := Lib.hid hI
    clear hQ hrw hnm hC r2 hll
    go_wp2_with fail
    refine (HB5.out).mono ?_
    rintro e w4 ⟨i0_, m0, e0, b1, rfl, hI4, hg4, hbm⟩
    have hs4 := hg4.size
    replace hb := hb.trans (hg4.below (base := w.heap.size) (by omega) (by omega) hb.size)
    clear hI hI4 HB5 BV BR
    have hal : Below w4.heap.size w4 (w4.alloc (.cells #[.int .i64 m0, .int .i64 e0] 35)) := (Below.refl _ _).alloc (Nat.le_refl _) _
    replace hb := chain hb hal
    have HB4 := Lib.hid hal
    clear hal
    cases hq : bst (tp t.S) (wc t.S ys) (resS xs ra rb) with
    | none =>
      rw [hq] at hbm
      obtain rfl : b1 = false := hbm
      have HV := Lib.hid (show brO t.S xs ys ra rb = ([], 3) by unfold brO; rw [← HSI.out, hq])
      clear hq
      go_wp2_with fail
      go_ret2
      rw [HV.out]
      exact ⟨none, 0, rfl, .inl ⟨rfl, rfl⟩, hb⟩
    | some q =>
      rw [hq] at hbm
      obtain ⟨rfl, hi0, hql, -⟩ := hbm
      obtain ⟨q1, q2⟩ := q
      dsimp only at hi0 hql
      subst hi0
      obtain ⟨⟨gx, kx, z⟩, hx⟩ : ∃ x, l[q1]? = some x := ⟨_, List.getElem?_eq_getElem hql⟩
      have hxm := List.mem_of_getElem? hx
      have hrx := ((HRW.out _ hxm).grm HI3.out hg4).below HB4.out
      have hax := HA.out _ hxm
      have hz : (resS xs ra rb).getD q1 [] = z := by
        rw [← HNM.out, List.getD_eq_getElem?_getD, List.getElem?_map, hx]
        rfl
      have u0 : CellIs (w4.alloc (.cells #[.int .i64 m0, .int .i64 e0] 35)) gl q1 (.slice (some ⟨gx, 0, none⟩) z.length kx) := QRow.at (VRow.below (HQ.out.grm HI3.out hg4) HB4.out) q1 _ hx
      unfold CellIs at u0
      have HV := Lib.hid (show brO t.S xs ys ra rb = (z, 0) by unfold brO; rw [← HSI.out, hq]; dsimp only; rw [hz])
      have j0 : (0 : Int) ≤ (q1 : Int) := by omega
      have j1 : (q1 : Int) < (l.length : Int) := by omega
      obtain ⟨NL, hNL⟩ : ∃ N, l.length = N := ⟨_, rfl⟩
      rw [hNL] at hql j1
      (try rw [hNL])
      dsimp only at hrx hax
      have HRX := Lib.hid hrx
      have HAX := Lib.hid hax
      have HSZ := Lib.hid (show w.heap.size ≤ w2.heap.size ∧ w2.heap.size ≤ w4.heap.size by omega)
      clear hx hxm hz hNL hq hrx hax
      go_wp2_with fail
      go_ret2
      rw [HV.out]
      exact ⟨some ⟨gx, 0, none⟩, kx, rfl, .inr ⟨gx, rfl, by have := HAX.out.1; omega, HRX.out.lt, HRX.out⟩, hb⟩
  · rw [brV, if_neg k0]
    obtain ⟨K, hK⟩ : ∃ K, tnE p c h s xs ys ra rb = K := ⟨_, rfl⟩
    rw [hK] at HC k0 ⊢
    have f0 : (K != 0) = true := by rw [bne_iff_ne]; exact k0
    clear hK
    go_enter Tryz.func15, Tryz.ntmps15
    go_wp2_with fail
    refine (HC.out).mono ?_
    rintro e w1 ⟨rfl, hb1⟩
    clear x0 x1 x2 x3 xf xl y0 y1 yf yl
    go_wp2_with fail
    go_ret2
    exact ⟨none, 0, rfl, .inl ⟨rfl, rfl⟩, chain hb hb1⟩
end Go.Proofs.YtnlclmlnpkncoaaGreat
