/- Texts of a proof, laid together. -/
import Derived.Test.YtnlclmlnpkncoaaGreatV26
import Derived.Test.YtnlclmlnpkncoaaGreatV27
import Derived.Deep.Cut
namespace Go.Proofs.YtnlclmlnpkncoaaGreat
open Go.ChangeShapes Go.WideShapes Go.ChangeAt Go.RowKit
set_option linter.unusedVariables false
set_option linter.unusedSimpArgs false
set_option maxRecDepth 4000
def lkO (S : Nat) (xs ys : List Int) (ra rb : Int) : Option Int := ((bst (tp S) (wc S ys) (resI xs (ordersP ra rb))).map fun q => q.2).bind fun q => (wc S xs ys).map fun x => q - x
def raceLuckV (p c h s : Int) (xs ys : List Int) (ra rb : Int) : Int × Int × Int := if tnE p c h s xs ys ra rb = 0 then exO s.toNat (lkO s.toNat xs ys ra rb) else (0, 0, tnE p c h s xs ys ra rb)
theorem lk_ex {S : Nat} {ob ow : Option Int} {yb cb yw cw : Int} (h1 : PV S ob yb cb) (h2 : PV S ow yw cw) : exV S (yb - yw) (if cb ≠ 0 then cb else cw) = exO S (ob.bind fun q => ow.map fun x => q - x) := by
  unfold PV at h1 h2
  unfold exV exO
  cases ob with
  | none =>
    dsimp only [Option.bind] at h1 ⊢
    rw [h1.1]
    rfl
  | some b =>
    dsimp only [Option.bind] at h1 ⊢
    obtain ⟨rfl, rfl⟩ := h1
    cases ow with
    | none =>
      dsimp only [Option.map] at h2 ⊢
      rw [h2.1]
      rfl
    | some x =>
      dsimp only [Option.map] at h2 ⊢
      obtain ⟨rfl, rfl⟩ := h2
      rfl
theorem tnE_zero {p c h s : Int} {xs ys : List Int} {ra rb : Int} (e : tnE p c h s xs ys ra rb = 0) : ocE p c h s xs ys = 0 ∧ rlB s ra rb = true := by
  unfold tnE at e
  split at e
  · omega
  · rename_i q
    refine ⟨e, ?_⟩
    have hv := (okP_v (rcB_zero (rcE_zero (ocE_zero e).1).1).1).1
    cases hr : rlB s ra rb with
    | true => rfl
    | false => exact absurd ⟨hv, hr⟩ q
theorem res_ready {t : Tb} {xs ys : List Int} (hS : 1 ≤ t.S ∧ t.S ≤ 6) (hx : t.In xs) {ra rb : Int} (hr : rlB (t.S : Int) ra rb = true) : (1 ≤ rb ∧ rb ≤ ra ∧ ra ≤ 6) ∧ 0 < (resI xs (ordersP ra rb)).length ∧ (resI xs (ordersP ra rb)).length ≤ 1048576 ∧
    (∀ z ∈ resI xs (ordersP ra rb), Ps t.p t.c t.h (t.S : Int) z) ∧ ∀ z ∈ resI xs (ordersP ra rb), t.In z ∧ pwT ys + pwT z < pwT xs + pwT ys + 1 := by
  have h1 : 1 ≤ rb ∧ rb ≤ ra ∧ ra ≤ 6 := by
    simp only [rlB, inB, Bool.and_eq_true, decide_eq_true_eq] at hr
    omega
  obtain ⟨r1, r2, r3⟩ := h1
  obtain ⟨a1, a2, a3, -⟩ := hx.1.po
  refine ⟨⟨r1, r2, r3⟩, resI_ne a2 a3 a1 r1 r2 r3, by have := resI_len a2 a3 a1 r1 r2 r3; omega, fun z hz => (hx.1.res (r := (ra, rb)) r1 r2 r3 z hz).1, fun z hz => ?_⟩
  obtain ⟨b1, b2, b3, -⟩ := hx.1.res (r := (ra, rb)) r1 r2 r3 z hz
  exact ⟨⟨b1, by have := hx.2; omega⟩, by omega⟩
def QR (w : World) (g : Nat) (l : List PQ) : Prop := QRow w g l ∧ ∀ x ∈ l, Row w x.1 x.2.2
theorem QR.below {w w' : World} {g : Nat} {l : List PQ} (h : QR w g l) (hb : Below w.heap.size w w') : QR w' g l := ⟨VRow.below h.1 hb, fun x hx => (h.2 x hx).below hb⟩
theorem bst_map_in {S : Nat} (hS : 1 ≤ S ∧ S ≤ 6) {p c h : Int} {ys : List Int} (hy : Ps p c h (S : Int) ys) {L : List (List Int)} (hL : 0 < L.length) (hz : ∀ z ∈ L, Ps p c h (S : Int) z) : ∀ x, ((bst (tp S) (wc S ys) L).map fun q => q.2) = some x → 0 ≤ x ∧ x ≤ tp S := fun x e => by
  rw [Option.map_eq_some_iff] at e
  obtain ⟨q, hq, rfl⟩ := e
  have hc : bst (tp S) (fun z => if z ∈ L then wc S ys z else none) L = some q := by
    rw [← hq]
    exact bst_congr fun z m => by simp [m]
  obtain ⟨a1, a2, a3, -⟩ := hy.po
  have := bst_in (T := tp S) (fun z x k => by
    split at k
    · rename_i m
      exact wc_in hS a2 a3 a1 (hz z m).po.1 k
    · cases k) hL hc
  exact ⟨this.1, this.2.1⟩
set_option maxRecDepth 8000 in
set_option maxHeartbeats 2000000 in
theorem raceLuck_any (p c h s : Int) (a1 a2 : Option Addr) (n1 n2 c1 c2 : Nat) (xs ys : List Int) (ra rb : Int) (w : World) (hn1 : xs.length = n1) (hn2 : ys.length = n2) (hl1 : n1 ≤ 1048576) (hl2 : n2 ≤ 1048576) (hr1 : IRow w a1 xs) (hr2 : IRow w a2 ys) :
    Calls Tryz.prog 10 #[.agg #[.int .i64 p, .int .i64 c, .int .i64 h, .int .i64 s], .slice a1 n1 c1, .slice a2 n2 c2, .agg #[.int .i64 ra, .int .i64 rb]] w fun e w' => e = .returned (xoV (raceLuckV p c h s xs ys ra rb)) ∧ Below w.heap.size w w' := by
  obtain ⟨BV, BR, BO, hb, hz⟩ := three_new w #[.int .i64 p, .int .i64 c, .int .i64 h, .int .i64 s] #[.int .i64 ra, .int .i64 rb] #[.int .i64 0, .int .i64 0] 25 39 35
  have hzz : w.heap.size + 1 + 1 < (((w.alloc (.cells #[.int .i64 p, .int .i64 c, .int .i64 h, .int .i64 s] 25)).alloc (.cells #[.int .i64 ra, .int .i64 rb] 39)).alloc (.cells #[.int .i64 0, .int .i64 0] 35)).heap.size := by rw [hz]; omega
  clear hz
  have HRO1 := Lib.hid hr1
  have HRO2 := Lib.hid hr2
  have HC := Lib.hid (turnCode_any p c h s a1 a2 n1 n2 c1 c2 xs ys ra rb _ hn1 hn2 hl1 hl2 (hr1.below hb) (hr2.below hb))
  clear hr1 hr2
  obtain ⟨x0, x1, x2, x3, xf, xl⟩ := BV.four
  obtain ⟨y0, y1, yf, yl⟩ := BR.two
  obtain ⟨z0, z1, zf, zl⟩ := BO.two
  by_cases k0 : tnE p c h s xs ys ra rb = 0
  · rw [raceLuckV, if_pos k0]
    rw [k0] at HC
    obtain ⟨kO, hrl⟩ := tnE_zero k0
    obtain ⟨S, rfl, hS, hxp, hyp, hcn, few⟩ := rc_ready (rcE_zero (ocE_zero kO).1).1
    rw [Int.toNat_natCast]
    obtain ⟨⟨r1, r2, r3⟩, hR⟩ : ∃ r, exO S (lkO S xs ys ra rb) = r := ⟨_, rfl⟩
    rw [hR]
    dsimp only [xoV]
    unfold lkO at hR
    have HR := Lib.hid hR
    have HRL := Lib.hid hrl
    clear hR k0 kO hrl
    go_enter Tryz.func10, Tryz.ntmps10
    go_wp2_with fail
    refine (HC.out).mono ?_
    rintro e w1 ⟨rfl, hb1⟩
    have hz1 := hb1.size
    replace BV := BV.below hb1
    replace BR := BR.below hb1
    replace BO := BO.below hb1
    replace hb := chain hb hb1
    clear x0 x1 x2 x3 xf xl y0 y1 yf yl z0 z1 zf zl hb1 HC
    obtain ⟨x0, x1, x2, x3, xf, xl⟩ := BV.four
    have HCU := Lib.hid (chancesUpTo_any p c h S hS a1 a2 n1 n2 c1 c2 xs ys w1 hxp hyp hcn hn1 hn2 (HRO1.out.below hb) (HRO2.out.below hb))
    go_wp2_with fail
    refine (HCU.out).mono ?_
    rintro e w2 ⟨t, rfl, rfl, rfl, rfl, rfl, hK, hI, hgR0, hgC0, hb2⟩
    clear x0 x1 x2 x3 xf xl HCU
    have hw2 := hb2.size
    have hsw := hb.size
    replace BV := BV.below hb2
    replace BR := BR.below hb2
    replace BO := BO.below hb2
    replace hb := chain hb hb2
    have hgR : w.heap.size ≤ t.gR := by omega
    have hgC : w.heap.size ≤ t.gC := by omega
    obtain ⟨hx, hy, hK1⟩ := Tb.in_of hxp hyp hcn hK
    have hin := winChance_in hS hx hy
    obtain ⟨hrb, hrn, hrm, hrp, hrt⟩ := res_ready (ys := ys) hS hx HRL.out
    have hbi := bst_map_in hS hy.1 hrn hrp
    obtain ⟨X, hX⟩ : ∃ X, nm t.c xs = X := ⟨_, rfl⟩
    obtain ⟨Y, hY⟩ : ∃ Y, nm t.c ys = Y := ⟨_, rfl⟩
    have HBE := Lib.hid (fun (gl k : Nat) W (q : TabI t W) (r : Row W gl ((resI xs (ordersP ra rb)).map fun z => (nm t.c z : Int))) => best_any t hS (pwT xs + pwT ys + 1) (win_any t hS few hK1 _) (resI xs (ordersP ra rb)) _ ys Y gl k W q rfl hrn hrm hrt hy hY r)
    obtain ⟨p1, p2, p3, p4, -⟩ := hx.1.po
    have HB := Lib.hid (fun (W : World) (r : IRow W a1 xs) => bearoffResultsM_any a1 n1 c1 xs ra rb W hn1 (by omega) (by omega) (by rw [← hn1, p4]; exact p1) hrb.1 hrb.2.1 hrb.2.2 r)
    have HLEN := Lib.hid (And.intro hrn hrm)
    have HPS := Lib.hid hrp
    have HWI := Lib.hid hin
    have HBI := Lib.hid hbi
    have HX := Lib.hid hX
    have HY := Lib.hid hY
    have HXX := Lib.hid hx
    have HYY := Lib.hid hy
    clear hb2 hw2 hsw hgR0 hgC0 hK hin hrn hrm hrp hrt hbi hrb p1 p2 p3 p4 hX hY hx hy hxp hyp hcn HRL
    go_upto_region 5 with (fail)
    clear BV
    go_cut [12, 13] from 14 (fun q12 q13 wr => ∃ (f : Int) (g8 : Nat) (y cd : Int), q12 = .int .i64 f ∧ q13 = .pointer (some ⟨g8, 0, none⟩) ∧ TabI t wr ∧ Blk wr g8 #[.int .i64 y, .int .i64 cd] 67 ∧ Hid (PV t.S ((bst (tp t.S) (wc t.S ys) (resI xs (ordersP ra rb))).map fun q => q.2) y cd) ∧ Hid (∀ q, bst (tp t.S) (wc t.S ys) (resI xs (ordersP ra rb)) = some q → f = (nm t.c ((resI xs (ordersP ra rb)).getD q.1 []) : Int) ∧ q.1 < (resI xs (ordersP ra rb)).length) ∧ Blk wr (w.heap.size + 1 + 1) #[.int .i64 0, .int .i64 0] 35 ∧ Blk wr (w.heap.size + 1) #[.int .i64 ra, .int .i64 rb] 39 ∧ Below w.heap.size w wr ∧ w.heap.size ≤ g8)
    case first =>
      refine wp_region_held_drew (S := fun w' => w'.cell? ⟨t.g, 0, none⟩ = some (.int .i64 t.p) ∧ w'.cell? ⟨t.g, 1, none⟩ = some (.int .i64 t.c) ∧ w'.cell? ⟨t.g, 2, none⟩ = some (.int .i64 t.h) ∧ w'.cell? ⟨t.g, 3, none⟩ = some (.int .i64 (t.S : Int)) ∧ w'.cell? ⟨t.g, 4, none⟩ = some (.pointer (some ⟨t.gw, 0, none⟩)) ∧ w'.cell? ⟨w.heap.size + 1, 0, none⟩ = some (.int .i64 ra) ∧ w'.cell? ⟨w.heap.size + 1, 1, none⟩ = some (.int .i64 rb)) (by kernel_rfl) ⟨hI.drew.st.1.thirteen.1, hI.drew.st.1.thirteen.2.1, hI.drew.st.1.thirteen.2.2.1, hI.drew.st.1.thirteen.2.2.2.1, hI.drew.st.1.thirteen.2.2.2.2.1, BR.drew.two.1, BR.drew.two.2.1⟩ (fun hHeld => ?_)
      clear hHeld
      replace hI := hI.drew
      replace BO := BO.drew
      replace BR := BR.drew
      replace hb := hb.drew
      generalize w2.drew = vd at *
      have hHeld : vd.cell? ⟨t.g, 0, none⟩ = some (.int .i64 t.p) ∧ vd.cell? ⟨t.g, 1, none⟩ = some (.int .i64 t.c) ∧ vd.cell? ⟨t.g, 2, none⟩ = some (.int .i64 t.h) ∧ vd.cell? ⟨t.g, 3, none⟩ = some (.int .i64 (t.S : Int)) ∧ vd.cell? ⟨t.g, 4, none⟩ = some (.pointer (some ⟨t.gw, 0, none⟩)) ∧ vd.cell? ⟨w.heap.size + 1, 0, none⟩ = some (.int .i64 ra) ∧ vd.cell? ⟨w.heap.size + 1, 1, none⟩ = some (.int .i64 rb) := ⟨hI.st.1.thirteen.1, hI.st.1.thirteen.2.1, hI.st.1.thirteen.2.2.1, hI.st.1.thirteen.2.2.2.1, hI.st.1.thirteen.2.2.2.2.1, BR.two.1, BR.two.2.1⟩
      refine tk 0 28 ?_
      refine tk 1 29 ?_
      refine tk 2 30 ?_
      refine tk 3 31 ?_
      refine tk 4 32 ?_
      refine tk 5 33 ?_
      refine tk 6 34 ?_
      refine tk 9 37 ?_
      refine tk 10 38 ?_
      refine tk 11 39 ?_
      refine tk 12 40 ?_
      refine tk 13 41 ?_
      refine wpAnyH_ready (rs := [7, 19]) (by kernel_rfl) (by simp) ?_
      refine AllReadyH.cons (o := ⟨some 35, _, _, _, _, _⟩) rfl (fun K hK => ?_) (AllReadyH.cons (o := ⟨some 13, _, _, _, _, _⟩) rfl (fun K hK => ?_) AllReadyH.nil)
      · go_simp
        refine (HB.out _ (HRO1.out.below hb)).mono ?_
        rintro e w7 ⟨g5, k5, l5, rfl, -, hQ5, hnm5, hA5, -, hb5⟩
        replace hI := hI.below hb5
        replace BO := BO.below hb5
        replace BR := BR.below hb5
        replace hb := chain hb hb5
        clear hb5
        have hQR : QR w7 g5 l5 := ⟨hQ5, fun x hx => (hA5 x hx).2.2⟩
        have HNM := Lib.hid hnm5
        have HL5 := Lib.hid (nm_len hnm5)
        clear hQ5 hA5 hnm5
        (try go_wp2_with fail)
        refine hko hK ⟨hI.st.1.thirteen.1, hI.st.1.thirteen.2.1, hI.st.1.thirteen.2.2.1, hI.st.1.thirteen.2.2.2.1, hI.st.1.thirteen.2.2.2.2.1, (Blk.l2 BR)⟩ fun hHeld => ?_
        clear hK K
        refine wpAnyH_ready (rs := [8, 19]) (by kernel_rfl) (by simp) ?_
        refine AllReadyH.cons (o := ⟨some 36, _, _, _, _, _⟩) rfl (fun K hK => ?_) (AllReadyH.cons (o := ⟨some 13, _, _, _, _, _⟩) rfl (fun K hK => ?_) AllReadyH.nil)
        · go_simp
          refine (numbersOf_any t g5 l5.length k5 l5 _ rfl (by rw [HL5.out]; exact HLEN.out.2) hI.st.2.1 hQR.1 (fun x hx => ⟨hQR.2 x hx, HPS.out x.2.2 (by rw [← HNM.out]; exact List.mem_map.2 ⟨x, hx, rfl⟩)⟩)).mono ?_
          rintro e w8 ⟨g6, rfl, -, R6, hb6⟩
          clear hQR
          replace hI := hI.below hb6
          replace BO := BO.below hb6
          replace BR := BR.below hb6
          replace hb := chain hb hb6
          clear hb6
          rw [HNM.out] at R6
          rw [HL5.out]
          (try go_wp2_with fail)
          refine hko hK ⟨hI.st.1.thirteen.1, hI.st.1.thirteen.2.1, hI.st.1.thirteen.2.2.1, hI.st.1.thirteen.2.2.2.1, hI.st.1.thirteen.2.2.2.2.1, (Blk.l2 BR)⟩ fun hHeld => ?_
          clear hK K
          refine wpAnyH_ready (rs := [14, 19]) (by kernel_rfl) (by simp) ?_
          refine AllReadyH.cons (o := ⟨some 42, _, _, _, _, _⟩) rfl (fun K hK => ?_) (AllReadyH.cons (o := ⟨some 13, _, _, _, _, _⟩) rfl (fun K hK => ?_) AllReadyH.nil)
          · go_simp
            refine (numOf_any t.p t.c t.h (t.S : Int) t.gw a2 n2 c2 ys _ HYY.out.1 hn2 (HRO2.out.below hb) hI.st.2.1).mono ?_
            rintro e w14 ⟨rfl, hb4⟩
            replace hI := hI.below hb4
            replace BO := BO.below hb4
            replace BR := BR.below hb4
            replace R6 := R6.below hb4
            replace hb := chain hb hb4
            clear hb4
            rw [HY.out]
            (try go_wp2_with fail)
            refine hko hK ⟨hI.st.1.thirteen.1, hI.st.1.thirteen.2.1, hI.st.1.thirteen.2.2.1, hI.st.1.thirteen.2.2.2.1, hI.st.1.thirteen.2.2.2.2.1, (Blk.l2 BR)⟩ fun hHeld => ?_
            clear hK K
            refine wpAnyH_ready (rs := [15, 19]) (by kernel_rfl) (by simp) ?_
            refine AllReadyH.cons (o := ⟨some 43, _, _, _, _, _⟩) rfl (fun K hK => ?_) (AllReadyH.cons (o := ⟨some 13, _, _, _, _, _⟩) rfl (fun K hK => ?_) AllReadyH.nil)
            · go_simp
              refine (HBE.out _ _ _ hI R6).mono ?_
              rintro e w15 ⟨f, y, cd, rfl, hI2, hga, hp, hbf⟩
              replace BO := hI.tab.gr BO hga.gr (by decide) (by decide)
              replace BR := hI.tab.gr BR hga.gr (by decide) (by decide)
              have hbz := hb.size
              replace hb := hb.trans (hga.gr.below (base := w.heap.size) hgR hgC hb.size)
              clear hI hga R6 hbz
              rename TabI t w15 => hI
              have HP := Lib.hid hp
              have HBF := Lib.hid hbf
              clear hp hbf
              (try go_wp2_with fail)
              refine hko hK ⟨hI.st.1.thirteen.1, hI.st.1.thirteen.2.1, hI.st.1.thirteen.2.2.1, hI.st.1.thirteen.2.2.2.1, hI.st.1.thirteen.2.2.2.2.1, (Blk.l2 BR)⟩ fun hHeld => ?_
              clear hK K
              refine tk 16 27 ?_
              refine tk 17 44 ?_
              refine tk 18 45 ?_
              refine rdk 19 13 fun K hK => ?_
              go_simp
              have aZ := (Aw.fresh hI.ch (Nat.le_refl w15.heap.size)).below ((Below.refl _ _).alloc (Nat.le_refl _) (.cells #[.int .i64 0, .int .i64 0] 67))
              have hal : Below w15.heap.size w15 (w15.alloc (.cells #[.int .i64 0, .int .i64 0] 67)) := (Below.refl _ _).alloc (Nat.le_refl _) _
              have B8 := Blk.new w15 #[.int .i64 0, .int .i64 0] 67
              have hz8 : w.heap.size ≤ w15.heap.size := hb.size
              have hl_BO := BO.lt
              have hl_BR := BR.lt
              replace hI := hI.below hal
              replace BO := BO.below hal
              replace BR := BR.below hal
              replace hb := chain hb hal
              clear hal
              obtain ⟨g8, hg8⟩ : ∃ g, w15.heap.size = g := ⟨_, rfl⟩
              rw [hg8] at B8 hz8 aZ hl_BO hl_BR
              (try go_wp2_with fail)
              refine hko hK ⟨hI.st.1.thirteen.1, hI.st.1.thirteen.2.1, hI.st.1.thirteen.2.2.1, hI.st.1.thirteen.2.2.2.1, hI.st.1.thirteen.2.2.2.2.1, (Blk.l2 BR)⟩ fun hHeld => ?_
              clear hK K
              (try rw [hg8])
              generalize w15.alloc (.cells #[.int .i64 0, .int .i64 0] 67) = wA at *
              clear hg8
              refine tk 20 12 ?_
              refine rdn 21 fun K hK => ?_
              clear hHeld
              obtain ⟨z0, z1, zf, zl⟩ := B8.two
              have SI := (hI.away (o := 0) (u := .int .i64 y) aZ B8).away (o := 1) (u := .int .i64 cd) (aZ.away B8) (B8.set (i := 0) (.int .i64 y))
              have SBO := (BO.other (g := g8) (o := 0) (v := .int .i64 y) (by omega)).other (g := g8) (o := 1) (v := .int .i64 cd) (by omega)
              have SBR := (BR.other (g := g8) (o := 0) (v := .int .i64 y) (by omega)).other (g := g8) (o := 1) (v := .int .i64 cd) (by omega)
              have SB8 := B8.set2 (.int .i64 y) (.int .i64 cd)
              have Shb := belowFar2 hb (B := g8) (by omega) (.int .i64 y) (.int .i64 cd)
              go_simp
              (try go_wp2_with fail)
              refine hko hK ⟨SI.st.1.thirteen.1, SI.st.1.thirteen.2.1, SI.st.1.thirteen.2.2.1, SI.st.1.thirteen.2.2.2.1, SI.st.1.thirteen.2.2.2.2.1, (Blk.l2 SBR)⟩ fun hHeld => ?_
              clear hK K
              clear z0 z1 zf zl hb B8 hI aZ BO BR
              generalize ((wA.setCell ⟨g8, 0, none⟩ (.int .i64 y)).setCell ⟨g8, 1, none⟩ (.int .i64 cd)) = wS at *
              have hI := SI
              have B8 := SB8
              have hb := Shb
              have BO := SBO
              have BR := SBR
              clear SI SB8 Shb SBO SBR
              refine wpAnyH_done (by kernel_rfl) ?_ _
              clear hHeld
              (try go_wp2_with fail)
              go_meet
              case rel => exact ⟨f, g8, y, cd, rfl, rfl, hI, B8, HP, HBF, BO, BR, hb, hz8⟩
            · go_simp
              have aZ := (Aw.fresh hI.ch (Nat.le_refl w14.heap.size)).below ((Below.refl _ _).alloc (Nat.le_refl _) (.cells #[.int .i64 0, .int .i64 0] 67))
              have hal : Below w14.heap.size w14 (w14.alloc (.cells #[.int .i64 0, .int .i64 0] 67)) := (Below.refl _ _).alloc (Nat.le_refl _) _
              have B8 := Blk.new w14 #[.int .i64 0, .int .i64 0] 67
              have hz8 : w.heap.size ≤ w14.heap.size := hb.size
              have hl_BO := BO.lt
              have hl_BR := BR.lt
              replace hI := hI.below hal
              replace BO := BO.below hal
              replace BR := BR.below hal
              replace R6 := R6.below hal
              replace hb := chain hb hal
              clear hal
              obtain ⟨g8, hg8⟩ : ∃ g, w14.heap.size = g := ⟨_, rfl⟩
              rw [hg8] at B8 hz8 aZ hl_BO hl_BR
              (try go_wp2_with fail)
              refine hko hK ⟨hI.st.1.thirteen.1, hI.st.1.thirteen.2.1, hI.st.1.thirteen.2.2.1, hI.st.1.thirteen.2.2.2.1, hI.st.1.thirteen.2.2.2.2.1, (Blk.l2 BR)⟩ fun hHeld => ?_
              clear hK K
              (try rw [hg8])
              generalize w14.alloc (.cells #[.int .i64 0, .int .i64 0] 67) = wA at *
              clear hg8
              refine rdk 15 43 fun K hK => ?_
              go_simp
              have B8lt := B8.lt
              refine (HBE.out _ _ _ hI R6).mono ?_
              rintro e w15 ⟨f, y, cd, rfl, hI2, hga, hp, hbf⟩
              replace BO := hI.tab.gr BO hga.gr (by decide) (by decide)
              replace BR := hI.tab.gr BR hga.gr (by decide) (by decide)
              replace B8 := hI.tab.gr B8 hga.gr (by decide) (by decide)
              replace aZ := hga.aw _ B8lt aZ
              have hbz := hb.size
              replace hb := hb.trans (hga.gr.below (base := w.heap.size) hgR hgC hb.size)
              clear hI hga R6 hbz
              rename TabI t w15 => hI
              have HP := Lib.hid hp
              have HBF := Lib.hid hbf
              clear hp hbf
              clear B8lt
              (try go_wp2_with fail)
              refine hko hK ⟨hI.st.1.thirteen.1, hI.st.1.thirteen.2.1, hI.st.1.thirteen.2.2.1, hI.st.1.thirteen.2.2.2.1, hI.st.1.thirteen.2.2.2.2.1, (Blk.l2 BR)⟩ fun hHeld => ?_
              clear hK K
              refine tk 16 27 ?_
              refine tk 17 44 ?_
              refine tk 18 45 ?_
              refine tk 20 12 ?_
              refine rdn 21 fun K hK => ?_
              clear hHeld
              obtain ⟨z0, z1, zf, zl⟩ := B8.two
              have SI := (hI.away (o := 0) (u := .int .i64 y) aZ B8).away (o := 1) (u := .int .i64 cd) (aZ.away B8) (B8.set (i := 0) (.int .i64 y))
              have SBO := (BO.other (g := g8) (o := 0) (v := .int .i64 y) (by omega)).other (g := g8) (o := 1) (v := .int .i64 cd) (by omega)
              have SBR := (BR.other (g := g8) (o := 0) (v := .int .i64 y) (by omega)).other (g := g8) (o := 1) (v := .int .i64 cd) (by omega)
              have SB8 := B8.set2 (.int .i64 y) (.int .i64 cd)
              have Shb := belowFar2 hb (B := g8) (by omega) (.int .i64 y) (.int .i64 cd)
              go_simp
              (try go_wp2_with fail)
              refine hko hK ⟨SI.st.1.thirteen.1, SI.st.1.thirteen.2.1, SI.st.1.thirteen.2.2.1, SI.st.1.thirteen.2.2.2.1, SI.st.1.thirteen.2.2.2.2.1, (Blk.l2 SBR)⟩ fun hHeld => ?_
              clear hK K
              clear z0 z1 zf zl hb B8 hI aZ BO BR
              generalize ((w15.setCell ⟨g8, 0, none⟩ (.int .i64 y)).setCell ⟨g8, 1, none⟩ (.int .i64 cd)) = wS at *
              have hI := SI
              have B8 := SB8
              have hb := Shb
              have BO := SBO
              have BR := SBR
              clear SI SB8 Shb SBO SBR
              refine wpAnyH_done (by kernel_rfl) ?_ _
              clear hHeld
              (try go_wp2_with fail)
              go_meet
              case rel => exact ⟨f, g8, y, cd, rfl, rfl, hI, B8, HP, HBF, BO, BR, hb, hz8⟩
          · go_simp
            have aZ := (Aw.fresh hI.ch (Nat.le_refl w8.heap.size)).below ((Below.refl _ _).alloc (Nat.le_refl _) (.cells #[.int .i64 0, .int .i64 0] 67))
            have hal : Below w8.heap.size w8 (w8.alloc (.cells #[.int .i64 0, .int .i64 0] 67)) := (Below.refl _ _).alloc (Nat.le_refl _) _
            have B8 := Blk.new w8 #[.int .i64 0, .int .i64 0] 67
            have hz8 : w.heap.size ≤ w8.heap.size := hb.size
            have hl_BO := BO.lt
            have hl_BR := BR.lt
            replace hI := hI.below hal
            replace BO := BO.below hal
            replace BR := BR.below hal
            replace R6 := R6.below hal
            replace hb := chain hb hal
            clear hal
            obtain ⟨g8, hg8⟩ : ∃ g, w8.heap.size = g := ⟨_, rfl⟩
            rw [hg8] at B8 hz8 aZ hl_BO hl_BR
            (try go_wp2_with fail)
            refine hko hK ⟨hI.st.1.thirteen.1, hI.st.1.thirteen.2.1, hI.st.1.thirteen.2.2.1, hI.st.1.thirteen.2.2.2.1, hI.st.1.thirteen.2.2.2.2.1, (Blk.l2 BR)⟩ fun hHeld => ?_
            clear hK K
            (try rw [hg8])
            generalize w8.alloc (.cells #[.int .i64 0, .int .i64 0] 67) = wA at *
            clear hg8
            refine rdk 14 42 fun K hK => ?_
            go_simp
            refine (numOf_any t.p t.c t.h (t.S : Int) t.gw a2 n2 c2 ys _ HYY.out.1 hn2 (HRO2.out.below hb) hI.st.2.1).mono ?_
            rintro e w14 ⟨rfl, hb4⟩
            replace hI := hI.below hb4
            replace BO := BO.below hb4
            replace BR := BR.below hb4
            replace B8 := B8.below hb4
            replace aZ := aZ.below hb4
            replace R6 := R6.below hb4
            replace hb := chain hb hb4
            clear hb4
            rw [HY.out]
            (try go_wp2_with fail)
            refine hko hK ⟨hI.st.1.thirteen.1, hI.st.1.thirteen.2.1, hI.st.1.thirteen.2.2.1, hI.st.1.thirteen.2.2.2.1, hI.st.1.thirteen.2.2.2.2.1, (Blk.l2 BR)⟩ fun hHeld => ?_
            clear hK K
            refine rdk 15 43 fun K hK => ?_
            go_simp
            have B8lt := B8.lt
            refine (HBE.out _ _ _ hI R6).mono ?_
            rintro e w15 ⟨f, y, cd, rfl, hI2, hga, hp, hbf⟩
            replace BO := hI.tab.gr BO hga.gr (by decide) (by decide)
            replace BR := hI.tab.gr BR hga.gr (by decide) (by decide)
            replace B8 := hI.tab.gr B8 hga.gr (by decide) (by decide)
            replace aZ := hga.aw _ B8lt aZ
            have hbz := hb.size
            replace hb := hb.trans (hga.gr.below (base := w.heap.size) hgR hgC hb.size)
            clear hI hga R6 hbz
            rename TabI t w15 => hI
            have HP := Lib.hid hp
            have HBF := Lib.hid hbf
            clear hp hbf
            clear B8lt
            (try go_wp2_with fail)
            refine hko hK ⟨hI.st.1.thirteen.1, hI.st.1.thirteen.2.1, hI.st.1.thirteen.2.2.1, hI.st.1.thirteen.2.2.2.1, hI.st.1.thirteen.2.2.2.2.1, (Blk.l2 BR)⟩ fun hHeld => ?_
            clear hK K
            refine tk 16 27 ?_
            refine tk 17 44 ?_
            refine tk 18 45 ?_
            refine tk 20 12 ?_
            refine rdn 21 fun K hK => ?_
            clear hHeld
            obtain ⟨z0, z1, zf, zl⟩ := B8.two
            have SI := (hI.away (o := 0) (u := .int .i64 y) aZ B8).away (o := 1) (u := .int .i64 cd) (aZ.away B8) (B8.set (i := 0) (.int .i64 y))
            have SBO := (BO.other (g := g8) (o := 0) (v := .int .i64 y) (by omega)).other (g := g8) (o := 1) (v := .int .i64 cd) (by omega)
            have SBR := (BR.other (g := g8) (o := 0) (v := .int .i64 y) (by omega)).other (g := g8) (o := 1) (v := .int .i64 cd) (by omega)
            have SB8 := B8.set2 (.int .i64 y) (.int .i64 cd)
            have Shb := belowFar2 hb (B := g8) (by omega) (.int .i64 y) (.int .i64 cd)
            go_simp
            (try go_wp2_with fail)
            refine hko hK ⟨SI.st.1.thirteen.1, SI.st.1.thirteen.2.1, SI.st.1.thirteen.2.2.1, SI.st.1.thirteen.2.2.2.1, SI.st.1.thirteen.2.2.2.2.1, (Blk.l2 SBR)⟩ fun hHeld => ?_
            clear hK K
            clear z0 z1 zf zl hb B8 hI aZ BO BR
            generalize ((w15.setCell ⟨g8, 0, none⟩ (.int .i64 y)).setCell ⟨g8, 1, none⟩ (.int .i64 cd)) = wS at *
            have hI := SI
            have B8 := SB8
            have hb := Shb
            have BO := SBO
            have BR := SBR
            clear SI SB8 Shb SBO SBR
            refine wpAnyH_done (by kernel_rfl) ?_ _
            clear hHeld
            (try go_wp2_with fail)
            go_meet
            case rel => exact ⟨f, g8, y, cd, rfl, rfl, hI, B8, HP, HBF, BO, BR, hb, hz8⟩
        · go_simp
          have aZ := (Aw.fresh hI.ch (Nat.le_refl w7.heap.size)).below ((Below.refl _ _).alloc (Nat.le_refl _) (.cells #[.int .i64 0, .int .i64 0] 67))
          have hal : Below w7.heap.size w7 (w7.alloc (.cells #[.int .i64 0, .int .i64 0] 67)) := (Below.refl _ _).alloc (Nat.le_refl _) _
          have B8 := Blk.new w7 #[.int .i64 0, .int .i64 0] 67
          have hz8 : w.heap.size ≤ w7.heap.size := hb.size
          have hl_BO := BO.lt
          have hl_BR := BR.lt
          replace hI := hI.below hal
          replace BO := BO.below hal
          replace BR := BR.below hal
          replace hQR := hQR.below hal
          replace hb := chain hb hal
          clear hal
          obtain ⟨g8, hg8⟩ : ∃ g, w7.heap.size = g := ⟨_, rfl⟩
          rw [hg8] at B8 hz8 aZ hl_BO hl_BR
          (try go_wp2_with fail)
          refine hko hK ⟨hI.st.1.thirteen.1, hI.st.1.thirteen.2.1, hI.st.1.thirteen.2.2.1, hI.st.1.thirteen.2.2.2.1, hI.st.1.thirteen.2.2.2.2.1, (Blk.l2 BR)⟩ fun hHeld => ?_
          clear hK K
          (try rw [hg8])
          generalize w7.alloc (.cells #[.int .i64 0, .int .i64 0] 67) = wA at *
          clear hg8
          refine rdk 8 36 fun K hK => ?_
          go_simp
          refine (numbersOf_any t g5 l5.length k5 l5 _ rfl (by rw [HL5.out]; exact HLEN.out.2) hI.st.2.1 hQR.1 (fun x hx => ⟨hQR.2 x hx, HPS.out x.2.2 (by rw [← HNM.out]; exact List.mem_map.2 ⟨x, hx, rfl⟩)⟩)).mono ?_
          rintro e w8 ⟨g6, rfl, -, R6, hb6⟩
          clear hQR
          replace hI := hI.below hb6
          replace BO := BO.below hb6
          replace BR := BR.below hb6
          replace B8 := B8.below hb6
          replace aZ := aZ.below hb6
          replace hb := chain hb hb6
          clear hb6
          rw [HNM.out] at R6
          rw [HL5.out]
          (try go_wp2_with fail)
          refine hko hK ⟨hI.st.1.thirteen.1, hI.st.1.thirteen.2.1, hI.st.1.thirteen.2.2.1, hI.st.1.thirteen.2.2.2.1, hI.st.1.thirteen.2.2.2.2.1, (Blk.l2 BR)⟩ fun hHeld => ?_
          clear hK K
          refine rdk 14 42 fun K hK => ?_
          go_simp
          refine (numOf_any t.p t.c t.h (t.S : Int) t.gw a2 n2 c2 ys _ HYY.out.1 hn2 (HRO2.out.below hb) hI.st.2.1).mono ?_
          rintro e w14 ⟨rfl, hb4⟩
          replace hI := hI.below hb4
          replace BO := BO.below hb4
          replace BR := BR.below hb4
          replace B8 := B8.below hb4
          replace aZ := aZ.below hb4
          replace R6 := R6.below hb4
          replace hb := chain hb hb4
          clear hb4
          rw [HY.out]
          (try go_wp2_with fail)
          refine hko hK ⟨hI.st.1.thirteen.1, hI.st.1.thirteen.2.1, hI.st.1.thirteen.2.2.1, hI.st.1.thirteen.2.2.2.1, hI.st.1.thirteen.2.2.2.2.1, (Blk.l2 BR)⟩ fun hHeld => ?_
          clear hK K
          refine rdk 15 43 fun K hK => ?_
          go_simp
          have B8lt := B8.lt
          refine (HBE.out _ _ _ hI R6).mono ?_
          rintro e w15 ⟨f, y, cd, rfl, hI2, hga, hp, hbf⟩
          replace BO := hI.tab.gr BO hga.gr (by decide) (by decide)
          replace BR := hI.tab.gr BR hga.gr (by decide) (by decide)
          replace B8 := hI.tab.gr B8 hga.gr (by decide) (by decide)
          replace aZ := hga.aw _ B8lt aZ
          have hbz := hb.size
          replace hb := hb.trans (hga.gr.below (base := w.heap.size) hgR hgC hb.size)
          clear hI hga R6 hbz
          rename TabI t w15 => hI
          have HP := Lib.hid hp
          have HBF := Lib.hid hbf
          clear hp hbf
          clear B8lt
          (try go_wp2_with fail)
          refine hko hK ⟨hI.st.1.thirteen.1, hI.st.1.thirteen.2.1, hI.st.1.thirteen.2.2.1, hI.st.1.thirteen.2.2.2.1, hI.st.1.thirteen.2.2.2.2.1, (Blk.l2 BR)⟩ fun hHeld => ?_
          clear hK K
          refine tk 16 27 ?_
          refine tk 17 44 ?_
          refine tk 18 45 ?_
          refine tk 20 12 ?_
          refine rdn 21 fun K hK => ?_
          clear hHeld
          obtain ⟨z0, z1, zf, zl⟩ := B8.two
          have SI := (hI.away (o := 0) (u := .int .i64 y) aZ B8).away (o := 1) (u := .int .i64 cd) (aZ.away B8) (B8.set (i := 0) (.int .i64 y))
          have SBO := (BO.other (g := g8) (o := 0) (v := .int .i64 y) (by omega)).other (g := g8) (o := 1) (v := .int .i64 cd) (by omega)
          have SBR := (BR.other (g := g8) (o := 0) (v := .int .i64 y) (by omega)).other (g := g8) (o := 1) (v := .int .i64 cd) (by omega)
          have SB8 := B8.set2 (.int .i64 y) (.int .i64 cd)
          have Shb := belowFar2 hb (B := g8) (by omega) (.int .i64 y) (.int .i64 cd)
          go_simp
          (try go_wp2_with fail)
          refine hko hK ⟨SI.st.1.thirteen.1, SI.st.1.thirteen.2.1, SI.st.1.thirteen.2.2.1, SI.st.1.thirteen.2.2.2.1, SI.st.1.thirteen.2.2.2.2.1, (Blk.l2 SBR)⟩ fun hHeld => ?_
          clear hK K
          clear z0 z1 zf zl hb B8 hI aZ BO BR
          generalize ((w15.setCell ⟨g8, 0, none⟩ (.int .i64 y)).setCell ⟨g8, 1, none⟩ (.int .i64 cd)) = wS at *
          have hI := SI
          have B8 := SB8
          have hb := Shb
          have BO := SBO
          have BR := SBR
          clear SI SB8 Shb SBO SBR
          refine wpAnyH_done (by kernel_rfl) ?_ _
          clear hHeld
          (try go_wp2_with fail)
          go_meet
          case rel => exact ⟨f, g8, y, cd, rfl, rfl, hI, B8, HP, HBF, BO, BR, hb, hz8⟩
      · go_simp
        have aZ := (Aw.fresh hI.ch (Nat.le_refl vd.heap.size)).below ((Below.refl _ _).alloc (Nat.le_refl _) (.cells #[.int .i64 0, .int .i64 0] 67))
        have hal : Below vd.heap.size vd (vd.alloc (.cells #[.int .i64 0, .int .i64 0] 67)) := (Below.refl _ _).alloc (Nat.le_refl _) _
        have B8 := Blk.new vd #[.int .i64 0, .int .i64 0] 67
        have hz8 : w.heap.size ≤ vd.heap.size := hb.size
        have hl_BO := BO.lt
        have hl_BR := BR.lt
        replace hI := hI.below hal
        replace BO := BO.below hal
        replace BR := BR.below hal
        replace hb := chain hb hal
        clear hal
        obtain ⟨g8, hg8⟩ : ∃ g, vd.heap.size = g := ⟨_, rfl⟩
        rw [hg8] at B8 hz8 aZ hl_BO hl_BR
        (try go_wp2_with fail)
        refine hko hK ⟨hI.st.1.thirteen.1, hI.st.1.thirteen.2.1, hI.st.1.thirteen.2.2.1, hI.st.1.thirteen.2.2.2.1, hI.st.1.thirteen.2.2.2.2.1, (Blk.l2 BR)⟩ fun hHeld => ?_
        clear hK K
        (try rw [hg8])
        generalize vd.alloc (.cells #[.int .i64 0, .int .i64 0] 67) = wA at *
        clear hg8
        refine rdk 7 35 fun K hK => ?_
        go_simp
        refine (HB.out _ (HRO1.out.below hb)).mono ?_
        rintro e w7 ⟨g5, k5, l5, rfl, -, hQ5, hnm5, hA5, -, hb5⟩
        replace hI := hI.below hb5
        replace BO := BO.below hb5
        replace BR := BR.below hb5
        replace B8 := B8.below hb5
        replace aZ := aZ.below hb5
        replace hb := chain hb hb5
        clear hb5
        have hQR : QR w7 g5 l5 := ⟨hQ5, fun x hx => (hA5 x hx).2.2⟩
        have HNM := Lib.hid hnm5
        have HL5 := Lib.hid (nm_len hnm5)
        clear hQ5 hA5 hnm5
        (try go_wp2_with fail)
        refine hko hK ⟨hI.st.1.thirteen.1, hI.st.1.thirteen.2.1, hI.st.1.thirteen.2.2.1, hI.st.1.thirteen.2.2.2.1, hI.st.1.thirteen.2.2.2.2.1, (Blk.l2 BR)⟩ fun hHeld => ?_
        clear hK K
        refine rdk 8 36 fun K hK => ?_
        go_simp
        refine (numbersOf_any t g5 l5.length k5 l5 _ rfl (by rw [HL5.out]; exact HLEN.out.2) hI.st.2.1 hQR.1 (fun x hx => ⟨hQR.2 x hx, HPS.out x.2.2 (by rw [← HNM.out]; exact List.mem_map.2 ⟨x, hx, rfl⟩)⟩)).mono ?_
        rintro e w8 ⟨g6, rfl, -, R6, hb6⟩
        clear hQR
        replace hI := hI.below hb6
        replace BO := BO.below hb6
        replace BR := BR.below hb6
        replace B8 := B8.below hb6
        replace aZ := aZ.below hb6
        replace hb := chain hb hb6
        clear hb6
        rw [HNM.out] at R6
        rw [HL5.out]
        (try go_wp2_with fail)
        refine hko hK ⟨hI.st.1.thirteen.1, hI.st.1.thirteen.2.1, hI.st.1.thirteen.2.2.1, hI.st.1.thirteen.2.2.2.1, hI.st.1.thirteen.2.2.2.2.1, (Blk.l2 BR)⟩ fun hHeld => ?_
        clear hK K
        refine rdk 14 42 fun K hK => ?_
        go_simp
        refine (numOf_any t.p t.c t.h (t.S : Int) t.gw a2 n2 c2 ys _ HYY.out.1 hn2 (HRO2.out.below hb) hI.st.2.1).mono ?_
        rintro e w14 ⟨rfl, hb4⟩
        replace hI := hI.below hb4
        replace BO := BO.below hb4
        replace BR := BR.below hb4
        replace B8 := B8.below hb4
        replace aZ := aZ.below hb4
        replace R6 := R6.below hb4
        replace hb := chain hb hb4
        clear hb4
        rw [HY.out]
        (try go_wp2_with fail)
        refine hko hK ⟨hI.st.1.thirteen.1, hI.st.1.thirteen.2.1, hI.st.1.thirteen.2.2.1, hI.st.1.thirteen.2.2.2.1, hI.st.1.thirteen.2.2.2.2.1, (Blk.l2 BR)⟩ fun hHeld => ?_
        clear hK K
        refine rdk 15 43 fun K hK => ?_
        go_simp
        have B8lt := B8.lt
        refine (HBE.out _ _ _ hI R6).mono ?_
        rintro e w15 ⟨f, y, cd, rfl, hI2, hga, hp, hbf⟩
        replace BO := hI.tab.gr BO hga.gr (by decide) (by decide)
        replace BR := hI.tab.gr BR hga.gr (by decide) (by decide)
        replace B8 := hI.tab.gr B8 hga.gr (by decide) (by decide)
        replace aZ := hga.aw _ B8lt aZ
        have hbz := hb.size
        replace hb := hb.trans (hga.gr.below (base := w.heap.size) hgR hgC hb.size)
        clear hI hga R6 hbz
        rename TabI t w15 => hI
        have HP := Lib.hid hp
        have HBF := Lib.hid hbf
        clear hp hbf
        clear B8lt
        (try go_wp2_with fail)
        refine hko hK ⟨hI.st.1.thirteen.1, hI.st.1.thirteen.2.1, hI.st.1.thirteen.2.2.1, hI.st.1.thirteen.2.2.2.1, hI.st.1.thirteen.2.2.2.2.1, (Blk.l2 BR)⟩ fun hHeld => ?_
        clear hK K
        refine tk 16 27 ?_
        refine tk 17 44 ?_
        refine tk 18 45 ?_
        refine tk 20 12 ?_
        refine rdn 21 fun K hK => ?_
        clear hHeld
        obtain ⟨z0, z1, zf, zl⟩ := B8.two
        have SI := (hI.away (o := 0) (u := .int .i64 y) aZ B8).away (o := 1) (u := .int .i64 cd) (aZ.away B8) (B8.set (i := 0) (.int .i64 y))
        have SBO := (BO.other (g := g8) (o := 0) (v := .int .i64 y) (by omega)).other (g := g8) (o := 1) (v := .int .i64 cd) (by omega)
        have SBR := (BR.other (g := g8) (o := 0) (v := .int .i64 y) (by omega)).other (g := g8) (o := 1) (v := .int .i64 cd) (by omega)
        have SB8 := B8.set2 (.int .i64 y) (.int .i64 cd)
        have Shb := belowFar2 hb (B := g8) (by omega) (.int .i64 y) (.int .i64 cd)
        go_simp
        (try go_wp2_with fail)
        refine hko hK ⟨SI.st.1.thirteen.1, SI.st.1.thirteen.2.1, SI.st.1.thirteen.2.2.1, SI.st.1.thirteen.2.2.2.1, SI.st.1.thirteen.2.2.2.2.1, (Blk.l2 SBR)⟩ fun hHeld => ?_
        clear hK K
        clear z0 z1 zf zl hb B8 hI aZ BO BR
        generalize ((w15.setCell ⟨g8, 0, none⟩ (.int .i64 y)).setCell ⟨g8, 1, none⟩ (.int .i64 cd)) = wS at *
        have hI := SI
        have B8 := SB8
        have hb := Shb
        have BO := SBO
        have BR := SBR
        clear SI SB8 Shb SBO SBR
        refine wpAnyH_done (by kernel_rfl) ?_ _
        clear hHeld
        (try go_wp2_with fail)
        go_meet
        case rel => exact ⟨f, g8, y, cd, rfl, rfl, hI, B8, HP, HBF, BO, BR, hb, hz8⟩
    case rest =>
      rename World => wX
      clear hI BR hb BO
      obtain ⟨f, g8, y, cd, rfl, rfl, hI, B8, HP, HBF, BO, BR, hb, hz8⟩ := hcut
      clear BR
      go_wp2_with fail
      replace hI := hI.drew
      replace BO := BO.drew
      replace B8 := B8.drew
      replace hb := hb.drew
      refine wp_region_held_drew (S := fun w' => w'.cell? ⟨t.g, 0, none⟩ = some (.int .i64 t.p) ∧ w'.cell? ⟨t.g, 1, none⟩ = some (.int .i64 t.c) ∧ w'.cell? ⟨t.g, 2, none⟩ = some (.int .i64 t.h) ∧ w'.cell? ⟨t.g, 3, none⟩ = some (.int .i64 (t.S : Int)) ∧ w'.cell? ⟨t.g, 4, none⟩ = some (.pointer (some ⟨t.gw, 0, none⟩)) ∧ w'.cell? ⟨g8, 0, none⟩ = some (.int .i64 y) ∧ w'.cell? ⟨g8, 1, none⟩ = some (.int .i64 cd)) (by kernel_rfl) ⟨hI.st.1.thirteen.1, hI.st.1.thirteen.2.1, hI.st.1.thirteen.2.2.1, hI.st.1.thirteen.2.2.2.1, hI.st.1.thirteen.2.2.2.2.1, B8.two.1, B8.two.2.1⟩ (fun hHeld => ?_)
      clear hHeld
      have hz_v3 : wX.drew.heap.size = wX.heap.size := rfl
      generalize wX.drew = v3 at *
      have hHeld : v3.cell? ⟨t.g, 0, none⟩ = some (.int .i64 t.p) ∧ v3.cell? ⟨t.g, 1, none⟩ = some (.int .i64 t.c) ∧ v3.cell? ⟨t.g, 2, none⟩ = some (.int .i64 t.h) ∧ v3.cell? ⟨t.g, 3, none⟩ = some (.int .i64 (t.S : Int)) ∧ v3.cell? ⟨t.g, 4, none⟩ = some (.pointer (some ⟨t.gw, 0, none⟩)) ∧ v3.cell? ⟨g8, 0, none⟩ = some (.int .i64 y) ∧ v3.cell? ⟨g8, 1, none⟩ = some (.int .i64 cd) := ⟨hI.st.1.thirteen.1, hI.st.1.thirteen.2.1, hI.st.1.thirteen.2.2.1, hI.st.1.thirteen.2.2.2.1, hI.st.1.thirteen.2.2.2.2.1, B8.two.1, B8.two.2.1⟩
      refine tk 0 46 ?_
      refine tk 1 47 ?_
      refine tk 2 48 ?_
      refine tk 3 49 ?_
      refine tk 4 50 ?_
      refine tk 5 51 ?_
      refine tk 6 52 ?_
      refine tk 7 53 ?_
      refine tk 9 55 ?_
      refine tk 10 56 ?_
      refine tk 11 57 ?_
      refine tk 12 58 ?_
      refine tk 13 59 ?_
      refine rdk 8 54 fun K hK => ?_
      go_simp
      refine (numOf_any t.p t.c t.h (t.S : Int) t.gw a1 n1 c1 xs _ HXX.out.1 hn1 (HRO1.out.below hb) hI.st.2.1).mono ?_
      rintro e wd ⟨rfl, hb4⟩
      replace hI := hI.below hb4
      replace BO := BO.below hb4
      replace B8 := B8.below hb4
      replace hb := chain hb hb4
      clear hb4
      rw [HX.out]
      (try go_wp2_with fail)
      refine hko hK ⟨hI.st.1.thirteen.1, hI.st.1.thirteen.2.1, hI.st.1.thirteen.2.2.1, hI.st.1.thirteen.2.2.2.1, hI.st.1.thirteen.2.2.2.2.1, (Blk.l2 B8)⟩ fun hHeld => ?_
      clear hK K
      refine rdk 14 60 fun K hK => ?_
      go_simp
      refine (numOf_any t.p t.c t.h (t.S : Int) t.gw a2 n2 c2 ys _ HYY.out.1 hn2 (HRO2.out.below hb) hI.st.2.1).mono ?_
      rintro e we ⟨rfl, hb5⟩
      replace hI := hI.below hb5
      replace BO := BO.below hb5
      replace B8 := B8.below hb5
      replace hb := chain hb hb5
      clear hb5
      rw [HY.out]
      (try go_wp2_with fail)
      refine hko hK ⟨hI.st.1.thirteen.1, hI.st.1.thirteen.2.1, hI.st.1.thirteen.2.2.1, hI.st.1.thirteen.2.2.2.1, hI.st.1.thirteen.2.2.2.2.1, (Blk.l2 B8)⟩ fun hHeld => ?_
      clear hK K
      refine rdk 15 61 fun K hK => ?_
      go_simp
      refine (win_any t hS few hK1 (pwT xs + pwT ys + 1) xs ys X Y _ hI HXX.out HYY.out HX.out HY.out (by omega)).mono ?_
      rintro e wf ⟨yw, cw, rfl, hp, hI2, hga⟩
      replace BO := hI.tab.gr BO hga.gr (by decide) (by decide)
      replace B8 := hI.tab.gr B8 hga.gr (by decide) (by decide)
      replace hb := hb.trans (hga.gr.below (base := w.heap.size) hgR hgC hb.size)
      clear hI hga
      rename TabI t wf => hI
      have hpw := hp.in HWI.out
      have hpb := HP.out.in HBI.out
      have htp := tp_in hS
      have HPW := Lib.hid hp
      clear hp
      (try go_wp2_with fail)
      refine hko hK ⟨hI.st.1.thirteen.1, hI.st.1.thirteen.2.1, hI.st.1.thirteen.2.2.1, hI.st.1.thirteen.2.2.2.1, hI.st.1.thirteen.2.2.2.2.1, (Blk.l2 B8)⟩ fun hHeld => ?_
      clear hK K
      refine rdk 16 62 fun K hK => ?_
      go_simp
      refine (minus_any y cd yw cw _ (by omega)).mono ?_
      rintro e wg ⟨rfl, hb6⟩
      replace hI := hI.below hb6
      replace BO := BO.below hb6
      replace B8 := B8.below hb6
      replace hb := chain hb hb6
      clear hb6
      obtain ⟨yy, hyy⟩ : ∃ v, y - yw = v := ⟨_, rfl⟩
      obtain ⟨cc, hcc⟩ : ∃ v, (if cd ≠ 0 then cd else cw) = v := ⟨_, rfl⟩
      have hyb : -1000000000000000000 ≤ yy ∧ yy ≤ 1000000000000000000 := by omega
      have HLK := Lib.hid (lk_ex HP.out HPW.out)
      rw [hyy, hcc] at HLK
      rw [hyy, hcc]
      clear hyy hcc hpw hpb htp
      (try go_wp2_with fail)
      refine hko hK ⟨hI.st.1.thirteen.1, hI.st.1.thirteen.2.1, hI.st.1.thirteen.2.2.1, hI.st.1.thirteen.2.2.2.1, hI.st.1.thirteen.2.2.2.2.1, (Blk.l2 B8)⟩ fun hHeld => ?_
      clear hK K
      refine rdk 17 63 fun K hK => ?_
      go_simp
      refine (exact_any t hS yy cc hyb _ hI).mono ?_
      rintro e wh ⟨rfl, hb7⟩
      replace hI := hI.below hb7
      replace BO := BO.below hb7
      replace B8 := B8.below hb7
      replace hb := chain hb hb7
      clear hb7
      rw [show exV t.S yy cc = (r1, r2, r3) from HLK.out.trans HR.out]
      dsimp only [xoV]
      (try go_wp2_with fail)
      refine hko hK ⟨hI.st.1.thirteen.1, hI.st.1.thirteen.2.1, hI.st.1.thirteen.2.2.1, hI.st.1.thirteen.2.2.2.1, hI.st.1.thirteen.2.2.2.2.1, (Blk.l2 B8)⟩ fun hHeld => ?_
      clear hK K
      refine tk 18 64 ?_
      refine tk 19 65 ?_
      refine rdn 20 fun K hK => ?_
      have u0 := BO.two.1
      have u1 := BO.two.2.1
      have uf := BO.two.2.2.1
      have ul := BO.two.2.2.2
      have BT2 : Blk _ t.g t.cells 71 := (hI.st.1.far2 (B := w.heap.size + 1 + 1) (hI.st.1.ne BO (by decide)) (.int .i64 r1) (.int .i64 r2))
      have B82 := (B8.far2 (B := w.heap.size + 1 + 1) (B8.ne BO (by decide)) (.int .i64 r1) (.int .i64 r2))
      go_simp
      (try go_wp2_with fail)
      refine hko hK ⟨BT2.thirteen.1, BT2.thirteen.2.1, BT2.thirteen.2.2.1, BT2.thirteen.2.2.2.1, BT2.thirteen.2.2.2.2.1, (Blk.l2 B82)⟩ fun hHeld => ?_
      clear hK K
      refine tk 21 9 ?_
      refine wpAnyH_done (by kernel_rfl) ?_ _
      clear hHeld
      go_wp2_with fail
      have BRn := BO.set2 (.int .i64 r1) (.int .i64 r2)
      obtain ⟨u0, u1, uf, ul⟩ := BRn.two
      refine bodyPost_ret (v := .tuple #[.agg #[.int .i64 r1, .int .i64 r2], .int .i64 r3]) (by simp [results, Tryz.results10, go_sem, u0, u1]) rfl ?_
      exact ⟨rfl, belowFar2 hb (by omega) _ _⟩
  · rw [raceLuckV, if_neg k0]
    obtain ⟨K, hK⟩ : ∃ K, tnE p c h s xs ys ra rb = K := ⟨_, rfl⟩
    rw [hK] at HC k0 ⊢
    have f0 : (K != 0) = true := by rw [bne_iff_ne]; exact k0
    clear hK
    dsimp only [xoV]
    go_enter Tryz.func10, Tryz.ntmps10
    go_wp2_with fail
    refine (HC.out).mono ?_
    rintro e w1 ⟨rfl, hb1⟩
    have hz1 := hb1.size
    replace BO := BO.below hb1
    replace hb := chain hb hb1
    clear x0 x1 x2 x3 xf xl y0 y1 yf yl z0 z1 zf zl hb1 HC
    obtain ⟨z0, z1, zf, zl⟩ := BO.two
    go_wp2_with fail
    have BRn := BO.set2 (.int .i64 0) (.int .i64 0)
    obtain ⟨u0, u1, uf, ul⟩ := BRn.two
    refine bodyPost_ret (v := .tuple #[.agg #[.int .i64 0, .int .i64 0], .int .i64 K]) (by simp [results, Tryz.results10, go_sem, u0, u1]) rfl ?_
    exact ⟨rfl, belowFar2 hb (by omega) _ _⟩
end Go.Proofs.YtnlclmlnpkncoaaGreat
