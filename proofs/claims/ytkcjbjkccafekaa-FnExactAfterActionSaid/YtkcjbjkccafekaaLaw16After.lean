/- The exact law of chapter 16 on what an action leads to holds: for every input the law returns true and its arguments read behind the call as they read before. No conditions. -/
import Derived.Test.Ytkcjbjkccafekaa16i
import Derived.Deep.Cut
import Derived.Test.YtkcjbjkccafekaaCbL
import Derived.Test.YtkcjbjkccafekaaL01b
import Derived.Test.YtkcjbjkccafekaaVarB
import Derived.Test.YtkcjbjkccafekaaRows
import Derived.ChangeOld
namespace Go.Proofs.Ytkcjbjkccafekaa
open Go.ChangeMaps (open_string shut_string)
open Go.ChangeShapes Go.WideShapes Go.ChangeAt Go.RowKit
set_option linter.unusedVariables false
set_option linter.unusedSimpArgs false
set_option maxRecDepth 4000

set_option maxRecDepth 8000 in
set_option maxHeartbeats 2000000 in
theorem fnExactAfterAction_walk (m : Int) (be ja : Bool) (v o a : Int) (w : World) :
    Calls Try.prog 10 #[.agg #[.int .i64 m, .bool be, .bool ja], .agg #[.int .i64 v, .int .i64 o], .int .i64 a] w fun e w' => e = .returned (.bool true) ∧ Below w.heap.size w w' := by
    obtain ⟨BR, BC, hb, hz⟩ := two_new w #[.int .i64 m, .bool be, .bool ja] #[.int .i64 v, .int .i64 o] 41 45
    clear hz
    have hsp := fun W => specAfterAction_any m v o a be ja W
    have him := fun W => afterAction_any m v o a be ja W
    obtain ⟨⟨r1, r2, r3, r4⟩, hT⟩ : ∃ T, aaV m be v o a = T := ⟨_, rfl⟩
    rw [hT] at hsp him
    dsimp only at hsp him
    have HSP := Lib.hid hsp
    have HIM := Lib.hid him
    clear hsp him hT
    have hl0 := BC.lt
    obtain ⟨x0, x1, x2, xf, xl⟩ := BR.t3
    obtain ⟨u0, u1, uf, ul⟩ := BC.two
    go_enter Try.func10, Try.ntmps10
    go_upto_region 1 with (fail)
    clear x0 x1 x2 xf xl u0 u1 uf ul
    generalize ((w.alloc (.cells #[.int .i64 m, .bool be, .bool ja] 41)).alloc (.cells #[.int .i64 v, .int .i64 o] 45)) = v0 at *
    go_cut [7, 8, 9] from 13 (fun q7 q8 q9 wr => ∃ g, q7 = .pointer (some ⟨g, 0, none⟩) ∧ q8 = .int .i64 r3 ∧ q9 = .int .i64 r4 ∧ Blk wr g #[.int .i64 r1, .int .i64 r2] 27 ∧ Blk wr w.heap.size #[.int .i64 m, .bool be, .bool ja] 41 ∧ Blk wr (w.heap.size + 1) #[.int .i64 v, .int .i64 o] 45 ∧ Below w.heap.size w wr)
    case first =>
      refine wp_region_held_drew (S := fun w' => w'.cell? ⟨w.heap.size, 0, none⟩ = some (.int .i64 m) ∧ w'.cell? ⟨w.heap.size, 1, none⟩ = some (.bool be) ∧ w'.cell? ⟨w.heap.size, 2, none⟩ = some (.bool ja) ∧ w'.cell? ⟨(w.heap.size + 1), 0, none⟩ = some (.int .i64 v) ∧ w'.cell? ⟨(w.heap.size + 1), 1, none⟩ = some (.int .i64 o)) (by kernel_rfl) ⟨BR.drew.t3.1, BR.drew.t3.2.1, BR.drew.t3.2.2.1, BC.drew.two.1, BC.drew.two.2.1⟩ (fun hHeld => ?_)
      clear hHeld
      replace BR := BR.drew
      replace BC := BC.drew
      replace hb := hb.drew
      generalize v0.drew = vd at *
      have hHeld : vd.cell? ⟨w.heap.size, 0, none⟩ = some (.int .i64 m) ∧ vd.cell? ⟨w.heap.size, 1, none⟩ = some (.bool be) ∧ vd.cell? ⟨w.heap.size, 2, none⟩ = some (.bool ja) ∧ vd.cell? ⟨(w.heap.size + 1), 0, none⟩ = some (.int .i64 v) ∧ vd.cell? ⟨(w.heap.size + 1), 1, none⟩ = some (.int .i64 o) := ⟨BR.t3.1, BR.t3.2.1, BR.t3.2.2.1, BC.two.1, BC.two.2.1⟩
      refine tk 0 14 ?_
      refine tk 2 16 ?_
      refine tk 4 18 ?_
      refine wpAnyH_ready (rs := [1, 10]) (by kernel_rfl) (by simp) ?_
      refine AllReadyH.cons (o := { dst := some 15, op := _, type := _, pos := _, after := _, guard := _ }) rfl (fun K hK => ?_) (AllReadyH.cons (o := { dst := some 7, op := _, type := _, pos := _, after := _, guard := _ }) rfl (fun K hK => ?_) AllReadyH.nil)
      · go_simp
        refine (toCubeRules_any _ _ _ _).mono ?_
        rintro e w1 ⟨rfl, hb1⟩
        replace BR := BR.below hb1
        replace BC := BC.below hb1
        replace hb := chain hb hb1
        clear hb1
        (try go_wp2_with fail)
        refine hko hK ⟨BR.t3.1, BR.t3.2.1, BR.t3.2.2.1, (Blk.l2 BC)⟩ fun hHeld => ?_
        clear hK K
        refine wpAnyH_ready (rs := [3, 10]) (by kernel_rfl) (by simp) ?_
        refine AllReadyH.cons (o := { dst := some 17, op := _, type := _, pos := _, after := _, guard := _ }) rfl (fun K hK => ?_) (AllReadyH.cons (o := { dst := some 7, op := _, type := _, pos := _, after := _, guard := _ }) rfl (fun K hK => ?_) AllReadyH.nil)
        · go_simp
          refine (toCube_any _ _ _).mono ?_
          rintro e w3 ⟨rfl, hb3⟩
          replace BR := BR.below hb3
          replace BC := BC.below hb3
          replace hb := chain hb hb3
          clear hb3
          (try go_wp2_with fail)
          refine hko hK ⟨BR.t3.1, BR.t3.2.1, BR.t3.2.2.1, (Blk.l2 BC)⟩ fun hHeld => ?_
          clear hK K
          refine wpAnyH_ready (rs := [5, 10]) (by kernel_rfl) (by simp) ?_
          refine AllReadyH.cons (o := { dst := some 19, op := _, type := _, pos := _, after := _, guard := _ }) rfl (fun K hK => ?_) (AllReadyH.cons (o := { dst := some 7, op := _, type := _, pos := _, after := _, guard := _ }) rfl (fun K hK => ?_) AllReadyH.nil)
          · go_simp
            refine (HSP.out _).mono ?_
            rintro e w5 ⟨rfl, hb5⟩
            replace BR := BR.below hb5
            replace BC := BC.below hb5
            replace hb := chain hb hb5
            clear hb5
            (try go_wp2_with fail)
            refine hko hK ⟨BR.t3.1, BR.t3.2.1, BR.t3.2.2.1, (Blk.l2 BC)⟩ fun hHeld => ?_
            clear hK K
            refine tk 6 13 ?_
            refine tk 7 20 ?_
            refine tk 8 21 ?_
            refine tk 9 22 ?_
            refine rdk 10 7 fun K hK => ?_
            go_simp
            (try go_wp2_with fail)
            refine hko hK ⟨(BR.alloc (.cells #[.int .i64 0, .int .i64 0] 27)).t3.1, (BR.alloc (.cells #[.int .i64 0, .int .i64 0] 27)).t3.2.1, (BR.alloc (.cells #[.int .i64 0, .int .i64 0] 27)).t3.2.2.1, (Blk.l2 (BC.alloc (.cells #[.int .i64 0, .int .i64 0] 27)))⟩ fun hHeld => ?_
            clear hK K
            have B8 := Blk.new w5 #[.int .i64 0, .int .i64 0] 27
            have h8 : w.heap.size ≤ w5.heap.size := hb.size
            have l_BR := BR.lt
            have l_BC := BC.lt
            replace BR := BR.alloc (.cells #[.int .i64 0, .int .i64 0] 27)
            replace BC := BC.alloc (.cells #[.int .i64 0, .int .i64 0] 27)
            replace hb := chain_alloc hb (.cells #[.int .i64 0, .int .i64 0] 27)
            generalize w5.alloc (.cells #[.int .i64 0, .int .i64 0] 27) = wA at *
            generalize w5.heap.size = g8 at *
            refine rdn 11 fun K hK => ?_
            clear hHeld
            obtain ⟨z0, z1, zf, zl⟩ := B8.two
            have SBR := BR.off2 (B := g8) (by omega) (.int .i64 r1) (.int .i64 r2)
            have SBC := BC.off2 (B := g8) (by omega) (.int .i64 r1) (.int .i64 r2)
            have Shb := belowOff2 hb (B := g8) (by omega) (.int .i64 r1) (.int .i64 r2)
            have SB8 := B8.sto2 (.int .i64 r1) (.int .i64 r2)
            go_simp
            (try go_wp2_with fail)
            refine hko hK ⟨SBR.t3.1, SBR.t3.2.1, SBR.t3.2.2.1, (Blk.l2 SBC)⟩ fun hHeld => ?_
            clear hK K
            clear z0 z1 zf zl hb B8 BR BC
            generalize ((wA.setCell ⟨g8, 0, none⟩ (.int .i64 r1)).setCell ⟨g8, 1, none⟩ (.int .i64 r2)) = wS at *
            have BR := SBR
            have BC := SBC
            have hb := Shb
            have B8 := SB8
            clear SBR SBC Shb SB8
            refine tk 12 8 ?_
            refine tk 13 9 ?_
            refine wpAnyH_done (by kernel_rfl) ?_ _
            clear hHeld
            (try go_wp2_with fail)
            go_meet
            case rel => exact ⟨g8, rfl, rfl, rfl, B8, BR, BC, hb⟩
          · go_simp
            (try go_wp2_with fail)
            refine hko hK ⟨(BR.alloc (.cells #[.int .i64 0, .int .i64 0] 27)).t3.1, (BR.alloc (.cells #[.int .i64 0, .int .i64 0] 27)).t3.2.1, (BR.alloc (.cells #[.int .i64 0, .int .i64 0] 27)).t3.2.2.1, (Blk.l2 (BC.alloc (.cells #[.int .i64 0, .int .i64 0] 27)))⟩ fun hHeld => ?_
            clear hK K
            have B8 := Blk.new w3 #[.int .i64 0, .int .i64 0] 27
            have h8 : w.heap.size ≤ w3.heap.size := hb.size
            have l_BR := BR.lt
            have l_BC := BC.lt
            replace BR := BR.alloc (.cells #[.int .i64 0, .int .i64 0] 27)
            replace BC := BC.alloc (.cells #[.int .i64 0, .int .i64 0] 27)
            replace hb := chain_alloc hb (.cells #[.int .i64 0, .int .i64 0] 27)
            generalize w3.alloc (.cells #[.int .i64 0, .int .i64 0] 27) = wA at *
            generalize w3.heap.size = g8 at *
            refine rdk 5 19 fun K hK => ?_
            go_simp
            refine (HSP.out _).mono ?_
            rintro e w5 ⟨rfl, hb5⟩
            replace BR := BR.below hb5
            replace BC := BC.below hb5
            replace B8 := B8.below hb5
            replace hb := chain hb hb5
            clear hb5
            (try go_wp2_with fail)
            refine hko hK ⟨BR.t3.1, BR.t3.2.1, BR.t3.2.2.1, (Blk.l2 BC)⟩ fun hHeld => ?_
            clear hK K
            refine tk 6 13 ?_
            refine tk 7 20 ?_
            refine tk 8 21 ?_
            refine tk 9 22 ?_
            refine rdn 11 fun K hK => ?_
            clear hHeld
            obtain ⟨z0, z1, zf, zl⟩ := B8.two
            have SBR := BR.off2 (B := g8) (by omega) (.int .i64 r1) (.int .i64 r2)
            have SBC := BC.off2 (B := g8) (by omega) (.int .i64 r1) (.int .i64 r2)
            have Shb := belowOff2 hb (B := g8) (by omega) (.int .i64 r1) (.int .i64 r2)
            have SB8 := B8.sto2 (.int .i64 r1) (.int .i64 r2)
            go_simp
            (try go_wp2_with fail)
            refine hko hK ⟨SBR.t3.1, SBR.t3.2.1, SBR.t3.2.2.1, (Blk.l2 SBC)⟩ fun hHeld => ?_
            clear hK K
            clear z0 z1 zf zl hb B8 BR BC
            generalize ((w5.setCell ⟨g8, 0, none⟩ (.int .i64 r1)).setCell ⟨g8, 1, none⟩ (.int .i64 r2)) = wS at *
            have BR := SBR
            have BC := SBC
            have hb := Shb
            have B8 := SB8
            clear SBR SBC Shb SB8
            refine tk 12 8 ?_
            refine tk 13 9 ?_
            refine wpAnyH_done (by kernel_rfl) ?_ _
            clear hHeld
            (try go_wp2_with fail)
            go_meet
            case rel => exact ⟨g8, rfl, rfl, rfl, B8, BR, BC, hb⟩
        · go_simp
          (try go_wp2_with fail)
          refine hko hK ⟨(BR.alloc (.cells #[.int .i64 0, .int .i64 0] 27)).t3.1, (BR.alloc (.cells #[.int .i64 0, .int .i64 0] 27)).t3.2.1, (BR.alloc (.cells #[.int .i64 0, .int .i64 0] 27)).t3.2.2.1, (Blk.l2 (BC.alloc (.cells #[.int .i64 0, .int .i64 0] 27)))⟩ fun hHeld => ?_
          clear hK K
          have B8 := Blk.new w1 #[.int .i64 0, .int .i64 0] 27
          have h8 : w.heap.size ≤ w1.heap.size := hb.size
          have l_BR := BR.lt
          have l_BC := BC.lt
          replace BR := BR.alloc (.cells #[.int .i64 0, .int .i64 0] 27)
          replace BC := BC.alloc (.cells #[.int .i64 0, .int .i64 0] 27)
          replace hb := chain_alloc hb (.cells #[.int .i64 0, .int .i64 0] 27)
          generalize w1.alloc (.cells #[.int .i64 0, .int .i64 0] 27) = wA at *
          generalize w1.heap.size = g8 at *
          refine rdk 3 17 fun K hK => ?_
          go_simp
          refine (toCube_any _ _ _).mono ?_
          rintro e w3 ⟨rfl, hb3⟩
          replace BR := BR.below hb3
          replace BC := BC.below hb3
          replace B8 := B8.below hb3
          replace hb := chain hb hb3
          clear hb3
          (try go_wp2_with fail)
          refine hko hK ⟨BR.t3.1, BR.t3.2.1, BR.t3.2.2.1, (Blk.l2 BC)⟩ fun hHeld => ?_
          clear hK K
          refine rdk 5 19 fun K hK => ?_
          go_simp
          refine (HSP.out _).mono ?_
          rintro e w5 ⟨rfl, hb5⟩
          replace BR := BR.below hb5
          replace BC := BC.below hb5
          replace B8 := B8.below hb5
          replace hb := chain hb hb5
          clear hb5
          (try go_wp2_with fail)
          refine hko hK ⟨BR.t3.1, BR.t3.2.1, BR.t3.2.2.1, (Blk.l2 BC)⟩ fun hHeld => ?_
          clear hK K
          refine tk 6 13 ?_
          refine tk 7 20 ?_
          refine tk 8 21 ?_
          refine tk 9 22 ?_
          refine rdn 11 fun K hK => ?_
          clear hHeld
          obtain ⟨z0, z1, zf, zl⟩ := B8.two
          have SBR := BR.off2 (B := g8) (by omega) (.int .i64 r1) (.int .i64 r2)
          have SBC := BC.off2 (B := g8) (by omega) (.int .i64 r1) (.int .i64 r2)
          have Shb := belowOff2 hb (B := g8) (by omega) (.int .i64 r1) (.int .i64 r2)
          have SB8 := B8.sto2 (.int .i64 r1) (.int .i64 r2)
          go_simp
          (try go_wp2_with fail)
          refine hko hK ⟨SBR.t3.1, SBR.t3.2.1, SBR.t3.2.2.1, (Blk.l2 SBC)⟩ fun hHeld => ?_
          clear hK K
          clear z0 z1 zf zl hb B8 BR BC
          generalize ((w5.setCell ⟨g8, 0, none⟩ (.int .i64 r1)).setCell ⟨g8, 1, none⟩ (.int .i64 r2)) = wS at *
          have BR := SBR
          have BC := SBC
          have hb := Shb
          have B8 := SB8
          clear SBR SBC Shb SB8
          refine tk 12 8 ?_
          refine tk 13 9 ?_
          refine wpAnyH_done (by kernel_rfl) ?_ _
          clear hHeld
          (try go_wp2_with fail)
          go_meet
          case rel => exact ⟨g8, rfl, rfl, rfl, B8, BR, BC, hb⟩
      · go_simp
        (try go_wp2_with fail)
        refine hko hK ⟨(BR.alloc (.cells #[.int .i64 0, .int .i64 0] 27)).t3.1, (BR.alloc (.cells #[.int .i64 0, .int .i64 0] 27)).t3.2.1, (BR.alloc (.cells #[.int .i64 0, .int .i64 0] 27)).t3.2.2.1, (Blk.l2 (BC.alloc (.cells #[.int .i64 0, .int .i64 0] 27)))⟩ fun hHeld => ?_
        clear hK K
        have B8 := Blk.new vd #[.int .i64 0, .int .i64 0] 27
        have h8 : w.heap.size ≤ vd.heap.size := hb.size
        have l_BR := BR.lt
        have l_BC := BC.lt
        replace BR := BR.alloc (.cells #[.int .i64 0, .int .i64 0] 27)
        replace BC := BC.alloc (.cells #[.int .i64 0, .int .i64 0] 27)
        replace hb := chain_alloc hb (.cells #[.int .i64 0, .int .i64 0] 27)
        generalize vd.alloc (.cells #[.int .i64 0, .int .i64 0] 27) = wA at *
        generalize vd.heap.size = g8 at *
        refine rdk 1 15 fun K hK => ?_
        go_simp
        refine (toCubeRules_any _ _ _ _).mono ?_
        rintro e w1 ⟨rfl, hb1⟩
        replace BR := BR.below hb1
        replace BC := BC.below hb1
        replace B8 := B8.below hb1
        replace hb := chain hb hb1
        clear hb1
        (try go_wp2_with fail)
        refine hko hK ⟨BR.t3.1, BR.t3.2.1, BR.t3.2.2.1, (Blk.l2 BC)⟩ fun hHeld => ?_
        clear hK K
        refine rdk 3 17 fun K hK => ?_
        go_simp
        refine (toCube_any _ _ _).mono ?_
        rintro e w3 ⟨rfl, hb3⟩
        replace BR := BR.below hb3
        replace BC := BC.below hb3
        replace B8 := B8.below hb3
        replace hb := chain hb hb3
        clear hb3
        (try go_wp2_with fail)
        refine hko hK ⟨BR.t3.1, BR.t3.2.1, BR.t3.2.2.1, (Blk.l2 BC)⟩ fun hHeld => ?_
        clear hK K
        refine rdk 5 19 fun K hK => ?_
        go_simp
        refine (HSP.out _).mono ?_
        rintro e w5 ⟨rfl, hb5⟩
        replace BR := BR.below hb5
        replace BC := BC.below hb5
        replace B8 := B8.below hb5
        replace hb := chain hb hb5
        clear hb5
        (try go_wp2_with fail)
        refine hko hK ⟨BR.t3.1, BR.t3.2.1, BR.t3.2.2.1, (Blk.l2 BC)⟩ fun hHeld => ?_
        clear hK K
        refine tk 6 13 ?_
        refine tk 7 20 ?_
        refine tk 8 21 ?_
        refine tk 9 22 ?_
        refine rdn 11 fun K hK => ?_
        clear hHeld
        obtain ⟨z0, z1, zf, zl⟩ := B8.two
        have SBR := BR.off2 (B := g8) (by omega) (.int .i64 r1) (.int .i64 r2)
        have SBC := BC.off2 (B := g8) (by omega) (.int .i64 r1) (.int .i64 r2)
        have Shb := belowOff2 hb (B := g8) (by omega) (.int .i64 r1) (.int .i64 r2)
        have SB8 := B8.sto2 (.int .i64 r1) (.int .i64 r2)
        go_simp
        (try go_wp2_with fail)
        refine hko hK ⟨SBR.t3.1, SBR.t3.2.1, SBR.t3.2.2.1, (Blk.l2 SBC)⟩ fun hHeld => ?_
        clear hK K
        clear z0 z1 zf zl hb B8 BR BC
        generalize ((w5.setCell ⟨g8, 0, none⟩ (.int .i64 r1)).setCell ⟨g8, 1, none⟩ (.int .i64 r2)) = wS at *
        have BR := SBR
        have BC := SBC
        have hb := Shb
        have B8 := SB8
        clear SBR SBC Shb SB8
        refine tk 12 8 ?_
        refine tk 13 9 ?_
        refine wpAnyH_done (by kernel_rfl) ?_ _
        clear hHeld
        (try go_wp2_with fail)
        go_meet
        case rel => exact ⟨g8, rfl, rfl, rfl, B8, BR, BC, hb⟩
    case rest =>
      clear BR BC hb hl0
      obtain ⟨g7, rfl, rfl, rfl, B7, BR, BC, hb⟩ := hcut
      go_upto_region 2 with (fail)
      go_cut [10, 11, 12] from 13 (fun q10 q11 q12 wr => ∃ g, q10 = .pointer (some ⟨g, 0, none⟩) ∧ q11 = .int .i64 r3 ∧ q12 = .int .i64 r4 ∧ Blk wr g #[.int .i64 r1, .int .i64 r2] 27 ∧ Blk wr w.heap.size #[.int .i64 m, .bool be, .bool ja] 41 ∧ Blk wr (w.heap.size + 1) #[.int .i64 v, .int .i64 o] 45 ∧ Blk wr g7 #[.int .i64 r1, .int .i64 r2] 27 ∧ Below w.heap.size w wr)
      case first =>
        refine wp_region_held_drew (S := fun w' => w'.cell? ⟨w.heap.size, 0, none⟩ = some (.int .i64 m) ∧ w'.cell? ⟨w.heap.size, 1, none⟩ = some (.bool be) ∧ w'.cell? ⟨w.heap.size, 2, none⟩ = some (.bool ja) ∧ w'.cell? ⟨(w.heap.size + 1), 0, none⟩ = some (.int .i64 v) ∧ w'.cell? ⟨(w.heap.size + 1), 1, none⟩ = some (.int .i64 o)) (by kernel_rfl) ⟨BR.drew.t3.1, BR.drew.t3.2.1, BR.drew.t3.2.2.1, BC.drew.two.1, BC.drew.two.2.1⟩ (fun hHeld => ?_)
        clear hHeld
        replace BR := BR.drew
        replace BC := BC.drew
        replace B7 := B7.drew
        replace hb := hb.drew
        generalize wc.drew = vd at *
        have hHeld : vd.cell? ⟨w.heap.size, 0, none⟩ = some (.int .i64 m) ∧ vd.cell? ⟨w.heap.size, 1, none⟩ = some (.bool be) ∧ vd.cell? ⟨w.heap.size, 2, none⟩ = some (.bool ja) ∧ vd.cell? ⟨(w.heap.size + 1), 0, none⟩ = some (.int .i64 v) ∧ vd.cell? ⟨(w.heap.size + 1), 1, none⟩ = some (.int .i64 o) := ⟨BR.t3.1, BR.t3.2.1, BR.t3.2.2.1, BC.two.1, BC.two.2.1⟩
        refine tk 0 24 ?_
        refine tk 2 26 ?_
        refine tk 4 28 ?_
        refine wpAnyH_ready (rs := [1, 10]) (by kernel_rfl) (by simp) ?_
        refine AllReadyH.cons (o := { dst := some 25, op := _, type := _, pos := _, after := _, guard := _ }) rfl (fun K hK => ?_) (AllReadyH.cons (o := { dst := some 10, op := _, type := _, pos := _, after := _, guard := _ }) rfl (fun K hK => ?_) AllReadyH.nil)
        · go_simp
          refine (toCubeRules_any _ _ _ _).mono ?_
          rintro e w1 ⟨rfl, hb1⟩
          replace BR := BR.below hb1
          replace BC := BC.below hb1
          replace B7 := B7.below hb1
          replace hb := chain hb hb1
          clear hb1
          (try go_wp2_with fail)
          refine hko hK ⟨BR.t3.1, BR.t3.2.1, BR.t3.2.2.1, (Blk.l2 BC)⟩ fun hHeld => ?_
          clear hK K
          refine wpAnyH_ready (rs := [3, 10]) (by kernel_rfl) (by simp) ?_
          refine AllReadyH.cons (o := { dst := some 27, op := _, type := _, pos := _, after := _, guard := _ }) rfl (fun K hK => ?_) (AllReadyH.cons (o := { dst := some 10, op := _, type := _, pos := _, after := _, guard := _ }) rfl (fun K hK => ?_) AllReadyH.nil)
          · go_simp
            refine (toCube_any _ _ _).mono ?_
            rintro e w3 ⟨rfl, hb3⟩
            replace BR := BR.below hb3
            replace BC := BC.below hb3
            replace B7 := B7.below hb3
            replace hb := chain hb hb3
            clear hb3
            (try go_wp2_with fail)
            refine hko hK ⟨BR.t3.1, BR.t3.2.1, BR.t3.2.2.1, (Blk.l2 BC)⟩ fun hHeld => ?_
            clear hK K
            refine wpAnyH_ready (rs := [5, 10]) (by kernel_rfl) (by simp) ?_
            refine AllReadyH.cons (o := { dst := some 29, op := _, type := _, pos := _, after := _, guard := _ }) rfl (fun K hK => ?_) (AllReadyH.cons (o := { dst := some 10, op := _, type := _, pos := _, after := _, guard := _ }) rfl (fun K hK => ?_) AllReadyH.nil)
            · go_simp
              refine (HIM.out _).mono ?_
              rintro e w5 ⟨rfl, hb5⟩
              replace BR := BR.below hb5
              replace BC := BC.below hb5
              replace B7 := B7.below hb5
              replace hb := chain hb hb5
              clear hb5
              (try go_wp2_with fail)
              refine hko hK ⟨BR.t3.1, BR.t3.2.1, BR.t3.2.2.1, (Blk.l2 BC)⟩ fun hHeld => ?_
              clear hK K
              refine tk 6 23 ?_
              refine tk 7 30 ?_
              refine tk 8 31 ?_
              refine tk 9 32 ?_
              refine rdk 10 10 fun K hK => ?_
              go_simp
              (try go_wp2_with fail)
              refine hko hK ⟨(BR.alloc (.cells #[.int .i64 0, .int .i64 0] 27)).t3.1, (BR.alloc (.cells #[.int .i64 0, .int .i64 0] 27)).t3.2.1, (BR.alloc (.cells #[.int .i64 0, .int .i64 0] 27)).t3.2.2.1, (Blk.l2 (BC.alloc (.cells #[.int .i64 0, .int .i64 0] 27)))⟩ fun hHeld => ?_
              clear hK K
              have B8 := Blk.new w5 #[.int .i64 0, .int .i64 0] 27
              have h8 : w.heap.size ≤ w5.heap.size := hb.size
              have l_BR := BR.lt
              have l_BC := BC.lt
              have l_B7 := B7.lt
              replace BR := BR.alloc (.cells #[.int .i64 0, .int .i64 0] 27)
              replace BC := BC.alloc (.cells #[.int .i64 0, .int .i64 0] 27)
              replace B7 := B7.alloc (.cells #[.int .i64 0, .int .i64 0] 27)
              replace hb := chain_alloc hb (.cells #[.int .i64 0, .int .i64 0] 27)
              generalize w5.alloc (.cells #[.int .i64 0, .int .i64 0] 27) = wA at *
              generalize w5.heap.size = g8 at *
              refine rdn 11 fun K hK => ?_
              clear hHeld
              obtain ⟨z0, z1, zf, zl⟩ := B8.two
              have SBR := BR.off2 (B := g8) (by omega) (.int .i64 r1) (.int .i64 r2)
              have SBC := BC.off2 (B := g8) (by omega) (.int .i64 r1) (.int .i64 r2)
              have SB7 := B7.off2 (B := g8) (by omega) (.int .i64 r1) (.int .i64 r2)
              have Shb := belowOff2 hb (B := g8) (by omega) (.int .i64 r1) (.int .i64 r2)
              have SB8 := B8.sto2 (.int .i64 r1) (.int .i64 r2)
              go_simp
              (try go_wp2_with fail)
              refine hko hK ⟨SBR.t3.1, SBR.t3.2.1, SBR.t3.2.2.1, (Blk.l2 SBC)⟩ fun hHeld => ?_
              clear hK K
              clear z0 z1 zf zl hb B8 BR BC B7
              generalize ((wA.setCell ⟨g8, 0, none⟩ (.int .i64 r1)).setCell ⟨g8, 1, none⟩ (.int .i64 r2)) = wS at *
              have BR := SBR
              have BC := SBC
              have B7 := SB7
              have hb := Shb
              have B8 := SB8
              clear SBR SBC SB7 Shb SB8
              refine tk 12 11 ?_
              refine tk 13 12 ?_
              refine wpAnyH_done (by kernel_rfl) ?_ _
              clear hHeld
              (try go_wp2_with fail)
              go_meet
              case rel => exact ⟨g8, rfl, rfl, rfl, B8, BR, BC, B7, hb⟩
            · go_simp
              (try go_wp2_with fail)
              refine hko hK ⟨(BR.alloc (.cells #[.int .i64 0, .int .i64 0] 27)).t3.1, (BR.alloc (.cells #[.int .i64 0, .int .i64 0] 27)).t3.2.1, (BR.alloc (.cells #[.int .i64 0, .int .i64 0] 27)).t3.2.2.1, (Blk.l2 (BC.alloc (.cells #[.int .i64 0, .int .i64 0] 27)))⟩ fun hHeld => ?_
              clear hK K
              have B8 := Blk.new w3 #[.int .i64 0, .int .i64 0] 27
              have h8 : w.heap.size ≤ w3.heap.size := hb.size
              have l_BR := BR.lt
              have l_BC := BC.lt
              have l_B7 := B7.lt
              replace BR := BR.alloc (.cells #[.int .i64 0, .int .i64 0] 27)
              replace BC := BC.alloc (.cells #[.int .i64 0, .int .i64 0] 27)
              replace B7 := B7.alloc (.cells #[.int .i64 0, .int .i64 0] 27)
              replace hb := chain_alloc hb (.cells #[.int .i64 0, .int .i64 0] 27)
              generalize w3.alloc (.cells #[.int .i64 0, .int .i64 0] 27) = wA at *
              generalize w3.heap.size = g8 at *
              refine rdk 5 29 fun K hK => ?_
              go_simp
              refine (HIM.out _).mono ?_
              rintro e w5 ⟨rfl, hb5⟩
              replace BR := BR.below hb5
              replace BC := BC.below hb5
              replace B7 := B7.below hb5
              replace B8 := B8.below hb5
              replace hb := chain hb hb5
              clear hb5
              (try go_wp2_with fail)
              refine hko hK ⟨BR.t3.1, BR.t3.2.1, BR.t3.2.2.1, (Blk.l2 BC)⟩ fun hHeld => ?_
              clear hK K
              refine tk 6 23 ?_
              refine tk 7 30 ?_
              refine tk 8 31 ?_
              refine tk 9 32 ?_
              refine rdn 11 fun K hK => ?_
              clear hHeld
              obtain ⟨z0, z1, zf, zl⟩ := B8.two
              have SBR := BR.off2 (B := g8) (by omega) (.int .i64 r1) (.int .i64 r2)
              have SBC := BC.off2 (B := g8) (by omega) (.int .i64 r1) (.int .i64 r2)
              have SB7 := B7.off2 (B := g8) (by omega) (.int .i64 r1) (.int .i64 r2)
              have Shb := belowOff2 hb (B := g8) (by omega) (.int .i64 r1) (.int .i64 r2)
              have SB8 := B8.sto2 (.int .i64 r1) (.int .i64 r2)
              go_simp
              (try go_wp2_with fail)
              refine hko hK ⟨SBR.t3.1, SBR.t3.2.1, SBR.t3.2.2.1, (Blk.l2 SBC)⟩ fun hHeld => ?_
              clear hK K
              clear z0 z1 zf zl hb B8 BR BC B7
              generalize ((w5.setCell ⟨g8, 0, none⟩ (.int .i64 r1)).setCell ⟨g8, 1, none⟩ (.int .i64 r2)) = wS at *
              have BR := SBR
              have BC := SBC
              have B7 := SB7
              have hb := Shb
              have B8 := SB8
              clear SBR SBC SB7 Shb SB8
              refine tk 12 11 ?_
              refine tk 13 12 ?_
              refine wpAnyH_done (by kernel_rfl) ?_ _
              clear hHeld
              (try go_wp2_with fail)
              go_meet
              case rel => exact ⟨g8, rfl, rfl, rfl, B8, BR, BC, B7, hb⟩
          · go_simp
            (try go_wp2_with fail)
            refine hko hK ⟨(BR.alloc (.cells #[.int .i64 0, .int .i64 0] 27)).t3.1, (BR.alloc (.cells #[.int .i64 0, .int .i64 0] 27)).t3.2.1, (BR.alloc (.cells #[.int .i64 0, .int .i64 0] 27)).t3.2.2.1, (Blk.l2 (BC.alloc (.cells #[.int .i64 0, .int .i64 0] 27)))⟩ fun hHeld => ?_
            clear hK K
            have B8 := Blk.new w1 #[.int .i64 0, .int .i64 0] 27
            have h8 : w.heap.size ≤ w1.heap.size := hb.size
            have l_BR := BR.lt
            have l_BC := BC.lt
            have l_B7 := B7.lt
            replace BR := BR.alloc (.cells #[.int .i64 0, .int .i64 0] 27)
            replace BC := BC.alloc (.cells #[.int .i64 0, .int .i64 0] 27)
            replace B7 := B7.alloc (.cells #[.int .i64 0, .int .i64 0] 27)
            replace hb := chain_alloc hb (.cells #[.int .i64 0, .int .i64 0] 27)
            generalize w1.alloc (.cells #[.int .i64 0, .int .i64 0] 27) = wA at *
            generalize w1.heap.size = g8 at *
            refine rdk 3 27 fun K hK => ?_
            go_simp
            refine (toCube_any _ _ _).mono ?_
            rintro e w3 ⟨rfl, hb3⟩
            replace BR := BR.below hb3
            replace BC := BC.below hb3
            replace B7 := B7.below hb3
            replace B8 := B8.below hb3
            replace hb := chain hb hb3
            clear hb3
            (try go_wp2_with fail)
            refine hko hK ⟨BR.t3.1, BR.t3.2.1, BR.t3.2.2.1, (Blk.l2 BC)⟩ fun hHeld => ?_
            clear hK K
            refine rdk 5 29 fun K hK => ?_
            go_simp
            refine (HIM.out _).mono ?_
            rintro e w5 ⟨rfl, hb5⟩
            replace BR := BR.below hb5
            replace BC := BC.below hb5
            replace B7 := B7.below hb5
            replace B8 := B8.below hb5
            replace hb := chain hb hb5
            clear hb5
            (try go_wp2_with fail)
            refine hko hK ⟨BR.t3.1, BR.t3.2.1, BR.t3.2.2.1, (Blk.l2 BC)⟩ fun hHeld => ?_
            clear hK K
            refine tk 6 23 ?_
            refine tk 7 30 ?_
            refine tk 8 31 ?_
            refine tk 9 32 ?_
            refine rdn 11 fun K hK => ?_
            clear hHeld
            obtain ⟨z0, z1, zf, zl⟩ := B8.two
            have SBR := BR.off2 (B := g8) (by omega) (.int .i64 r1) (.int .i64 r2)
            have SBC := BC.off2 (B := g8) (by omega) (.int .i64 r1) (.int .i64 r2)
            have SB7 := B7.off2 (B := g8) (by omega) (.int .i64 r1) (.int .i64 r2)
            have Shb := belowOff2 hb (B := g8) (by omega) (.int .i64 r1) (.int .i64 r2)
            have SB8 := B8.sto2 (.int .i64 r1) (.int .i64 r2)
            go_simp
            (try go_wp2_with fail)
            refine hko hK ⟨SBR.t3.1, SBR.t3.2.1, SBR.t3.2.2.1, (Blk.l2 SBC)⟩ fun hHeld => ?_
            clear hK K
            clear z0 z1 zf zl hb B8 BR BC B7
            generalize ((w5.setCell ⟨g8, 0, none⟩ (.int .i64 r1)).setCell ⟨g8, 1, none⟩ (.int .i64 r2)) = wS at *
            have BR := SBR
            have BC := SBC
            have B7 := SB7
            have hb := Shb
            have B8 := SB8
            clear SBR SBC SB7 Shb SB8
            refine tk 12 11 ?_
            refine tk 13 12 ?_
            refine wpAnyH_done (by kernel_rfl) ?_ _
            clear hHeld
            (try go_wp2_with fail)
            go_meet
            case rel => exact ⟨g8, rfl, rfl, rfl, B8, BR, BC, B7, hb⟩
        · go_simp
          (try go_wp2_with fail)
          refine hko hK ⟨(BR.alloc (.cells #[.int .i64 0, .int .i64 0] 27)).t3.1, (BR.alloc (.cells #[.int .i64 0, .int .i64 0] 27)).t3.2.1, (BR.alloc (.cells #[.int .i64 0, .int .i64 0] 27)).t3.2.2.1, (Blk.l2 (BC.alloc (.cells #[.int .i64 0, .int .i64 0] 27)))⟩ fun hHeld => ?_
          clear hK K
          have B8 := Blk.new vd #[.int .i64 0, .int .i64 0] 27
          have h8 : w.heap.size ≤ vd.heap.size := hb.size
          have l_BR := BR.lt
          have l_BC := BC.lt
          have l_B7 := B7.lt
          replace BR := BR.alloc (.cells #[.int .i64 0, .int .i64 0] 27)
          replace BC := BC.alloc (.cells #[.int .i64 0, .int .i64 0] 27)
          replace B7 := B7.alloc (.cells #[.int .i64 0, .int .i64 0] 27)
          replace hb := chain_alloc hb (.cells #[.int .i64 0, .int .i64 0] 27)
          generalize vd.alloc (.cells #[.int .i64 0, .int .i64 0] 27) = wA at *
          generalize vd.heap.size = g8 at *
          refine rdk 1 25 fun K hK => ?_
          go_simp
          refine (toCubeRules_any _ _ _ _).mono ?_
          rintro e w1 ⟨rfl, hb1⟩
          replace BR := BR.below hb1
          replace BC := BC.below hb1
          replace B7 := B7.below hb1
          replace B8 := B8.below hb1
          replace hb := chain hb hb1
          clear hb1
          (try go_wp2_with fail)
          refine hko hK ⟨BR.t3.1, BR.t3.2.1, BR.t3.2.2.1, (Blk.l2 BC)⟩ fun hHeld => ?_
          clear hK K
          refine rdk 3 27 fun K hK => ?_
          go_simp
          refine (toCube_any _ _ _).mono ?_
          rintro e w3 ⟨rfl, hb3⟩
          replace BR := BR.below hb3
          replace BC := BC.below hb3
          replace B7 := B7.below hb3
          replace B8 := B8.below hb3
          replace hb := chain hb hb3
          clear hb3
          (try go_wp2_with fail)
          refine hko hK ⟨BR.t3.1, BR.t3.2.1, BR.t3.2.2.1, (Blk.l2 BC)⟩ fun hHeld => ?_
          clear hK K
          refine rdk 5 29 fun K hK => ?_
          go_simp
          refine (HIM.out _).mono ?_
          rintro e w5 ⟨rfl, hb5⟩
          replace BR := BR.below hb5
          replace BC := BC.below hb5
          replace B7 := B7.below hb5
          replace B8 := B8.below hb5
          replace hb := chain hb hb5
          clear hb5
          (try go_wp2_with fail)
          refine hko hK ⟨BR.t3.1, BR.t3.2.1, BR.t3.2.2.1, (Blk.l2 BC)⟩ fun hHeld => ?_
          clear hK K
          refine tk 6 23 ?_
          refine tk 7 30 ?_
          refine tk 8 31 ?_
          refine tk 9 32 ?_
          refine rdn 11 fun K hK => ?_
          clear hHeld
          obtain ⟨z0, z1, zf, zl⟩ := B8.two
          have SBR := BR.off2 (B := g8) (by omega) (.int .i64 r1) (.int .i64 r2)
          have SBC := BC.off2 (B := g8) (by omega) (.int .i64 r1) (.int .i64 r2)
          have SB7 := B7.off2 (B := g8) (by omega) (.int .i64 r1) (.int .i64 r2)
          have Shb := belowOff2 hb (B := g8) (by omega) (.int .i64 r1) (.int .i64 r2)
          have SB8 := B8.sto2 (.int .i64 r1) (.int .i64 r2)
          go_simp
          (try go_wp2_with fail)
          refine hko hK ⟨SBR.t3.1, SBR.t3.2.1, SBR.t3.2.2.1, (Blk.l2 SBC)⟩ fun hHeld => ?_
          clear hK K
          clear z0 z1 zf zl hb B8 BR BC B7
          generalize ((w5.setCell ⟨g8, 0, none⟩ (.int .i64 r1)).setCell ⟨g8, 1, none⟩ (.int .i64 r2)) = wS at *
          have BR := SBR
          have BC := SBC
          have B7 := SB7
          have hb := Shb
          have B8 := SB8
          clear SBR SBC SB7 Shb SB8
          refine tk 12 11 ?_
          refine tk 13 12 ?_
          refine wpAnyH_done (by kernel_rfl) ?_ _
          clear hHeld
          (try go_wp2_with fail)
          go_meet
          case rel => exact ⟨g8, rfl, rfl, rfl, B8, BR, BC, B7, hb⟩
      case rest =>
        clear BR BC hb B7
        obtain ⟨g9, rfl, rfl, rfl, B9, BR, BC, B7, hb⟩ := hcut
        obtain ⟨y0, y1, yf, yl⟩ := B7.two
        obtain ⟨z0, z1, zf, zl⟩ := B9.two
        go_wp2_with (refine (eqCube_same _ _ _).mono ?_; rintro e we ⟨rfl, hbe⟩)
        go_ret
        exact ⟨rfl, chain hb hbe⟩
set_option maxRecDepth 100000 in
theorem fnExactAfterAction_lifted (os : Os) (started : os.Started) (H : Type) (enc : TypeId × Value → H) :
    ReturnsInHanded {} Try.checked os 10 .any (Rows.fnExactAfterActionSpec.pre6 enc Try.prog Try.f10 Rows.fnExactAfterActionRow.domain false) (Rows.fnExactAfterActionSpec.post enc Try.prog Try.f10 false true false false) := by
  refine returnsInHanded_of_change (C := Try.checked) own started (by kernel_rfl) Try.func10
    (ChangeSpec.witness6 (enc := enc) (C := Try.checked) false ⟨#[], #[.agg #[.int .i64 0, .bool false, .bool false], .agg #[.int .i64 0, .int .i64 0], .int .i64 0], []⟩ 8 (by kernel_rfl) (by kernel_rfl) (by kernel_rfl) (by kernel_rfl)) ?_
  intro W base args ds gs before hval0 hW hcnd _
  have hval : ∀ (j : Nat) t v, Try.f10.params[j]? = some t → args[j]? = some v → Value.okWide Try.prog W .any base t v := hval0
  have hW' := hW
  obtain ⟨p, q, hA0, hV, rfl, hfz, hnd⟩ := hW
  have hA : DataW.TrodAll enc Try.prog W 0 (fun _ => true) true Try.f10.params.toList args.toList ds p := hA0
  rw [Try.params10] at hA hval
  obtain ⟨v0, vs0, d0, ds0, p0, q0, hargs, rfl, rfl, h0, r0⟩ := trodAll_cons hA
  obtain ⟨v1, vs1, d1, ds1, p1, q1, rfl, rfl, rfl, h1, r1⟩ := trodAll_cons r0
  obtain ⟨v2, vs2, d2, ds2, p2, q2, rfl, rfl, rfl, h2, r2⟩ := trodAll_cons r1
  obtain ⟨rfl, rfl, rfl⟩ := trodAll_nil r2
  obtain rfl : args = #[v0, v1, v2] := by cases args; simp_all
  obtain ⟨rfl, rfl⟩ := trodVars_none hV
  have k0 := h0
  have lt0 : ∀ x ∈ p0, x.block < W.heap.size := by obtain ⟨m, hm⟩ := k0; exact DataW.trod_lt m _ _ _ hm
  have k1 := h1
  have lt1 : ∀ x ∈ p1, x.block < W.heap.size := by obtain ⟨m, hm⟩ := k1; exact DataW.trod_lt m _ _ _ hm
  have k2 := h2
  have lt2 : ∀ x ∈ p2, x.block < W.heap.size := by obtain ⟨m, hm⟩ := k2; exact DataW.trod_lt m _ _ _ hm
  obtain ⟨x0_0, x1_0, x2_0, y0_0, y1_0, y2_0, m_0, rfl, _, _, hy0_0, hy1_0, hy2_0⟩ := Joins.open_agg3 Try.underlying41 (by kernel_rfl) (show Try.prog.cellsOf 41 = 3 by kernel_rfl) (hval 0 41 v0 rfl rfl) h0
  obtain ⟨a0_0, e0_0, _, wa0_0⟩ := DataW.trod_int Try.underlying2 hy0_0
  obtain ⟨a1_0, e1_0, _⟩ := DataW.trod_bool Try.underlying4 hy1_0
  obtain ⟨a2_0, e2_0, _⟩ := DataW.trod_bool Try.underlying4 hy2_0
  simp at e0_0 e1_0 e2_0
  subst e0_0 e1_0 e2_0
  obtain ⟨x0_1, x1_1, y0_1, y1_1, m_1, rfl, _, _, hy0_1, hy1_1⟩ := Joins.open_agg2 Try.underlying45 (by kernel_rfl) (show Try.prog.cellsOf 45 = 2 by kernel_rfl) (hval 1 45 v1 rfl rfl) h1
  obtain ⟨a0_1, e0_1, _, wa0_1⟩ := DataW.trod_int Try.underlying2 hy0_1
  obtain ⟨a1_1, e1_1, _, wa1_1⟩ := DataW.trod_int Try.underlying2 hy1_1
  simp at e0_1 e1_1
  subst e0_1 e1_1
  obtain ⟨n_2, rfl, _, _, wn_2⟩ := open_int Try.underlying2 (hval 2 2 v2 rfl rfl) h2
  clear hA0 hval0
  refine (fnExactAfterAction_walk a0_0 a1_0 a2_0 a0_1 a1_1 n_2 W).mono fun e W' ⟨he, bel⟩ => ?_
  subst he
  exact ⟨_, rfl, _, _, _, [], _, [], hW', trodAll_mk1 (shut_bool Try.underlying4 _), (trodAll_cons_mk (Below.trod laidOut (by kernel_rfl) (of_decide_eq_true (by kernel_rfl)) k0 bel lt0) (trodAll_cons_mk (Below.trod laidOut (by kernel_rfl) (of_decide_eq_true (by kernel_rfl)) k1 bel lt1) (trodAll_cons_mk (Below.trod laidOut (by kernel_rfl) (of_decide_eq_true (by kernel_rfl)) k2 bel lt2) trodAll_mk0))), rfl, bel.frame _, fun h => by cases h⟩
theorem fnExactAfterAction_holds : Rows.FnExactAfterActionSaid :=
  OpenClaim.holds_of_wide 10 Try.f10 rfl rfl rfl rfl rfl rfl rfl ⟨rfl, rfl, rfl, rfl, rfl⟩ rfl rfl rfl rfl rfl (by kernel_rfl) Try.func10 (by kernel_rfl)
    (of_decide_eq_true (by kernel_rfl)) (by unfold Func.isWrapper; first | (rw [if_pos (by decide +kernel)]; kernel_rfl) | (rw [if_neg (by decide +kernel)]; exact ⟨rfl, rfl⟩))
    (fun os started H enc _ => fnExactAfterAction_lifted os started H enc)
end Go.Proofs.Ytkcjbjkccafekaa
