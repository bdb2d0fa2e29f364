/- Texts of a proof, laid together. -/
import Derived.Test.YtnlclmlnpkncoaaGreatW37
import Derived.Test.YtnlclmlnpkncoaaGreatW09
import Derived.Test.YtnlclmlnpkncoaaGreatW10
import Derived.Test.YtnlclmlnpkncoaaGreatW08
import Derived.Deep.CutRange
namespace Go.Proofs.YtnlclmlnpkncoaaGreat
open Go.ChangeShapes Go.WideShapes Go.ChangeAt Go.RowKit
set_option linter.unusedVariables false
set_option linter.unusedSimpArgs false
set_option maxRecDepth 4000
set_option maxRecDepth 8000 in
set_option maxHeartbeats 1000000 in
theorem l09Mean_any (p c h : Int) (S : Nat) (hS : 1 ≤ S ∧ S ≤ 6) (va : Option Addr) (kv : Nat) (X : List Rl) (hlen : X.length = (rollsTo S).length) (hX : ∀ x ∈ X, xvB S x.1 x.2 = true) (w : World) (HO : OX w va X) :
    Calls Tryz.prog 41 #[.agg #[.int .i64 p, .int .i64 c, .int .i64 h, .int .i64 (S : Int)], .slice va X.length kv] w fun e w' => e = .returned (.tuple #[.agg #[.int .i64 (xoN (mnX S ((rollsTo S).zip X))), .int .i64 (xoD (mnX S ((rollsTo S).zip X)))], .bool (mnX S ((rollsTo S).zip X)).isSome]) ∧ Below w.heap.size w w' := by
  have hn := nn_range hS
  have hro := fun W => l09Rolls_any p c h S W (by omega)
  have hln := rollsTo_length S
  have hss : S * S ≤ 6 * 6 := Nat.mul_le_mul hS.2 hS.2
  obtain ⟨RL, hRL⟩ : ∃ RL, rollsTo S = RL := ⟨_, rfl⟩
  rw [hRL] at hro hlen hln ⊢
  have hR : RL.length ≤ 1048576 := by omega
  rw [hlen]
  obtain ⟨v1, hv1⟩ : ∃ v, xoN (mnX S (RL.zip X)) = v := ⟨_, rfl⟩
  obtain ⟨v2, hv2⟩ : ∃ v, xoD (mnX S (RL.zip X)) = v := ⟨_, rfl⟩
  obtain ⟨vb, hvb⟩ : ∃ v, (mnX S (RL.zip X)).isSome = v := ⟨_, rfl⟩
  rw [hv1, hv2, hvb]
  have HV := Lib.hid (And.intro hv1 (And.intro hv2 hvb))
  have HL := Lib.hid hlen
  have HX := Lib.hid hX
  have HRO := Lib.hid hro
  obtain ⟨BV, BO, hb, hz⟩ := two_new w #[.int .i64 p, .int .i64 c, .int .i64 h, .int .i64 (S : Int)] #[.int .i64 0, .int .i64 0] 25 35
  replace HO := HO.below hb
  clear hv1 hv2 hvb hlen hX hro hRL hln hss
  obtain ⟨v0_, v1_, v2_, v3_, vf, vl⟩ := BV.four
  obtain ⟨o0, o1, of_, ol⟩ := BO.two
  go_enter Tryz.func41, Tryz.ntmps41
  go_wp2_with (go_at_call 40; refine (HRO.out _).mono ?_; clear HRO; rintro e w1 ⟨ra, kr, rfl, HR, hb1⟩; replace HR := ORl.rin HR; replace BV := BV.below hb1; replace BO := BO.below hb1; replace HO := HO.below hb1; replace hb := chain hb hb1; clear hb1; obtain ⟨v0_, v1_, v2_, v3_, vf, vl⟩ := BV.four; obtain ⟨o0, o1, of_, ol⟩ := BO.two)
  clear v0_ v1_ v2_ v3_ vf vl o0 o1 of_ ol
  have hbx : Below w1.heap.size w1 (w1.alloc (.cells #[.int .i64 0, .int .i64 0] 35)) := (Below.refl _ _).alloc (Nat.le_refl _) _
  have BA := Blk.new w1 #[.int .i64 0, .int .i64 0] 35
  have h01 := BO.lt
  have BV1 := Lib.hid BV
  have BO1 := Lib.hid BO
  go_loopg [8] RL.length (fun n i wr => ∃ (j : Nat) (an : Int) (D : Nat), j ≤ RL.length ∧ n = RL.length - j ∧ i = .int .i64 (j : Int) ∧ Hid (mnSum S ((RL.zip X).drop j) an D = mnSum S (RL.zip X) 0 0) ∧ Hid (xvB S an (D : Int) = true) ∧ Blk wr w1.heap.size #[.int .i64 an, .int .i64 (D : Int)] 35 ∧ Below w1.heap.size w1 wr)
  case atStart => exact ⟨0, 0, 0, by omega, by omega, rfl, Lib.hid (by simp), Lib.hid (xvB_zero hS (by decide)), BA, hbx⟩
  case round =>
    clear BA hbx
    obtain ⟨j, an, D, hj, hm, rfl, HJ, HN, BA, hbx⟩ := hrel
    replace BV := BV1.out.below hbx
    replace BO := BO1.out.below hbx
    obtain ⟨n1, n2, n3, n4⟩ := xvB_parts HN.out
    have hD : D < nn S := by omega
    by_cases hlt : j < RL.length
    · have hlt' : (j : Int) < (RL.length : Int) := by omega
      have hk0 : (0 : Int) ≤ (j : Int) := by omega
      have hltX : j < X.length := by rw [HL.out]; exact hlt
      obtain ⟨gb, rfl, RYw⟩ := HR.row hlt
      obtain ⟨ga, rfl, RXw⟩ := HO.row hltX
      have RY := VRow.below RYw hbx
      have RX := VRow.below RXw hbx
      have lga := VRow.lt RXw
      clear RYw RXw
      obtain ⟨⟨rA, rB⟩, hr⟩ : ∃ s, RL[j]? = some s := ⟨_, List.getElem?_eq_getElem hlt⟩
      obtain ⟨⟨xn, xd⟩, hs⟩ : ∃ s, X[j]? = some s := ⟨_, List.getElem?_eq_getElem hltX⟩
      have hq := HX.out _ (List.mem_of_getElem? hs)
      dsimp only at hq
      obtain ⟨q1, q2, q3, q4⟩ := xvB_parts hq
      have hzip : (RL.zip X)[j]? = some ((rA, rB), (xn, xd)) := by rw [List.getElem?_zip_eq_some]; exact ⟨hr, hs⟩
      have hJ := HJ.out
      rw [drop_at hzip, mnSum_cons] at hJ
      dsimp only at hJ
      obtain ⟨y0, y1⟩ := RRow.two RY j _ hr
      dsimp only at y0 y1
      have HS1 := Lib.hid hs
      obtain ⟨wt, hwt⟩ : ∃ z, wgt (rA, rB) = z := ⟨_, rfl⟩
      have hwt2 := wgt_in (rA, rB)
      rw [hwt] at hwt2 hJ
      have HWT := Lib.hid hwt
      have hmu := fun W => l09Mul_any p c h S hS xn xd wt ⟨q3, q4⟩ ⟨q1, q2⟩ (by omega) W
      obtain ⟨o, ho⟩ : ∃ o, rdX S (xn * wt) xd.toNat = o := ⟨_, rfl⟩
      rw [ho] at hmu hJ
      obtain ⟨r1, hr1⟩ : ∃ v, xoN o = v := ⟨_, rfl⟩
      obtain ⟨r2, hr2⟩ : ∃ v, xoD o = v := ⟨_, rfl⟩
      obtain ⟨rb, hrb⟩ : ∃ v, o.isSome = v := ⟨_, rfl⟩
      rw [hr1, hr2, hrb] at hmu
      have HMU := Lib.hid hmu
      have HJ2 := Lib.hid hJ
      have HV1 := Lib.hid (And.intro hr1 (And.intro hr2 hrb))
      have HO2 := Lib.hid ho
      clear hmu hJ hr1 hr2 hrb ho hwt hwt2 hzip hq q1 q2 q3 q4 hr hs HJ
      obtain ⟨v0_, v1_, v2_, v3_, vf, vl⟩ := BV.four
      obtain ⟨o0, o1, of_, ol⟩ := BO.two
      go_wp2_with fail
      go_region
      go_upto_if 34 with (fail)
      go_cut [9] from 18 to 58 (fun q9 wr2 => q9 = .int .i64 wt ∧ wr2 = wr.drew)
      case first =>
        by_cases e : rA = rB
        · obtain rfl : wt = 1 := by rw [← HWT.out]; unfold wgt; rw [if_pos e]
          subst e
          go_wp2_with fail
          go_meet
          case rel => exact ⟨rfl, rfl⟩
        · obtain rfl : wt = 2 := by rw [← HWT.out]; unfold wgt; rw [if_neg e]
          have f0 : (rA == rB) = false := by rw [beq_eq_false_iff_ne]; exact e
          go_wp2_with fail
          go_meet
          case rel => exact ⟨rfl, rfl⟩
      case rest =>
        obtain ⟨rfl, rfl⟩ := hcut
        clear y0 y1 v0_ v1_ v2_ v3_ vf vl o0 o1 of_ ol
        replace BV := BV.drew
        replace BO := BO.drew
        replace BA := BA.drew
        replace RX := VRow.drew RX
        replace hbx := hbx.drew
        clear RY
        generalize wr.drew = wz at *
        go_upto_region 9 with (fail)
        go_cut [10, 11] from 18 to 58 (fun q10 q11 wc_ => ∃ g, q10 = .pointer (some ⟨g, 0, none⟩) ∧ q11 = .bool rb ∧ Blk wc_ g #[.int .i64 r1, .int .i64 r2] 35 ∧ Blk wc_ w1.heap.size #[.int .i64 an, .int .i64 (D : Int)] 35 ∧ Below w1.heap.size w1 wc_)
        case first =>
            refine wp_region_held_drew (S := fun w' => w'.cell? ⟨ga, j * 2, none⟩ = some (.int .i64 xn) ∧ w'.cell? ⟨ga, j * 2 + 1, none⟩ = some (.int .i64 xd) ∧ w'.cell? ⟨w.heap.size, 0, none⟩ = some (.int .i64 p) ∧ w'.cell? ⟨w.heap.size, 1, none⟩ = some (.int .i64 c) ∧ w'.cell? ⟨w.heap.size, 2, none⟩ = some (.int .i64 h) ∧ w'.cell? ⟨w.heap.size, 3, none⟩ = some (.int .i64 (S : Int))) (by kernel_rfl) ⟨(XRow.two RX.drew j _ HS1.out).1, (XRow.two RX.drew j _ HS1.out).2, BV.drew.four.1, BV.drew.four.2.1, BV.drew.four.2.2.1, BV.drew.four.2.2.2.1⟩ (fun hHeld => ?_)
            clear hHeld
            replace BV := BV.drew
            replace RX := RX.drew
            replace BA := BA.drew
            replace hbx := hbx.drew
            generalize wz.drew = vd at *
            have hHeld : vd.cell? ⟨ga, j * 2, none⟩ = some (.int .i64 xn) ∧ vd.cell? ⟨ga, j * 2 + 1, none⟩ = some (.int .i64 xd) ∧ vd.cell? ⟨w.heap.size, 0, none⟩ = some (.int .i64 p) ∧ vd.cell? ⟨w.heap.size, 1, none⟩ = some (.int .i64 c) ∧ vd.cell? ⟨w.heap.size, 2, none⟩ = some (.int .i64 h) ∧ vd.cell? ⟨w.heap.size, 3, none⟩ = some (.int .i64 (S : Int)) := ⟨(XRow.two RX j _ HS1.out).1, (XRow.two RX j _ HS1.out).2, BV.four.1, BV.four.2.1, BV.four.2.2.1, BV.four.2.2.2.1⟩
            refine tk 0 36 ?_
            refine tk 1 37 ?_
            refine tk 2 38 ?_
            refine tk 3 39 ?_
            refine tk 4 40 ?_
            refine tk 5 41 ?_
            refine wpAnyH_ready (rs := [6, 10]) (by kernel_rfl) (by simp) ?_
            refine AllReadyH.cons (o := ⟨some 42, _, _, _, _, _⟩) rfl (fun K hK => ?_) (AllReadyH.cons (o := ⟨some 10, _, _, _, _, _⟩) rfl (fun K hK => ?_) AllReadyH.nil)
            · go_simp
              refine (HMU.out _).mono ?_
              rintro e w6 ⟨rfl, hb6⟩
              replace BV := BV.below hb6
              replace RX := RX.below hb6
              replace BA := BA.below hb6
              replace hbx := chain hbx hb6
              clear hb6
              (try go_wp2_with fail)
              refine hko hK ⟨(XRow.two RX j _ HS1.out).1, (XRow.two RX j _ HS1.out).2, (Blk.l4 BV)⟩ fun hHeld => ?_
              clear hK K
              refine tk 7 35 ?_
              refine tk 8 43 ?_
              refine tk 9 44 ?_
              refine rdk 10 10 fun K hK => ?_
              go_simp
              (try go_wp2_with fail)
              refine hko hK ⟨(XRow.two (RX.alloc (.cells #[.int .i64 0, .int .i64 0] 35)) j _ HS1.out).1, (XRow.two (RX.alloc (.cells #[.int .i64 0, .int .i64 0] 35)) j _ HS1.out).2, (Blk.l4 (BV.alloc (.cells #[.int .i64 0, .int .i64 0] 35)))⟩ fun hHeld => ?_
              clear hK K
              have B8 := Blk.new w6 #[.int .i64 0, .int .i64 0] 35
              have h8 : w1.heap.size ≤ w6.heap.size := hbx.size
              have l_BV := BV.lt
              have l_RX := RX.lt
              have l_BA := BA.lt
              replace BV := BV.alloc (.cells #[.int .i64 0, .int .i64 0] 35)
              replace RX := RX.alloc (.cells #[.int .i64 0, .int .i64 0] 35)
              replace BA := BA.alloc (.cells #[.int .i64 0, .int .i64 0] 35)
              replace hbx := chain_alloc hbx (.cells #[.int .i64 0, .int .i64 0] 35)
              generalize w6.alloc (.cells #[.int .i64 0, .int .i64 0] 35) = wA at *
              generalize w6.heap.size = g8 at *
              refine rdn 11 fun K hK => ?_
              clear hHeld
              obtain ⟨z0, z1, zf, zl⟩ := B8.two
              have SBV := BV.far2 (B := g8) (by omega) (.int .i64 r1) (.int .i64 r2)
              have SRX := RX.far2 (B := g8) (by omega) (.int .i64 r1) (.int .i64 r2)
              have SBA := BA.far2 (B := g8) (by omega) (.int .i64 r1) (.int .i64 r2)
              have Shbx := belowFar2 hbx (B := g8) (by omega) (.int .i64 r1) (.int .i64 r2)
              have SB8 := B8.set2 (.int .i64 r1) (.int .i64 r2)
              go_simp
              (try go_wp2_with fail)
              refine hko hK ⟨(XRow.two SRX j _ HS1.out).1, (XRow.two SRX j _ HS1.out).2, (Blk.l4 SBV)⟩ fun hHeld => ?_
              clear hK K
              clear z0 z1 zf zl hbx B8 BV RX BA
              generalize ((wA.setCell ⟨g8, 0, none⟩ (.int .i64 r1)).setCell ⟨g8, 1, none⟩ (.int .i64 r2)) = wS at *
              have BV := SBV
              have RX := SRX
              have BA := SBA
              have hbx := Shbx
              have B8 := SB8
              clear SBV SRX SBA Shbx SB8
              refine tk 12 11 ?_
              refine wpAnyH_done (by kernel_rfl) ?_ _
              clear hHeld
              (try go_wp2_with fail)
              go_meet
              case rel => exact ⟨g8, rfl, rfl, B8, BA, hbx⟩
            · go_simp
              (try go_wp2_with fail)
              refine hko hK ⟨(XRow.two (RX.alloc (.cells #[.int .i64 0, .int .i64 0] 35)) j _ HS1.out).1, (XRow.two (RX.alloc (.cells #[.int .i64 0, .int .i64 0] 35)) j _ HS1.out).2, (Blk.l4 (BV.alloc (.cells #[.int .i64 0, .int .i64 0] 35)))⟩ fun hHeld => ?_
              clear hK K
              have B8 := Blk.new vd #[.int .i64 0, .int .i64 0] 35
              have h8 : w1.heap.size ≤ vd.heap.size := hbx.size
              have l_BV := BV.lt
              have l_RX := RX.lt
              have l_BA := BA.lt
              replace BV := BV.alloc (.cells #[.int .i64 0, .int .i64 0] 35)
              replace RX := RX.alloc (.cells #[.int .i64 0, .int .i64 0] 35)
              replace BA := BA.alloc (.cells #[.int .i64 0, .int .i64 0] 35)
              replace hbx := chain_alloc hbx (.cells #[.int .i64 0, .int .i64 0] 35)
              generalize vd.alloc (.cells #[.int .i64 0, .int .i64 0] 35) = wA at *
              generalize vd.heap.size = g8 at *
              refine rdk 6 42 fun K hK => ?_
              go_simp
              refine (HMU.out _).mono ?_
              rintro e w6 ⟨rfl, hb6⟩
              replace BV := BV.below hb6
              replace RX := RX.below hb6
              replace BA := BA.below hb6
              replace B8 := B8.below hb6
              replace hbx := chain hbx hb6
              clear hb6
              (try go_wp2_with fail)
              refine hko hK ⟨(XRow.two RX j _ HS1.out).1, (XRow.two RX j _ HS1.out).2, (Blk.l4 BV)⟩ fun hHeld => ?_
              clear hK K
              refine tk 7 35 ?_
              refine tk 8 43 ?_
              refine tk 9 44 ?_
              refine rdn 11 fun K hK => ?_
              clear hHeld
              obtain ⟨z0, z1, zf, zl⟩ := B8.two
              have SBV := BV.far2 (B := g8) (by omega) (.int .i64 r1) (.int .i64 r2)
              have SRX := RX.far2 (B := g8) (by omega) (.int .i64 r1) (.int .i64 r2)
              have SBA := BA.far2 (B := g8) (by omega) (.int .i64 r1) (.int .i64 r2)
              have Shbx := belowFar2 hbx (B := g8) (by omega) (.int .i64 r1) (.int .i64 r2)
              have SB8 := B8.set2 (.int .i64 r1) (.int .i64 r2)
              go_simp
              (try go_wp2_with fail)
              refine hko hK ⟨(XRow.two SRX j _ HS1.out).1, (XRow.two SRX j _ HS1.out).2, (Blk.l4 SBV)⟩ fun hHeld => ?_
              clear hK K
              clear z0 z1 zf zl hbx B8 BV RX BA
              generalize ((w6.setCell ⟨g8, 0, none⟩ (.int .i64 r1)).setCell ⟨g8, 1, none⟩ (.int .i64 r2)) = wS at *
              have BV := SBV
              have RX := SRX
              have BA := SBA
              have hbx := Shbx
              have B8 := SB8
              clear SBV SRX SBA Shbx SB8
              refine tk 12 11 ?_
              refine wpAnyH_done (by kernel_rfl) ?_ _
              clear hHeld
              (try go_wp2_with fail)
              go_meet
              case rel => exact ⟨g8, rfl, rfl, B8, BA, hbx⟩
        case rest =>
          clear BV RX BA hbx HMU BO
          obtain ⟨g, rfl, rfl, B8, BA, hbx⟩ := hcut
          have BV := BV1.out.below hbx
          have BO := BO1.out.below hbx
          have hv := HV1.out
          have hJ := HJ2.out
          cases o with
          | none =>
            obtain ⟨rfl, rfl, rfl⟩ : r1 = 0 ∧ r2 = 0 ∧ rb = false := ⟨hv.1.symm, hv.2.1.symm, hv.2.2.symm⟩
            obtain ⟨rfl, rfl, rfl⟩ : v1 = 0 ∧ v2 = 0 ∧ vb = false := by
              have q := HV.out
              rw [show mnX S (RL.zip X) = none by unfold mnX; rw [← hJ]] at q
              exact ⟨q.1.symm, q.2.1.symm, q.2.2.symm⟩
            clear hJ hv
            obtain ⟨v0_, v1_, v2_, v3_, vf, vl⟩ := BV.four
            obtain ⟨o0, o1, of_, ol⟩ := BO.two
            obtain ⟨a0, a1, af, al⟩ := BA.two
            obtain ⟨z0, z1, zf, zl⟩ := B8.two
            go_wp2_with fail
            have BRn := BO.set2 (.int .i64 0) (.int .i64 0)
            obtain ⟨u0, u1, uf, ul⟩ := BRn.two
            refine bodyPost_ret (v := .tuple #[.agg #[.int .i64 0, .int .i64 0], .bool false]) (by simp [results, Tryz.results41, go_sem, u0, u1]) rfl ?_
            exact ⟨rfl, belowFar2 (hb.trans (hbx.mono hb.size)) (by omega) _ _⟩
          | some y =>
            obtain ⟨yn, yd⟩ := y
            obtain ⟨rfl, rfl, rfl⟩ : r1 = yn ∧ r2 = yd ∧ rb = true := ⟨hv.1.symm, hv.2.1.symm, hv.2.2.symm⟩
            obtain ⟨p1, p2, p3, p4⟩ := xvB_parts (xvB_of HO2.out)
            have hA := fun W => l09Add_any p c h S hS an (D : Int) r1 r2 ⟨n3, n4⟩ ⟨p3, p4⟩ ⟨n1, n2⟩ ⟨p1, p2⟩ W
            rw [Int.toNat_natCast] at hA
            dsimp only at hJ
            obtain ⟨o2, ho2⟩ : ∃ z, adX S an D r1 r2.toNat = z := ⟨_, rfl⟩
            rw [ho2] at hA hJ
            cases o2 with
            | none =>
              obtain ⟨rfl, rfl, rfl⟩ : v1 = 0 ∧ v2 = 0 ∧ vb = false := by
                have q := HV.out
                rw [show mnX S (RL.zip X) = none by unfold mnX; rw [← hJ]] at q
                exact ⟨q.1.symm, q.2.1.symm, q.2.2.symm⟩
              dsimp only [xoN, xoD, Option.isSome] at hA
              obtain ⟨s1, hs1⟩ : ∃ r : Int, (0 : Int) = r := ⟨_, rfl⟩
              obtain ⟨s2, hs2⟩ : ∃ r : Int, (0 : Int) = r := ⟨_, rfl⟩
              have hA2 : ∀ W : World, Calls Tryz.prog 78 #[.agg #[.int .i64 p, .int .i64 c, .int .i64 h, .int .i64 (S : Int)], .agg #[.int .i64 an, .int .i64 (D : Int)], .agg #[.int .i64 r1, .int .i64 r2]] W fun e w' => e = .returned (.tuple #[.agg #[.int .i64 s1, .int .i64 s2], .bool false]) ∧ Below W.heap.size W w' := fun W => by rw [← hs1, ← hs2]; exact hA W
              have HA := Lib.hid hA2
              clear hJ hv hA hA2 hs1 hs2 ho2
              obtain ⟨v0_, v1_, v2_, v3_, vf, vl⟩ := BV.four
              obtain ⟨o0, o1, of_, ol⟩ := BO.two
              obtain ⟨a0, a1, af, al⟩ := BA.two
              obtain ⟨z0, z1, zf, zl⟩ := B8.two
              go_wp2_with (go_at_call 78; refine (HA.out _).mono ?_; clear HA; rintro e w2 ⟨rfl, hb2⟩; have BS := Blk.new w2 #[.int .i64 s1, .int .i64 s2] 35; replace BV := (BV.below hb2).alloc (.cells #[.int .i64 s1, .int .i64 s2] 35); replace BO := (BO.below hb2).alloc (.cells #[.int .i64 s1, .int .i64 s2] 35); replace BA := (BA.below hb2).alloc (.cells #[.int .i64 s1, .int .i64 s2] 35); replace hbx := chain_alloc (chain hbx hb2) (.cells #[.int .i64 s1, .int .i64 s2] 35); clear hb2 B8; obtain ⟨s0_, s1_, sf, sl⟩ := BS.two; obtain ⟨v0_, v1_, v2_, v3_, vf, vl⟩ := BV.four; obtain ⟨o0, o1, of_, ol⟩ := BO.two; obtain ⟨a0, a1, af, al⟩ := BA.two)
              have BRn := BO.set2 (.int .i64 0) (.int .i64 0)
              obtain ⟨u0, u1, uf, ul⟩ := BRn.two
              refine bodyPost_ret (v := .tuple #[.agg #[.int .i64 0, .int .i64 0], .bool false]) (by simp [results, Tryz.results41, go_sem, u0, u1]) rfl ?_
              exact ⟨rfl, belowFar2 (hb.trans (hbx.mono hb.size)) (by omega) _ _⟩
            | some z =>
              obtain ⟨s1, s2⟩ := z
              have hval := adX_valid ho2
              obtain ⟨t1, t2, t3, t4⟩ := xvB_parts hval
              obtain ⟨G, rfl⟩ := Int.eq_ofNat_of_zero_le t1
              dsimp only [xoN, xoD, Option.isSome] at hA
              dsimp only at hJ
              rw [Int.toNat_natCast] at hJ
              have HA := Lib.hid hA
              have HJ3 := Lib.hid hJ
              have HVL := Lib.hid hval
              clear hJ hv hA ho2 hval
              obtain ⟨v0_, v1_, v2_, v3_, vf, vl⟩ := BV.four
              obtain ⟨o0, o1, of_, ol⟩ := BO.two
              obtain ⟨a0, a1, af, al⟩ := BA.two
              obtain ⟨z0, z1, zf, zl⟩ := B8.two
              go_wp2_with (go_at_call 78; refine (HA.out _).mono ?_; clear HA; rintro e w2 ⟨rfl, hb2⟩; have BS := Blk.new w2 #[.int .i64 s1, .int .i64 (G : Int)] 35; replace BV := (BV.below hb2).alloc (.cells #[.int .i64 s1, .int .i64 (G : Int)] 35); replace BO := (BO.below hb2).alloc (.cells #[.int .i64 s1, .int .i64 (G : Int)] 35); replace BA := (BA.below hb2).alloc (.cells #[.int .i64 s1, .int .i64 (G : Int)] 35); replace hbx := chain_alloc (chain hbx hb2) (.cells #[.int .i64 s1, .int .i64 (G : Int)] 35); clear hb2 B8; obtain ⟨s0_, s1_, sf, sl⟩ := BS.two; obtain ⟨v0_, v1_, v2_, v3_, vf, vl⟩ := BV.four; obtain ⟨o0, o1, of_, ol⟩ := BO.two; obtain ⟨a0, a1, af, al⟩ := BA.two)
              go_roundg (RL.length - (j + 1))
              case measure => omega
              case rel => exact ⟨j + 1, s1, G, by omega, rfl, by go_num, HJ3, HVL, BA.set2 _ _, belowFar2 hbx (Nat.le_refl _) _ _⟩
    · obtain rfl : j = RL.length := by omega
      have hJ := HJ.out
      rw [List.drop_eq_nil_of_le (by rw [List.length_zip, HL.out]; omega)] at hJ
      have hlast := mean_last hS HN.out
      have hmx : mnX S (RL.zip X) = rdX S an (D + 1) := by unfold mnX; rw [← hJ]; rfl
      rw [hlast] at hmx
      have hbr := base_range hS
      have hba := fun W => l09Base_any p c h S hS.2 W
      obtain ⟨B, hB⟩ : ∃ B : Int, ((S * S : Nat) : Int) = B := ⟨_, rfl⟩
      rw [hB] at hba hmx
      have B0 : 1 ≤ B ∧ B ≤ 36 := by omega
      have b1 : -B < an.tmod B := Int.lt_tmod_of_pos an (by omega)
      have b2 : an.tmod B < B := Int.tmod_lt_of_pos an (by omega)
      have b3 : (an.tdiv B).natAbs ≤ an.natAbs := Int.natAbs_tdiv_le_natAbs an B
      obtain ⟨Q, hQ⟩ : ∃ Q, an.tdiv B = Q := ⟨_, rfl⟩
      obtain ⟨T, hT⟩ : ∃ T, an.tmod B = T := ⟨_, rfl⟩
      rw [hT] at b1 b2 hmx
      rw [hQ] at b3 hmx
      have wQ : IntKind.i64.wrap Q = Q := IntWalk.i64_in _ (by omega)
      have wT : IntKind.i64.wrap T = T := IntWalk.i64_in _ (by omega)
      have nB : B ≠ 0 := by omega
      obtain ⟨K, hK⟩ : ∃ K : Nat, D + 1 = K := ⟨_, rfl⟩
      rw [hK] at hmx
      have wz : IntKind.i64.wrap ((D : Int) + 1) = (K : Int) := by rw [IntWalk.i64_in _ (by omega)]; omega
      have hlv := fun W => l09Valid_any p c h S hS an (K : Int) (by omega) W
      have HB := Lib.hid hba
      have hv := HV.out
      clear hba hB hJ hlast HJ hK hbr
      by_cases cT : T = 0
      · subst cT
        rw [if_pos rfl] at hmx
        rw [hmx] at hv
        obtain ⟨rfl, rfl, rfl⟩ : Q = v1 ∧ (0 : Int) = v2 ∧ true = vb := hv
        clear hmx hlv
        obtain ⟨v0_, v1_, v2_, v3_, vf, vl⟩ := BV.four
        obtain ⟨o0, o1, of_, ol⟩ := BO.two
        obtain ⟨a0, a1, af, al⟩ := BA.two
        go_wp2_with fail
        clear v0_ v1_ v2_ v3_ vf vl o0 o1 of_ ol
        clear a0 a1 af al
        have hd_ : wr.drew.heap.size = wr.heap.size := rfl
        replace BA := BA.drew
        replace BV := BV.drew
        replace BO := BO.drew
        replace hbx := hbx.drew
        refine wp_region_held_drew (S := fun w' => w'.cell? ⟨w1.heap.size, 0, none⟩ = some (.int .i64 an) ∧ w'.cell? ⟨w1.heap.size, 1, none⟩ = some (.int .i64 (D : Int)) ∧ w'.cell? ⟨w.heap.size, 0, none⟩ = some (.int .i64 p) ∧ w'.cell? ⟨w.heap.size, 1, none⟩ = some (.int .i64 c) ∧ w'.cell? ⟨w.heap.size, 2, none⟩ = some (.int .i64 h) ∧ w'.cell? ⟨w.heap.size, 3, none⟩ = some (.int .i64 (S : Int))) (by kernel_rfl) ⟨BA.two.1, BA.two.2.1, BV.four.1, BV.four.2.1, BV.four.2.2.1, BV.four.2.2.2.1⟩ (fun hHeld => ?_)
        clear hHeld
        generalize wr.drew = vd at *
        have hHeld : vd.cell? ⟨w1.heap.size, 0, none⟩ = some (.int .i64 an) ∧ vd.cell? ⟨w1.heap.size, 1, none⟩ = some (.int .i64 (D : Int)) ∧ vd.cell? ⟨w.heap.size, 0, none⟩ = some (.int .i64 p) ∧ vd.cell? ⟨w.heap.size, 1, none⟩ = some (.int .i64 c) ∧ vd.cell? ⟨w.heap.size, 2, none⟩ = some (.int .i64 h) ∧ vd.cell? ⟨w.heap.size, 3, none⟩ = some (.int .i64 (S : Int)) := ⟨BA.two.1, BA.two.2.1, BV.four.1, BV.four.2.1, BV.four.2.2.1, BV.four.2.2.2.1⟩
        refine tk 0 59 ?_
        refine tk 1 60 ?_
        refine tk 2 61 ?_
        refine rdk 3 62 fun K hK => ?_
        go_simp
        refine (HB.out _).mono ?_
        rintro e w16 ⟨rfl, hb16⟩
        replace BV := BV.below hb16
        replace BO := BO.below hb16
        replace BA := BA.below hb16
        replace hbx := chain hbx hb16
        clear hb16
        (try go_wp2_with fail)
        refine hko hK (Blk.f2 BA (Blk.l4 BV)) fun hHeld => ?_
        clear hK K
        refine tk 4 63 ?_
        refine tk 5 64 ?_
        refine wpAnyH_done (by kernel_rfl) ?_ _
        clear hHeld
        obtain ⟨v0_, v1_, v2_, v3_, vf, vl⟩ := BV.four
        obtain ⟨o0, o1, of_, ol⟩ := BO.two
        obtain ⟨a0, a1, af, al⟩ := BA.two
        go_wp2_with fail
        clear v0_ v1_ v2_ v3_ vf vl o0 o1 of_ ol
        clear a0 a1 af al
        have hd_ : w16.drew.heap.size = w16.heap.size := rfl
        replace BA := BA.drew
        replace BV := BV.drew
        replace BO := BO.drew
        replace hbx := hbx.drew
        refine wp_region_held_drew (S := fun w' => w'.cell? ⟨w1.heap.size, 0, none⟩ = some (.int .i64 an) ∧ w'.cell? ⟨w1.heap.size, 1, none⟩ = some (.int .i64 (D : Int)) ∧ w'.cell? ⟨w.heap.size, 0, none⟩ = some (.int .i64 p) ∧ w'.cell? ⟨w.heap.size, 1, none⟩ = some (.int .i64 c) ∧ w'.cell? ⟨w.heap.size, 2, none⟩ = some (.int .i64 h) ∧ w'.cell? ⟨w.heap.size, 3, none⟩ = some (.int .i64 (S : Int))) (by kernel_rfl) ⟨BA.two.1, BA.two.2.1, BV.four.1, BV.four.2.1, BV.four.2.2.1, BV.four.2.2.2.1⟩ (fun hHeld => ?_)
        clear hHeld
        generalize w16.drew = ve at *
        have hHeld : ve.cell? ⟨w1.heap.size, 0, none⟩ = some (.int .i64 an) ∧ ve.cell? ⟨w1.heap.size, 1, none⟩ = some (.int .i64 (D : Int)) ∧ ve.cell? ⟨w.heap.size, 0, none⟩ = some (.int .i64 p) ∧ ve.cell? ⟨w.heap.size, 1, none⟩ = some (.int .i64 c) ∧ ve.cell? ⟨w.heap.size, 2, none⟩ = some (.int .i64 h) ∧ ve.cell? ⟨w.heap.size, 3, none⟩ = some (.int .i64 (S : Int)) := ⟨BA.two.1, BA.two.2.1, BV.four.1, BV.four.2.1, BV.four.2.2.1, BV.four.2.2.2.1⟩
        refine tk 0 65 ?_
        refine tk 1 66 ?_
        refine tk 2 67 ?_
        refine rdk 3 68 fun K hK => ?_
        go_simp
        refine (HB.out _).mono ?_
        rintro e w17 ⟨rfl, hb17⟩
        replace BV := BV.below hb17
        replace BO := BO.below hb17
        replace BA := BA.below hb17
        replace hbx := chain hbx hb17
        clear hb17
        (try go_wp2_with fail)
        refine hko hK (Blk.f2 BA (Blk.l4 BV)) fun hHeld => ?_
        clear hK K
        refine tk 4 69 ?_
        refine tk 5 70 ?_
        refine rdn 6 fun K hK => ?_
        obtain ⟨u0, u1, uf, ul⟩ := BO.two
        go_simp
        (try go_wp2_with fail)
        refine hko hK (Blk.f2 (BA.far2 (B := (w.heap.size + 1)) (by omega) (.int .i64 Q) (.int .i64 0)) (Blk.l4 (BV.far2 (B := (w.heap.size + 1)) (by omega) (.int .i64 Q) (.int .i64 0)))) fun hHeld => ?_
        clear hK K
        refine tk 7 5 ?_
        refine wpAnyH_done (by kernel_rfl) ?_ _
        clear hHeld
        have BRn := BO.set2 (.int .i64 Q) (.int .i64 0)
        obtain ⟨u0, u1, uf, ul⟩ := BRn.two
        go_wp2_with fail
        refine bodyPost_ret (v := .tuple #[.agg #[.int .i64 Q, .int .i64 0], .bool true]) (by simp [results, Tryz.results41, go_sem, u0, u1]) rfl ?_
        exact ⟨rfl, belowFar2 (hb.trans (hbx.mono hb.size)) (by omega) _ _⟩
      · rw [if_neg cT] at hmx
        have f0 : (T == 0) = false := by rw [beq_eq_false_iff_ne]; exact cT
        cases cv : xvB S an (K : Int) with
        | true =>
          rw [if_pos cv] at hmx
          rw [hmx] at hv
          obtain ⟨rfl, rfl, rfl⟩ : an = v1 ∧ (K : Int) = v2 ∧ true = vb := hv
          rw [cv] at hlv
          have HLV := Lib.hid hlv
          clear hmx hlv cv
          obtain ⟨v0_, v1_, v2_, v3_, vf, vl⟩ := BV.four
          obtain ⟨o0, o1, of_, ol⟩ := BO.two
          obtain ⟨a0, a1, af, al⟩ := BA.two
          go_wp2_with fail
          clear v0_ v1_ v2_ v3_ vf vl o0 o1 of_ ol
          clear a0 a1 af al
          have hd_ : wr.drew.heap.size = wr.heap.size := rfl
          replace BA := BA.drew
          replace BV := BV.drew
          replace BO := BO.drew
          replace hbx := hbx.drew
          refine wp_region_held_drew (S := fun w' => w'.cell? ⟨w1.heap.size, 0, none⟩ = some (.int .i64 an) ∧ w'.cell? ⟨w1.heap.size, 1, none⟩ = some (.int .i64 (D : Int)) ∧ w'.cell? ⟨w.heap.size, 0, none⟩ = some (.int .i64 p) ∧ w'.cell? ⟨w.heap.size, 1, none⟩ = some (.int .i64 c) ∧ w'.cell? ⟨w.heap.size, 2, none⟩ = some (.int .i64 h) ∧ w'.cell? ⟨w.heap.size, 3, none⟩ = some (.int .i64 (S : Int))) (by kernel_rfl) ⟨BA.two.1, BA.two.2.1, BV.four.1, BV.four.2.1, BV.four.2.2.1, BV.four.2.2.2.1⟩ (fun hHeld => ?_)
          clear hHeld
          generalize wr.drew = vd at *
          have hHeld : vd.cell? ⟨w1.heap.size, 0, none⟩ = some (.int .i64 an) ∧ vd.cell? ⟨w1.heap.size, 1, none⟩ = some (.int .i64 (D : Int)) ∧ vd.cell? ⟨w.heap.size, 0, none⟩ = some (.int .i64 p) ∧ vd.cell? ⟨w.heap.size, 1, none⟩ = some (.int .i64 c) ∧ vd.cell? ⟨w.heap.size, 2, none⟩ = some (.int .i64 h) ∧ vd.cell? ⟨w.heap.size, 3, none⟩ = some (.int .i64 (S : Int)) := ⟨BA.two.1, BA.two.2.1, BV.four.1, BV.four.2.1, BV.four.2.2.1, BV.four.2.2.2.1⟩
          refine tk 0 59 ?_
          refine tk 1 60 ?_
          refine tk 2 61 ?_
          refine rdk 3 62 fun K hK => ?_
          go_simp
          refine (HB.out _).mono ?_
          rintro e w16 ⟨rfl, hb16⟩
          replace BV := BV.below hb16
          replace BO := BO.below hb16
          replace BA := BA.below hb16
          replace hbx := chain hbx hb16
          clear hb16
          (try go_wp2_with fail)
          refine hko hK (Blk.f2 BA (Blk.l4 BV)) fun hHeld => ?_
          clear hK K
          refine tk 4 63 ?_
          refine tk 5 64 ?_
          refine wpAnyH_done (by kernel_rfl) ?_ _
          clear hHeld
          obtain ⟨v0_, v1_, v2_, v3_, vf, vl⟩ := BV.four
          obtain ⟨o0, o1, of_, ol⟩ := BO.two
          obtain ⟨a0, a1, af, al⟩ := BA.two
          go_wp2_with (go_at_call 39; refine (HLV.out _).mono ?_; clear HLV; rintro e w5 ⟨rfl, hb5⟩; have BK := (Blk.new w16 #[.int .i64 an, .int .i64 (K : Int)] 35).below hb5; replace BO := (BO.alloc (.cells #[.int .i64 an, .int .i64 (K : Int)] 35)).below hb5; replace hbx := chain (chain_alloc hbx (.cells #[.int .i64 an, .int .i64 (K : Int)] 35)) hb5; clear hb5; obtain ⟨k0, k1, kf, kl⟩ := BK.two; obtain ⟨o0, o1, of_, ol⟩ := BO.two)
          have BRn := BO.set2 (.int .i64 an) (.int .i64 (K : Int))
          obtain ⟨u0, u1, uf, ul⟩ := BRn.two
          refine bodyPost_ret (v := .tuple #[.agg #[.int .i64 an, .int .i64 (K : Int)], .bool true]) (by simp [results, Tryz.results41, go_sem, u0, u1]) rfl ?_
          exact ⟨rfl, belowFar2 (hb.trans (hbx.mono hb.size)) (by omega) _ _⟩
        | false =>
          rw [if_neg (by rw [cv]; simp)] at hmx
          rw [hmx] at hv
          obtain ⟨rfl, rfl, rfl⟩ : (0 : Int) = v1 ∧ (0 : Int) = v2 ∧ false = vb := hv
          rw [cv] at hlv
          have HLV := Lib.hid hlv
          clear hmx hlv cv
          obtain ⟨v0_, v1_, v2_, v3_, vf, vl⟩ := BV.four
          obtain ⟨o0, o1, of_, ol⟩ := BO.two
          obtain ⟨a0, a1, af, al⟩ := BA.two
          go_wp2_with fail
          clear v0_ v1_ v2_ v3_ vf vl o0 o1 of_ ol
          clear a0 a1 af al
          have hd_ : wr.drew.heap.size = wr.heap.size := rfl
          replace BA := BA.drew
          replace BV := BV.drew
          replace BO := BO.drew
          replace hbx := hbx.drew
          refine wp_region_held_drew (S := fun w' => w'.cell? ⟨w1.heap.size, 0, none⟩ = some (.int .i64 an) ∧ w'.cell? ⟨w1.heap.size, 1, none⟩ = some (.int .i64 (D : Int)) ∧ w'.cell? ⟨w.heap.size, 0, none⟩ = some (.int .i64 p) ∧ w'.cell? ⟨w.heap.size, 1, none⟩ = some (.int .i64 c) ∧ w'.cell? ⟨w.heap.size, 2, none⟩ = some (.int .i64 h) ∧ w'.cell? ⟨w.heap.size, 3, none⟩ = some (.int .i64 (S : Int))) (by kernel_rfl) ⟨BA.two.1, BA.two.2.1, BV.four.1, BV.four.2.1, BV.four.2.2.1, BV.four.2.2.2.1⟩ (fun hHeld => ?_)
          clear hHeld
          generalize wr.drew = vd at *
          have hHeld : vd.cell? ⟨w1.heap.size, 0, none⟩ = some (.int .i64 an) ∧ vd.cell? ⟨w1.heap.size, 1, none⟩ = some (.int .i64 (D : Int)) ∧ vd.cell? ⟨w.heap.size, 0, none⟩ = some (.int .i64 p) ∧ vd.cell? ⟨w.heap.size, 1, none⟩ = some (.int .i64 c) ∧ vd.cell? ⟨w.heap.size, 2, none⟩ = some (.int .i64 h) ∧ vd.cell? ⟨w.heap.size, 3, none⟩ = some (.int .i64 (S : Int)) := ⟨BA.two.1, BA.two.2.1, BV.four.1, BV.four.2.1, BV.four.2.2.1, BV.four.2.2.2.1⟩
          refine tk 0 59 ?_
          refine tk 1 60 ?_
          refine tk 2 61 ?_
          refine rdk 3 62 fun K hK => ?_
          go_simp
          refine (HB.out _).mono ?_
          rintro e w16 ⟨rfl, hb16⟩
          replace BV := BV.below hb16
          replace BO := BO.below hb16
          replace BA := BA.below hb16
          replace hbx := chain hbx hb16
          clear hb16
          (try go_wp2_with fail)
          refine hko hK (Blk.f2 BA (Blk.l4 BV)) fun hHeld => ?_
          clear hK K
          refine tk 4 63 ?_
          refine tk 5 64 ?_
          refine wpAnyH_done (by kernel_rfl) ?_ _
          clear hHeld
          obtain ⟨v0_, v1_, v2_, v3_, vf, vl⟩ := BV.four
          obtain ⟨o0, o1, of_, ol⟩ := BO.two
          obtain ⟨a0, a1, af, al⟩ := BA.two
          go_wp2_with (go_at_call 39; refine (HLV.out _).mono ?_; clear HLV; rintro e w5 ⟨rfl, hb5⟩; have BK := (Blk.new w16 #[.int .i64 an, .int .i64 (K : Int)] 35).below hb5; replace BO := (BO.alloc (.cells #[.int .i64 an, .int .i64 (K : Int)] 35)).below hb5; replace hbx := chain (chain_alloc hbx (.cells #[.int .i64 an, .int .i64 (K : Int)] 35)) hb5; clear hb5; obtain ⟨k0, k1, kf, kl⟩ := BK.two; obtain ⟨o0, o1, of_, ol⟩ := BO.two)
          have BRn := BO.set2 (.int .i64 0) (.int .i64 0)
          obtain ⟨u0, u1, uf, ul⟩ := BRn.two
          refine bodyPost_ret (v := .tuple #[.agg #[.int .i64 0, .int .i64 0], .bool false]) (by simp [results, Tryz.results41, go_sem, u0, u1]) rfl ?_
          exact ⟨rfl, belowFar2 (hb.trans (hbx.mono hb.size)) (by omega) _ _⟩
end Go.Proofs.YtnlclmlnpkncoaaGreat
