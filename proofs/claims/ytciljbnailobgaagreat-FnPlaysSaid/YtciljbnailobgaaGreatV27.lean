/- The law of chapter 5 on the plays of a roll holds: for every code the law returns true and the code reads behind the call as it read before. No conditions. -/
import Derived.Test.YtciljbnailobgaaGreatV25
import Derived.Test.YtciljbnailobgaaGreatV26
import Derived.Test.YtciljbnailobgaaGreatV22
import Derived.Test.YtciljbnailobgaaGreatV21
import Derived.Test.YtciljbnailobgaaGreatV16
import Derived.Test.YtciljbnailobgaaGreatV20
import Derived.ChangeOld
import Derived.Deep.CutRange
namespace Go.Proofs.YtciljbnailobgaaGreat
open Go.ChangeMaps (open_string shut_string)
open Go.ChangeShapes Go.WideShapes Go.ChangeAt Go.RowKit
set_option linter.unusedVariables false
set_option linter.unusedSimpArgs false
set_option maxRecDepth 4000
theorem code_of_ints {w : World} {x : Addr} {len : Nat} {zs : List Int} (hl : len ≤ zs.length) (_hz : True) (hcell : ∀ i, i < zs.length → w.cell? (x.add i) = some (.int .u8 (zs.getD i 0))) (hwz : ∀ n ∈ zs, (Lit.int .u8 n).wf = true) : CodeIn w.heap.size w (some x) len := by
  intro i hi
  obtain ⟨b, o, spot⟩ := x
  have hc := hcell i (by omega)
  have hspot : spot = none := by
    have hc0 := hcell 0 (by omega)
    simpa [Addr.add] using World.cell?_spot hc0
  subst hspot
  rw [show (⟨b, o, none⟩ : Addr).add i = ⟨b, o + i, none⟩ from by unfold Addr.add; split <;> simp_all] at hc
  have hm : zs.getD i 0 ∈ zs := by
    have : i < zs.length := by omega
    simp [List.getD, this]
  have hw := hwz _ hm
  have hr : 0 ≤ zs.getD i 0 ∧ zs.getD i 0 ≤ 255 := by simpa [Lit.wf, IntKind.min, IntKind.max, IntKind.signed, IntKind.bits] using hw
  exact ⟨b, o, zs.getD i 0, rfl, World.block_lt_of_cell? w _ hc, hc, hr.1, hr.2⟩
set_option maxRecDepth 8000 in
set_option maxHeartbeats 3000000 in
theorem fnPlays_walk (a : Option Addr) (len cap : Nat) (w : World) (hcode : CodeIn w.heap.size w a len) :
    Calls Tryz.prog 3 #[.slice a len cap] w fun e w' => e = .returned (.bool true) ∧ Below w.heap.size w w' := by
  by_cases hbig : 4096 < len
  · have f0 : decide (4096 < (len : Int)) = true := by simp; omega
    go_enter Tryz.func3, Tryz.ntmps3
    go_wp2_with fail
    refine (big_any _ _ _ _).mono ?_
    rintro e w1 ⟨rfl, rfl⟩
    go_wp2
    go_ret
    exact ⟨rfl, Below.refl _ _⟩
  · have f0 : decide (4096 < (len : Int)) = false := by simp; omega
    go_enter Tryz.func3, Tryz.ntmps3
    go_wp2_with fail
    refine (big_any _ _ _ _).mono ?_
    rintro e w0 ⟨rfl, rfl⟩
    go_wp2_with fail
    refine (drawAllPlays_any w.heap.size a len cap w (Nat.le_refl _) (by omega) hcode).mono ?_
    rintro e w1 ⟨p, c, h, s, g1, g2, n1, n2, c1, c2, xs, ys, ra, rb, rfl, hx, hy, l1, l2, R1, R2, hbw⟩
    subst hx hy
    replace l1 : xs.length ≤ 1048576 := by omega
    replace l2 : ys.length ≤ 1048576 := by omega
    obtain ⟨BV, BB, BR, hb2, hz⟩ := three_new w1 #[.int .i64 p, .int .i64 c, .int .i64 h, .int .i64 s] #[.slice (some ⟨g1, 0, none⟩) xs.length c1, .slice (some ⟨g2, 0, none⟩) ys.length c2] #[.int .i64 ra, .int .i64 rb] 25 28 30
    have r1 := R1.irow.below hb2
    have r2 := R2.irow.below hb2
    replace hbw := chain hbw hb2
    clear R1 R2 hb2 hz
    obtain ⟨x0, x1, x2, x3, xf, xl⟩ := BV.four; obtain ⟨y0, y1, yf, yl⟩ := BB.two; obtain ⟨u0, u1, uf, ul⟩ := BR.two
    have hip := fun W (q1 : IRow W (some ⟨g1, 0, none⟩) xs) (q2 : IRow W (some ⟨g2, 0, none⟩) ys) => implAllPlays_any ra rb p c h s _ _ _ _ c1 c2 xs ys W rfl rfl l1 l2 q1 q2
    have hsp := fun W (q1 : IRow W (some ⟨g1, 0, none⟩) xs) (q2 : IRow W (some ⟨g2, 0, none⟩) ys) => specAllPlays_any ra rb p c h s _ _ _ _ c1 c2 xs ys W rfl rfl l1 l2 q1 q2
    have hb := Below.refl (((w1.alloc (.cells #[.int .i64 p, .int .i64 c, .int .i64 h, .int .i64 s] 25)).alloc (.cells #[.slice (some ⟨g1, 0, none⟩) xs.length c1, .slice (some ⟨g2, 0, none⟩) ys.length c2] 28)).alloc (.cells #[.int .i64 ra, .int .i64 rb] 30)).heap.size (((w1.alloc (.cells #[.int .i64 p, .int .i64 c, .int .i64 h, .int .i64 s] 25)).alloc (.cells #[.slice (some ⟨g1, 0, none⟩) xs.length c1, .slice (some ⟨g2, 0, none⟩) ys.length c2] 28)).alloc (.cells #[.int .i64 ra, .int .i64 rb] 30))
    by_cases k0 : apC p c h s xs ys ra rb = 0
    · rw [k0] at hip hsp
      have kc : codeB p c h s xs ys ra rb = 0 := by
        unfold apC at k0
        by_cases q : codeB p c h s xs ys ra rb = 0
        · exact q
        · rw [if_neg q] at k0; exact absurd k0 q
      obtain ⟨gi, grl⟩ := codeB_zero kc
      have kk : allOk p.toNat h xs ys ra rb = true := by
        unfold apC at k0
        rw [if_pos kc] at k0
        by_cases q : allOk p.toNat h xs ys ra rb = true
        · exact q
        · rw [if_neg q] at k0; cases k0
      obtain ⟨P, rfl⟩ := Int.eq_ofNat_of_zero_le (by have := (isB_parts gi).1; omega : 0 ≤ p)
      obtain ⟨ga, gb_⟩ := rlB_two grl
      have hst : ∀ q ∈ apL (P : Int) c h s xs ys ra rb, q.1.length = usedP P h xs ys ra rb ∧ psR (P : Int) c h s xs ys ra rb q.1 = some q.2 := fun q hq => by
        unfold apL at hq
        rw [if_pos kc, if_pos kk] at hq
        have q1 := play_steps gi ga gb_ q hq
        refine ⟨q1.1, ?_⟩
        unfold psR
        rw [if_pos kc]
        exact q1.2
      have hdist : Dist (apL (P : Int) c h s xs ys ra rb) := by
        unfold apL
        rw [if_pos kc, if_pos kk]
        exact allP_dist _ _ _ _ _ _
      have hpos : 1 ≤ ((apL (P : Int) c h s xs ys ra rb).length : Int) := by
        unfold apL
        rw [if_pos kc, if_pos kk]
        exact allP_pos _ _ _ _ _ _
      have hlen : (apL (P : Int) c h s xs ys ra rb).length ≤ 781250 := by
        unfold apL
        rw [if_pos kc, if_pos kk]
        unfold allP
        have q := allTo_length P h xs ys (usedP P h xs ys ra rb) 390625 (ordersP ra rb) (fun o ho => by obtain ⟨j, hj⟩ := List.getElem?_of_mem ho; exact longP_four (by have := (isB_parts gi).2.1; omega) h o xs ys (ordersP_mem ga gb_ hj).1) (ordersP ra rb).length
        have q2 := ordersP_length ra rb
        have q3 : (ordersP ra rb).length * 390625 ≤ 2 * 390625 := Nat.mul_le_mul_right _ q2
        simp only [show ((P : Nat) : Int).toNat = P from rfl]
        omega
      have hsm := apL_small (p := (P : Int)) (c := c) (h := h) (s := s) (xs := xs) (ys := ys) (ra := ra) (rb := rb)
      have hdu := fun W (q1 : IRow W (some ⟨g1, 0, none⟩) xs) (q2 : IRow W (some ⟨g2, 0, none⟩) ys) => implDiceUsed_any ra rb (P : Int) c h s _ _ _ _ c1 c2 xs ys W rfl rfl l1 l2 q1 q2
      unfold duV at hdu
      simp only [if_pos gi, if_pos grl] at hdu
      have hif := fun W (q1 : IRow W (some ⟨g1, 0, none⟩) xs) (q2 : IRow W (some ⟨g2, 0, none⟩) ys) => implIsForced_any ra rb (P : Int) c h s _ _ _ _ c1 c2 xs ys W rfl rfl l1 l2 q1 q2
      unfold ifV at hif
      simp only [k0] at hif
      have hfp := fun b1 b2 d1 d2 (us vs : List Int) (hu : us.length ≤ 1048576) (hv : vs.length ≤ 1048576) W (q1 : IRow W (some ⟨g1, 0, none⟩) xs) (q2 : IRow W (some ⟨g2, 0, none⟩) ys) (s1 : IRow W b1 us) (s2 : IRow W b2 vs) => implFindPlay_any ra rb (P : Int) c h s _ _ _ _ c1 c2 xs ys b1 b2 _ _ d1 d2 us vs W rfl rfl l1 l2 q1 q2 rfl rfl hu hv s1 s2
      unfold fpV at hfp
      simp only [if_pos k0] at hfp
      have hps := fun at_ nt ct ts W (q1 : IRow W (some ⟨g1, 0, none⟩) xs) (q2 : IRow W (some ⟨g2, 0, none⟩) ys) hts hle rt => implPlaySteps_any (P : Int) c h s _ _ _ _ c1 c2 xs ys ra rb at_ nt ct ts W rfl rfl l1 l2 q1 q2 hts hle rt
      have hU4 : usedP P h xs ys ra rb ≤ 4 := by rw [← usedTo_all]; exact usedTo_le P h xs ys ra rb _
      simp only [show ((P : Nat) : Int).toNat = P from rfl] at hdu
      obtain ⟨AP, hAP⟩ : ∃ z, apL (P : Int) c h s xs ys ra rb = z := ⟨_, rfl⟩
      rw [hAP] at hip hsp hst hdist hpos hsm hlen
      simp only [hAP] at hif hfp
      obtain ⟨U, hU⟩ : ∃ z, usedP P h xs ys ra rb = z := ⟨_, rfl⟩
      rw [hU] at hst hU4
      simp only [hU] at hdu
      have hposi : ∀ l : List PP, l.map Prod.snd = AP → ((l.length : Int) == 0) = false := fun l hl => by
        rw [beq_eq_false_iff_ne]
        have := congrArg List.length hl
        rw [List.length_map] at this
        omega
      have hforc : ∀ l : List PP, l.map Prod.snd = AP → decide (AP.length = 1) = ((l.length : Int) == 1) := fun l hl => by
        have := congrArg List.length hl
        rw [List.length_map] at this
        rw [← this, Bool.eq_iff_iff, decide_eq_true_eq, beq_iff_eq]
        omega
      have HIP := Lib.hid hip
      have HSP := Lib.hid hsp
      have HDU := Lib.hid hdu
      have HIF := Lib.hid hif
      have HFP0 := Lib.hid hfp
      have HPS0 := Lib.hid hps
      have HST := Lib.hid hst
      have HDI := Lib.hid hdist
      have HPO := Lib.hid hpos
      have HSM := Lib.hid hsm
      have HLEN := Lib.hid hlen
      have HPOSI := Lib.hid hposi
      have HFORC := Lib.hid hforc
      clear hip hsp hdu hif hfp hps hst hdist hpos hsm hlen hposi hforc k0 kc kk gi grl ga gb_ hAP hU
      go_wp2_with fail
      generalize (((w1.alloc (.cells #[.int .i64 (P : Int), .int .i64 c, .int .i64 h, .int .i64 s] 25)).alloc (.cells #[.slice (some ⟨g1, 0, none⟩) xs.length c1, .slice (some ⟨g2, 0, none⟩) ys.length c2] 28)).alloc (.cells #[.int .i64 ra, .int .i64 rb] 30)) = v1 at *
      go_wp2_with (first | (go_at_call 7; refine (HIP.out _ (r1.below hb) (r2.below hb)).mono ?_; rintro e wq ⟨aI, kI, lI, rfl, hmI, OI, PI, hbq⟩; have HMI := Lib.hid hmI; clear hmI HIP; clear x0 x1 x2 x3 xf xl y0 y1 yf yl u0 u1 uf ul; replace BV := BV.below hbq; replace BB := BB.below hbq; replace BR := BR.below hbq; replace hb := chain hb hbq; clear hbq; obtain ⟨x0, x1, x2, x3, xf, xl⟩ := BV.four; obtain ⟨y0, y1, yf, yl⟩ := BB.two; obtain ⟨u0, u1, uf, ul⟩ := BR.two) | (go_at_call 8; refine (HSP.out _ (r1.below hb) (r2.below hb)).mono ?_; rintro e wq ⟨aS, kS, lS, rfl, hmS, OS, PS, hbq⟩; have HMS := Lib.hid hmS; have fl : ((lI.length : Int) != (lS.length : Int)) = false := (by rw [bne_eq_false_iff_eq, show lI.length = lS.length from (by have q1 := congrArg List.length HMI.out; have q2 := congrArg List.length hmS; rw [List.length_map] at q1 q2; omega)]); clear hmS HSP; clear x0 x1 x2 x3 xf xl y0 y1 yf yl u0 u1 uf ul; replace BV := BV.below hbq; replace BB := BB.below hbq; replace BR := BR.below hbq; replace OI := OI.below hbq; replace PI := PI.below hbq; replace hb := chain hb hbq; clear hbq; obtain ⟨x0, x1, x2, x3, xf, xl⟩ := BV.four; obtain ⟨y0, y1, yf, yl⟩ := BB.two; obtain ⟨u0, u1, uf, ul⟩ := BR.two) | (go_at_call 9; refine (HDU.out _ (r1.below hb) (r2.below hb)).mono ?_; rintro e wq ⟨rfl, hbq⟩; clear HDU; clear x0 x1 x2 x3 xf xl y0 y1 yf yl u0 u1 uf ul; replace BV := BV.below hbq; replace BB := BB.below hbq; replace BR := BR.below hbq; replace OI := OI.below hbq; replace PI := PI.below hbq; replace OS := OS.below hbq; replace PS := PS.below hbq; replace hb := chain hb hbq; clear hbq; obtain ⟨x0, x1, x2, x3, xf, xl⟩ := BV.four; obtain ⟨y0, y1, yf, yl⟩ := BB.two; obtain ⟨u0, u1, uf, ul⟩ := BR.two) | (go_at_call 10; refine (HIF.out _ (r1.below hb) (r2.below hb)).mono ?_; rintro e wq ⟨rfl, hbq⟩; have fp := HPOSI.out lI HMI.out; have ff := HFORC.out lI HMI.out; clear HIF; clear x0 x1 x2 x3 xf xl y0 y1 yf yl u0 u1 uf ul; replace BV := BV.below hbq; replace BB := BB.below hbq; replace BR := BR.below hbq; replace OI := OI.below hbq; replace PI := PI.below hbq; replace OS := OS.below hbq; replace PS := PS.below hbq; replace hb := chain hb hbq; clear hbq; obtain ⟨x0, x1, x2, x3, xf, xl⟩ := BV.four; obtain ⟨y0, y1, yf, yl⟩ := BB.two; obtain ⟨u0, u1, uf, ul⟩ := BR.two))
      clear x0 x1 x2 x3 xf xl y0 y1 yf yl u0 u1 uf ul
      clear fp ff fl
      have hlI : lI.length = AP.length := by have q := congrArg List.length HMI.out; rwa [List.length_map] at q
      have hlS : lS.length = AP.length := by have q := congrArg List.length HMS.out; rwa [List.length_map] at q
      have HLI := Lib.hid (And.intro hlI hlS)
      clear hlI hlS
      obtain ⟨loI, hiI, OI, PI⟩ : ∃ lo hi, OPl lo hi wq aI lI ∧ PAll lo hi wq lI := ⟨_, _, OI, PI⟩
      obtain ⟨loS, hiS, OS, PS⟩ : ∃ lo hi, OPl lo hi wq aS lS ∧ PAll lo hi wq lS := ⟨_, _, OS, PS⟩
      go_loopg [14] lI.length (fun m i wr => ∃ k : Nat, k ≤ lI.length ∧ m = lI.length - k ∧ i = .int .i64 k ∧ Blk wr w1.heap.size #[.int .i64 (P : Int), .int .i64 c, .int .i64 h, .int .i64 s] 25 ∧ Blk wr (w1.heap.size + 1) #[.slice (some ⟨g1, 0, none⟩) xs.length c1, .slice (some ⟨g2, 0, none⟩) ys.length c2] 28 ∧ Blk wr (w1.heap.size + 1 + 1) #[.int .i64 ra, .int .i64 rb] 30 ∧ OPl loI hiI wr aI lI ∧ PAll loI hiI wr lI ∧ OPl loS hiS wr aS lS ∧ PAll loS hiS wr lS ∧ Below v1.heap.size v1 wr)
      case atStart => exact ⟨0, by omega, by omega, rfl, BV, BB, BR, OI, PI, OS, PS, hb⟩
      case round =>
        clear BV BB BR OI PI OS PS hb
        obtain ⟨k, hk, hm, rfl, BV, BB, BR, OI, PI, OS, PS, hb⟩ := hrel
        by_cases hlt : k < lI.length
        · have hlt' : (k : Int) < (lI.length : Int) := by omega
          have hltS : (k : Int) < (lS.length : Int) := by have := HLI.out; omega
          have hk0 : (0 : Int) ≤ (k : Int) := by omega
          have hkb : (k : Int) ≤ 781250 := by have := HLEN.out; have := HLI.out; omega
          obtain ⟨gI, rfl, rI⟩ := OI.row hlt
          obtain ⟨gS, rfl, rS⟩ := OS.row (show k < lS.length by have := HLI.out; omega)
          obtain ⟨⟨⟨sa, sc, b1, k1, b2, k2⟩, st, X, Y⟩, hxI⟩ : ∃ x, lI[k]? = some x := ⟨lI[k]'hlt, List.getElem?_eq_getElem hlt⟩
          obtain ⟨⟨⟨sa2, sc2, e1, m1, e2, m2⟩, q2⟩, hxS⟩ : ∃ x, lS[k]? = some x := ⟨_, List.getElem?_eq_getElem (show k < lS.length by have := HLI.out; omega)⟩
          have hq2 : q2 = (st, X, Y) := by
            have t1 : (lI.map Prod.snd)[k]? = some (st, X, Y) := by rw [List.getElem?_map, hxI]; rfl
            have t2 : (lS.map Prod.snd)[k]? = some q2 := by rw [List.getElem?_map, hxS]; rfl
            rw [HMI.out] at t1
            rw [HMS.out, t1] at t2
            exact (Option.some.inj t2).symm
          subst hq2
          have hAk : (st, X, Y) ∈ AP := by
            have t1 : (lI.map Prod.snd)[k]? = some (st, X, Y) := by rw [List.getElem?_map, hxI]; rfl
            rw [HMI.out] at t1
            exact List.mem_of_getElem? t1
          obtain ⟨lX, lY⟩ := HSM.out _ hAk
          obtain ⟨hsu, hpr⟩ := HST.out _ hAk
          dsimp only at lX lY hsu hpr
          obtain ⟨c0_, c1_, c2_⟩ := PRow.three rI k _ hxI
          obtain ⟨-, d1_, d2_⟩ := PRow.three rS k _ hxS
          have QA := PI _ (List.mem_of_getElem? hxI)
          have QI := QA.2
          have QT := QA.1
          have QS := (PS _ (List.mem_of_getElem? hxS)).2
          dsimp only at QI QT QS
          have hc0 : CellIs wr gI (k * 3) (.slice sa st.length sc) := c0_
          have hc1 : CellIs wr gI (k * 3 + 1) (.slice b1 X.length k1) := c1_
          have hc2 : CellIs wr gI (k * 3 + 2) (.slice b2 Y.length k2) := c2_
          have hd1 : CellIs wr gS (k * 3 + 1) (.slice e1 X.length m1) := d1_
          have hd2 : CellIs wr gS (k * 3 + 2) (.slice e2 Y.length m2) := d2_
          have hps := fun W (hW : Below wr.heap.size wr W) => HPS0.out sa st.length sc st W (r1.below (chain hb hW)) (r2.below (chain hb hW)) rfl (by omega) (fun q => by
            rcases QT.below hW with ⟨-, e⟩ | ⟨gt, e, -, -, r⟩
            · rw [e] at q; simp at q
            · exact ⟨gt, e, r⟩)
          unfold PsGot at hps
          simp only [hpr] at hps
          have f2 : ((st.length : Int) != (U : Int)) = false := by rw [bne_eq_false_iff_eq, hsu]
          have HPS := Lib.hid hps
          clear hps hpr hsu hAk hxI hxS rI rS c0_ c1_ c2_ d1_ d2_ QA QT
          go_wp2_with fail
          go_upto_region 17 with (fail)
          go_cut [15, 16] from 92 to 103 (fun q15 q16 wc_ => ∃ g8 j1 j2, q15 = .pointer (some ⟨g8, 0, none⟩) ∧ q16 = .int .i64 0 ∧ Blk wc_ g8 #[.slice (some ⟨j1, 0, none⟩) X.length X.length, .slice (some ⟨j2, 0, none⟩) Y.length Y.length] 28 ∧ Row wc_ j1 X ∧ Row wc_ j2 Y ∧ Below wr.heap.size wr wc_)
          case first =>
            refine wp_region_held_drew (S := fun w' => w'.cell? ⟨w1.heap.size, 0, none⟩ = some (.int .i64 (P : Int)) ∧ w'.cell? ⟨w1.heap.size, 1, none⟩ = some (.int .i64 c) ∧ w'.cell? ⟨w1.heap.size, 2, none⟩ = some (.int .i64 h) ∧ w'.cell? ⟨w1.heap.size, 3, none⟩ = some (.int .i64 s) ∧ w'.cell? ⟨(w1.heap.size + 1), 0, none⟩ = some (.slice (some ⟨g1, 0, none⟩) xs.length c1) ∧ w'.cell? ⟨(w1.heap.size + 1), 1, none⟩ = some (.slice (some ⟨g2, 0, none⟩) ys.length c2) ∧ w'.cell? ⟨(w1.heap.size + 1 + 1), 0, none⟩ = some (.int .i64 ra) ∧ w'.cell? ⟨(w1.heap.size + 1 + 1), 1, none⟩ = some (.int .i64 rb) ∧ w'.cell? ⟨gI, k * 3, none⟩ = some (.slice sa st.length sc)) (by kernel_rfl) ⟨(BV.below (Below.refl _ _).drew).four.1, (BV.below (Below.refl _ _).drew).four.2.1, (BV.below (Below.refl _ _).drew).four.2.2.1, (BV.below (Below.refl _ _).drew).four.2.2.2.1, (BB.below (Below.refl _ _).drew).two.1, (BB.below (Below.refl _ _).drew).two.2.1, (BR.below (Below.refl _ _).drew).two.1, (BR.below (Below.refl _ _).drew).two.2.1, CellIs.below hc0 (Below.refl _ _).drew⟩ (fun hHeld => ?_)
            clear hHeld
            have hbr : Below wr.heap.size wr wr.drew := (Below.refl _ _).drew
            generalize wr.drew = vd at *
            have hHeld : vd.cell? ⟨w1.heap.size, 0, none⟩ = some (.int .i64 (P : Int)) ∧ vd.cell? ⟨w1.heap.size, 1, none⟩ = some (.int .i64 c) ∧ vd.cell? ⟨w1.heap.size, 2, none⟩ = some (.int .i64 h) ∧ vd.cell? ⟨w1.heap.size, 3, none⟩ = some (.int .i64 s) ∧ vd.cell? ⟨(w1.heap.size + 1), 0, none⟩ = some (.slice (some ⟨g1, 0, none⟩) xs.length c1) ∧ vd.cell? ⟨(w1.heap.size + 1), 1, none⟩ = some (.slice (some ⟨g2, 0, none⟩) ys.length c2) ∧ vd.cell? ⟨(w1.heap.size + 1 + 1), 0, none⟩ = some (.int .i64 ra) ∧ vd.cell? ⟨(w1.heap.size + 1 + 1), 1, none⟩ = some (.int .i64 rb) ∧ vd.cell? ⟨gI, k * 3, none⟩ = some (.slice sa st.length sc) := ⟨(BV.below hbr).four.1, (BV.below hbr).four.2.1, (BV.below hbr).four.2.2.1, (BV.below hbr).four.2.2.2.1, (BB.below hbr).two.1, (BB.below hbr).two.2.1, (BR.below hbr).two.1, (BR.below hbr).two.2.1, CellIs.below hc0 hbr⟩
            refine tk 0 93 ?_
            refine tk 1 94 ?_
            refine tk 2 95 ?_
            refine tk 3 96 ?_
            refine tk 4 97 ?_
            refine tk 5 98 ?_
            refine tk 6 99 ?_
            refine tk 7 100 ?_
            refine wpAnyH_ready (rs := [8, 12]) (by kernel_rfl) (by simp) ?_
            refine AllReadyH.cons (o := ⟨some 101, _, _, _, _, _⟩) rfl (fun K hK => ?_) (AllReadyH.cons (o := ⟨some 15, _, _, _, _, _⟩) rfl (fun K hK => ?_) AllReadyH.nil)
            · go_simp
              refine (HPS.out _ hbr).mono ?_
              rintro e w7 ⟨j1, j2, rfl, hj1, hj2, hne, R1_, R2_, hb7⟩
              have hz7 := hbr.size
              replace hbr := chain hbr hb7
              clear hb7
              (try go_wp2_with fail)
              refine hko hK (Blk.f4 (BV.below hbr) (Blk.f2 (BB.below hbr) (Blk.f2 (BR.below hbr) (CellIs.below hc0 hbr)))) fun hHeld => ?_
              clear hK K
              refine tk 9 92 ?_
              refine tk 10 102 ?_
              refine tk 11 103 ?_
              refine rdk 12 15 fun K hK => ?_
              go_simp
              have hal : Below w7.heap.size w7 (w7.alloc (.cells #[.slice none 0 0, .slice none 0 0] 28)) := (Below.refl _ _).alloc (Nat.le_refl _) _
              have h8 := hbr.size
              (try go_wp2_with fail)
              refine hko hK (Blk.f4 (BV.below (chain hbr hal)) (Blk.f2 (BB.below (chain hbr hal)) (Blk.f2 (BR.below (chain hbr hal)) (CellIs.below hc0 (chain hbr hal))))) fun hHeld => ?_
              clear hK K
              have B8 := Blk.new w7 #[.slice none 0 0, .slice none 0 0] 28
              replace R1_ := R1_.below hal
              replace R2_ := R2_.below hal
              replace hbr := chain hbr hal
              clear hal
              generalize w7.alloc (.cells #[.slice none 0 0, .slice none 0 0] 28) = wA at *
              generalize w7.heap.size = g8 at *
              refine rdn 13 fun K hK => ?_
              clear hHeld
              obtain ⟨t0, t1, tf, tl⟩ := B8.two
              have n81 := rowNe R1_ B8 (by decide)
              have n82 := rowNe R2_ B8 (by decide)
              have SR1 := (R1_.other (g := g8) (o := 0) (v := (.slice (some ⟨j1, 0, none⟩) X.length X.length)) n81).other (g := g8) (o := 1) (v := (.slice (some ⟨j2, 0, none⟩) Y.length Y.length)) n81
              have SR2 := (R2_.other (g := g8) (o := 0) (v := (.slice (some ⟨j1, 0, none⟩) X.length X.length)) n82).other (g := g8) (o := 1) (v := (.slice (some ⟨j2, 0, none⟩) Y.length Y.length)) n82
              have Shb := (hbr.setCell (p := ⟨g8, 0, none⟩) (by simp; omega) (.slice (some ⟨j1, 0, none⟩) X.length X.length)).setCell (p := ⟨g8, 1, none⟩) (by simp; omega) (.slice (some ⟨j2, 0, none⟩) Y.length Y.length)
              have SB8 := (B8.set (i := 0) (.slice (some ⟨j1, 0, none⟩) X.length X.length)).set (i := 1) (.slice (some ⟨j2, 0, none⟩) Y.length Y.length)
              simp only [List.setIfInBounds_toArray, List.set_cons_zero, List.set_cons_succ] at SB8
              go_simp
              (try go_wp2_with fail)
              refine hko hK (Blk.f4 (BV.below Shb) (Blk.f2 (BB.below Shb) (Blk.f2 (BR.below Shb) (CellIs.below hc0 Shb)))) fun hHeld => ?_
              clear hK K
              clear t0 t1 tf tl hbr B8 n81 n82 R1_ R2_
              generalize ((wA.setCell ⟨g8, 0, none⟩ (.slice (some ⟨j1, 0, none⟩) X.length X.length)).setCell ⟨g8, 1, none⟩ (.slice (some ⟨j2, 0, none⟩) Y.length Y.length)) = wS at *
              refine tk 14 16 ?_
              refine wpAnyH_done (by kernel_rfl) ?_ _
              clear hHeld
              (try go_wp2_with fail)
              go_meet
              case rel => exact ⟨g8, j1, j2, rfl, rfl, SB8, SR1, SR2, Shb⟩
            · go_simp
              have hal : Below vd.heap.size vd (vd.alloc (.cells #[.slice none 0 0, .slice none 0 0] 28)) := (Below.refl _ _).alloc (Nat.le_refl _) _
              have h8 := hbr.size
              (try go_wp2_with fail)
              refine hko hK (Blk.f4 (BV.below (chain hbr hal)) (Blk.f2 (BB.below (chain hbr hal)) (Blk.f2 (BR.below (chain hbr hal)) (CellIs.below hc0 (chain hbr hal))))) fun hHeld => ?_
              clear hK K
              have B8 := Blk.new vd #[.slice none 0 0, .slice none 0 0] 28
              replace hbr := chain hbr hal
              clear hal
              generalize vd.alloc (.cells #[.slice none 0 0, .slice none 0 0] 28) = wA at *
              generalize vd.heap.size = g8 at *
              refine rdk 8 101 fun K hK => ?_
              go_simp
              refine (HPS.out _ hbr).mono ?_
              rintro e w7 ⟨j1, j2, rfl, hj1, hj2, hne, R1_, R2_, hb7⟩
              have hz7 := hbr.size
              replace B8 := B8.below hb7
              replace hbr := chain hbr hb7
              clear hb7
              (try go_wp2_with fail)
              refine hko hK (Blk.f4 (BV.below hbr) (Blk.f2 (BB.below hbr) (Blk.f2 (BR.below hbr) (CellIs.below hc0 hbr)))) fun hHeld => ?_
              clear hK K
              refine tk 9 92 ?_
              refine tk 10 102 ?_
              refine tk 11 103 ?_
              refine rdn 13 fun K hK => ?_
              clear hHeld
              obtain ⟨t0, t1, tf, tl⟩ := B8.two
              have n81 := rowNe R1_ B8 (by decide)
              have n82 := rowNe R2_ B8 (by decide)
              have SR1 := (R1_.other (g := g8) (o := 0) (v := (.slice (some ⟨j1, 0, none⟩) X.length X.length)) n81).other (g := g8) (o := 1) (v := (.slice (some ⟨j2, 0, none⟩) Y.length Y.length)) n81
              have SR2 := (R2_.other (g := g8) (o := 0) (v := (.slice (some ⟨j1, 0, none⟩) X.length X.length)) n82).other (g := g8) (o := 1) (v := (.slice (some ⟨j2, 0, none⟩) Y.length Y.length)) n82
              have Shb := (hbr.setCell (p := ⟨g8, 0, none⟩) (by simp; omega) (.slice (some ⟨j1, 0, none⟩) X.length X.length)).setCell (p := ⟨g8, 1, none⟩) (by simp; omega) (.slice (some ⟨j2, 0, none⟩) Y.length Y.length)
              have SB8 := (B8.set (i := 0) (.slice (some ⟨j1, 0, none⟩) X.length X.length)).set (i := 1) (.slice (some ⟨j2, 0, none⟩) Y.length Y.length)
              simp only [List.setIfInBounds_toArray, List.set_cons_zero, List.set_cons_succ] at SB8
              go_simp
              (try go_wp2_with fail)
              refine hko hK (Blk.f4 (BV.below Shb) (Blk.f2 (BB.below Shb) (Blk.f2 (BR.below Shb) (CellIs.below hc0 Shb)))) fun hHeld => ?_
              clear hK K
              clear t0 t1 tf tl hbr B8 n81 n82 R1_ R2_
              generalize ((w7.setCell ⟨g8, 0, none⟩ (.slice (some ⟨j1, 0, none⟩) X.length X.length)).setCell ⟨g8, 1, none⟩ (.slice (some ⟨j2, 0, none⟩) Y.length Y.length)) = wS at *
              refine tk 14 16 ?_
              refine wpAnyH_done (by kernel_rfl) ?_ _
              clear hHeld
              (try go_wp2_with fail)
              go_meet
              case rel => exact ⟨g8, j1, j2, rfl, rfl, SB8, SR1, SR2, Shb⟩
          case rest =>
            obtain ⟨g8, j1, j2, rfl, rfl, B8, R1_, R2_, hbr⟩ := hcut
            rename World => wc_
            replace BV := BV.below hbr
            replace BB := BB.below hbr
            replace BR := BR.below hbr
            replace OI := OI.below hbr
            replace PI := PI.below hbr
            replace OS := OS.below hbr
            replace PS := PS.below hbr
            replace QI := QI.below hbr
            replace QS := QS.below hbr
            replace hc0 := CellIs.below hc0 hbr
            replace hc1 := CellIs.below hc1 hbr
            replace hc2 := CellIs.below hc2 hbr
            replace hd1 := CellIs.below hd1 hbr
            replace hd2 := CellIs.below hd2 hbr
            replace hb := chain hb hbr
            clear hbr HPS
            go_wp2_with fail
            have hd_ : wc_.drew.heap.size = wc_.heap.size := rfl
            replace B8 := B8.drew
            replace BV := BV.drew
            replace BB := BB.drew
            replace BR := BR.drew
            replace OI := OI.drew
            replace PI := PI.drew
            replace OS := OS.drew
            replace PS := PS.drew
            replace QI := QI.drew
            replace QS := QS.drew
            replace R1_ := R1_.drew
            replace R2_ := R2_.drew
            replace hb := hb.drew
            replace hc0 := CellIs.drew hc0
            replace hc1 := CellIs.drew hc1
            replace hc2 := CellIs.drew hc2
            replace hd1 := CellIs.drew hd1
            replace hd2 := CellIs.drew hd2
            refine wp_region_held_drew (S := fun w' => w'.cell? ⟨g8, 0, none⟩ = some (.slice (some ⟨j1, 0, none⟩) X.length X.length) ∧ w'.cell? ⟨g8, 1, none⟩ = some (.slice (some ⟨j2, 0, none⟩) Y.length Y.length) ∧ w'.cell? ⟨gI, k * 3, none⟩ = some (.slice sa st.length sc) ∧ w'.cell? ⟨gI, k * 3 + 1, none⟩ = some (.slice b1 X.length k1) ∧ w'.cell? ⟨gI, k * 3 + 2, none⟩ = some (.slice b2 Y.length k2) ∧ w'.cell? ⟨gS, k * 3 + 1, none⟩ = some (.slice e1 X.length m1) ∧ w'.cell? ⟨gS, k * 3 + 2, none⟩ = some (.slice e2 Y.length m2)) (by kernel_rfl) ⟨B8.two.1, B8.two.2.1, hc0, hc1, hc2, hd1, hd2⟩ (fun hHeld => ?_)
            clear hHeld
            generalize wc_.drew = vd at *
            have hHeld : vd.cell? ⟨g8, 0, none⟩ = some (.slice (some ⟨j1, 0, none⟩) X.length X.length) ∧ vd.cell? ⟨g8, 1, none⟩ = some (.slice (some ⟨j2, 0, none⟩) Y.length Y.length) ∧ vd.cell? ⟨gI, k * 3, none⟩ = some (.slice sa st.length sc) ∧ vd.cell? ⟨gI, k * 3 + 1, none⟩ = some (.slice b1 X.length k1) ∧ vd.cell? ⟨gI, k * 3 + 2, none⟩ = some (.slice b2 Y.length k2) ∧ vd.cell? ⟨gS, k * 3 + 1, none⟩ = some (.slice e1 X.length m1) ∧ vd.cell? ⟨gS, k * 3 + 2, none⟩ = some (.slice e2 Y.length m2) := ⟨B8.two.1, B8.two.2.1, hc0, hc1, hc2, hd1, hd2⟩
            refine tk 0 104 ?_
            refine tk 1 105 ?_
            refine tk 2 106 ?_
            refine tk 3 107 ?_
            refine tk 4 108 ?_
            refine tk 5 109 ?_
            refine tk 6 110 ?_
            refine tk 7 111 ?_
            refine tk 8 112 ?_
            refine rdk 9 113 fun K hK => ?_
            go_simp
            refine (w9Boards_same _ _ _ _ _ _ _ _ _ _ X Y _ rfl rfl lX lY R1_.irow R2_.irow QI.irow1 QI.irow2).mono ?_
            rintro e wn1 ⟨rfl, hbn1⟩
            replace BV := BV.below hbn1
            replace BB := BB.below hbn1
            replace BR := BR.below hbn1
            replace OI := OI.below hbn1
            replace PI := PI.below hbn1
            replace OS := OS.below hbn1
            replace PS := PS.below hbn1
            replace QI := QI.below hbn1
            replace QS := QS.below hbn1
            replace R1_ := R1_.below hbn1
            replace R2_ := R2_.below hbn1
            replace B8 := B8.below hbn1
            replace hc0 := CellIs.below hc0 hbn1
            replace hc1 := CellIs.below hc1 hbn1
            replace hc2 := CellIs.below hc2 hbn1
            replace hd1 := CellIs.below hd1 hbn1
            replace hd2 := CellIs.below hd2 hbn1
            replace hb := chain hb hbn1
            clear hbn1
            (try go_wp2_with fail)
            refine hko hK (Blk.f2 B8 ⟨hc0, hc1, hc2, hd1, hd2⟩) fun hHeld => ?_
            clear hK K
            refine tk 10 114 ?_
            refine tk 11 115 ?_
            refine tk 12 116 ?_
            refine tk 13 117 ?_
            refine tk 14 118 ?_
            refine tk 15 119 ?_
            refine tk 16 120 ?_
            refine tk 17 121 ?_
            refine tk 18 122 ?_
            refine tk 19 123 ?_
            refine tk 20 124 ?_
            refine tk 21 125 ?_
            refine tk 22 126 ?_
            refine tk 23 127 ?_
            refine tk 24 128 ?_
            refine tk 25 129 ?_
            refine tk 26 130 ?_
            refine tk 27 131 ?_
            refine tk 28 132 ?_
            refine rdk 29 133 fun K hK => ?_
            go_simp
            refine (w9Boards_same _ _ _ _ _ _ _ _ _ _ X Y _ rfl rfl lX lY R1_.irow R2_.irow QS.irow1 QS.irow2).mono ?_
            rintro e wn2 ⟨rfl, hbn2⟩
            replace BV := BV.below hbn2
            replace BB := BB.below hbn2
            replace BR := BR.below hbn2
            replace OI := OI.below hbn2
            replace PI := PI.below hbn2
            replace OS := OS.below hbn2
            replace PS := PS.below hbn2
            replace QI := QI.below hbn2
            replace QS := QS.below hbn2
            replace R1_ := R1_.below hbn2
            replace R2_ := R2_.below hbn2
            replace B8 := B8.below hbn2
            replace hc0 := CellIs.below hc0 hbn2
            replace hc1 := CellIs.below hc1 hbn2
            replace hc2 := CellIs.below hc2 hbn2
            replace hd1 := CellIs.below hd1 hbn2
            replace hd2 := CellIs.below hd2 hbn2
            replace hb := chain hb hbn2
            clear hbn2
            (try go_wp2_with fail)
            refine hko hK (Blk.f2 B8 ⟨hc0, hc1, hc2, hd1, hd2⟩) fun hHeld => ?_
            clear hK K
            refine tk 30 134 ?_
            refine tk 31 135 ?_
            refine wpAnyH_done (by kernel_rfl) ?_ _
            clear hHeld
            go_wp2_with fail
            go_roundg (lI.length - (k + 1))
            case measure => omega
            case rel => exact ⟨k + 1, by omega, rfl, by go_num, BV, BB, BR, OI, PI, OS, PS, hb⟩
        · obtain rfl : k = lI.length := by omega
          have hlt' : ¬ ((lI.length : Nat) : Int) < (lI.length : Int) := by omega
          have hbW := chain hbw hb
          have hszW := hbW.size
          have hcW := hcode.below hbW
          clear OS PS
          go_wp2_with fail
          refine (rollCode_dice w.heap.size a len cap 8501 _ hszW (by omega) hcW).mono ?_
          rintro e wa ⟨rfl, ⟨hh, BD⟩, hba⟩
          have hcA := hcW.below (hba.mono hszW)
          go_wp2_with fail
          refine (below_any w.heap.size wr.heap.size a len cap 0 hh (lI.length : Int) _ hszW (by omega) (by have := HPO.out; have := HLI.out; omega) hcA BD).mono ?_
          rintro e wb ⟨R_, rfl, q0, q1, hbb⟩
          obtain ⟨R, rfl⟩ := Int.eq_ofNat_of_zero_le q0
          have hbt := hba.trans hbb
          replace BV := BV.below hbt
          replace BB := BB.below hbt
          replace BR := BR.below hbt
          replace OI := OI.below hbt
          replace PI := PI.below hbt
          replace hb := chain hb hbt
          clear hba hbb hbt BD hcA hcW
          have hlt2 : R < lI.length := by omega
          have hlt2' : (R : Int) < (lI.length : Int) := by omega
          have hk0 : (0 : Int) ≤ (R : Int) := by omega
          obtain ⟨gI, rfl, rI⟩ := OI.row hlt2
          obtain ⟨⟨⟨sa, sc, b1, k1, b2, k2⟩, st, X, Y⟩, hxI⟩ : ∃ x, lI[R]? = some x := ⟨lI[R]'hlt2, List.getElem?_eq_getElem hlt2⟩
          have hAk : AP[R]? = some (st, X, Y) := by
            rw [← HMI.out, List.getElem?_map, hxI]
            rfl
          obtain ⟨lX, lY⟩ := HSM.out _ (List.mem_of_getElem? hAk)
          have hfi := findP_at AP 0 R _ HDI.out hAk
          dsimp only at lX lY hfi
          rw [Nat.zero_add] at hfi
          have hfp := HFP0.out b1 b2 k1 k2 X Y lX lY
          simp only [hfi, if_neg (show ¬ ((R : Nat) : Int) < 0 by omega)] at hfp
          have HFP := Lib.hid hfp
          obtain ⟨-, c1_, c2_⟩ := PRow.three rI R _ hxI
          have QI := (PI _ (List.mem_of_getElem? hxI)).2
          dsimp only at QI
          have hc1 : CellIs wb gI (R * 3 + 1) (.slice b1 X.length k1) := c1_
          have hc2 : CellIs wb gI (R * 3 + 2) (.slice b2 Y.length k2) := c2_
          clear hfp hfi hAk hxI rI c1_ c2_ PI
          go_wp2_with fail
          have hd_ : wb.drew.heap.size = wb.heap.size := rfl
          replace BV := BV.drew
          replace BB := BB.drew
          replace BR := BR.drew
          replace QI := QI.drew
          replace hb := hb.drew
          replace hc1 := CellIs.drew hc1
          replace hc2 := CellIs.drew hc2
          refine wp_region_held_drew (S := fun w' => w'.cell? ⟨w1.heap.size, 0, none⟩ = some (.int .i64 (P : Int)) ∧ w'.cell? ⟨w1.heap.size, 1, none⟩ = some (.int .i64 c) ∧ w'.cell? ⟨w1.heap.size, 2, none⟩ = some (.int .i64 h) ∧ w'.cell? ⟨w1.heap.size, 3, none⟩ = some (.int .i64 s) ∧ w'.cell? ⟨(w1.heap.size + 1), 0, none⟩ = some (.slice (some ⟨g1, 0, none⟩) xs.length c1) ∧ w'.cell? ⟨(w1.heap.size + 1), 1, none⟩ = some (.slice (some ⟨g2, 0, none⟩) ys.length c2) ∧ w'.cell? ⟨(w1.heap.size + 1 + 1), 0, none⟩ = some (.int .i64 ra) ∧ w'.cell? ⟨(w1.heap.size + 1 + 1), 1, none⟩ = some (.int .i64 rb) ∧ w'.cell? ⟨gI, R * 3 + 1, none⟩ = some (.slice b1 X.length k1) ∧ w'.cell? ⟨gI, R * 3 + 2, none⟩ = some (.slice b2 Y.length k2)) (by kernel_rfl) ⟨BV.four.1, BV.four.2.1, BV.four.2.2.1, BV.four.2.2.2.1, BB.two.1, BB.two.2.1, BR.two.1, BR.two.2.1, hc1, hc2⟩ (fun hHeld => ?_)
          clear hHeld
          generalize wb.drew = vd at *
          have hHeld : vd.cell? ⟨w1.heap.size, 0, none⟩ = some (.int .i64 (P : Int)) ∧ vd.cell? ⟨w1.heap.size, 1, none⟩ = some (.int .i64 c) ∧ vd.cell? ⟨w1.heap.size, 2, none⟩ = some (.int .i64 h) ∧ vd.cell? ⟨w1.heap.size, 3, none⟩ = some (.int .i64 s) ∧ vd.cell? ⟨(w1.heap.size + 1), 0, none⟩ = some (.slice (some ⟨g1, 0, none⟩) xs.length c1) ∧ vd.cell? ⟨(w1.heap.size + 1), 1, none⟩ = some (.slice (some ⟨g2, 0, none⟩) ys.length c2) ∧ vd.cell? ⟨(w1.heap.size + 1 + 1), 0, none⟩ = some (.int .i64 ra) ∧ vd.cell? ⟨(w1.heap.size + 1 + 1), 1, none⟩ = some (.int .i64 rb) ∧ vd.cell? ⟨gI, R * 3 + 1, none⟩ = some (.slice b1 X.length k1) ∧ vd.cell? ⟨gI, R * 3 + 2, none⟩ = some (.slice b2 Y.length k2) := ⟨BV.four.1, BV.four.2.1, BV.four.2.2.1, BV.four.2.2.2.1, BB.two.1, BB.two.2.1, BR.two.1, BR.two.2.1, hc1, hc2⟩
          refine tk 0 142 ?_
          refine tk 1 143 ?_
          refine tk 2 144 ?_
          refine tk 3 145 ?_
          refine tk 4 146 ?_
          refine tk 5 147 ?_
          refine tk 6 148 ?_
          refine tk 7 149 ?_
          refine rdk 8 150 fun K hK => ?_
          go_simp
          refine (HFP.out _ (r1.below hb) (r2.below hb) QI.irow1 QI.irow2).mono ?_
          rintro e wz ⟨rfl, hbz⟩
          replace BV := BV.below hbz
          replace BB := BB.below hbz
          replace BR := BR.below hbz
          replace QI := QI.below hbz
          replace hc1 := CellIs.below hc1 hbz
          replace hc2 := CellIs.below hc2 hbz
          replace hb := chain hb hbz
          clear hbz
          (try go_wp2_with fail)
          refine hko hK (Blk.f4 BV (Blk.f2 BB (Blk.f2 BR ⟨hc1, hc2⟩))) fun hHeld => ?_
          clear hK K
          refine tk 9 141 ?_
          refine tk 10 151 ?_
          refine tk 11 152 ?_
          refine tk 12 18 ?_
          refine tk 13 19 ?_
          refine wpAnyH_done (by kernel_rfl) ?_ _
          clear hHeld
          go_wp2
          go_ret
          exact ⟨rfl, chain hbw hb⟩
    · obtain ⟨E, hE⟩ : ∃ E, apC p c h s xs ys ra rb = E := ⟨_, rfl⟩
      rw [hE] at hip hsp k0
      have ne : (E != 0) = true := by rw [bne_iff_ne]; exact k0
      have HIP := Lib.hid hip
      have HSP := Lib.hid hsp
      clear hip hsp hE k0
      go_wp2_with fail
      generalize (((w1.alloc (.cells #[.int .i64 p, .int .i64 c, .int .i64 h, .int .i64 s] 25)).alloc (.cells #[.slice (some ⟨g1, 0, none⟩) xs.length c1, .slice (some ⟨g2, 0, none⟩) ys.length c2] 28)).alloc (.cells #[.int .i64 ra, .int .i64 rb] 30)) = v1 at *
      go_wp2_with (first | (go_at_call 7; refine (HIP.out _ (r1.below hb) (r2.below hb)).mono ?_; rintro e wq ⟨aI, kI, lI, rfl, hmI, OI, PI, hbq⟩; have HMI := Lib.hid hmI; clear hmI HIP; clear x0 x1 x2 x3 xf xl y0 y1 yf yl u0 u1 uf ul; replace BV := BV.below hbq; replace BB := BB.below hbq; replace BR := BR.below hbq; replace hb := chain hb hbq; clear hbq; obtain ⟨x0, x1, x2, x3, xf, xl⟩ := BV.four; obtain ⟨y0, y1, yf, yl⟩ := BB.two; obtain ⟨u0, u1, uf, ul⟩ := BR.two) | (go_at_call 8; refine (HSP.out _ (r1.below hb) (r2.below hb)).mono ?_; rintro e wq ⟨aS, kS, lS, rfl, hmS, OS, PS, hbq⟩; have HMS := Lib.hid hmS; have fl : ((lI.length : Int) != (lS.length : Int)) = false := (by rw [bne_eq_false_iff_eq, show lI.length = lS.length from (by have q1 := congrArg List.length HMI.out; have q2 := congrArg List.length hmS; rw [List.length_map] at q1 q2; omega)]); clear hmS HSP; clear x0 x1 x2 x3 xf xl y0 y1 yf yl u0 u1 uf ul; replace BV := BV.below hbq; replace BB := BB.below hbq; replace BR := BR.below hbq; replace OI := OI.below hbq; replace PI := PI.below hbq; replace hb := chain hb hbq; clear hbq; obtain ⟨x0, x1, x2, x3, xf, xl⟩ := BV.four; obtain ⟨y0, y1, yf, yl⟩ := BB.two; obtain ⟨u0, u1, uf, ul⟩ := BR.two))
      go_ret
      exact ⟨rfl, chain hbw hb⟩
set_option maxRecDepth 100000 in
theorem fnPlays_lifted (os : Os) (started : os.Started) (H : Type) (enc : TypeId × Value → H) :
    ReturnsInHanded {} Tryz.checked os 3 .any (Rows.fnPlaysSpec.pre6 enc Tryz.prog Tryz.f3 Rows.fnPlaysRow.domain false) (Rows.fnPlaysSpec.post enc Tryz.prog Tryz.f3 false true false false) := by
  refine returnsInHanded_of_change (C := Tryz.checked) own started (by kernel_rfl) Tryz.func3
    (ChangeSpec.witness6 (enc := enc) (C := Tryz.checked) false ⟨#[], #[.slice none 0 0], []⟩ 8 (by kernel_rfl) (by kernel_rfl) (by kernel_rfl) (by kernel_rfl)) ?_
  intro W base args ds gs before hval0 hW hcnd _
  have hval : ∀ (j : Nat) t v, Tryz.f3.params[j]? = some t → args[j]? = some v → Value.okWide Tryz.prog W .any base t v := hval0
  have hW' := hW
  obtain ⟨p, q, hA0, hV, rfl, hfz, hnd⟩ := hW
  have hA : DataW.TrodAll enc Tryz.prog W 0 (fun _ => true) true Tryz.f3.params.toList args.toList ds p := hA0
  rw [Tryz.params3] at hA hval
  obtain ⟨v0, vs0, d0, ds0, p0, q0, hargs, rfl, rfl, h0, r0⟩ := trodAll_cons hA
  obtain ⟨rfl, rfl, rfl⟩ := trodAll_nil r0
  obtain rfl : args = #[v0] := by cases args; simp_all
  obtain ⟨rfl, rfl⟩ := trodVars_none hV
  have k0 := h0
  have lt0 : ∀ x ∈ p0, x.block < W.heap.size := by obtain ⟨m, hm⟩ := k0; exact DataW.trod_lt m _ _ _ hm
  obtain ⟨sa_0, sl_0, sc_0, rfl⟩ := okWide_slice Tryz.underlying22 (hval 0 22 v0 rfl rfl)
  have hcode_0 : CodeIn W.heap.size W sa_0 sl_0 := by
    obtain ⟨fuel, hf⟩ := h0
    rcases open_ints Tryz.underlying22 Tryz.underlying5 (by kernel_rfl) hf with ⟨hcs, _⟩ | ⟨x, l, c, zs, hcs, _, hl, hm, hz, _, hcell, hwz⟩
    · simp [Value.cells] at hcs
      obtain ⟨rfl, rfl, rfl⟩ := hcs
      intro i hi
      omega
    · simp [Value.cells] at hcs
      obtain ⟨rfl, rfl, rfl⟩ := hcs
      exact code_of_ints (by have hz2 := hz; simp at hz2; omega) trivial hcell hwz
  clear hA0 hval0
  refine (fnPlays_walk sa_0 sl_0 sc_0 W hcode_0).mono fun e W' ⟨he, bel⟩ => ?_
  subst he
  exact ⟨_, rfl, _, _, _, [], _, [], hW', trodAll_mk1 (shut_bool Tryz.underlying4 _), (trodAll_cons_mk (Below.trod laidOut (by kernel_rfl) (of_decide_eq_true (by kernel_rfl)) k0 bel lt0) trodAll_mk0), rfl, bel.frame _, fun h => by cases h⟩
theorem fnPlays_holds : Rows.FnPlaysSaid :=
  OpenClaim.holds_of_wide 3 Tryz.f3 rfl rfl rfl rfl rfl rfl rfl ⟨rfl, rfl, rfl, rfl, rfl⟩ rfl rfl rfl rfl rfl (by kernel_rfl) Tryz.func3 (by kernel_rfl)
    (of_decide_eq_true (by kernel_rfl)) (by unfold Func.isWrapper; first | (rw [if_pos (by decide +kernel)]; kernel_rfl) | (rw [if_neg (by decide +kernel)]; exact ⟨rfl, rfl⟩))
    (fun os started H enc _ => fnPlays_lifted os started H enc)
end Go.Proofs.YtciljbnailobgaaGreat
