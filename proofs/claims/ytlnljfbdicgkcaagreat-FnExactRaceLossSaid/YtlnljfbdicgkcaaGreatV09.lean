/- Texts of a proof, laid together. -/
import Derived.Test.YtlnljfbdicgkcaaGreatV08
import Derived.Deep.LoopGhost
import Derived.BigQuiet
import Derived.Deep.RegionHeld3
import Derived.Test.YtlnljfbdicgkcaaGreatV06
import Derived.Test.YtlnljfbdicgkcaaGreatV01
import Derived.Test.YtlnljfbdicgkcaaGreatV04
import Derived.IntWalk
namespace Go.Proofs.YtlnljfbdicgkcaaGreat
open Go.ChangeShapes Go.WideShapes Go.ChangeAt Go.RowKit
set_option linter.unusedVariables false
set_option linter.unusedSimpArgs false
set_option maxRecDepth 4000
def rdG (S : Nat) (g : Bool) (m D : Nat) : Option (Int × Int) :=
  if (rdN (S * S) m D).2 < nn S ∧ (rdN (S * S) m D).1 ≤ 1000000000000000000 then some (sgM g (rdN (S * S) m D).1, ((rdN (S * S) m D).2 : Int)) else none
set_option maxRecDepth 8000 in
set_option maxHeartbeats 4000000 in
theorem reduced_any (b S : Nat) (hS : 1 ≤ S ∧ S ≤ 6) (g : Bool) (hh ll : Int) (m D : Nat) (w : World) (HS : ScM w b S (nn S)) (HWD : WD hh ll m) (hD : D ≤ nn S) :
    Calls Tryz.prog 110 #[.map (some b), .agg #[.bool g, .int .u64 hh, .int .u64 ll], .int .i64 (D : Int)] w fun e w' => e = .returned (.tuple #[.agg #[.int .i64 (xoN (rdG S g m D)), .int .i64 (xoD (rdG S g m D))], .int .i64 (xoE (rdG S g m D) 3)]) ∧ Below w.heap.size w w' := by
  have hbw := HS.lt
  have hB := base_range hS
  have hn := nn_range hS
  obtain ⟨B, hBe⟩ : ∃ B : Int, ((S * S : Nat) : Int) = B := ⟨_, rfl⟩
  have hba := fun W H => base_any b S hS W H
  rw [hBe] at hba
  have HBA := Lib.hid hba
  clear hba
  obtain ⟨R, hR0⟩ : ∃ R, rdN (S * S) m D = R := ⟨_, rfl⟩
  obtain ⟨rN, hrN⟩ : ∃ x, xoN (rdG S g m D) = x := ⟨_, rfl⟩
  obtain ⟨rD, hrD⟩ : ∃ x, xoD (rdG S g m D) = x := ⟨_, rfl⟩
  obtain ⟨rE, hrE⟩ : ∃ x, xoE (rdG S g m D) 3 = x := ⟨_, rfl⟩
  rw [hrN, hrD, hrE]
  have HrN := Lib.hid hrN
  have HrD := Lib.hid hrD
  have HrE := Lib.hid hrE
  clear hrN hrD hrE
  obtain ⟨BW, BO, hb, hz⟩ := two_new w #[.bool g, .int .u64 hh, .int .u64 ll] #[.int .i64 0, .int .i64 0] 155 35
  replace HS := HS.below hb
  obtain ⟨x0, x1, x2, xf, xl⟩ := BW.three
  obtain ⟨z0, z1, zf, zl⟩ := BO.two
  go_enter Tryz.func110, Tryz.ntmps110
  go_wp2_with fail
  clear x0 x1 x2 xf xl z0 z1 zf zl
  generalize ((w.alloc (.cells #[.bool g, .int .u64 hh, .int .u64 ll] 155)).alloc (.cells #[.int .i64 0, .int .i64 0] 35)) = v0 at *
  go_loopg [2] D (fun n d wr => ∃ (k : Nat) (hh ll : Int) (mm : Nat), n = k ∧ k ≤ D ∧ d = .int .i64 (k : Int) ∧ rdN (S * S) mm k = R ∧ WD hh ll mm ∧ Blk wr w.heap.size #[.bool g, .int .u64 hh, .int .u64 ll] 155 ∧ Blk wr (w.heap.size + 1) #[.int .i64 0, .int .i64 0] 35 ∧ ScM wr b S (nn S) ∧ Below w.heap.size w wr)
  case atStart => exact ⟨D, hh, ll, m, rfl, Nat.le_refl _, rfl, hR0, HWD, BW, BO, HS, hb⟩
  case round =>
    clear HWD BW BO HS hb
    obtain ⟨k, hh, ll, mm, hm, hkD, rfl, hR, HWD, BW, BO, HS, hb⟩ := hrel
    by_cases hk : k = 0
    · subst hk
      rw [rdN, ← hR0] at hR
      replace hR := hR.symm
      rw [show ((0 : Nat) : Int) = 0 from rfl]
      have hdp := fun W (H : ScM W b S (nn S)) => hasDepth_any b S W H 0 (by omega)
      by_cases c1 : 0 < nn S
      · rw [decide_eq_true (show (0 : Int) ≤ 0 ∧ 0 < ((nn S : Nat) : Int) by omega)] at hdp
        have HD := Lib.hid hdp
        have hwi := fun W => within_any g hh ll mm 1000000000000000000 HWD (by omega) W
        by_cases c2 : mm ≤ 1000000000000000000
        · rw [decide_eq_true (show (mm : Int) ≤ 1000000000000000000 by omega)] at hwi
          have HI := Lib.hid hwi
          have hna := fun W => narrow_any g hh ll mm HWD (by omega) W
          have hv : rdG S g m D = some (sgM g mm, ((0 : Nat) : Int)) := by unfold rdG; rw [hR, if_pos ⟨c1, c2⟩]
          have eN : sgM g mm = rN := by rw [← HrN.out, hv]; rfl
          obtain rfl : rD = 0 := by rw [← HrD.out, hv]; show ((0 : Nat) : Int) = _; omega
          obtain rfl : rE = 0 := by rw [← HrE.out, hv]; rfl
          rw [eN] at hna
          have HN := Lib.hid hna
          clear hna hwi hdp hv hR c1 c2 HWD eN
          obtain ⟨x0, x1, x2, xf, xl⟩ := BW.three
          obtain ⟨z0, z1, zf, zl⟩ := BO.two
          go_wp2_with (first | (go_at_call 155; refine (HD.out _ HS).mono ?_; clear HD; rintro e w5 ⟨rfl, rfl⟩) | (go_at_call 156; refine (HI.out _).mono ?_; clear HI; rintro e w6 ⟨rfl, hb6⟩; replace BW := BW.below hb6; replace BO := BO.below hb6; replace HS := HS.below hb6; replace hb := chain hb hb6; obtain ⟨x0, x1, x2, xf, xl⟩ := BW.three; obtain ⟨z0, z1, zf, zl⟩ := BO.two) | (go_at_call 157; refine (HN.out _).mono ?_; clear HN; rintro e w7 ⟨rfl, hb7⟩; replace BW := BW.below hb7; replace BO := BO.below hb7; replace hb := chain hb hb7; obtain ⟨x0, x1, x2, xf, xl⟩ := BW.three; obtain ⟨z0, z1, zf, zl⟩ := BO.two))
          have BRn := BO.set2 (.int .i64 rN) (.int .i64 0)
          obtain ⟨u0, u1, uf, ul⟩ := BRn.two
          refine bodyPost_ret (v := .tuple #[.agg #[.int .i64 rN, .int .i64 0], .int .i64 0]) (by simp [results, Tryz.results110, go_sem, u0, u1]) rfl ?_
          exact ⟨rfl, belowFar2 hb (by omega) _ _⟩
        · rw [decide_eq_false (show ¬ (mm : Int) ≤ 1000000000000000000 by omega)] at hwi
          have HI := Lib.hid hwi
          have hv : rdG S g m D = none := by unfold rdG; rw [hR, if_neg (fun q => c2 q.2)]
          obtain rfl : rN = 0 := by rw [← HrN.out, hv]; rfl
          obtain rfl : rD = 0 := by rw [← HrD.out, hv]; rfl
          obtain rfl : rE = 3 := by rw [← HrE.out, hv]; rfl
          clear hwi hdp hv hR c1 c2 HWD
          obtain ⟨x0, x1, x2, xf, xl⟩ := BW.three
          obtain ⟨z0, z1, zf, zl⟩ := BO.two
          go_wp2_with (first | (go_at_call 155; refine (HD.out _ HS).mono ?_; clear HD; rintro e w5 ⟨rfl, rfl⟩) | (go_at_call 156; refine (HI.out _).mono ?_; clear HI; rintro e w6 ⟨rfl, hb6⟩; replace BW := BW.below hb6; replace BO := BO.below hb6; replace HS := HS.below hb6; replace hb := chain hb hb6; obtain ⟨x0, x1, x2, xf, xl⟩ := BW.three; obtain ⟨z0, z1, zf, zl⟩ := BO.two))
          have BRn := BO.set2 (.int .i64 0) (.int .i64 0)
          obtain ⟨u0, u1, uf, ul⟩ := BRn.two
          refine bodyPost_ret (v := .tuple #[.agg #[.int .i64 0, .int .i64 0], .int .i64 3]) (by simp [results, Tryz.results110, go_sem, u0, u1]) rfl ?_
          exact ⟨rfl, belowFar2 hb (by omega) _ _⟩
      · rw [decide_eq_false (show ¬ ((0 : Int) ≤ 0 ∧ 0 < ((nn S : Nat) : Int)) by omega)] at hdp
        have HD := Lib.hid hdp
        have hv : rdG S g m D = none := by unfold rdG; rw [hR, if_neg (fun q => c1 q.1)]
        obtain rfl : rN = 0 := by rw [← HrN.out, hv]; rfl
        obtain rfl : rD = 0 := by rw [← HrD.out, hv]; rfl
        obtain rfl : rE = 3 := by rw [← HrE.out, hv]; rfl
        clear hdp hv hR c1 HWD
        obtain ⟨x0, x1, x2, xf, xl⟩ := BW.three
        obtain ⟨z0, z1, zf, zl⟩ := BO.two
        go_wp2_with (first | (go_at_call 155; refine (HD.out _ HS).mono ?_; clear HD; rintro e w5 ⟨rfl, rfl⟩))
        have BRn := BO.set2 (.int .i64 0) (.int .i64 0)
        obtain ⟨u0, u1, uf, ul⟩ := BRn.two
        refine bodyPost_ret (v := .tuple #[.agg #[.int .i64 0, .int .i64 0], .int .i64 3]) (by simp [results, Tryz.results110, go_sem, u0, u1]) rfl ?_
        exact ⟨rfl, belowFar2 hb (by omega) _ _⟩
    · obtain ⟨k, rfl⟩ : ∃ k', k = k' + 1 := ⟨k - 1, by omega⟩
      have hdv := fun W => divided_any g hh ll mm (S * S) HWD (by omega) W
      obtain ⟨RR, hRR⟩ : ∃ R : Int, ((mm % (S * S) : Nat) : Int) = R := ⟨_, rfl⟩
      have hz0 : RR = 0 → rdN (S * S) (mm / (S * S)) k = R := fun q => by rw [← hR]; exact (rdN_go (by omega)).symm
      have hz1 : RR ≠ 0 → rdN (S * S) m D = (mm, k + 1) := fun q => by rw [hR0, ← hR]; exact rdN_stop (by omega)
      rw [hBe, hRR] at hdv
      have HDV := Lib.hid hdv
      clear hdv hRR hB hBe
      have kI : (0 : Int) < ((k + 1 : Nat) : Int) := by omega
      go_wp2_with fail
      refine wp_region_held_drew (S := fun w' => w'.cell? ⟨w.heap.size, 0, none⟩ = some (.bool g) ∧ w'.cell? ⟨w.heap.size, 1, none⟩ = some (.int .u64 hh) ∧ w'.cell? ⟨w.heap.size, 2, none⟩ = some (.int .u64 ll)) (by kernel_rfl) ⟨BW.drew.three.1, BW.drew.three.2.1, BW.drew.three.2.2.1⟩ (fun hHeld => ?_)
      clear hHeld
      replace BW := BW.drew
      replace BO := BO.drew
      replace HS := HS.drew
      replace hb := hb.drew
      generalize wr.drew = vd at *
      have hHeld : vd.cell? ⟨w.heap.size, 0, none⟩ = some (.bool g) ∧ vd.cell? ⟨w.heap.size, 1, none⟩ = some (.int .u64 hh) ∧ vd.cell? ⟨w.heap.size, 2, none⟩ = some (.int .u64 ll) := ⟨BW.three.1, BW.three.2.1, BW.three.2.2.1⟩
      refine tk 0 13 ?_
      refine tk 1 14 ?_
      refine wpAnyH_ready (rs := [2, 7]) (by kernel_rfl) (by simp) ?_
      refine AllReadyH.cons (o := ⟨some 15, _, _, _, _, _⟩) rfl (fun K hK => ?_) (AllReadyH.cons (o := ⟨some 8, _, _, _, _, _⟩) rfl (fun K hK => ?_) AllReadyH.nil)
      · go_simp
        refine (HBA.out _ HS).mono ?_
        rintro e w2 ⟨rfl, rfl⟩
        (try go_wp2_with fail)
        refine hko hK ⟨BW.three.1, BW.three.2.1, BW.three.2.2.1⟩ fun hHeld => ?_
        clear hK K
        refine wpAnyH_ready (rs := [3, 7]) (by kernel_rfl) (by simp) ?_
        refine AllReadyH.cons (o := ⟨some 16, _, _, _, _, _⟩) rfl (fun K hK => ?_) (AllReadyH.cons (o := ⟨some 8, _, _, _, _, _⟩) rfl (fun K hK => ?_) AllReadyH.nil)
        · go_simp
          refine (HDV.out _).mono ?_
          rintro e w3 ⟨h2, l2, rfl, HW2, hb3⟩
          replace BW := BW.below hb3
          replace BO := BO.below hb3
          replace HS := HS.below hb3
          replace hb := chain hb hb3
          clear hb3
          (try go_wp2_with fail)
          refine hko hK ⟨BW.three.1, BW.three.2.1, BW.three.2.2.1⟩ fun hHeld => ?_
          clear hK K
          refine tk 4 12 ?_
          refine tk 5 17 ?_
          refine tk 6 18 ?_
          refine rdk 7 8 fun K hK => ?_
          go_simp
          (try go_wp2_with fail)
          refine hko hK ⟨(BW.alloc (.cells #[.bool false, .int .u64 0, .int .u64 0] 155)).three.1, (BW.alloc (.cells #[.bool false, .int .u64 0, .int .u64 0] 155)).three.2.1, (BW.alloc (.cells #[.bool false, .int .u64 0, .int .u64 0] 155)).three.2.2.1⟩ fun hHeld => ?_
          clear hK K
          have B8 := Blk.new w3 #[.bool false, .int .u64 0, .int .u64 0] 155
          have h8 : w.heap.size + 1 < w3.heap.size := BO.lt
          replace BW := BW.alloc (.cells #[.bool false, .int .u64 0, .int .u64 0] 155)
          replace BO := BO.alloc (.cells #[.bool false, .int .u64 0, .int .u64 0] 155)
          replace HS := HS.alloc (.cells #[.bool false, .int .u64 0, .int .u64 0] 155)
          replace hb := chain_alloc hb (.cells #[.bool false, .int .u64 0, .int .u64 0] 155)
          generalize w3.alloc (.cells #[.bool false, .int .u64 0, .int .u64 0] 155) = wA at *
          generalize w3.heap.size = g8 at *
          refine rdn 8 fun K hK => ?_
          clear hHeld
          obtain ⟨z0, z1, z2, zf, zl⟩ := B8.three
          have BWs := BW.far3 (B := g8) (by omega) (.bool g) (.int .u64 h2) (.int .u64 l2)
          have BOs := BO.far3 (B := g8) (by omega) (.bool g) (.int .u64 h2) (.int .u64 l2)
          have HSs := HS.far3 (B := g8) (by omega) (.bool g) (.int .u64 h2) (.int .u64 l2)
          have hbs := belowFar3 hb (B := g8) (by omega) (.bool g) (.int .u64 h2) (.int .u64 l2)
          have B8s := B8.set3 (.bool g) (.int .u64 h2) (.int .u64 l2)
          go_simp
          (try go_wp2_with fail)
          refine hko hK ⟨BWs.three.1, BWs.three.2.1, BWs.three.2.2.1⟩ fun hHeld => ?_
          clear hK K
          clear z0 z1 z2 zf zl BW BO HS hb B8
          generalize (((wA.setCell ⟨g8, 0, none⟩ (.bool g)).setCell ⟨g8, 1, none⟩ (.int .u64 h2)).setCell ⟨g8, 2, none⟩ (.int .u64 l2)) = wS at *
          have BW := BWs
          have BO := BOs
          have HS := HSs
          have hb := hbs
          have B8 := B8s
          clear BWs BOs HSs hbs B8s
          refine tk 9 9 ?_
          refine wpAnyH_done (by kernel_rfl) ?_ _
          clear hHeld
          by_cases c : RR = 0
          · have hR2 := hz0 c
            subst c
            obtain ⟨x0, x1, x2, xf, xl⟩ := BW.three
            obtain ⟨z0, z1, z2, zf, zl⟩ := B8.three
            go_wp2
            go_roundg k
            case measure => omega
            case rel => exact ⟨k, h2, l2, mm / (S * S), rfl, by omega, by go_num, hR2, HW2, BW.set3 (.bool g) (.int .u64 h2) (.int .u64 l2), BO.far3 (by omega) (.bool g) (.int .u64 h2) (.int .u64 l2), HS.far3 (by omega) (.bool g) (.int .u64 h2) (.int .u64 l2), belowFar3 hb (by omega) (.bool g) (.int .u64 h2) (.int .u64 l2)⟩
          · have hR2 := hz1 c
            have f0 : (RR == 0) = false := by rw [beq_eq_false_iff_ne]; exact c
            clear hz0 hz1 HW2 B8 h8 HBA HDV c hR
            have hR := hR2
            clear hR2
            have kD : k + 1 ≤ nn S := by omega
            clear hkD hm
            have hdp := fun W (H : ScM W b S (nn S)) => hasDepth_any b S W H ((k : Int) + 1) (by omega)
            by_cases c1 : k + 1 < nn S
            · rw [decide_eq_true (show (0 : Int) ≤ ((k : Int) + 1) ∧ ((k : Int) + 1) < ((nn S : Nat) : Int) by omega)] at hdp
              have HD := Lib.hid hdp
              have hwi := fun W => within_any g hh ll mm 1000000000000000000 HWD (by omega) W
              by_cases c2 : mm ≤ 1000000000000000000
              · rw [decide_eq_true (show (mm : Int) ≤ 1000000000000000000 by omega)] at hwi
                have HI := Lib.hid hwi
                have hna := fun W => narrow_any g hh ll mm HWD (by omega) W
                have hv : rdG S g m D = some (sgM g mm, ((k + 1 : Nat) : Int)) := by unfold rdG; rw [hR, if_pos ⟨c1, c2⟩]
                have eN : sgM g mm = rN := by rw [← HrN.out, hv]; rfl
                obtain rfl : rD = ((k : Int) + 1) := by rw [← HrD.out, hv]; show ((k + 1 : Nat) : Int) = _; omega
                obtain rfl : rE = 0 := by rw [← HrE.out, hv]; rfl
                rw [eN] at hna
                have HN := Lib.hid hna
                clear hna hwi hdp hv hR c1 c2 HWD eN
                obtain ⟨x0, x1, x2, xf, xl⟩ := BW.three
                obtain ⟨z0, z1, zf, zl⟩ := BO.two
                go_wp2_with (first | (go_at_call 155; refine (HD.out _ HS).mono ?_; clear HD; rintro e w5 ⟨rfl, rfl⟩) | (go_at_call 156; refine (HI.out _).mono ?_; clear HI; rintro e w6 ⟨rfl, hb6⟩; replace BW := BW.below hb6; replace BO := BO.below hb6; replace HS := HS.below hb6; replace hb := chain hb hb6; obtain ⟨x0, x1, x2, xf, xl⟩ := BW.three; obtain ⟨z0, z1, zf, zl⟩ := BO.two) | (go_at_call 157; refine (HN.out _).mono ?_; clear HN; rintro e w7 ⟨rfl, hb7⟩; replace BW := BW.below hb7; replace BO := BO.below hb7; replace hb := chain hb hb7; obtain ⟨x0, x1, x2, xf, xl⟩ := BW.three; obtain ⟨z0, z1, zf, zl⟩ := BO.two))
                have BRn := BO.set2 (.int .i64 rN) (.int .i64 ((k : Int) + 1))
                obtain ⟨u0, u1, uf, ul⟩ := BRn.two
                refine bodyPost_ret (v := .tuple #[.agg #[.int .i64 rN, .int .i64 ((k : Int) + 1)], .int .i64 0]) (by simp [results, Tryz.results110, go_sem, u0, u1]) rfl ?_
                exact ⟨rfl, belowFar2 hb (by omega) _ _⟩
              · rw [decide_eq_false (show ¬ (mm : Int) ≤ 1000000000000000000 by omega)] at hwi
                have HI := Lib.hid hwi
                have hv : rdG S g m D = none := by unfold rdG; rw [hR, if_neg (fun q => c2 q.2)]
                obtain rfl : rN = 0 := by rw [← HrN.out, hv]; rfl
                obtain rfl : rD = 0 := by rw [← HrD.out, hv]; rfl
                obtain rfl : rE = 3 := by rw [← HrE.out, hv]; rfl
                clear hwi hdp hv hR c1 c2 HWD
                obtain ⟨x0, x1, x2, xf, xl⟩ := BW.three
                obtain ⟨z0, z1, zf, zl⟩ := BO.two
                go_wp2_with (first | (go_at_call 155; refine (HD.out _ HS).mono ?_; clear HD; rintro e w5 ⟨rfl, rfl⟩) | (go_at_call 156; refine (HI.out _).mono ?_; clear HI; rintro e w6 ⟨rfl, hb6⟩; replace BW := BW.below hb6; replace BO := BO.below hb6; replace HS := HS.below hb6; replace hb := chain hb hb6; obtain ⟨x0, x1, x2, xf, xl⟩ := BW.three; obtain ⟨z0, z1, zf, zl⟩ := BO.two))
                have BRn := BO.set2 (.int .i64 0) (.int .i64 0)
                obtain ⟨u0, u1, uf, ul⟩ := BRn.two
                refine bodyPost_ret (v := .tuple #[.agg #[.int .i64 0, .int .i64 0], .int .i64 3]) (by simp [results, Tryz.results110, go_sem, u0, u1]) rfl ?_
                exact ⟨rfl, belowFar2 hb (by omega) _ _⟩
            · rw [decide_eq_false (show ¬ ((0 : Int) ≤ ((k : Int) + 1) ∧ ((k : Int) + 1) < ((nn S : Nat) : Int)) by omega)] at hdp
              have HD := Lib.hid hdp
              have hv : rdG S g m D = none := by unfold rdG; rw [hR, if_neg (fun q => c1 q.1)]
              obtain rfl : rN = 0 := by rw [← HrN.out, hv]; rfl
              obtain rfl : rD = 0 := by rw [← HrD.out, hv]; rfl
              obtain rfl : rE = 3 := by rw [← HrE.out, hv]; rfl
              clear hdp hv hR c1 HWD
              obtain ⟨x0, x1, x2, xf, xl⟩ := BW.three
              obtain ⟨z0, z1, zf, zl⟩ := BO.two
              go_wp2_with (first | (go_at_call 155; refine (HD.out _ HS).mono ?_; clear HD; rintro e w5 ⟨rfl, rfl⟩))
              have BRn := BO.set2 (.int .i64 0) (.int .i64 0)
              obtain ⟨u0, u1, uf, ul⟩ := BRn.two
              refine bodyPost_ret (v := .tuple #[.agg #[.int .i64 0, .int .i64 0], .int .i64 3]) (by simp [results, Tryz.results110, go_sem, u0, u1]) rfl ?_
              exact ⟨rfl, belowFar2 hb (by omega) _ _⟩
        · go_simp
          (try go_wp2_with fail)
          refine hko hK ⟨(BW.alloc (.cells #[.bool false, .int .u64 0, .int .u64 0] 155)).three.1, (BW.alloc (.cells #[.bool false, .int .u64 0, .int .u64 0] 155)).three.2.1, (BW.alloc (.cells #[.bool false, .int .u64 0, .int .u64 0] 155)).three.2.2.1⟩ fun hHeld => ?_
          clear hK K
          have B8 := Blk.new vd #[.bool false, .int .u64 0, .int .u64 0] 155
          have h8 : w.heap.size + 1 < vd.heap.size := BO.lt
          replace BW := BW.alloc (.cells #[.bool false, .int .u64 0, .int .u64 0] 155)
          replace BO := BO.alloc (.cells #[.bool false, .int .u64 0, .int .u64 0] 155)
          replace HS := HS.alloc (.cells #[.bool false, .int .u64 0, .int .u64 0] 155)
          replace hb := chain_alloc hb (.cells #[.bool false, .int .u64 0, .int .u64 0] 155)
          generalize vd.alloc (.cells #[.bool false, .int .u64 0, .int .u64 0] 155) = wA at *
          generalize vd.heap.size = g8 at *
          refine rdk 3 16 fun K hK => ?_
          go_simp
          refine (HDV.out _).mono ?_
          rintro e w3 ⟨h2, l2, rfl, HW2, hb3⟩
          replace BW := BW.below hb3
          replace BO := BO.below hb3
          replace HS := HS.below hb3
          replace B8 := B8.below hb3
          replace hb := chain hb hb3
          clear hb3
          (try go_wp2_with fail)
          refine hko hK ⟨BW.three.1, BW.three.2.1, BW.three.2.2.1⟩ fun hHeld => ?_
          clear hK K
          refine tk 4 12 ?_
          refine tk 5 17 ?_
          refine tk 6 18 ?_
          refine rdn 8 fun K hK => ?_
          clear hHeld
          obtain ⟨z0, z1, z2, zf, zl⟩ := B8.three
          have BWs := BW.far3 (B := g8) (by omega) (.bool g) (.int .u64 h2) (.int .u64 l2)
          have BOs := BO.far3 (B := g8) (by omega) (.bool g) (.int .u64 h2) (.int .u64 l2)
          have HSs := HS.far3 (B := g8) (by omega) (.bool g) (.int .u64 h2) (.int .u64 l2)
          have hbs := belowFar3 hb (B := g8) (by omega) (.bool g) (.int .u64 h2) (.int .u64 l2)
          have B8s := B8.set3 (.bool g) (.int .u64 h2) (.int .u64 l2)
          go_simp
          (try go_wp2_with fail)
          refine hko hK ⟨BWs.three.1, BWs.three.2.1, BWs.three.2.2.1⟩ fun hHeld => ?_
          clear hK K
          clear z0 z1 z2 zf zl BW BO HS hb B8
          generalize (((w3.setCell ⟨g8, 0, none⟩ (.bool g)).setCell ⟨g8, 1, none⟩ (.int .u64 h2)).setCell ⟨g8, 2, none⟩ (.int .u64 l2)) = wS at *
          have BW := BWs
          have BO := BOs
          have HS := HSs
          have hb := hbs
          have B8 := B8s
          clear BWs BOs HSs hbs B8s
          refine tk 9 9 ?_
          refine wpAnyH_done (by kernel_rfl) ?_ _
          clear hHeld
          by_cases c : RR = 0
          · have hR2 := hz0 c
            subst c
            obtain ⟨x0, x1, x2, xf, xl⟩ := BW.three
            obtain ⟨z0, z1, z2, zf, zl⟩ := B8.three
            go_wp2
            go_roundg k
            case measure => omega
            case rel => exact ⟨k, h2, l2, mm / (S * S), rfl, by omega, by go_num, hR2, HW2, BW.set3 (.bool g) (.int .u64 h2) (.int .u64 l2), BO.far3 (by omega) (.bool g) (.int .u64 h2) (.int .u64 l2), HS.far3 (by omega) (.bool g) (.int .u64 h2) (.int .u64 l2), belowFar3 hb (by omega) (.bool g) (.int .u64 h2) (.int .u64 l2)⟩
          · have hR2 := hz1 c
            have f0 : (RR == 0) = false := by rw [beq_eq_false_iff_ne]; exact c
            clear hz0 hz1 HW2 B8 h8 HBA HDV c hR
            have hR := hR2
            clear hR2
            have kD : k + 1 ≤ nn S := by omega
            clear hkD hm
            have hdp := fun W (H : ScM W b S (nn S)) => hasDepth_any b S W H ((k : Int) + 1) (by omega)
            by_cases c1 : k + 1 < nn S
            · rw [decide_eq_true (show (0 : Int) ≤ ((k : Int) + 1) ∧ ((k : Int) + 1) < ((nn S : Nat) : Int) by omega)] at hdp
              have HD := Lib.hid hdp
              have hwi := fun W => within_any g hh ll mm 1000000000000000000 HWD (by omega) W
              by_cases c2 : mm ≤ 1000000000000000000
              · rw [decide_eq_true (show (mm : Int) ≤ 1000000000000000000 by omega)] at hwi
                have HI := Lib.hid hwi
                have hna := fun W => narrow_any g hh ll mm HWD (by omega) W
                have hv : rdG S g m D = some (sgM g mm, ((k + 1 : Nat) : Int)) := by unfold rdG; rw [hR, if_pos ⟨c1, c2⟩]
                have eN : sgM g mm = rN := by rw [← HrN.out, hv]; rfl
                obtain rfl : rD = ((k : Int) + 1) := by rw [← HrD.out, hv]; show ((k + 1 : Nat) : Int) = _; omega
                obtain rfl : rE = 0 := by rw [← HrE.out, hv]; rfl
                rw [eN] at hna
                have HN := Lib.hid hna
                clear hna hwi hdp hv hR c1 c2 HWD eN
                obtain ⟨x0, x1, x2, xf, xl⟩ := BW.three
                obtain ⟨z0, z1, zf, zl⟩ := BO.two
                go_wp2_with (first | (go_at_call 155; refine (HD.out _ HS).mono ?_; clear HD; rintro e w5 ⟨rfl, rfl⟩) | (go_at_call 156; refine (HI.out _).mono ?_; clear HI; rintro e w6 ⟨rfl, hb6⟩; replace BW := BW.below hb6; replace BO := BO.below hb6; replace HS := HS.below hb6; replace hb := chain hb hb6; obtain ⟨x0, x1, x2, xf, xl⟩ := BW.three; obtain ⟨z0, z1, zf, zl⟩ := BO.two) | (go_at_call 157; refine (HN.out _).mono ?_; clear HN; rintro e w7 ⟨rfl, hb7⟩; replace BW := BW.below hb7; replace BO := BO.below hb7; replace hb := chain hb hb7; obtain ⟨x0, x1, x2, xf, xl⟩ := BW.three; obtain ⟨z0, z1, zf, zl⟩ := BO.two))
                have BRn := BO.set2 (.int .i64 rN) (.int .i64 ((k : Int) + 1))
                obtain ⟨u0, u1, uf, ul⟩ := BRn.two
                refine bodyPost_ret (v := .tuple #[.agg #[.int .i64 rN, .int .i64 ((k : Int) + 1)], .int .i64 0]) (by simp [results, Tryz.results110, go_sem, u0, u1]) rfl ?_
                exact ⟨rfl, belowFar2 hb (by omega) _ _⟩
              · rw [decide_eq_false (show ¬ (mm : Int) ≤ 1000000000000000000 by omega)] at hwi
                have HI := Lib.hid hwi
                have hv : rdG S g m D = none := by unfold rdG; rw [hR, if_neg (fun q => c2 q.2)]
                obtain rfl : rN = 0 := by rw [← HrN.out, hv]; rfl
                obtain rfl : rD = 0 := by rw [← HrD.out, hv]; rfl
                obtain rfl : rE = 3 := by rw [← HrE.out, hv]; rfl
                clear hwi hdp hv hR c1 c2 HWD
                obtain ⟨x0, x1, x2, xf, xl⟩ := BW.three
                obtain ⟨z0, z1, zf, zl⟩ := BO.two
                go_wp2_with (first | (go_at_call 155; refine (HD.out _ HS).mono ?_; clear HD; rintro e w5 ⟨rfl, rfl⟩) | (go_at_call 156; refine (HI.out _).mono ?_; clear HI; rintro e w6 ⟨rfl, hb6⟩; replace BW := BW.below hb6; replace BO := BO.below hb6; replace HS := HS.below hb6; replace hb := chain hb hb6; obtain ⟨x0, x1, x2, xf, xl⟩ := BW.three; obtain ⟨z0, z1, zf, zl⟩ := BO.two))
                have BRn := BO.set2 (.int .i64 0) (.int .i64 0)
                obtain ⟨u0, u1, uf, ul⟩ := BRn.two
                refine bodyPost_ret (v := .tuple #[.agg #[.int .i64 0, .int .i64 0], .int .i64 3]) (by simp [results, Tryz.results110, go_sem, u0, u1]) rfl ?_
                exact ⟨rfl, belowFar2 hb (by omega) _ _⟩
            · rw [decide_eq_false (show ¬ ((0 : Int) ≤ ((k : Int) + 1) ∧ ((k : Int) + 1) < ((nn S : Nat) : Int)) by omega)] at hdp
              have HD := Lib.hid hdp
              have hv : rdG S g m D = none := by unfold rdG; rw [hR, if_neg (fun q => c1 q.1)]
              obtain rfl : rN = 0 := by rw [← HrN.out, hv]; rfl
              obtain rfl : rD = 0 := by rw [← HrD.out, hv]; rfl
              obtain rfl : rE = 3 := by rw [← HrE.out, hv]; rfl
              clear hdp hv hR c1 HWD
              obtain ⟨x0, x1, x2, xf, xl⟩ := BW.three
              obtain ⟨z0, z1, zf, zl⟩ := BO.two
              go_wp2_with (first | (go_at_call 155; refine (HD.out _ HS).mono ?_; clear HD; rintro e w5 ⟨rfl, rfl⟩))
              have BRn := BO.set2 (.int .i64 0) (.int .i64 0)
              obtain ⟨u0, u1, uf, ul⟩ := BRn.two
              refine bodyPost_ret (v := .tuple #[.agg #[.int .i64 0, .int .i64 0], .int .i64 3]) (by simp [results, Tryz.results110, go_sem, u0, u1]) rfl ?_
              exact ⟨rfl, belowFar2 hb (by omega) _ _⟩
      · go_simp
        (try go_wp2_with fail)
        refine hko hK ⟨(BW.alloc (.cells #[.bool false, .int .u64 0, .int .u64 0] 155)).three.1, (BW.alloc (.cells #[.bool false, .int .u64 0, .int .u64 0] 155)).three.2.1, (BW.alloc (.cells #[.bool false, .int .u64 0, .int .u64 0] 155)).three.2.2.1⟩ fun hHeld => ?_
        clear hK K
        have B8 := Blk.new vd #[.bool false, .int .u64 0, .int .u64 0] 155
        have h8 : w.heap.size + 1 < vd.heap.size := BO.lt
        replace BW := BW.alloc (.cells #[.bool false, .int .u64 0, .int .u64 0] 155)
        replace BO := BO.alloc (.cells #[.bool false, .int .u64 0, .int .u64 0] 155)
        replace HS := HS.alloc (.cells #[.bool false, .int .u64 0, .int .u64 0] 155)
        replace hb := chain_alloc hb (.cells #[.bool false, .int .u64 0, .int .u64 0] 155)
        generalize vd.alloc (.cells #[.bool false, .int .u64 0, .int .u64 0] 155) = wA at *
        generalize vd.heap.size = g8 at *
        refine rdk 2 15 fun K hK => ?_
        go_simp
        refine (HBA.out _ HS).mono ?_
        rintro e w2 ⟨rfl, rfl⟩
        (try go_wp2_with fail)
        refine hko hK ⟨BW.three.1, BW.three.2.1, BW.three.2.2.1⟩ fun hHeld => ?_
        clear hK K
        refine rdk 3 16 fun K hK => ?_
        go_simp
        refine (HDV.out _).mono ?_
        rintro e w3 ⟨h2, l2, rfl, HW2, hb3⟩
        replace BW := BW.below hb3
        replace BO := BO.below hb3
        replace HS := HS.below hb3
        replace B8 := B8.below hb3
        replace hb := chain hb hb3
        clear hb3
        (try go_wp2_with fail)
        refine hko hK ⟨BW.three.1, BW.three.2.1, BW.three.2.2.1⟩ fun hHeld => ?_
        clear hK K
        refine tk 4 12 ?_
        refine tk 5 17 ?_
        refine tk 6 18 ?_
        refine rdn 8 fun K hK => ?_
        clear hHeld
        obtain ⟨z0, z1, z2, zf, zl⟩ := B8.three
        have BWs := BW.far3 (B := g8) (by omega) (.bool g) (.int .u64 h2) (.int .u64 l2)
        have BOs := BO.far3 (B := g8) (by omega) (.bool g) (.int .u64 h2) (.int .u64 l2)
        have HSs := HS.far3 (B := g8) (by omega) (.bool g) (.int .u64 h2) (.int .u64 l2)
        have hbs := belowFar3 hb (B := g8) (by omega) (.bool g) (.int .u64 h2) (.int .u64 l2)
        have B8s := B8.set3 (.bool g) (.int .u64 h2) (.int .u64 l2)
        go_simp
        (try go_wp2_with fail)
        refine hko hK ⟨BWs.three.1, BWs.three.2.1, BWs.three.2.2.1⟩ fun hHeld => ?_
        clear hK K
        clear z0 z1 z2 zf zl BW BO HS hb B8
        generalize (((w3.setCell ⟨g8, 0, none⟩ (.bool g)).setCell ⟨g8, 1, none⟩ (.int .u64 h2)).setCell ⟨g8, 2, none⟩ (.int .u64 l2)) = wS at *
        have BW := BWs
        have BO := BOs
        have HS := HSs
        have hb := hbs
        have B8 := B8s
        clear BWs BOs HSs hbs B8s
        refine tk 9 9 ?_
        refine wpAnyH_done (by kernel_rfl) ?_ _
        clear hHeld
        by_cases c : RR = 0
        · have hR2 := hz0 c
          subst c
          obtain ⟨x0, x1, x2, xf, xl⟩ := BW.three
          obtain ⟨z0, z1, z2, zf, zl⟩ := B8.three
          go_wp2
          go_roundg k
          case measure => omega
          case rel => exact ⟨k, h2, l2, mm / (S * S), rfl, by omega, by go_num, hR2, HW2, BW.set3 (.bool g) (.int .u64 h2) (.int .u64 l2), BO.far3 (by omega) (.bool g) (.int .u64 h2) (.int .u64 l2), HS.far3 (by omega) (.bool g) (.int .u64 h2) (.int .u64 l2), belowFar3 hb (by omega) (.bool g) (.int .u64 h2) (.int .u64 l2)⟩
        · have hR2 := hz1 c
          have f0 : (RR == 0) = false := by rw [beq_eq_false_iff_ne]; exact c
          clear hz0 hz1 HW2 B8 h8 HBA HDV c hR
          have hR := hR2
          clear hR2
          have kD : k + 1 ≤ nn S := by omega
          clear hkD hm
          have hdp := fun W (H : ScM W b S (nn S)) => hasDepth_any b S W H ((k : Int) + 1) (by omega)
          by_cases c1 : k + 1 < nn S
          · rw [decide_eq_true (show (0 : Int) ≤ ((k : Int) + 1) ∧ ((k : Int) + 1) < ((nn S : Nat) : Int) by omega)] at hdp
            have HD := Lib.hid hdp
            have hwi := fun W => within_any g hh ll mm 1000000000000000000 HWD (by omega) W
            by_cases c2 : mm ≤ 1000000000000000000
            · rw [decide_eq_true (show (mm : Int) ≤ 1000000000000000000 by omega)] at hwi
              have HI := Lib.hid hwi
              have hna := fun W => narrow_any g hh ll mm HWD (by omega) W
              have hv : rdG S g m D = some (sgM g mm, ((k + 1 : Nat) : Int)) := by unfold rdG; rw [hR, if_pos ⟨c1, c2⟩]
              have eN : sgM g mm = rN := by rw [← HrN.out, hv]; rfl
              obtain rfl : rD = ((k : Int) + 1) := by rw [← HrD.out, hv]; show ((k + 1 : Nat) : Int) = _; omega
              obtain rfl : rE = 0 := by rw [← HrE.out, hv]; rfl
              rw [eN] at hna
              have HN := Lib.hid hna
              clear hna hwi hdp hv hR c1 c2 HWD eN
              obtain ⟨x0, x1, x2, xf, xl⟩ := BW.three
              obtain ⟨z0, z1, zf, zl⟩ := BO.two
              go_wp2_with (first | (go_at_call 155; refine (HD.out _ HS).mono ?_; clear HD; rintro e w5 ⟨rfl, rfl⟩) | (go_at_call 156; refine (HI.out _).mono ?_; clear HI; rintro e w6 ⟨rfl, hb6⟩; replace BW := BW.below hb6; replace BO := BO.below hb6; replace HS := HS.below hb6; replace hb := chain hb hb6; obtain ⟨x0, x1, x2, xf, xl⟩ := BW.three; obtain ⟨z0, z1, zf, zl⟩ := BO.two) | (go_at_call 157; refine (HN.out _).mono ?_; clear HN; rintro e w7 ⟨rfl, hb7⟩; replace BW := BW.below hb7; replace BO := BO.below hb7; replace hb := chain hb hb7; obtain ⟨x0, x1, x2, xf, xl⟩ := BW.three; obtain ⟨z0, z1, zf, zl⟩ := BO.two))
              have BRn := BO.set2 (.int .i64 rN) (.int .i64 ((k : Int) + 1))
              obtain ⟨u0, u1, uf, ul⟩ := BRn.two
              refine bodyPost_ret (v := .tuple #[.agg #[.int .i64 rN, .int .i64 ((k : Int) + 1)], .int .i64 0]) (by simp [results, Tryz.results110, go_sem, u0, u1]) rfl ?_
              exact ⟨rfl, belowFar2 hb (by omega) _ _⟩
            · rw [decide_eq_false (show ¬ (mm : Int) ≤ 1000000000000000000 by omega)] at hwi
              have HI := Lib.hid hwi
              have hv : rdG S g m D = none := by unfold rdG; rw [hR, if_neg (fun q => c2 q.2)]
              obtain rfl : rN = 0 := by rw [← HrN.out, hv]; rfl
              obtain rfl : rD = 0 := by rw [← HrD.out, hv]; rfl
              obtain rfl : rE = 3 := by rw [← HrE.out, hv]; rfl
              clear hwi hdp hv hR c1 c2 HWD
              obtain ⟨x0, x1, x2, xf, xl⟩ := BW.three
              obtain ⟨z0, z1, zf, zl⟩ := BO.two
              go_wp2_with (first | (go_at_call 155; refine (HD.out _ HS).mono ?_; clear HD; rintro e w5 ⟨rfl, rfl⟩) | (go_at_call 156; refine (HI.out _).mono ?_; clear HI; rintro e w6 ⟨rfl, hb6⟩; replace BW := BW.below hb6; replace BO := BO.below hb6; replace HS := HS.below hb6; replace hb := chain hb hb6; obtain ⟨x0, x1, x2, xf, xl⟩ := BW.three; obtain ⟨z0, z1, zf, zl⟩ := BO.two))
              have BRn := BO.set2 (.int .i64 0) (.int .i64 0)
              obtain ⟨u0, u1, uf, ul⟩ := BRn.two
              refine bodyPost_ret (v := .tuple #[.agg #[.int .i64 0, .int .i64 0], .int .i64 3]) (by simp [results, Tryz.results110, go_sem, u0, u1]) rfl ?_
              exact ⟨rfl, belowFar2 hb (by omega) _ _⟩
          · rw [decide_eq_false (show ¬ ((0 : Int) ≤ ((k : Int) + 1) ∧ ((k : Int) + 1) < ((nn S : Nat) : Int)) by omega)] at hdp
            have HD := Lib.hid hdp
            have hv : rdG S g m D = none := by unfold rdG; rw [hR, if_neg (fun q => c1 q.1)]
            obtain rfl : rN = 0 := by rw [← HrN.out, hv]; rfl
            obtain rfl : rD = 0 := by rw [← HrD.out, hv]; rfl
            obtain rfl : rE = 3 := by rw [← HrE.out, hv]; rfl
            clear hdp hv hR c1 HWD
            obtain ⟨x0, x1, x2, xf, xl⟩ := BW.three
            obtain ⟨z0, z1, zf, zl⟩ := BO.two
            go_wp2_with (first | (go_at_call 155; refine (HD.out _ HS).mono ?_; clear HD; rintro e w5 ⟨rfl, rfl⟩))
            have BRn := BO.set2 (.int .i64 0) (.int .i64 0)
            obtain ⟨u0, u1, uf, ul⟩ := BRn.two
            refine bodyPost_ret (v := .tuple #[.agg #[.int .i64 0, .int .i64 0], .int .i64 3]) (by simp [results, Tryz.results110, go_sem, u0, u1]) rfl ?_
            exact ⟨rfl, belowFar2 hb (by omega) _ _⟩
abbrev Rl := Int × Int
def rlC (r : Rl) : List Value := [.int .i64 r.1, .int .i64 r.2]
def rlsC : List Rl → List Value
  | [] => []
  | s :: l => rlC s ++ rlsC l
theorem rlsC_append : ∀ l m : List Rl, rlsC (l ++ m) = rlsC l ++ rlsC m
  | [], m => rfl
  | s :: l, m => by simp [rlsC, rlsC_append l m]
theorem rlsC_at : ∀ (l : List Rl) (k : Nat) (s : Rl), l[k]? = some s → ∀ j, j < 2 → (rlsC l)[k * 2 + j]? = (rlC s)[j]?
  | [], k, s, h, j, hj => by simp at h
  | x :: l, 0, s, h, j, hj => by
    simp at h
    subst h
    rw [rlsC, List.getElem?_append_left (by simp [rlC]; omega), Nat.zero_mul, Nat.zero_add]
  | x :: l, k + 1, s, h, j, hj => by
    rw [rlsC, List.getElem?_append_right (by simp [rlC]; omega)]
    have := rlsC_at l k s (by simpa using h) j hj
    rw [← this]
    congr 1
    simp [rlC]
    omega
abbrev RRow (w : World) (g : Nat) (l : List Rl) : Prop := VRow w g (rlsC l) 39
theorem RRow.two {w : World} {g : Nat} {l : List Rl} (h : RRow w g l) (k : Nat) (s : Rl) (hk : l[k]? = some s) : w.cell? ⟨g, k * 2, none⟩ = some (.int .i64 s.1) ∧ w.cell? ⟨g, k * 2 + 1, none⟩ = some (.int .i64 s.2) :=
  ⟨h.cell _ _ (by have := rlsC_at l k s hk 0 (by omega); simpa [rlC] using this), h.cell _ _ (by have := rlsC_at l k s hk 1 (by omega); simpa [rlC] using this)⟩
def ORl (lo hi : Nat) (w : World) (a : Option Addr) (l : List Rl) : Prop := (a = none ∧ l = []) ∨ ∃ g, a = some ⟨g, 0, none⟩ ∧ lo ≤ g ∧ g < hi ∧ RRow w g l
theorem ORl.below {lo hi : Nat} {w w' : World} {a : Option Addr} {l : List Rl} (h : ORl lo hi w a l) (hb : Below w.heap.size w w') : ORl lo hi w' a l := by
  rcases h with h | ⟨g, e, h1, h2, r⟩
  · exact .inl h
  · exact .inr ⟨g, e, h1, h2, r.below hb⟩
theorem ORl.drew {lo hi : Nat} {w : World} {a : Option Addr} {l : List Rl} (h : ORl lo hi w a l) : ORl lo hi w.drew a l := h
theorem ORl.alloc {lo hi : Nat} {w : World} {a : Option Addr} {l : List Rl} (h : ORl lo hi w a l) (o : Obj) : ORl lo hi (w.alloc o) a l := h.below ((Below.refl _ _).alloc (Nat.le_refl _) o)
theorem ORl.mono {lo hi lo' hi' : Nat} {w : World} {a : Option Addr} {l : List Rl} (h : ORl lo hi w a l) (h1 : lo' ≤ lo) (h2 : hi ≤ hi') : ORl lo' hi' w a l := by
  rcases h with h | ⟨g, e, q1, q2, r⟩
  · exact .inl h
  · exact .inr ⟨g, e, by omega, by omega, r⟩
theorem ORl.same {lo hi lo2 hi2 : Nat} {w w' : World} {a : Option Addr} {l : List Rl} (h : ORl lo2 hi2 w a l) (hs : Same lo hi w w') (hd : hi2 ≤ lo ∨ hi ≤ lo2) : ORl lo2 hi2 w' a l := by
  rcases h with h | ⟨g, e, q1, q2, r⟩
  · exact .inl h
  · exact .inr ⟨g, e, q1, q2, r.same hs (by omega)⟩
theorem ORl.row {lo hi : Nat} {w : World} {a : Option Addr} {l : List Rl} (h : ORl lo hi w a l) {k : Nat} (hk : k < l.length) : ∃ g, a = some ⟨g, 0, none⟩ ∧ RRow w g l := by
  rcases h with ⟨_, rfl⟩ | ⟨g, e, q1, q2, r⟩
  · simp at hk
  · exact ⟨g, e, r⟩
def OwnR (w : World) (base : Nat) (v : Value) (l : List Rl) : Prop := w.ownsRow base 39 2 v l.length (rlsC l)
theorem OwnR.form {w : World} {base : Nat} {v : Value} {l : List Rl} (h : OwnR w base v l) : ∃ a k, v = .slice a l.length k := by
  rcases h.2 with ⟨h1, h2⟩ | ⟨g, cap, cur, h1, _⟩
  · exact ⟨none, 0, by rw [h1, h2]⟩
  · exact ⟨some ⟨g, 0, none⟩, cap, h1⟩
theorem OwnR.orl {w : World} {base : Nat} {a : Option Addr} {n k : Nat} {l : List Rl} (h : OwnR w base (.slice a n k) l) : ORl base w.heap.size w a l := by
  obtain ⟨hl, h1 | ⟨g, cap, cur, hv, hb, hh, hc, hm, hs, ht⟩⟩ := h
  · obtain ⟨h1, h2⟩ := h1
    simp at h1
    exact .inl ⟨h1.1, List.eq_nil_of_length_eq_zero h2⟩
  · simp at hv
    obtain ⟨rfl, _, rfl⟩ := hv
    exact .inr ⟨g, rfl, hb, (Array.getElem?_eq_some_iff.1 hh).1, cur, hh, by rw [hl, hs]; exact Nat.mul_le_mul_right _ hc, by rw [hl]; exact ht⟩
theorem OwnR.alloc {w : World} {base : Nat} {v : Value} {l : List Rl} (h : OwnR w base v l) (o : Obj) : OwnR (w.alloc o) base v l := World.ownsRow.alloc h o
theorem OwnR.start (w : World) : OwnR (w.alloc (.cells #[] 39)) w.heap.size (.slice (some ⟨w.heap.size, 0, none⟩) 0 0) [] :=
  ⟨rfl, .inr ⟨w.heap.size, 0, #[], rfl, Nat.le_refl _, Blk.new w #[] _, Nat.le_refl _, by unfold maxLen; omega, rfl, rfl⟩⟩
theorem OwnR.nil (w : World) (base : Nat) : OwnR w base (.slice none 0 0) [] := World.ownsRow_nil w base _ _
theorem infoRl : (Tryz.prog.info? 39).map (fun i => (i.zero, i.size, i.bytes)) = some (some (.agg #[.int .i64 0, .int .i64 0]), 2, 16) := by kernel_rfl
theorem wp_pushR {ops : Array Oper} {rest : List Oper} {o : Oper} {a : Act} {Q : Exit → Act → World → Prop} (hgd : o.guard = none) (s x : Operand)
    (ho : o.op = .call { callee := .builtin .append, args := #[s, x], argTypes := #[32, 32] })
    (base : Nat) (v : Value) (l : List Rl) (hs : a.eval s = v) {w0 : World} (hown : OwnR w0 base v l) (u : Rl)
    {zz : Nat} (hx : a.eval x = .slice (some ⟨zz, 0, none⟩) 1 1) (hzz : w0.heap.size = zz) (hl : l.length ≤ 1048576) (hbase : base ≤ w0.heap.size)
    (h : ∀ v' w', OwnR w' base v' (l ++ [u]) → Below base w0 w' → wpList Tryz.prog ops Q rest (a.put o.dst v') w') : wpList Tryz.prog ops Q (o :: rest) a (w0.alloc (.cells #[.int .i64 u.1, .int .i64 u.2] 39)) := by
  subst hzz
  obtain ⟨i0, hi, hz0, hz1, hz2⟩ := info_parts infoRl
  have hown0 : w0.ownsRow base 39 2 v l.length (rlsC l) := hown
  refine wpList_append_own _ hgd s x 32 ho base 39 i0 _ 2 16 Tryz.underlying32 hi hz0 hz1 hz2 rfl (by decide) v l.length (rlsC l) hs (hown0.alloc _) ⟨w0.heap.size, 0, none⟩ 1 1 (rlC u) hx (by simp [rlC])
    (World.news_of_block (cs := #[.int .i64 u.1, .int .i64 u.2]) (Blk.new w0 _ 39)) (fun y hy => by simp [rlC] at hy; rcases hy with rfl | rfl <;> rfl) (by unfold maxLen; omega) (by omega) (by simp; omega) ?_
  intro v' w' hown' hgrow _
  refine h v' w' ?_ (((Below.refl base w0).alloc hbase _).grown hgrow (by simp; omega) (fun k hk => (hown0.lt k hk).1))
  show w'.ownsRow base 39 2 _ (l ++ [u]).length (rlsC (l ++ [u]))
  rw [List.length_append, rlsC_append]
  simpa [rlsC] using hown'
def rollsTo : Nat → List Rl
  | 0 => []
  | a + 1 => rollsTo a ++ (List.range (a + 1)).map fun (j : Nat) => ((a : Int) + 1, (j : Int) + 1)
def rowTo (a j : Nat) : List Rl := rollsTo a ++ (List.range j).map fun (j : Nat) => ((a : Int) + 1, (j : Int) + 1)
theorem rowTo_succ (a j : Nat) : rowTo a (j + 1) = rowTo a j ++ [((a : Int) + 1, (j : Int) + 1)] := by simp [rowTo, List.range_succ]
theorem rowTo_zero (a : Nat) : rowTo a 0 = rollsTo a := by simp [rowTo]
theorem rowTo_full (a : Nat) : rowTo a (a + 1) = rollsTo (a + 1) := rfl
theorem rollsTo_length : ∀ a, (rollsTo a).length ≤ a * a
  | 0 => by simp [rollsTo]
  | a + 1 => by
    have := rollsTo_length a
    rw [rollsTo, List.length_append, List.length_map, List.length_range, Nat.add_mul, Nat.mul_add]
    omega
theorem rowTo_length (a j : Nat) : (rowTo a j).length ≤ a * a + j := by
  have := rollsTo_length a
  rw [rowTo, List.length_append, List.length_map, List.length_range]
  omega
theorem rollsTo_mem : ∀ (a : Nat) (r : Rl), r ∈ rollsTo a → 1 ≤ r.2 ∧ r.2 ≤ r.1 ∧ r.1 ≤ (a : Int)
  | 0, r, h => by simp [rollsTo] at h
  | a + 1, r, h => by
    rw [rollsTo, List.mem_append] at h
    rcases h with h | h
    · have := rollsTo_mem a r h
      omega
    · obtain ⟨j, hj, rfl⟩ := List.mem_map.1 h
      have := List.mem_range.1 hj
      dsimp only
      omega
def RollsGot (l : List Rl) (w : World) (e : Ending) (w' : World) : Prop := ∃ a k, e = .returned (.slice a l.length k) ∧ ORl w.heap.size w'.heap.size w' a l ∧ Below w.heap.size w w'
set_option maxRecDepth 8000 in
set_option maxHeartbeats 1000000 in
theorem implRolls_any (p c h : Int) (S : Nat) (w : World) (hS : S ≤ 6) :
    Calls Tryz.prog 99 #[.agg #[.int .i64 p, .int .i64 c, .int .i64 h, .int .i64 (S : Int)]] w (RollsGot (rollsTo S) w) := by
  have BV := Blk.new w #[.int .i64 p, .int .i64 c, .int .i64 h, .int .i64 (S : Int)] 25
  have hb : Below w.heap.size w (w.alloc (.cells #[.int .i64 p, .int .i64 c, .int .i64 h, .int .i64 (S : Int)] 25)) := (Below.refl _ _).alloc (Nat.le_refl _) _
  have hz0 : (w.alloc (.cells #[.int .i64 p, .int .i64 c, .int .i64 h, .int .i64 (S : Int)] 25)).heap.size = w.heap.size + 1 := by simp
  go_enter Tryz.func99, Tryz.ntmps99
  go_wp2_with fail
  generalize (w.alloc (.cells #[.int .i64 p, .int .i64 c, .int .i64 h, .int .i64 (S : Int)] 25)) = v0 at *
  have HZ0 := Lib.hid hz0
  have hz0a : w.heap.size + 1 ≤ v0.heap.size := by omega
  clear hz0
  go_loopg [3, 4, 5] S (fun m q3 q4 q5 wr => ∃ a : Nat, a ≤ S ∧ m = S - a ∧ q4 = .int .i64 ((a : Int) + 1) ∧ OwnR wr v0.heap.size q3 (rollsTo a) ∧ Below v0.heap.size v0 wr)
  case atStart => exact ⟨0, by omega, by omega, rfl, OwnR.nil v0 _, Below.refl _ _⟩
  case round =>
    obtain ⟨a, ha, hm, rfl, hO, hbel⟩ := hrel
    obtain ⟨x0, x1, x2, x3, xf, xl⟩ := (BV.below hbel).four
    by_cases hlt : a < S
    · have hlt' : (a : Int) + 1 ≤ (S : Int) := by omega
      have ha6 : (a : Int) ≤ 6 := by omega
      go_wp2_with fail
      clear x0 x1 x2 x3 xf xl
      rw [← rowTo_zero] at hO
      go_loopg [3, 5] (a + 1) (fun m q3 q5 wr => ∃ j : Nat, j ≤ a + 1 ∧ m = a + 1 - j ∧ q5 = .int .i64 ((j : Int) + 1) ∧ OwnR wr v0.heap.size q3 (rowTo a j) ∧ Below v0.heap.size v0 wr)
      case atStart => exact ⟨0, by omega, by omega, rfl, hO, hbel⟩
      case round =>
        clear hO hbel
        obtain ⟨j, hj, hm2, rfl, hO, hbel⟩ := hrel
        have hle := rowTo_length a j
        have hle2 : a * a ≤ 6 * 6 := Nat.mul_le_mul (by omega) (by omega)
        by_cases hlj : j < a + 1
        · have hlj' : (j : Int) + 1 ≤ (a : Int) + 1 := by omega
          have hrs := rowTo_succ a j
          have hLl : (rowTo a j).length ≤ 1048576 := by omega
          obtain ⟨LL, hLL⟩ : ∃ z, rowTo a j = z := ⟨_, rfl⟩
          rw [hLL] at hO hrs hLl
          have HRS := Lib.hid hrs
          have hsz := hbel.size
          clear hrs hLL hle hle2
          go_wp2_with (at_builtin; go_loud (refine wp_pushR rfl _ _ rfl v0.heap.size _ LL rfl hO ((a : Int) + 1, (j : Int) + 1) rfl rfl hLl hsz ?_; intro v2 w6 hO2 hb6))
          go_roundg (a + 1 - (j + 1))
          case measure => omega
          case rel => exact ⟨j + 1, by omega, rfl, by go_num, by rw [HRS.out]; exact hO2, hbel.trans hb6⟩
        · obtain rfl : j = a + 1 := by omega
          rw [rowTo_full] at hO
          clear hle hle2
          go_wp2
          go_roundg (S - (a + 1))
          case measure => omega
          case rel => exact ⟨a + 1, by omega, rfl, by go_num, hO, hbel⟩
    · obtain rfl : a = S := by omega
      have hlt' : (a : Int) < (a : Int) + 1 := by omega
      obtain ⟨LL, hLL⟩ : ∃ z, rollsTo a = z := ⟨_, rfl⟩
      rw [hLL] at hO
      have HLL := Lib.hid hLL
      clear hLL
      obtain ⟨aR, kR, rfl⟩ := hO.form
      go_wp2
      go_ret
      exact ⟨aR, kR, by rw [HLL.out]; rfl, by rw [HLL.out]; exact hO.orl.mono hb.size (Nat.le_refl _), hb.trans (hbel.mono hb.size)⟩
set_option maxRecDepth 8000 in
set_option maxHeartbeats 2000000 in
theorem scales_any (p c h : Int) (S : Nat) (hS : 1 ≤ S ∧ S ≤ 6) (w : World) :
    Calls Tryz.prog 98 #[.agg #[.int .i64 p, .int .i64 c, .int .i64 h, .int .i64 (S : Int)]] w fun e w' => ∃ b, e = .returned (.map (some b)) ∧ ScM w' b S (nn S) ∧ w.heap.size ≤ b ∧ Below w.heap.size w w' := by
  have hn := nn_range hS
  have hbase := base_range hS
  have BV := Blk.new w #[.int .i64 p, .int .i64 c, .int .i64 h, .int .i64 (S : Int)] 25
  have hb : Below w.heap.size w (w.alloc (.cells #[.int .i64 p, .int .i64 c, .int .i64 h, .int .i64 (S : Int)] 25)) := (Below.refl _ _).alloc (Nat.le_refl _) _
  have hz : (w.alloc (.cells #[.int .i64 p, .int .i64 c, .int .i64 h, .int .i64 (S : Int)] 25)).heap.size = w.heap.size + 1 := by simp
  obtain ⟨x0, x1, x2, x3, xf, xl⟩ := BV.four
  have hmm : (Instr.makeMap 85 none).run Tryz.prog (w.alloc (.cells #[.int .i64 p, .int .i64 c, .int .i64 h, .int .i64 (S : Int)] 25)) = .ok (.map (some (w.heap.size + 1))) ((w.alloc (.cells #[.int .i64 p, .int .i64 c, .int .i64 h, .int .i64 (S : Int)] 25)).alloc (.map #[] 0)) := by
    rw [← hz]
    rfl
  go_enter Tryz.func98, Tryz.ntmps98
  go_wp2_with fail
  clear x0 x1 x2 x3 xf xl
  have HM := ScM.made (w.alloc (.cells #[.int .i64 p, .int .i64 c, .int .i64 h, .int .i64 (S : Int)] 25)) S
  replace BV := BV.alloc (.map #[] 0)
  replace hb := hb.alloc (by omega) (.map #[] 0)
  rw [hz] at HM
  clear hmm hz
  generalize ((w.alloc (.cells #[.int .i64 p, .int .i64 c, .int .i64 h, .int .i64 (S : Int)] 25)).alloc (.map #[] 0)) = v0 at *
  go_loopg [4, 5] (nn S) (fun m sc d wr => ∃ (k : Nat) (C : Int), k ≤ nn S ∧ m = nn S - k ∧ sc = .int .i64 C ∧ d = .int .i64 (k : Int) ∧ Hid (C = ((scN S k : Nat) : Int)) ∧ ScM wr (w.heap.size + 1) S k ∧ Blk wr w.heap.size #[.int .i64 p, .int .i64 c, .int .i64 h, .int .i64 (S : Int)] 25 ∧ Below w.heap.size w wr)
  case atStart => exact ⟨0, 1, by omega, by omega, rfl, rfl, Lib.hid (by rw [scN_zero]; rfl), HM, BV, hb⟩
  case round =>
    clear HM BV hb
    obtain ⟨k, C, hk, hm, rfl, rfl, HC, HM, BV, hbel⟩ := hrel
    by_cases hlt : k < nn S
    · have hC := scN_in hS hlt
      have hC1 := scN_pos hS.1 k
      obtain ⟨w2, r1, HM2, g1⟩ := HM.put (by omega) hC
      have C0 : 1 ≤ C ∧ C ≤ 1000000000000000 := by have := HC.out; omega
      obtain ⟨C1, C2⟩ := C0
      rw [← HC.out] at r1
      obtain ⟨B, wB, hB0, hB1, HB⟩ : ∃ B : Int, IntKind.i64.wrap ((S : Int) * (S : Int)) = B ∧ 1 ≤ B ∧ B ≤ 36 ∧ Hid (B = ((S * S : Nat) : Int)) := by
        refine ⟨((S * S : Nat) : Int), ?_, by omega, by omega, Lib.hid rfl⟩
        rw [← Int.natCast_mul]
        exact IntWalk.i64_in _ (by omega)
      obtain ⟨D, wD, HD⟩ : ∃ D : Int, IntKind.i64.wrap (C * B) = D ∧ Hid (D = ((scN S (k + 1) : Nat) : Int)) := by
        refine ⟨C * B, ?_, Lib.hid (by rw [HC.out, HB.out, scN_succ]; rfl)⟩
        have h1 : 0 ≤ C * B := Int.mul_nonneg (by omega) (by omega)
        have h2 : C * B ≤ 1000000000000000 * 36 := Int.mul_le_mul C2 hB1 (by omega) (by omega)
        exact IntWalk.i64_in _ (by omega)
      have BV2 := BV.grown g1 (by omega)
      have hbel2 := hbel.grown g1 hbel.size (fun k hk => by cases hk; omega)
      have k60 : (k : Int) ≤ 60 := by omega
      obtain ⟨x0, x1, x2, x3, xf, xl⟩ := BV2.four
      clear hC hC1 HM BV hbel
      go_wp2
      go_roundg (nn S - (k + 1))
      case measure => omega
      case rel => exact ⟨k + 1, D, by omega, rfl, rfl, by go_num, HD, HM2, BV2, hbel2⟩
    · obtain rfl : k = nn S := by omega
      by_cases hS1 : S = 1
      · subst hS1
        have e : ((nn 1 : Nat) : Int) ≤ 60 ↔ False := by simp [nn]
        have e2 : ((nn 1 : Nat) : Int) = 61 := rfl
        rw [e2]
        go_wp2
        go_ret
        exact ⟨_, rfl, HM, by omega, hbel⟩
      · have ho := (scN_top hS).2 (by omega)
        have C1 : 1000000000000000 < C := by have := HC.out; omega
        have k60 : ((nn S : Nat) : Int) ≤ 60 := by
          have : S = 2 ∨ S = 3 ∨ S = 4 ∨ S = 5 ∨ S = 6 := by omega
          rcases this with rfl | rfl | rfl | rfl | rfl <;> decide
        clear ho hlt
        go_wp2
        go_ret
        exact ⟨_, rfl, HM, by omega, hbel⟩
abbrev XRow (w : World) (g : Nat) (l : List Rl) : Prop := VRow w g (rlsC l) 35
theorem XRow.two {w : World} {g : Nat} {l : List Rl} (h : XRow w g l) (k : Nat) (s : Rl) (hk : l[k]? = some s) : w.cell? ⟨g, k * 2, none⟩ = some (.int .i64 s.1) ∧ w.cell? ⟨g, k * 2 + 1, none⟩ = some (.int .i64 s.2) :=
  ⟨h.cell _ _ (by have := rlsC_at l k s hk 0 (by omega); simpa [rlC] using this), h.cell _ _ (by have := rlsC_at l k s hk 1 (by omega); simpa [rlC] using this)⟩
def OX (w : World) (a : Option Addr) (l : List Rl) : Prop := (a = none ∧ l = []) ∨ ∃ g, a = some ⟨g, 0, none⟩ ∧ XRow w g l
theorem OX.nil (w : World) : OX w none [] := .inl ⟨rfl, rfl⟩
theorem OX.below {w w' : World} {a : Option Addr} {l : List Rl} (h : OX w a l) (hb : Below w.heap.size w w') : OX w' a l := by
  rcases h with h | ⟨g, e, r⟩
  · exact .inl h
  · exact .inr ⟨g, e, r.below hb⟩
theorem OX.drew {w : World} {a : Option Addr} {l : List Rl} (h : OX w a l) : OX w.drew a l := h
theorem OX.alloc {w : World} {a : Option Addr} {l : List Rl} (h : OX w a l) (o : Obj) : OX (w.alloc o) a l := h.below ((Below.refl _ _).alloc (Nat.le_refl _) o)
theorem OX.row {w : World} {a : Option Addr} {l : List Rl} (h : OX w a l) {k : Nat} (hk : k < l.length) : ∃ g, a = some ⟨g, 0, none⟩ ∧ XRow w g l := by
  rcases h with ⟨_, rfl⟩ | ⟨g, e, r⟩
  · simp at hk
  · exact ⟨g, e, r⟩
theorem OX.one {w : World} {g : Nat} {a b : Int} (h : Blk w g #[.int .i64 a, .int .i64 b] 35) : OX w (some ⟨g, 0, none⟩) [(a, b)] := .inr ⟨g, rfl, ⟨_, h, by simp [rlsC, rlC], by simp [rlsC, rlC]⟩⟩
theorem OX.two {w : World} {g : Nat} {a b c d : Int} (h : Blk w g #[.int .i64 a, .int .i64 b, .int .i64 c, .int .i64 d] 35) : OX w (some ⟨g, 0, none⟩) [(a, b), (c, d)] := .inr ⟨g, rfl, ⟨_, h, by simp [rlsC, rlC], by simp [rlsC, rlC]⟩⟩
end Go.Proofs.YtlnljfbdicgkcaaGreat
