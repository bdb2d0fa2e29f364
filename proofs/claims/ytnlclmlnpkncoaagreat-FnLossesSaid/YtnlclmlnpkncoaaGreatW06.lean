/- Texts of a proof, laid together. -/
import Derived.Test.YtnlclmlnpkncoaaGreatW05
import Derived.Deep.LoopGhost
import Derived.BigQuiet
import Derived.Deep.RegionHeld3
namespace Go.Proofs.YtnlclmlnpkncoaaGreat
open Go.ChangeShapes Go.WideShapes Go.ChangeAt Go.RowKit
set_option linter.unusedVariables false
set_option linter.unusedSimpArgs false
set_option maxRecDepth 4000
def rdG (S : Nat) (g : Bool) (m D : Nat) : Option (Int × Int) :=
  if (rdN (S * S) m D).2 < nn S ∧ (rdN (S * S) m D).1 ≤ 1000000000000000000 then some (sgM g (rdN (S * S) m D).1, ((rdN (S * S) m D).2 : Int)) else none
set_option maxRecDepth 8000 in
set_option maxHeartbeats 4000000 in
theorem reduced_any (b S : Nat) (hS : 1 ≤ S ∧ S ≤ 6) (g : Bool) (hh ll : Int) (m D : Nat) (w : World) (HS : ScM w b S (nn S)) (HWD : WD hh ll m) (hD : D ≤ nn S) :
    Calls Tryz.prog 72 #[.map (some b), .agg #[.bool g, .int .u64 hh, .int .u64 ll], .int .i64 (D : Int)] w fun e w' => e = .returned (.tuple #[.agg #[.int .i64 (xoN (rdG S g m D)), .int .i64 (xoD (rdG S g m D))], .int .i64 (xoE (rdG S g m D) 3)]) ∧ Below w.heap.size w w' := by
  have hbw := HS.lt
  have hB := base_range hS
  have hn := nn_range hS
  obtain ⟨B, hBe⟩ : ∃ B : Int, ((S * S : Nat) : Int) = B := ⟨_, rfl⟩
  have hba := fun W H => base_any b S hS W H
  rw [hBe] at hba
  have HBA := Lib.hid hba
  clear hba
  obtain ⟨R, hR0⟩ : ∃ R, rdN (S * S) m D = R := ⟨_, rfl⟩
  obtain ⟨rN, hrN⟩ : ∃ x, xoN (rdG S g m D) = x := ⟨_, rfl⟩
  obtain ⟨rD, hrD⟩ : ∃ x, xoD (rdG S g m D) = x := ⟨_, rfl⟩
  obtain ⟨rE, hrE⟩ : ∃ x, xoE (rdG S g m D) 3 = x := ⟨_, rfl⟩
  rw [hrN, hrD, hrE]
  have HrN := Lib.hid hrN
  have HrD := Lib.hid hrD
  have HrE := Lib.hid hrE
  clear hrN hrD hrE
  obtain ⟨BW, BO, hb, hz⟩ := two_new w #[.bool g, .int .u64 hh, .int .u64 ll] #[.int .i64 0, .int .i64 0] 123 35
  replace HS := HS.below hb
  obtain ⟨x0, x1, x2, xf, xl⟩ := BW.three
  obtain ⟨z0, z1, zf, zl⟩ := BO.two
  go_enter Tryz.func72, Tryz.ntmps72
  go_wp2_with fail
  clear x0 x1 x2 xf xl z0 z1 zf zl
  generalize ((w.alloc (.cells #[.bool g, .int .u64 hh, .int .u64 ll] 123)).alloc (.cells #[.int .i64 0, .int .i64 0] 35)) = v0 at *
  go_loopg [2] D (fun n d wr => ∃ (k : Nat) (hh ll : Int) (mm : Nat), n = k ∧ k ≤ D ∧ d = .int .i64 (k : Int) ∧ rdN (S * S) mm k = R ∧ WD hh ll mm ∧ Blk wr w.heap.size #[.bool g, .int .u64 hh, .int .u64 ll] 123 ∧ Blk wr (w.heap.size + 1) #[.int .i64 0, .int .i64 0] 35 ∧ ScM wr b S (nn S) ∧ Below w.heap.size w wr)
  case atStart => exact ⟨D, hh, ll, m, rfl, Nat.le_refl _, rfl, hR0, HWD, BW, BO, HS, hb⟩
  case round =>
    clear HWD BW BO HS hb
    obtain ⟨k, hh, ll, mm, hm, hkD, rfl, hR, HWD, BW, BO, HS, hb⟩ := hrel
    by_cases hk : k = 0
    · subst hk
      rw [rdN, ← hR0] at hR
      replace hR := hR.symm
      rw [show ((0 : Nat) : Int) = 0 from rfl]
      have hdp := fun W (H : ScM W b S (nn S)) => hasDepth_any b S W H 0 (by omega)
      by_cases c1 : 0 < nn S
      · rw [decide_eq_true (show (0 : Int) ≤ 0 ∧ 0 < ((nn S : Nat) : Int) by omega)] at hdp
        have HD := Lib.hid hdp
        have hwi := fun W => within_any g hh ll mm 1000000000000000000 HWD (by omega) W
        by_cases c2 : mm ≤ 1000000000000000000
        · rw [decide_eq_true (show (mm : Int) ≤ 1000000000000000000 by omega)] at hwi
          have HI := Lib.hid hwi
          have hna := fun W => narrow_any g hh ll mm HWD (by omega) W
          have hv : rdG S g m D = some (sgM g mm, ((0 : Nat) : Int)) := by unfold rdG; rw [hR, if_pos ⟨c1, c2⟩]
          have eN : sgM g mm = rN := by rw [← HrN.out, hv]; rfl
          obtain rfl : rD = 0 := by rw [← HrD.out, hv]; show ((0 : Nat) : Int) = _; omega
          obtain rfl : rE = 0 := by rw [← HrE.out, hv]; rfl
          rw [eN] at hna
          have HN := Lib.hid hna
          clear hna hwi hdp hv hR c1 c2 HWD eN
          obtain ⟨x0, x1, x2, xf, xl⟩ := BW.three
          obtain ⟨z0, z1, zf, zl⟩ := BO.two
          go_wp2_with (first | (go_at_call 101; refine (HD.out _ HS).mono ?_; clear HD; rintro e w5 ⟨rfl, rfl⟩) | (go_at_call 102; refine (HI.out _).mono ?_; clear HI; rintro e w6 ⟨rfl, hb6⟩; replace BW := BW.below hb6; replace BO := BO.below hb6; replace HS := HS.below hb6; replace hb := chain hb hb6; obtain ⟨x0, x1, x2, xf, xl⟩ := BW.three; obtain ⟨z0, z1, zf, zl⟩ := BO.two) | (go_at_call 103; refine (HN.out _).mono ?_; clear HN; rintro e w7 ⟨rfl, hb7⟩; replace BW := BW.below hb7; replace BO := BO.below hb7; replace hb := chain hb hb7; obtain ⟨x0, x1, x2, xf, xl⟩ := BW.three; obtain ⟨z0, z1, zf, zl⟩ := BO.two))
          have BRn := BO.set2 (.int .i64 rN) (.int .i64 0)
          obtain ⟨u0, u1, uf, ul⟩ := BRn.two
          refine bodyPost_ret (v := .tuple #[.agg #[.int .i64 rN, .int .i64 0], .int .i64 0]) (by simp [results, Tryz.results72, go_sem, u0, u1]) rfl ?_
          exact ⟨rfl, belowFar2 hb (by omega) _ _⟩
        · rw [decide_eq_false (show ¬ (mm : Int) ≤ 1000000000000000000 by omega)] at hwi
          have HI := Lib.hid hwi
          have hv : rdG S g m D = none := by unfold rdG; rw [hR, if_neg (fun q => c2 q.2)]
          obtain rfl : rN = 0 := by rw [← HrN.out, hv]; rfl
          obtain rfl : rD = 0 := by rw [← HrD.out, hv]; rfl
          obtain rfl : rE = 3 := by rw [← HrE.out, hv]; rfl
          clear hwi hdp hv hR c1 c2 HWD
          obtain ⟨x0, x1, x2, xf, xl⟩ := BW.three
          obtain ⟨z0, z1, zf, zl⟩ := BO.two
          go_wp2_with (first | (go_at_call 101; refine (HD.out _ HS).mono ?_; clear HD; rintro e w5 ⟨rfl, rfl⟩) | (go_at_call 102; refine (HI.out _).mono ?_; clear HI; rintro e w6 ⟨rfl, hb6⟩; replace BW := BW.below hb6; replace BO := BO.below hb6; replace HS := HS.below hb6; replace hb := chain hb hb6; obtain ⟨x0, x1, x2, xf, xl⟩ := BW.three; obtain ⟨z0, z1, zf, zl⟩ := BO.two))
          have BRn := BO.set2 (.int .i64 0) (.int .i64 0)
          obtain ⟨u0, u1, uf, ul⟩ := BRn.two
          refine bodyPost_ret (v := .tuple #[.agg #[.int .i64 0, .int .i64 0], .int .i64 3]) (by simp [results, Tryz.results72, go_sem, u0, u1]) rfl ?_
          exact ⟨rfl, belowFar2 hb (by omega) _ _⟩
      · rw [decide_eq_false (show ¬ ((0 : Int) ≤ 0 ∧ 0 < ((nn S : Nat) : Int)) by omega)] at hdp
        have HD := Lib.hid hdp
        have hv : rdG S g m D = none := by unfold rdG; rw [hR, if_neg (fun q => c1 q.1)]
        obtain rfl : rN = 0 := by rw [← HrN.out, hv]; rfl
        obtain rfl : rD = 0 := by rw [← HrD.out, hv]; rfl
        obtain rfl : rE = 3 := by rw [← HrE.out, hv]; rfl
        clear hdp hv hR c1 HWD
        obtain ⟨x0, x1, x2, xf, xl⟩ := BW.three
        obtain ⟨z0, z1, zf, zl⟩ := BO.two
        go_wp2_with (first | (go_at_call 101; refine (HD.out _ HS).mono ?_; clear HD; rintro e w5 ⟨rfl, rfl⟩))
        have BRn := BO.set2 (.int .i64 0) (.int .i64 0)
        obtain ⟨u0, u1, uf, ul⟩ := BRn.two
        refine bodyPost_ret (v := .tuple #[.agg #[.int .i64 0, .int .i64 0], .int .i64 3]) (by simp [results, Tryz.results72, go_sem, u0, u1]) rfl ?_
        exact ⟨rfl, belowFar2 hb (by omega) _ _⟩
    · obtain ⟨k, rfl⟩ : ∃ k', k = k' + 1 := ⟨k - 1, by omega⟩
      have hdv := fun W => divided_any g hh ll mm (S * S) HWD (by omega) W
      obtain ⟨RR, hRR⟩ : ∃ R : Int, ((mm % (S * S) : Nat) : Int) = R := ⟨_, rfl⟩
      have hz0 : RR = 0 → rdN (S * S) (mm / (S * S)) k = R := fun q => by rw [← hR]; exact (rdN_go (by omega)).symm
      have hz1 : RR ≠ 0 → rdN (S * S) m D = (mm, k + 1) := fun q => by rw [hR0, ← hR]; exact rdN_stop (by omega)
      rw [hBe, hRR] at hdv
      have HDV := Lib.hid hdv
      clear hdv hRR hB hBe
      have kI : (0 : Int) < ((k + 1 : Nat) : Int) := by omega
      go_wp2_with fail
      refine wp_region_held_drew (S := fun w' => w'.cell? ⟨w.heap.size, 0, none⟩ = some (.bool g) ∧ w'.cell? ⟨w.heap.size, 1, none⟩ = some (.int .u64 hh) ∧ w'.cell? ⟨w.heap.size, 2, none⟩ = some (.int .u64 ll)) (by kernel_rfl) ⟨BW.drew.three.1, BW.drew.three.2.1, BW.drew.three.2.2.1⟩ (fun hHeld => ?_)
      clear hHeld
      replace BW := BW.drew
      replace BO := BO.drew
      replace HS := HS.drew
      replace hb := hb.drew
      generalize wr.drew = vd at *
      have hHeld : vd.cell? ⟨w.heap.size, 0, none⟩ = some (.bool g) ∧ vd.cell? ⟨w.heap.size, 1, none⟩ = some (.int .u64 hh) ∧ vd.cell? ⟨w.heap.size, 2, none⟩ = some (.int .u64 ll) := ⟨BW.three.1, BW.three.2.1, BW.three.2.2.1⟩
      refine tk 0 13 ?_
      refine tk 1 14 ?_
      refine wpAnyH_ready (rs := [2, 7]) (by kernel_rfl) (by simp) ?_
      refine AllReadyH.cons (o := ⟨some 15, _, _, _, _, _⟩) rfl (fun K hK => ?_) (AllReadyH.cons (o := ⟨some 8, _, _, _, _, _⟩) rfl (fun K hK => ?_) AllReadyH.nil)
      · go_simp
        refine (HBA.out _ HS).mono ?_
        rintro e w2 ⟨rfl, rfl⟩
        (try go_wp2_with fail)
        refine hko hK ⟨BW.three.1, BW.three.2.1, BW.three.2.2.1⟩ fun hHeld => ?_
        clear hK K
        refine wpAnyH_ready (rs := [3, 7]) (by kernel_rfl) (by simp) ?_
        refine AllReadyH.cons (o := ⟨some 16, _, _, _, _, _⟩) rfl (fun K hK => ?_) (AllReadyH.cons (o := ⟨some 8, _, _, _, _, _⟩) rfl (fun K hK => ?_) AllReadyH.nil)
        · go_simp
          refine (HDV.out _).mono ?_
          rintro e w3 ⟨h2, l2, rfl, HW2, hb3⟩
          replace BW := BW.below hb3
          replace BO := BO.below hb3
          replace HS := HS.below hb3
          replace hb := chain hb hb3
          clear hb3
          (try go_wp2_with fail)
          refine hko hK ⟨BW.three.1, BW.three.2.1, BW.three.2.2.1⟩ fun hHeld => ?_
          clear hK K
          refine tk 4 12 ?_
          refine tk 5 17 ?_
          refine tk 6 18 ?_
          refine rdk 7 8 fun K hK => ?_
          go_simp
          (try go_wp2_with fail)
          refine hko hK ⟨(BW.alloc (.cells #[.bool false, .int .u64 0, .int .u64 0] 123)).three.1, (BW.alloc (.cells #[.bool false, .int .u64 0, .int .u64 0] 123)).three.2.1, (BW.alloc (.cells #[.bool false, .int .u64 0, .int .u64 0] 123)).three.2.2.1⟩ fun hHeld => ?_
          clear hK K
          have B8 := Blk.new w3 #[.bool false, .int .u64 0, .int .u64 0] 123
          have h8 : w.heap.size + 1 < w3.heap.size := BO.lt
          replace BW := BW.alloc (.cells #[.bool false, .int .u64 0, .int .u64 0] 123)
          replace BO := BO.alloc (.cells #[.bool false, .int .u64 0, .int .u64 0] 123)
          replace HS := HS.alloc (.cells #[.bool false, .int .u64 0, .int .u64 0] 123)
          replace hb := chain_alloc hb (.cells #[.bool false, .int .u64 0, .int .u64 0] 123)
          generalize w3.alloc (.cells #[.bool false, .int .u64 0, .int .u64 0] 123) = wA at *
          generalize w3.heap.size = g8 at *
          refine rdn 8 fun K hK => ?_
          clear hHeld
          obtain ⟨z0, z1, z2, zf, zl⟩ := B8.three
          have BWs := BW.far3 (B := g8) (by omega) (.bool g) (.int .u64 h2) (.int .u64 l2)
          have BOs := BO.far3 (B := g8) (by omega) (.bool g) (.int .u64 h2) (.int .u64 l2)
          have HSs := HS.far3 (B := g8) (by omega) (.bool g) (.int .u64 h2) (.int .u64 l2)
          have hbs := belowFar3 hb (B := g8) (by omega) (.bool g) (.int .u64 h2) (.int .u64 l2)
          have B8s := B8.set3 (.bool g) (.int .u64 h2) (.int .u64 l2)
          go_simp
          (try go_wp2_with fail)
          refine hko hK ⟨BWs.three.1, BWs.three.2.1, BWs.three.2.2.1⟩ fun hHeld => ?_
          clear hK K
          clear z0 z1 z2 zf zl BW BO HS hb B8
          generalize (((wA.setCell ⟨g8, 0, none⟩ (.bool g)).setCell ⟨g8, 1, none⟩ (.int .u64 h2)).setCell ⟨g8, 2, none⟩ (.int .u64 l2)) = wS at *
          have BW := BWs
          have BO := BOs
          have HS := HSs
          have hb := hbs
          have B8 := B8s
          clear BWs BOs HSs hbs B8s
          refine tk 9 9 ?_
          refine wpAnyH_done (by kernel_rfl) ?_ _
          clear hHeld
          by_cases c : RR = 0
          · have hR2 := hz0 c
            subst c
            obtain ⟨x0, x1, x2, xf, xl⟩ := BW.three
            obtain ⟨z0, z1, z2, zf, zl⟩ := B8.three
            go_wp2
            go_roundg k
            case measure => omega
            case rel => exact ⟨k, h2, l2, mm / (S * S), rfl, by omega, by go_num, hR2, HW2, BW.set3 (.bool g) (.int .u64 h2) (.int .u64 l2), BO.far3 (by omega) (.bool g) (.int .u64 h2) (.int .u64 l2), HS.far3 (by omega) (.bool g) (.int .u64 h2) (.int .u64 l2), belowFar3 hb (by omega) (.bool g) (.int .u64 h2) (.int .u64 l2)⟩
          · have hR2 := hz1 c
            have f0 : (RR == 0) = false := by rw [beq_eq_false_iff_ne]; exact c
            clear hz0 hz1 HW2 B8 h8 HBA HDV c hR
            have hR := hR2
            clear hR2
            have kD : k + 1 ≤ nn S := by omega
            clear hkD hm
            have hdp := fun W (H : ScM W b S (nn S)) => hasDepth_any b S W H ((k : Int) + 1) (by omega)
            by_cases c1 : k + 1 < nn S
            · rw [decide_eq_true (show (0 : Int) ≤ ((k : Int) + 1) ∧ ((k : Int) + 1) < ((nn S : Nat) : Int) by omega)] at hdp
              have HD := Lib.hid hdp
              have hwi := fun W => within_any g hh ll mm 1000000000000000000 HWD (by omega) W
              by_cases c2 : mm ≤ 1000000000000000000
              · rw [decide_eq_true (show (mm : Int) ≤ 1000000000000000000 by omega)] at hwi
                have HI := Lib.hid hwi
                have hna := fun W => narrow_any g hh ll mm HWD (by omega) W
                have hv : rdG S g m D = some (sgM g mm, ((k + 1 : Nat) : Int)) := by unfold rdG; rw [hR, if_pos ⟨c1, c2⟩]
                have eN : sgM g mm = rN := by rw [← HrN.out, hv]; rfl
                obtain rfl : rD = ((k : Int) + 1) := by rw [← HrD.out, hv]; show ((k + 1 : Nat) : Int) = _; omega
                obtain rfl : rE = 0 := by rw [← HrE.out, hv]; rfl
                rw [eN] at hna
                have HN := Lib.hid hna
                clear hna hwi hdp hv hR c1 c2 HWD eN
                obtain ⟨x0, x1, x2, xf, xl⟩ := BW.three
                obtain ⟨z0, z1, zf, zl⟩ := BO.two
                go_wp2_with (first | (go_at_call 101; refine (HD.out _ HS).mono ?_; clear HD; rintro e w5 ⟨rfl, rfl⟩) | (go_at_call 102; refine (HI.out _).mono ?_; clear HI; rintro e w6 ⟨rfl, hb6⟩; replace BW := BW.below hb6; replace BO := BO.below hb6; replace HS := HS.below hb6; replace hb := chain hb hb6; obtain ⟨x0, x1, x2, xf, xl⟩ := BW.three; obtain ⟨z0, z1, zf, zl⟩ := BO.two) | (go_at_call 103; refine (HN.out _).mono ?_; clear HN; rintro e w7 ⟨rfl, hb7⟩; replace BW := BW.below hb7; replace BO := BO.below hb7; replace hb := chain hb hb7; obtain ⟨x0, x1, x2, xf, xl⟩ := BW.three; obtain ⟨z0, z1, zf, zl⟩ := BO.two))
                have BRn := BO.set2 (.int .i64 rN) (.int .i64 ((k : Int) + 1))
                obtain ⟨u0, u1, uf, ul⟩ := BRn.two
                refine bodyPost_ret (v := .tuple #[.agg #[.int .i64 rN, .int .i64 ((k : Int) + 1)], .int .i64 0]) (by simp [results, Tryz.results72, go_sem, u0, u1]) rfl ?_
                exact ⟨rfl, belowFar2 hb (by omega) _ _⟩
              · rw [decide_eq_false (show ¬ (mm : Int) ≤ 1000000000000000000 by omega)] at hwi
                have HI := Lib.hid hwi
                have hv : rdG S g m D = none := by unfold rdG; rw [hR, if_neg (fun q => c2 q.2)]
                obtain rfl : rN = 0 := by rw [← HrN.out, hv]; rfl
                obtain rfl : rD = 0 := by rw [← HrD.out, hv]; rfl
                obtain rfl : rE = 3 := by rw [← HrE.out, hv]; rfl
                clear hwi hdp hv hR c1 c2 HWD
                obtain ⟨x0, x1, x2, xf, xl⟩ := BW.three
                obtain ⟨z0, z1, zf, zl⟩ := BO.two
                go_wp2_with (first | (go_at_call 101; refine (HD.out _ HS).mono ?_; clear HD; rintro e w5 ⟨rfl, rfl⟩) | (go_at_call 102; refine (HI.out _).mono ?_; clear HI; rintro e w6 ⟨rfl, hb6⟩; replace BW := BW.below hb6; replace BO := BO.below hb6; replace HS := HS.below hb6; replace hb := chain hb hb6; obtain ⟨x0, x1, x2, xf, xl⟩ := BW.three; obtain ⟨z0, z1, zf, zl⟩ := BO.two))
                have BRn := BO.set2 (.int .i64 0) (.int .i64 0)
                obtain ⟨u0, u1, uf, ul⟩ := BRn.two
                refine bodyPost_ret (v := .tuple #[.agg #[.int .i64 0, .int .i64 0], .int .i64 3]) (by simp [results, Tryz.results72, go_sem, u0, u1]) rfl ?_
                exact ⟨rfl, belowFar2 hb (by omega) _ _⟩
            · rw [decide_eq_false (show ¬ ((0 : Int) ≤ ((k : Int) + 1) ∧ ((k : Int) + 1) < ((nn S : Nat) : Int)) by omega)] at hdp
              have HD := Lib.hid hdp
              have hv : rdG S g m D = none := by unfold rdG; rw [hR, if_neg (fun q => c1 q.1)]
              obtain rfl : rN = 0 := by rw [← HrN.out, hv]; rfl
              obtain rfl : rD = 0 := by rw [← HrD.out, hv]; rfl
              obtain rfl : rE = 3 := by rw [← HrE.out, hv]; rfl
              clear hdp hv hR c1 HWD
              obtain ⟨x0, x1, x2, xf, xl⟩ := BW.three
              obtain ⟨z0, z1, zf, zl⟩ := BO.two
              go_wp2_with (first | (go_at_call 101; refine (HD.out _ HS).mono ?_; clear HD; rintro e w5 ⟨rfl, rfl⟩))
              have BRn := BO.set2 (.int .i64 0) (.int .i64 0)
              obtain ⟨u0, u1, uf, ul⟩ := BRn.two
              refine bodyPost_ret (v := .tuple #[.agg #[.int .i64 0, .int .i64 0], .int .i64 3]) (by simp [results, Tryz.results72, go_sem, u0, u1]) rfl ?_
              exact ⟨rfl, belowFar2 hb (by omega) _ _⟩
        · go_simp
          (try go_wp2_with fail)
          refine hko hK ⟨(BW.alloc (.cells #[.bool false, .int .u64 0, .int .u64 0] 123)).three.1, (BW.alloc (.cells #[.bool false, .int .u64 0, .int .u64 0] 123)).three.2.1, (BW.alloc (.cells #[.bool false, .int .u64 0, .int .u64 0] 123)).three.2.2.1⟩ fun hHeld => ?_
          clear hK K
          have B8 := Blk.new vd #[.bool false, .int .u64 0, .int .u64 0] 123
          have h8 : w.heap.size + 1 < vd.heap.size := BO.lt
          replace BW := BW.alloc (.cells #[.bool false, .int .u64 0, .int .u64 0] 123)
          replace BO := BO.alloc (.cells #[.bool false, .int .u64 0, .int .u64 0] 123)
          replace HS := HS.alloc (.cells #[.bool false, .int .u64 0, .int .u64 0] 123)
          replace hb := chain_alloc hb (.cells #[.bool false, .int .u64 0, .int .u64 0] 123)
          generalize vd.alloc (.cells #[.bool false, .int .u64 0, .int .u64 0] 123) = wA at *
          generalize vd.heap.size = g8 at *
          refine rdk 3 16 fun K hK => ?_
          go_simp
          refine (HDV.out _).mono ?_
          rintro e w3 ⟨h2, l2, rfl, HW2, hb3⟩
          replace BW := BW.below hb3
          replace BO := BO.below hb3
          replace HS := HS.below hb3
          replace B8 := B8.below hb3
          replace hb := chain hb hb3
          clear hb3
          (try go_wp2_with fail)
          refine hko hK ⟨BW.three.1, BW.three.2.1, BW.three.2.2.1⟩ fun hHeld => ?_
          clear hK K
          refine tk 4 12 ?_
          refine tk 5 17 ?_
          refine tk 6 18 ?_
          refine rdn 8 fun K hK => ?_
          clear hHeld
          obtain ⟨z0, z1, z2, zf, zl⟩ := B8.three
          have BWs := BW.far3 (B := g8) (by omega) (.bool g) (.int .u64 h2) (.int .u64 l2)
          have BOs := BO.far3 (B := g8) (by omega) (.bool g) (.int .u64 h2) (.int .u64 l2)
          have HSs := HS.far3 (B := g8) (by omega) (.bool g) (.int .u64 h2) (.int .u64 l2)
          have hbs := belowFar3 hb (B := g8) (by omega) (.bool g) (.int .u64 h2) (.int .u64 l2)
          have B8s := B8.set3 (.bool g) (.int .u64 h2) (.int .u64 l2)
          go_simp
          (try go_wp2_with fail)
          refine hko hK ⟨BWs.three.1, BWs.three.2.1, BWs.three.2.2.1⟩ fun hHeld => ?_
          clear hK K
          clear z0 z1 z2 zf zl BW BO HS hb B8
          generalize (((w3.setCell ⟨g8, 0, none⟩ (.bool g)).setCell ⟨g8, 1, none⟩ (.int .u64 h2)).setCell ⟨g8, 2, none⟩ (.int .u64 l2)) = wS at *
          have BW := BWs
          have BO := BOs
          have HS := HSs
          have hb := hbs
          have B8 := B8s
          clear BWs BOs HSs hbs B8s
          refine tk 9 9 ?_
          refine wpAnyH_done (by kernel_rfl) ?_ _
          clear hHeld
          by_cases c : RR = 0
          · have hR2 := hz0 c
            subst c
            obtain ⟨x0, x1, x2, xf, xl⟩ := BW.three
            obtain ⟨z0, z1, z2, zf, zl⟩ := B8.three
            go_wp2
            go_roundg k
            case measure => omega
            case rel => exact ⟨k, h2, l2, mm / (S * S), rfl, by omega, by go_num, hR2, HW2, BW.set3 (.bool g) (.int .u64 h2) (.int .u64 l2), BO.far3 (by omega) (.bool g) (.int .u64 h2) (.int .u64 l2), HS.far3 (by omega) (.bool g) (.int .u64 h2) (.int .u64 l2), belowFar3 hb (by omega) (.bool g) (.int .u64 h2) (.int .u64 l2)⟩
          · have hR2 := hz1 c
            have f0 : (RR == 0) = false := by rw [beq_eq_false_iff_ne]; exact c
            clear hz0 hz1 HW2 B8 h8 HBA HDV c hR
            have hR := hR2
            clear hR2
            have kD : k + 1 ≤ nn S := by omega
            clear hkD hm
            have hdp := fun W (H : ScM W b S (nn S)) => hasDepth_any b S W H ((k : Int) + 1) (by omega)
            by_cases c1 : k + 1 < nn S
            · rw [decide_eq_true (show (0 : Int) ≤ ((k : Int) + 1) ∧ ((k : Int) + 1) < ((nn S : Nat) : Int) by omega)] at hdp
              have HD := Lib.hid hdp
              have hwi := fun W => within_any g hh ll mm 1000000000000000000 HWD (by omega) W
              by_cases c2 : mm ≤ 1000000000000000000
              · rw [decide_eq_true (show (mm : Int) ≤ 1000000000000000000 by omega)] at hwi
                have HI := Lib.hid hwi
                have hna := fun W => narrow_any g hh ll mm HWD (by omega) W
                have hv : rdG S g m D = some (sgM g mm, ((k + 1 : Nat) : Int)) := by unfold rdG; rw [hR, if_pos ⟨c1, c2⟩]
                have eN : sgM g mm = rN := by rw [← HrN.out, hv]; rfl
                obtain rfl : rD = ((k : Int) + 1) := by rw [← HrD.out, hv]; show ((k + 1 : Nat) : Int) = _; omega
                obtain rfl : rE = 0 := by rw [← HrE.out, hv]; rfl
                rw [eN] at hna
                have HN := Lib.hid hna
                clear hna hwi hdp hv hR c1 c2 HWD eN
                obtain ⟨x0, x1, x2, xf, xl⟩ := BW.three
                obtain ⟨z0, z1, zf, zl⟩ := BO.two
                go_wp2_with (first | (go_at_call 101; refine (HD.out _ HS).mono ?_; clear HD; rintro e w5 ⟨rfl, rfl⟩) | (go_at_call 102; refine (HI.out _).mono ?_; clear HI; rintro e w6 ⟨rfl, hb6⟩; replace BW := BW.below hb6; replace BO := BO.below hb6; replace HS := HS.below hb6; replace hb := chain hb hb6; obtain ⟨x0, x1, x2, xf, xl⟩ := BW.three; obtain ⟨z0, z1, zf, zl⟩ := BO.two) | (go_at_call 103; refine (HN.out _).mono ?_; clear HN; rintro e w7 ⟨rfl, hb7⟩; replace BW := BW.below hb7; replace BO := BO.below hb7; replace hb := chain hb hb7; obtain ⟨x0, x1, x2, xf, xl⟩ := BW.three; obtain ⟨z0, z1, zf, zl⟩ := BO.two))
                have BRn := BO.set2 (.int .i64 rN) (.int .i64 ((k : Int) + 1))
                obtain ⟨u0, u1, uf, ul⟩ := BRn.two
                refine bodyPost_ret (v := .tuple #[.agg #[.int .i64 rN, .int .i64 ((k : Int) + 1)], .int .i64 0]) (by simp [results, Tryz.results72, go_sem, u0, u1]) rfl ?_
                exact ⟨rfl, belowFar2 hb (by omega) _ _⟩
              · rw [decide_eq_false (show ¬ (mm : Int) ≤ 1000000000000000000 by omega)] at hwi
                have HI := Lib.hid hwi
                have hv : rdG S g m D = none := by unfold rdG; rw [hR, if_neg (fun q => c2 q.2)]
                obtain rfl : rN = 0 := by rw [← HrN.out, hv]; rfl
                obtain rfl : rD = 0 := by rw [← HrD.out, hv]; rfl
                obtain rfl : rE = 3 := by rw [← HrE.out, hv]; rfl
                clear hwi hdp hv hR c1 c2 HWD
                obtain ⟨x0, x1, x2, xf, xl⟩ := BW.three
                obtain ⟨z0, z1, zf, zl⟩ := BO.two
                go_wp2_with (first | (go_at_call 101; refine (HD.out _ HS).mono ?_; clear HD; rintro e w5 ⟨rfl, rfl⟩) | (go_at_call 102; refine (HI.out _).mono ?_; clear HI; rintro e w6 ⟨rfl, hb6⟩; replace BW := BW.below hb6; replace BO := BO.below hb6; replace HS := HS.below hb6; replace hb := chain hb hb6; obtain ⟨x0, x1, x2, xf, xl⟩ := BW.three; obtain ⟨z0, z1, zf, zl⟩ := BO.two))
                have BRn := BO.set2 (.int .i64 0) (.int .i64 0)
                obtain ⟨u0, u1, uf, ul⟩ := BRn.two
                refine bodyPost_ret (v := .tuple #[.agg #[.int .i64 0, .int .i64 0], .int .i64 3]) (by simp [results, Tryz.results72, go_sem, u0, u1]) rfl ?_
                exact ⟨rfl, belowFar2 hb (by omega) _ _⟩
            · rw [decide_eq_false (show ¬ ((0 : Int) ≤ ((k : Int) + 1) ∧ ((k : Int) + 1) < ((nn S : Nat) : Int)) by omega)] at hdp
              have HD := Lib.hid hdp
              have hv : rdG S g m D = none := by unfold rdG; rw [hR, if_neg (fun q => c1 q.1)]
              obtain rfl : rN = 0 := by rw [← HrN.out, hv]; rfl
              obtain rfl : rD = 0 := by rw [← HrD.out, hv]; rfl
              obtain rfl : rE = 3 := by rw [← HrE.out, hv]; rfl
              clear hdp hv hR c1 HWD
              obtain ⟨x0, x1, x2, xf, xl⟩ := BW.three
              obtain ⟨z0, z1, zf, zl⟩ := BO.two
              go_wp2_with (first | (go_at_call 101; refine (HD.out _ HS).mono ?_; clear HD; rintro e w5 ⟨rfl, rfl⟩))
              have BRn := BO.set2 (.int .i64 0) (.int .i64 0)
              obtain ⟨u0, u1, uf, ul⟩ := BRn.two
              refine bodyPost_ret (v := .tuple #[.agg #[.int .i64 0, .int .i64 0], .int .i64 3]) (by simp [results, Tryz.results72, go_sem, u0, u1]) rfl ?_
              exact ⟨rfl, belowFar2 hb (by omega) _ _⟩
      · go_simp
        (try go_wp2_with fail)
        refine hko hK ⟨(BW.alloc (.cells #[.bool false, .int .u64 0, .int .u64 0] 123)).three.1, (BW.alloc (.cells #[.bool false, .int .u64 0, .int .u64 0] 123)).three.2.1, (BW.alloc (.cells #[.bool false, .int .u64 0, .int .u64 0] 123)).three.2.2.1⟩ fun hHeld => ?_
        clear hK K
        have B8 := Blk.new vd #[.bool false, .int .u64 0, .int .u64 0] 123
        have h8 : w.heap.size + 1 < vd.heap.size := BO.lt
        replace BW := BW.alloc (.cells #[.bool false, .int .u64 0, .int .u64 0] 123)
        replace BO := BO.alloc (.cells #[.bool false, .int .u64 0, .int .u64 0] 123)
        replace HS := HS.alloc (.cells #[.bool false, .int .u64 0, .int .u64 0] 123)
        replace hb := chain_alloc hb (.cells #[.bool false, .int .u64 0, .int .u64 0] 123)
        generalize vd.alloc (.cells #[.bool false, .int .u64 0, .int .u64 0] 123) = wA at *
        generalize vd.heap.size = g8 at *
        refine rdk 2 15 fun K hK => ?_
        go_simp
        refine (HBA.out _ HS).mono ?_
        rintro e w2 ⟨rfl, rfl⟩
        (try go_wp2_with fail)
        refine hko hK ⟨BW.three.1, BW.three.2.1, BW.three.2.2.1⟩ fun hHeld => ?_
        clear hK K
        refine rdk 3 16 fun K hK => ?_
        go_simp
        refine (HDV.out _).mono ?_
        rintro e w3 ⟨h2, l2, rfl, HW2, hb3⟩
        replace BW := BW.below hb3
        replace BO := BO.below hb3
        replace HS := HS.below hb3
        replace B8 := B8.below hb3
        replace hb := chain hb hb3
        clear hb3
        (try go_wp2_with fail)
        refine hko hK ⟨BW.three.1, BW.three.2.1, BW.three.2.2.1⟩ fun hHeld => ?_
        clear hK K
        refine tk 4 12 ?_
        refine tk 5 17 ?_
        refine tk 6 18 ?_
        refine rdn 8 fun K hK => ?_
        clear hHeld
        obtain ⟨z0, z1, z2, zf, zl⟩ := B8.three
        have BWs := BW.far3 (B := g8) (by omega) (.bool g) (.int .u64 h2) (.int .u64 l2)
        have BOs := BO.far3 (B := g8) (by omega) (.bool g) (.int .u64 h2) (.int .u64 l2)
        have HSs := HS.far3 (B := g8) (by omega) (.bool g) (.int .u64 h2) (.int .u64 l2)
        have hbs := belowFar3 hb (B := g8) (by omega) (.bool g) (.int .u64 h2) (.int .u64 l2)
        have B8s := B8.set3 (.bool g) (.int .u64 h2) (.int .u64 l2)
        go_simp
        (try go_wp2_with fail)
        refine hko hK ⟨BWs.three.1, BWs.three.2.1, BWs.three.2.2.1⟩ fun hHeld => ?_
        clear hK K
        clear z0 z1 z2 zf zl BW BO HS hb B8
        generalize (((w3.setCell ⟨g8, 0, none⟩ (.bool g)).setCell ⟨g8, 1, none⟩ (.int .u64 h2)).setCell ⟨g8, 2, none⟩ (.int .u64 l2)) = wS at *
        have BW := BWs
        have BO := BOs
        have HS := HSs
        have hb := hbs
        have B8 := B8s
        clear BWs BOs HSs hbs B8s
        refine tk 9 9 ?_
        refine wpAnyH_done (by kernel_rfl) ?_ _
        clear hHeld
        by_cases c : RR = 0
        · have hR2 := hz0 c
          subst c
          obtain ⟨x0, x1, x2, xf, xl⟩ := BW.three
          obtain ⟨z0, z1, z2, zf, zl⟩ := B8.three
          go_wp2
          go_roundg k
          case measure => omega
          case rel => exact ⟨k, h2, l2, mm / (S * S), rfl, by omega, by go_num, hR2, HW2, BW.set3 (.bool g) (.int .u64 h2) (.int .u64 l2), BO.far3 (by omega) (.bool g) (.int .u64 h2) (.int .u64 l2), HS.far3 (by omega) (.bool g) (.int .u64 h2) (.int .u64 l2), belowFar3 hb (by omega) (.bool g) (.int .u64 h2) (.int .u64 l2)⟩
        · have hR2 := hz1 c
          have f0 : (RR == 0) = false := by rw [beq_eq_false_iff_ne]; exact c
          clear hz0 hz1 HW2 B8 h8 HBA HDV c hR
          have hR := hR2
          clear hR2
          have kD : k + 1 ≤ nn S := by omega
          clear hkD hm
          have hdp := fun W (H : ScM W b S (nn S)) => hasDepth_any b S W H ((k : Int) + 1) (by omega)
          by_cases c1 : k + 1 < nn S
          · rw [decide_eq_true (show (0 : Int) ≤ ((k : Int) + 1) ∧ ((k : Int) + 1) < ((nn S : Nat) : Int) by omega)] at hdp
            have HD := Lib.hid hdp
            have hwi := fun W => within_any g hh ll mm 1000000000000000000 HWD (by omega) W
            by_cases c2 : mm ≤ 1000000000000000000
            · rw [decide_eq_true (show (mm : Int) ≤ 1000000000000000000 by omega)] at hwi
              have HI := Lib.hid hwi
              have hna := fun W => narrow_any g hh ll mm HWD (by omega) W
              have hv : rdG S g m D = some (sgM g mm, ((k + 1 : Nat) : Int)) := by unfold rdG; rw [hR, if_pos ⟨c1, c2⟩]
              have eN : sgM g mm = rN := by rw [← HrN.out, hv]; rfl
              obtain rfl : rD = ((k : Int) + 1) := by rw [← HrD.out, hv]; show ((k + 1 : Nat) : Int) = _; omega
              obtain rfl : rE = 0 := by rw [← HrE.out, hv]; rfl
              rw [eN] at hna
              have HN := Lib.hid hna
              clear hna hwi hdp hv hR c1 c2 HWD eN
              obtain ⟨x0, x1, x2, xf, xl⟩ := BW.three
              obtain ⟨z0, z1, zf, zl⟩ := BO.two
              go_wp2_with (first | (go_at_call 101; refine (HD.out _ HS).mono ?_; clear HD; rintro e w5 ⟨rfl, rfl⟩) | (go_at_call 102; refine (HI.out _).mono ?_; clear HI; rintro e w6 ⟨rfl, hb6⟩; replace BW := BW.below hb6; replace BO := BO.below hb6; replace HS := HS.below hb6; replace hb := chain hb hb6; obtain ⟨x0, x1, x2, xf, xl⟩ := BW.three; obtain ⟨z0, z1, zf, zl⟩ := BO.two) | (go_at_call 103; refine (HN.out _).mono ?_; clear HN; rintro e w7 ⟨rfl, hb7⟩; replace BW := BW.below hb7; replace BO := BO.below hb7; replace hb := chain hb hb7; obtain ⟨x0, x1, x2, xf, xl⟩ := BW.three; obtain ⟨z0, z1, zf, zl⟩ := BO.two))
              have BRn := BO.set2 (.int .i64 rN) (.int .i64 ((k : Int) + 1))
              obtain ⟨u0, u1, uf, ul⟩ := BRn.two
              refine bodyPost_ret (v := .tuple #[.agg #[.int .i64 rN, .int .i64 ((k : Int) + 1)], .int .i64 0]) (by simp [results, Tryz.results72, go_sem, u0, u1]) rfl ?_
              exact ⟨rfl, belowFar2 hb (by omega) _ _⟩
            · rw [decide_eq_false (show ¬ (mm : Int) ≤ 1000000000000000000 by omega)] at hwi
              have HI := Lib.hid hwi
              have hv : rdG S g m D = none := by unfold rdG; rw [hR, if_neg (fun q => c2 q.2)]
              obtain rfl : rN = 0 := by rw [← HrN.out, hv]; rfl
              obtain rfl : rD = 0 := by rw [← HrD.out, hv]; rfl
              obtain rfl : rE = 3 := by rw [← HrE.out, hv]; rfl
              clear hwi hdp hv hR c1 c2 HWD
              obtain ⟨x0, x1, x2, xf, xl⟩ := BW.three
              obtain ⟨z0, z1, zf, zl⟩ := BO.two
              go_wp2_with (first | (go_at_call 101; refine (HD.out _ HS).mono ?_; clear HD; rintro e w5 ⟨rfl, rfl⟩) | (go_at_call 102; refine (HI.out _).mono ?_; clear HI; rintro e w6 ⟨rfl, hb6⟩; replace BW := BW.below hb6; replace BO := BO.below hb6; replace HS := HS.below hb6; replace hb := chain hb hb6; obtain ⟨x0, x1, x2, xf, xl⟩ := BW.three; obtain ⟨z0, z1, zf, zl⟩ := BO.two))
              have BRn := BO.set2 (.int .i64 0) (.int .i64 0)
              obtain ⟨u0, u1, uf, ul⟩ := BRn.two
              refine bodyPost_ret (v := .tuple #[.agg #[.int .i64 0, .int .i64 0], .int .i64 3]) (by simp [results, Tryz.results72, go_sem, u0, u1]) rfl ?_
              exact ⟨rfl, belowFar2 hb (by omega) _ _⟩
          · rw [decide_eq_false (show ¬ ((0 : Int) ≤ ((k : Int) + 1) ∧ ((k : Int) + 1) < ((nn S : Nat) : Int)) by omega)] at hdp
            have HD := Lib.hid hdp
            have hv : rdG S g m D = none := by unfold rdG; rw [hR, if_neg (fun q => c1 q.1)]
            obtain rfl : rN = 0 := by rw [← HrN.out, hv]; rfl
            obtain rfl : rD = 0 := by rw [← HrD.out, hv]; rfl
            obtain rfl : rE = 3 := by rw [← HrE.out, hv]; rfl
            clear hdp hv hR c1 HWD
            obtain ⟨x0, x1, x2, xf, xl⟩ := BW.three
            obtain ⟨z0, z1, zf, zl⟩ := BO.two
            go_wp2_with (first | (go_at_call 101; refine (HD.out _ HS).mono ?_; clear HD; rintro e w5 ⟨rfl, rfl⟩))
            have BRn := BO.set2 (.int .i64 0) (.int .i64 0)
            obtain ⟨u0, u1, uf, ul⟩ := BRn.two
            refine bodyPost_ret (v := .tuple #[.agg #[.int .i64 0, .int .i64 0], .int .i64 3]) (by simp [results, Tryz.results72, go_sem, u0, u1]) rfl ?_
            exact ⟨rfl, belowFar2 hb (by omega) _ _⟩
end Go.Proofs.YtnlclmlnpkncoaaGreat
