/- Texts of a proof, laid together. -/
import Derived.Test.YtnlclmlnpkncoaaGreatW09
import Derived.Deep.Cut
import Derived.Test.YtnlclmlnpkncoaaGreatW07
namespace Go.Proofs.YtnlclmlnpkncoaaGreat
open Go.ChangeShapes Go.WideShapes Go.ChangeAt Go.RowKit
set_option linter.unusedVariables false
set_option linter.unusedSimpArgs false
set_option maxRecDepth 4000
theorem cop_mul {a b c : Nat} (h1 : Nat.Coprime a c) (h2 : Nat.Coprime b c) : Nat.Coprime (a * b) c := by
  first
  | exact Nat.Coprime.mul_left h1 h2
  | exact Nat.Coprime.mul h1 h2
theorem mul_none {S D : Nat} {a N F : Int} (hS : 1 ≤ S ∧ S ≤ 6) (hco : Nat.Coprime a.natAbs F.natAbs) (h : a.natAbs * scN S D = N.natAbs * F.natAbs) (hbig : 1000000000000000000 < a.natAbs) : rdX S N D = none := by
  unfold rdX
  rw [if_neg]
  intro q
  obtain ⟨h1, h2⟩ := rdN_spec (S * S) D N.natAbs
  have hle := (rdN_le (S * S) D N.natAbs).1
  obtain ⟨m, hm⟩ : ∃ m, (rdN (S * S) N.natAbs D).1 = m := ⟨_, rfl⟩
  obtain ⟨k, hk⟩ : ∃ k, (rdN (S * S) N.natAbs D).2 = k := ⟨_, rfl⟩
  rw [hm] at h1 q
  rw [hk] at h1 hle
  have hp : 0 < (S * S) ^ (D - k) := Nat.pow_pos (base_range hS).1
  have e : scN S D = (S * S) ^ k * (S * S) ^ (D - k) := by unfold scN; rw [← Nat.pow_add]; congr 1; omega
  rw [e, h1] at h
  have h3 : a.natAbs * (S * S) ^ k = m * F.natAbs := by
    refine Nat.eq_of_mul_eq_mul_right hp ?_
    rw [Nat.mul_assoc, h]
    simp only [Nat.mul_assoc, Nat.mul_comm, Nat.mul_left_comm]
  have hdv : a.natAbs ∣ m := hco.dvd_of_dvd_mul_right ⟨_, h3.symm⟩
  have hm0 : 0 < m := by
    rcases Nat.eq_zero_or_pos m with q0 | q0
    · rw [q0, Nat.zero_mul] at h3
      have := Nat.mul_pos (show 0 < a.natAbs by omega) (Nat.pow_pos (n := k) (base_range hS).1)
      omega
    · exact q0
  have := Nat.le_of_dvd hm0 hdv
  omega
theorem mul_terms (x k C : Int) (hC : 0 < C) :
    ∃ (G0 E G A K F : Int), ((Int.gcd k C : Nat) : Int) = G0 ∧ 0 < G0 ∧ C / G0 = E ∧ 0 < E ∧ E ≤ C ∧ ((Int.gcd x E : Nat) : Int) = G ∧ 0 < G ∧ x.tdiv G = A ∧ k.tdiv G0 = K ∧ E / G = F ∧ 0 < F ∧ F ≤ E ∧
      A.natAbs ≤ x.natAbs ∧ K.natAbs ≤ k.natAbs ∧ Nat.Coprime (A * K).natAbs F.natAbs ∧ A * K * C = x * k * F := by
  have part : ∀ (a b : Int), 0 < b → ∃ g A B : Int, ((Int.gcd a b : Nat) : Int) = g ∧ 0 < g ∧ a.tdiv g = A ∧ b / g = B ∧ 0 < B ∧ B ≤ b ∧ A.natAbs ≤ a.natAbs ∧ Nat.Coprime A.natAbs B.natAbs ∧ a = g * A ∧ b = g * B := by
    intro a b hb
    have hg : 0 < Int.gcd a b := Int.gcd_pos_of_ne_zero_right _ (by omega)
    obtain ⟨g, hge⟩ : ∃ g, Int.gcd a b = g := ⟨_, rfl⟩
    rw [hge] at hg
    obtain ⟨A, hA⟩ : ∃ A, a = (g : Int) * A := by have := Int.gcd_dvd_left a b; rw [hge] at this; exact this
    obtain ⟨B, hB⟩ : ∃ B, b = (g : Int) * B := by have := Int.gcd_dvd_right a b; rw [hge] at this; exact this
    have hBp : 0 < B := by
      rcases Int.lt_or_le 0 B with q | q
      · exact q
      · have := Int.mul_nonpos_of_nonneg_of_nonpos (show 0 ≤ (g : Int) by omega) q
        omega
    have hbn : b.natAbs = g * B.natAbs := by rw [hB, Int.natAbs_mul, Int.natAbs_natCast]
    have han : a.natAbs = g * A.natAbs := by rw [hA, Int.natAbs_mul, Int.natAbs_natCast]
    have hco : Nat.Coprime A.natAbs B.natAbs := by
      have h1 : Nat.gcd a.natAbs b.natAbs = g := hge
      rw [han, hbn, Nat.gcd_mul_left] at h1
      exact Nat.eq_of_mul_eq_mul_left hg (by rw [h1, Nat.mul_one])
    refine ⟨(g : Int), A, B, by rw [hge], by omega, ?_, ?_, hBp, ?_, ?_, hco, hA, hB⟩
    · rw [hA]; exact Int.mul_tdiv_cancel_left _ (by omega)
    · rw [hB]; exact Int.mul_ediv_cancel_left _ (by omega)
    · have h2 := Nat.le_mul_of_pos_left B.natAbs hg
      rw [← hbn] at h2
      omega
    · rw [han]; exact Nat.le_mul_of_pos_left _ hg
  obtain ⟨G0, K, E, g1, g2, g3, g4, g5, g6, g7, g8, g9, g10⟩ := part k C hC
  obtain ⟨G, A, F, f1, f2, f3, f4, f5, f6, f7, f8, f9, f10⟩ := part x E g5
  refine ⟨G0, E, G, A, K, F, g1, g2, g4, g5, g6, f1, f2, f3, g3, f4, f5, f6, f7, g7, ?_, ?_⟩
  · rw [Int.natAbs_mul]
    refine cop_mul f8 ?_
    rw [f10, Int.natAbs_mul] at g8
    exact Nat.Coprime.coprime_mul_left_right g8
  · rw [g10, f9, g9]
    conv => lhs; rw [f10]
    simp only [Int.mul_assoc, Int.mul_comm, Int.mul_left_comm]
set_option maxRecDepth 8000 in
set_option maxHeartbeats 1000000 in
theorem l09Mul_any (p c h : Int) (S : Nat) (hS : 1 ≤ S ∧ S ≤ 6) (xn xd k : Int) (hx : -1000000000000000000 ≤ xn ∧ xn ≤ 1000000000000000000) (hi : 0 ≤ xd ∧ xd < ((nn S : Nat) : Int)) (hk : -1000 ≤ k ∧ k ≤ 1000) (w : World) :
    Calls Tryz.prog 77 #[.agg #[.int .i64 p, .int .i64 c, .int .i64 h, .int .i64 (S : Int)], .agg #[.int .i64 xn, .int .i64 xd], .int .i64 k] w fun e w' => e = .returned (.tuple #[.agg #[.int .i64 (xoN (rdX S (xn * k) xd.toNat)), .int .i64 (xoD (rdX S (xn * k) xd.toNat))], .bool (rdX S (xn * k) xd.toNat).isSome]) ∧ Below w.heap.size w w' := by
  have hn := nn_range hS
  obtain ⟨D, hD⟩ : ∃ D, xd.toNat = D := ⟨_, rfl⟩
  rw [hD]
  have hDn : D < nn S := by omega
  obtain ⟨R, hR⟩ : ∃ R, rdX S (xn * k) D = R := ⟨_, rfl⟩
  rw [hR]
  have hle := scN_in hS hDn
  have hpos := scN_pos hS.1 D
  have hs := fun W => l09Scale_any p c h S hS xd (by omega) W
  have hsb : slB S xd = true := by unfold slB; rw [decide_eq_true (.inr (by omega))]
  rw [hsb, slV_is (k := D) hsb (.inl hD)] at hs
  obtain ⟨C, hC⟩ : ∃ C : Int, ((scN S D : Nat) : Int) = C := ⟨_, rfl⟩
  rw [hC] at hs
  have C1 : 1 ≤ C ∧ C ≤ 1000000000000000 := by omega
  obtain ⟨G0, E, G, A, K, F, g1, g2, g3, g4, g5, g6, g7, g8, g9, g10, g11, g12, g13, g14, g15, g16⟩ := mul_terms xn k C (by omega)
  have hg0 := fun W => l09Gcd_any k C (by omega) (by omega) W
  rw [g1] at hg0
  have hg := fun W => l09Gcd_any xn E (by omega) (by omega) W
  rw [g6] at hg
  have ht := fun W => l09Times_any A K (by omega) (by omega) W
  unfold tmV tmB at ht
  have hab : (A * K).natAbs * scN S D = (xn * k).natAbs * F.natAbs := by
    have h2 := congrArg Int.natAbs g16
    rw [← hC, Int.natAbs_mul, Int.natAbs_natCast, Int.natAbs_mul (xn * k)] at h2
    exact h2
  have hmx : max 1 G0 = G0 := by omega
  have g3t : C.tdiv G0 = E := by rw [← g3]; exact Int.tdiv_eq_ediv_of_nonneg (by omega)
  have g10t : E.tdiv G = F := by rw [← g10]; exact Int.tdiv_eq_ediv_of_nonneg (by omega)
  have wE : IntKind.i64.wrap E = E := IntWalk.i64_in _ (by omega)
  have wF : IntKind.i64.wrap F = F := IntWalk.i64_in _ (by omega)
  have wA : IntKind.i64.wrap A = A := IntWalk.i64_in _ (by omega)
  have wK : IntKind.i64.wrap K = K := IntWalk.i64_in _ (by omega)
  have nG0 : G0 ≠ 0 := by omega
  have nG : G ≠ 0 := by omega
  obtain ⟨k0, k1⟩ := hk
  obtain ⟨x0_, x1_⟩ := hx
  have HS := Lib.hid hs
  have HG0 := Lib.hid hg0
  have HG := Lib.hid hg
  obtain ⟨BV, BX, BO, hb, hz⟩ := three_new w #[.int .i64 p, .int .i64 c, .int .i64 h, .int .i64 (S : Int)] #[.int .i64 xn, .int .i64 xd] #[.int .i64 0, .int .i64 0] 25 35 35
  by_cases cc : (A * K).natAbs ≤ 1000000000000000000
  · simp only [if_pos cc, decide_eq_true cc] at ht
    have hf := fun W => l09Fit_any p c h S hS (A * K) (xn * k) F D hDn (by omega) (by omega) (by rw [hC]; exact g16) W
    rw [hR] at hf
    obtain ⟨U, hU⟩ : ∃ U, A * K = U := ⟨_, rfl⟩
    rw [hU] at ht hf
    have HT := Lib.hid ht
    have HF := Lib.hid hf
    clear hs hg0 hg ht hf hsb hle hpos hab cc hU g15 g16 hC hR g1 g6 g13 g14
    obtain ⟨x0, x1, x2, x3, xf, xl⟩ := BV.four
    obtain ⟨a0, a1, af, al⟩ := BX.two
    obtain ⟨z0, z1, zf, zl⟩ := BO.two
    go_enter Tryz.func77, Tryz.ntmps77
    go_wp2_with (first | (go_at_call 75; refine (HS.out _).mono ?_; clear HS; rintro e w1 ⟨rfl, hb1⟩; replace BV := BV.below hb1; replace BX := BX.below hb1; replace BO := BO.below hb1; replace hb := chain hb hb1; clear hb1; obtain ⟨x0, x1, x2, x3, xf, xl⟩ := BV.four; obtain ⟨a0, a1, af, al⟩ := BX.two; obtain ⟨z0, z1, zf, zl⟩ := BO.two) | (go_at_call 107; refine (HG0.out _).mono ?_; clear HG0; rintro e w2 ⟨rfl, rfl⟩))
    clear x0 x1 x2 x3 xf xl a0 a1 af al z0 z1 zf zl
    have hd_ : w1.drew.heap.size = w1.heap.size := rfl
    replace BV := BV.drew
    replace BX := BX.drew
    replace BO := BO.drew
    replace hb := hb.drew
    refine wp_region_held_drew (S := fun w' => w'.cell? ⟨w.heap.size, 0, none⟩ = some (.int .i64 p) ∧ w'.cell? ⟨w.heap.size, 1, none⟩ = some (.int .i64 c) ∧ w'.cell? ⟨w.heap.size, 2, none⟩ = some (.int .i64 h) ∧ w'.cell? ⟨w.heap.size, 3, none⟩ = some (.int .i64 (S : Int)) ∧ w'.cell? ⟨(w.heap.size + 1), 0, none⟩ = some (.int .i64 xn) ∧ w'.cell? ⟨(w.heap.size + 1), 1, none⟩ = some (.int .i64 xd)) (by kernel_rfl) ⟨BV.four.1, BV.four.2.1, BV.four.2.2.1, BV.four.2.2.2.1, BX.two.1, BX.two.2.1⟩ (fun hHeld => ?_)
    clear hHeld
    generalize w1.drew = vd at *
    have hHeld : vd.cell? ⟨w.heap.size, 0, none⟩ = some (.int .i64 p) ∧ vd.cell? ⟨w.heap.size, 1, none⟩ = some (.int .i64 c) ∧ vd.cell? ⟨w.heap.size, 2, none⟩ = some (.int .i64 h) ∧ vd.cell? ⟨w.heap.size, 3, none⟩ = some (.int .i64 (S : Int)) ∧ vd.cell? ⟨(w.heap.size + 1), 0, none⟩ = some (.int .i64 xn) ∧ vd.cell? ⟨(w.heap.size + 1), 1, none⟩ = some (.int .i64 xd) := ⟨BV.four.1, BV.four.2.1, BV.four.2.2.1, BV.four.2.2.2.1, BX.two.1, BX.two.2.1⟩
    refine tk 0 27 ?_
    refine tk 1 28 ?_
    refine tk 2 29 ?_
    refine tk 3 30 ?_
    refine tk 4 31 ?_
    refine tk 5 32 ?_
    refine tk 6 33 ?_
    refine tk 9 36 ?_
    refine tk 10 37 ?_
    refine tk 11 38 ?_
    refine rdk 7 34 fun K hK => ?_
    go_simp
    refine (HG.out _).mono ?_
    rintro e w3 ⟨rfl, rfl⟩
    (try go_wp2_with fail)
    refine hko hK (Blk.f4 BV (Blk.l2 BX)) fun hHeld => ?_
    clear hK K
    refine tk 8 35 ?_
    refine rdk 12 39 fun K hK => ?_
    go_simp
    refine (HT.out _).mono ?_
    clear HT
    rintro e w4 ⟨rfl, rfl⟩
    (try go_wp2_with fail)
    refine hko hK (Blk.f4 BV (Blk.l2 BX)) fun hHeld => ?_
    clear hK K
    refine tk 13 26 ?_
    refine tk 14 40 ?_
    refine tk 15 41 ?_
    refine tk 16 11 ?_
    refine tk 17 12 ?_
    refine wpAnyH_done (by kernel_rfl) ?_ _
    clear hHeld
    obtain ⟨x0, x1, x2, x3, xf, xl⟩ := BV.four
    obtain ⟨a0, a1, af, al⟩ := BX.two
    obtain ⟨z0, z1, zf, zl⟩ := BO.two
    go_upto_region 6 with (fail)
    clear x0 x1 x2 x3 xf xl a0 a1 af al z0 z1 zf zl
    go_cut [13, 14] from 15 (fun q13 q14 wr => ∃ g u v, q13 = .pointer (some ⟨g, 0, none⟩) ∧ q14 = .bool R.isSome ∧ Hid (∀ q, R = some q → u = q.1 ∧ v = q.2) ∧ Blk wr g #[.int .i64 u, .int .i64 v] 35 ∧ Blk wr (w.heap.size + 1 + 1) #[.int .i64 0, .int .i64 0] 35 ∧ Below w.heap.size w wr)
    case first =>
      refine wp_region_held_drew (S := fun w' => w'.cell? ⟨w.heap.size, 0, none⟩ = some (.int .i64 p) ∧ w'.cell? ⟨w.heap.size, 1, none⟩ = some (.int .i64 c) ∧ w'.cell? ⟨w.heap.size, 2, none⟩ = some (.int .i64 h) ∧ w'.cell? ⟨w.heap.size, 3, none⟩ = some (.int .i64 (S : Int)) ∧ w'.cell? ⟨(w.heap.size + 1), 0, none⟩ = some (.int .i64 xn) ∧ w'.cell? ⟨(w.heap.size + 1), 1, none⟩ = some (.int .i64 xd)) (by kernel_rfl) ⟨BV.drew.four.1, BV.drew.four.2.1, BV.drew.four.2.2.1, BV.drew.four.2.2.2.1, BX.drew.two.1, BX.drew.two.2.1⟩ (fun hHeld => ?_)
      clear hHeld
      replace BV := BV.drew
      replace BX := BX.drew
      replace BO := BO.drew
      replace hb := hb.drew
      generalize vd.drew = vd at *
      have hHeld : vd.cell? ⟨w.heap.size, 0, none⟩ = some (.int .i64 p) ∧ vd.cell? ⟨w.heap.size, 1, none⟩ = some (.int .i64 c) ∧ vd.cell? ⟨w.heap.size, 2, none⟩ = some (.int .i64 h) ∧ vd.cell? ⟨w.heap.size, 3, none⟩ = some (.int .i64 (S : Int)) ∧ vd.cell? ⟨(w.heap.size + 1), 0, none⟩ = some (.int .i64 xn) ∧ vd.cell? ⟨(w.heap.size + 1), 1, none⟩ = some (.int .i64 xd) := ⟨BV.four.1, BV.four.2.1, BV.four.2.2.1, BV.four.2.2.2.1, BX.two.1, BX.two.2.1⟩
      refine tk 0 46 ?_
      refine tk 1 47 ?_
      refine tk 2 48 ?_
      refine tk 3 49 ?_
      refine tk 4 50 ?_
      refine tk 5 51 ?_
      refine tk 6 52 ?_
      refine tk 7 53 ?_
      refine tk 8 54 ?_
      refine tk 9 55 ?_
      refine wpAnyH_ready (rs := [10, 16]) (by kernel_rfl) (by simp) ?_
      refine AllReadyH.cons (o := ⟨some 56, _, _, _, _, _⟩) rfl (fun K hK => ?_) (AllReadyH.cons (o := ⟨some 13, _, _, _, _, _⟩) rfl (fun K hK => ?_) AllReadyH.nil)
      · go_simp
        refine (HG.out _).mono ?_
        rintro e w10 ⟨rfl, rfl⟩
        (try go_wp2_with fail)
        refine hko hK (Blk.f4 BV (Blk.l2 BX)) fun hHeld => ?_
        clear hK K
        refine tk 11 57 ?_
        refine wpAnyH_ready (rs := [12, 16]) (by kernel_rfl) (by simp) ?_
        refine AllReadyH.cons (o := ⟨some 58, _, _, _, _, _⟩) rfl (fun K hK => ?_) (AllReadyH.cons (o := ⟨some 13, _, _, _, _, _⟩) rfl (fun K hK => ?_) AllReadyH.nil)
        · go_simp
          refine (HF.out _).mono ?_
          rintro e w12 ⟨u, v, rfl, huv, hb12⟩
          have HUV := Lib.hid huv
          clear huv
          replace BV := BV.below hb12
          replace BX := BX.below hb12
          replace BO := BO.below hb12
          replace hb := chain hb hb12
          clear hb12
          (try go_wp2_with fail)
          refine hko hK (Blk.f4 BV (Blk.l2 BX)) fun hHeld => ?_
          clear hK K
          refine tk 13 45 ?_
          refine tk 14 59 ?_
          refine tk 15 60 ?_
          refine rdk 16 13 fun K hK => ?_
          go_simp
          (try go_wp2_with fail)
          refine hko hK (Blk.f4 (BV.alloc (.cells #[.int .i64 0, .int .i64 0] 35)) (Blk.l2 (BX.alloc (.cells #[.int .i64 0, .int .i64 0] 35)))) fun hHeld => ?_
          clear hK K
          have B8 := Blk.new w12 #[.int .i64 0, .int .i64 0] 35
          have h8 : w.heap.size ≤ w12.heap.size := hb.size
          have l_BV := BV.lt
          have l_BX := BX.lt
          have l_BO := BO.lt
          replace BV := BV.alloc (.cells #[.int .i64 0, .int .i64 0] 35)
          replace BX := BX.alloc (.cells #[.int .i64 0, .int .i64 0] 35)
          replace BO := BO.alloc (.cells #[.int .i64 0, .int .i64 0] 35)
          replace hb := chain_alloc hb (.cells #[.int .i64 0, .int .i64 0] 35)
          generalize w12.alloc (.cells #[.int .i64 0, .int .i64 0] 35) = wA at *
          generalize w12.heap.size = g8 at *
          refine rdn 17 fun K hK => ?_
          clear hHeld
          obtain ⟨z0, z1, zf, zl⟩ := B8.two
          have SBV := BV.far2 (B := g8) (by omega) (.int .i64 u) (.int .i64 v)
          have SBX := BX.far2 (B := g8) (by omega) (.int .i64 u) (.int .i64 v)
          have SBO := BO.far2 (B := g8) (by omega) (.int .i64 u) (.int .i64 v)
          have Shb := belowFar2 hb (B := g8) (by omega) (.int .i64 u) (.int .i64 v)
          have SB8 := B8.set2 (.int .i64 u) (.int .i64 v)
          go_simp
          (try go_wp2_with fail)
          refine hko hK (Blk.f4 SBV (Blk.l2 SBX)) fun hHeld => ?_
          clear hK K
          clear z0 z1 zf zl hb B8 BV BX BO
          generalize ((wA.setCell ⟨g8, 0, none⟩ (.int .i64 u)).setCell ⟨g8, 1, none⟩ (.int .i64 v)) = wS at *
          have BV := SBV
          have BX := SBX
          have BO := SBO
          have hb := Shb
          have B8 := SB8
          clear SBV SBX SBO Shb SB8
          refine tk 18 14 ?_
          refine wpAnyH_done (by kernel_rfl) ?_ _
          clear hHeld
          (try go_wp2_with fail)
          go_meet
          case rel => exact ⟨g8, u, v, rfl, rfl, HUV, B8, BO, hb⟩
        · go_simp
          (try go_wp2_with fail)
          refine hko hK (Blk.f4 (BV.alloc (.cells #[.int .i64 0, .int .i64 0] 35)) (Blk.l2 (BX.alloc (.cells #[.int .i64 0, .int .i64 0] 35)))) fun hHeld => ?_
          clear hK K
          have B8 := Blk.new vd #[.int .i64 0, .int .i64 0] 35
          have h8 : w.heap.size ≤ vd.heap.size := hb.size
          have l_BV := BV.lt
          have l_BX := BX.lt
          have l_BO := BO.lt
          replace BV := BV.alloc (.cells #[.int .i64 0, .int .i64 0] 35)
          replace BX := BX.alloc (.cells #[.int .i64 0, .int .i64 0] 35)
          replace BO := BO.alloc (.cells #[.int .i64 0, .int .i64 0] 35)
          replace hb := chain_alloc hb (.cells #[.int .i64 0, .int .i64 0] 35)
          generalize vd.alloc (.cells #[.int .i64 0, .int .i64 0] 35) = wA at *
          generalize vd.heap.size = g8 at *
          refine rdk 12 58 fun K hK => ?_
          go_simp
          refine (HF.out _).mono ?_
          rintro e w12 ⟨u, v, rfl, huv, hb12⟩
          have HUV := Lib.hid huv
          clear huv
          replace BV := BV.below hb12
          replace BX := BX.below hb12
          replace BO := BO.below hb12
          replace B8 := B8.below hb12
          replace hb := chain hb hb12
          clear hb12
          (try go_wp2_with fail)
          refine hko hK (Blk.f4 BV (Blk.l2 BX)) fun hHeld => ?_
          clear hK K
          refine tk 13 45 ?_
          refine tk 14 59 ?_
          refine tk 15 60 ?_
          refine rdn 17 fun K hK => ?_
          clear hHeld
          obtain ⟨z0, z1, zf, zl⟩ := B8.two
          have SBV := BV.far2 (B := g8) (by omega) (.int .i64 u) (.int .i64 v)
          have SBX := BX.far2 (B := g8) (by omega) (.int .i64 u) (.int .i64 v)
          have SBO := BO.far2 (B := g8) (by omega) (.int .i64 u) (.int .i64 v)
          have Shb := belowFar2 hb (B := g8) (by omega) (.int .i64 u) (.int .i64 v)
          have SB8 := B8.set2 (.int .i64 u) (.int .i64 v)
          go_simp
          (try go_wp2_with fail)
          refine hko hK (Blk.f4 SBV (Blk.l2 SBX)) fun hHeld => ?_
          clear hK K
          clear z0 z1 zf zl hb B8 BV BX BO
          generalize ((w12.setCell ⟨g8, 0, none⟩ (.int .i64 u)).setCell ⟨g8, 1, none⟩ (.int .i64 v)) = wS at *
          have BV := SBV
          have BX := SBX
          have BO := SBO
          have hb := Shb
          have B8 := SB8
          clear SBV SBX SBO Shb SB8
          refine tk 18 14 ?_
          refine wpAnyH_done (by kernel_rfl) ?_ _
          clear hHeld
          (try go_wp2_with fail)
          go_meet
          case rel => exact ⟨g8, u, v, rfl, rfl, HUV, B8, BO, hb⟩
      · go_simp
        (try go_wp2_with fail)
        refine hko hK (Blk.f4 (BV.alloc (.cells #[.int .i64 0, .int .i64 0] 35)) (Blk.l2 (BX.alloc (.cells #[.int .i64 0, .int .i64 0] 35)))) fun hHeld => ?_
        clear hK K
        have B8 := Blk.new vd #[.int .i64 0, .int .i64 0] 35
        have h8 : w.heap.size ≤ vd.heap.size := hb.size
        have l_BV := BV.lt
        have l_BX := BX.lt
        have l_BO := BO.lt
        replace BV := BV.alloc (.cells #[.int .i64 0, .int .i64 0] 35)
        replace BX := BX.alloc (.cells #[.int .i64 0, .int .i64 0] 35)
        replace BO := BO.alloc (.cells #[.int .i64 0, .int .i64 0] 35)
        replace hb := chain_alloc hb (.cells #[.int .i64 0, .int .i64 0] 35)
        generalize vd.alloc (.cells #[.int .i64 0, .int .i64 0] 35) = wA at *
        generalize vd.heap.size = g8 at *
        refine rdk 10 56 fun K hK => ?_
        go_simp
        refine (HG.out _).mono ?_
        rintro e w10 ⟨rfl, rfl⟩
        (try go_wp2_with fail)
        refine hko hK (Blk.f4 BV (Blk.l2 BX)) fun hHeld => ?_
        clear hK K
        refine tk 11 57 ?_
        refine rdk 12 58 fun K hK => ?_
        go_simp
        refine (HF.out _).mono ?_
        rintro e w12 ⟨u, v, rfl, huv, hb12⟩
        have HUV := Lib.hid huv
        clear huv
        replace BV := BV.below hb12
        replace BX := BX.below hb12
        replace BO := BO.below hb12
        replace B8 := B8.below hb12
        replace hb := chain hb hb12
        clear hb12
        (try go_wp2_with fail)
        refine hko hK (Blk.f4 BV (Blk.l2 BX)) fun hHeld => ?_
        clear hK K
        refine tk 13 45 ?_
        refine tk 14 59 ?_
        refine tk 15 60 ?_
        refine rdn 17 fun K hK => ?_
        clear hHeld
        obtain ⟨z0, z1, zf, zl⟩ := B8.two
        have SBV := BV.far2 (B := g8) (by omega) (.int .i64 u) (.int .i64 v)
        have SBX := BX.far2 (B := g8) (by omega) (.int .i64 u) (.int .i64 v)
        have SBO := BO.far2 (B := g8) (by omega) (.int .i64 u) (.int .i64 v)
        have Shb := belowFar2 hb (B := g8) (by omega) (.int .i64 u) (.int .i64 v)
        have SB8 := B8.set2 (.int .i64 u) (.int .i64 v)
        go_simp
        (try go_wp2_with fail)
        refine hko hK (Blk.f4 SBV (Blk.l2 SBX)) fun hHeld => ?_
        clear hK K
        clear z0 z1 zf zl hb B8 BV BX BO
        generalize ((w12.setCell ⟨g8, 0, none⟩ (.int .i64 u)).setCell ⟨g8, 1, none⟩ (.int .i64 v)) = wS at *
        have BV := SBV
        have BX := SBX
        have BO := SBO
        have hb := Shb
        have B8 := SB8
        clear SBV SBX SBO Shb SB8
        refine tk 18 14 ?_
        refine wpAnyH_done (by kernel_rfl) ?_ _
        clear hHeld
        (try go_wp2_with fail)
        go_meet
        case rel => exact ⟨g8, u, v, rfl, rfl, HUV, B8, BO, hb⟩
    case rest =>
      clear BV BX BO hb hz HG HF
      obtain ⟨g, u, v, rfl, rfl, HUV, B8, BO, hb⟩ := hcut
      obtain ⟨y0, y1, yf, yl⟩ := B8.two
      obtain ⟨z0, z1, zf, zl⟩ := BO.two
      cases R with
      | none =>
        dsimp only [xoN, xoD, Option.isSome]
        go_wp2_with fail
        have BRn := BO.set2 (.int .i64 0) (.int .i64 0)
        obtain ⟨u0, u1, uf, ul⟩ := BRn.two
        refine bodyPost_ret (v := .tuple #[.agg #[.int .i64 0, .int .i64 0], .bool false]) (by simp [results, Tryz.results77, go_sem, u0, u1]) rfl ?_
        exact ⟨rfl, belowFar2 hb (by omega) _ _⟩
      | some r =>
        obtain ⟨ru, rv⟩ := r
        have huv2 : u = ru ∧ v = rv := HUV.out _ rfl
        obtain ⟨e1, e2⟩ := huv2
        subst e1
        subst e2
        dsimp only [xoN, xoD, Option.isSome]
        go_wp2_with fail
        have BRn := BO.set2 (.int .i64 u) (.int .i64 v)
        obtain ⟨u0, u1, uf, ul⟩ := BRn.two
        refine bodyPost_ret (v := .tuple #[.agg #[.int .i64 u, .int .i64 v], .bool true]) (by simp [results, Tryz.results77, go_sem, u0, u1]) rfl ?_
        exact ⟨rfl, belowFar2 hb (by omega) _ _⟩
  · simp only [if_neg cc, decide_eq_false cc] at ht
    have hno := mul_none hS g15 hab (by omega)
    rw [hno] at hR
    subst hR
    dsimp only [xoN, xoD, Option.isSome]
    have HT := Lib.hid ht
    clear hs hg0 hg ht hsb hle hpos hab cc g15 g16 hC hno g1 g6 g13 g14
    obtain ⟨x0, x1, x2, x3, xf, xl⟩ := BV.four
    obtain ⟨a0, a1, af, al⟩ := BX.two
    obtain ⟨z0, z1, zf, zl⟩ := BO.two
    go_enter Tryz.func77, Tryz.ntmps77
    go_wp2_with (first | (go_at_call 75; refine (HS.out _).mono ?_; clear HS; rintro e w1 ⟨rfl, hb1⟩; replace BV := BV.below hb1; replace BX := BX.below hb1; replace BO := BO.below hb1; replace hb := chain hb hb1; clear hb1; obtain ⟨x0, x1, x2, x3, xf, xl⟩ := BV.four; obtain ⟨a0, a1, af, al⟩ := BX.two; obtain ⟨z0, z1, zf, zl⟩ := BO.two) | (go_at_call 107; refine (HG0.out _).mono ?_; clear HG0; rintro e w2 ⟨rfl, rfl⟩))
    clear x0 x1 x2 x3 xf xl a0 a1 af al z0 z1 zf zl
    have hd_ : w1.drew.heap.size = w1.heap.size := rfl
    replace BV := BV.drew
    replace BX := BX.drew
    replace BO := BO.drew
    replace hb := hb.drew
    refine wp_region_held_drew (S := fun w' => w'.cell? ⟨w.heap.size, 0, none⟩ = some (.int .i64 p) ∧ w'.cell? ⟨w.heap.size, 1, none⟩ = some (.int .i64 c) ∧ w'.cell? ⟨w.heap.size, 2, none⟩ = some (.int .i64 h) ∧ w'.cell? ⟨w.heap.size, 3, none⟩ = some (.int .i64 (S : Int)) ∧ w'.cell? ⟨(w.heap.size + 1), 0, none⟩ = some (.int .i64 xn) ∧ w'.cell? ⟨(w.heap.size + 1), 1, none⟩ = some (.int .i64 xd)) (by kernel_rfl) ⟨BV.four.1, BV.four.2.1, BV.four.2.2.1, BV.four.2.2.2.1, BX.two.1, BX.two.2.1⟩ (fun hHeld => ?_)
    clear hHeld
    generalize w1.drew = vd at *
    have hHeld : vd.cell? ⟨w.heap.size, 0, none⟩ = some (.int .i64 p) ∧ vd.cell? ⟨w.heap.size, 1, none⟩ = some (.int .i64 c) ∧ vd.cell? ⟨w.heap.size, 2, none⟩ = some (.int .i64 h) ∧ vd.cell? ⟨w.heap.size, 3, none⟩ = some (.int .i64 (S : Int)) ∧ vd.cell? ⟨(w.heap.size + 1), 0, none⟩ = some (.int .i64 xn) ∧ vd.cell? ⟨(w.heap.size + 1), 1, none⟩ = some (.int .i64 xd) := ⟨BV.four.1, BV.four.2.1, BV.four.2.2.1, BV.four.2.2.2.1, BX.two.1, BX.two.2.1⟩
    refine tk 0 27 ?_
    refine tk 1 28 ?_
    refine tk 2 29 ?_
    refine tk 3 30 ?_
    refine tk 4 31 ?_
    refine tk 5 32 ?_
    refine tk 6 33 ?_
    refine tk 9 36 ?_
    refine tk 10 37 ?_
    refine tk 11 38 ?_
    refine rdk 7 34 fun K hK => ?_
    go_simp
    refine (HG.out _).mono ?_
    rintro e w3 ⟨rfl, rfl⟩
    (try go_wp2_with fail)
    refine hko hK (Blk.f4 BV (Blk.l2 BX)) fun hHeld => ?_
    clear hK K
    refine tk 8 35 ?_
    refine rdk 12 39 fun K hK => ?_
    go_simp
    refine (HT.out _).mono ?_
    clear HT
    rintro e w4 ⟨rfl, rfl⟩
    (try go_wp2_with fail)
    refine hko hK (Blk.f4 BV (Blk.l2 BX)) fun hHeld => ?_
    clear hK K
    refine tk 13 26 ?_
    refine tk 14 40 ?_
    refine tk 15 41 ?_
    refine tk 16 11 ?_
    refine tk 17 12 ?_
    refine wpAnyH_done (by kernel_rfl) ?_ _
    clear hHeld
    obtain ⟨x0, x1, x2, x3, xf, xl⟩ := BV.four
    obtain ⟨a0, a1, af, al⟩ := BX.two
    obtain ⟨z0, z1, zf, zl⟩ := BO.two
    go_wp2_with fail
    have BRn := BO.set2 (.int .i64 0) (.int .i64 0)
    obtain ⟨u0, u1, uf, ul⟩ := BRn.two
    refine bodyPost_ret (v := .tuple #[.agg #[.int .i64 0, .int .i64 0], .bool false]) (by simp [results, Tryz.results77, go_sem, u0, u1]) rfl ?_
    exact ⟨rfl, belowFar2 hb (by omega) _ _⟩
end Go.Proofs.YtnlclmlnpkncoaaGreat
namespace Go.Proofs.YtnlclmlnpkncoaaGreat
set_option maxRecDepth 20000
set_option linter.unusedVariables false
set_option linter.unusedSimpArgs false
theorem rdX_of {S D : Nat} {N n d : Int} (h : rdX S N D = some (n, d)) : ∃ k : Nat, d = (k : Int) ∧ k ≤ D ∧ k < nn S ∧ N = n * ((scN S (D - k) : Nat) : Int) ∧ -1000000000000000000 ≤ n ∧ n ≤ 1000000000000000000 ∧ (k = 0 ∨ n % ((S * S : Nat) : Int) ≠ 0) := by
  unfold rdX at h
  have hs := rdN_spec (S * S) D N.natAbs
  have hl := rdN_le (S * S) D N.natAbs
  obtain ⟨m, hm⟩ : ∃ m, (rdN (S * S) N.natAbs D).1 = m := ⟨_, rfl⟩
  obtain ⟨k, hk⟩ : ∃ k, (rdN (S * S) N.natAbs D).2 = k := ⟨_, rfl⟩
  rw [hm, hk] at h hs
  rw [hk] at hl
  split at h
  · rename_i q
    simp only [Option.some.injEq, Prod.mk.injEq] at h
    obtain ⟨rfl, rfl⟩ := h
    refine ⟨k, rfl, hl.1, q.1, ?_, ?_, ?_, ?_⟩
    · have e : ((N.natAbs : Nat) : Int) = (m : Int) * ((scN S (D - k) : Nat) : Int) := by rw [← Int.natCast_mul]; exact congrArg _ hs.1
      unfold sgI
      by_cases c : N < 0
      · rw [if_pos c, Int.neg_mul, ← e]
        omega
      · rw [if_neg c, ← e]
        omega
    · unfold sgI; split <;> omega
    · unfold sgI; split <;> omega
    · rcases hs.2 with q2 | q2
      · exact .inl q2
      · refine .inr fun z => q2 ?_
        have e1 : ((m % (S * S) : Nat) : Int) = (m : Int) % ((S * S : Nat) : Int) := Int.natCast_emod _ _
        have z2 : (m : Int) % ((S * S : Nat) : Int) = 0 := by
          unfold sgI at z
          split at z
          · have := Int.dvd_of_emod_eq_zero z
            exact Int.emod_eq_zero_of_dvd (Int.dvd_neg.1 this)
          · exact z
        omega
  · cases h
theorem xvB_of {S D : Nat} {N n d : Int} (h : rdX S N D = some (n, d)) : xvB S n d = true := by
  obtain ⟨k, rfl, h1, h2, h3, h4, h5, h6⟩ := rdX_of h
  unfold xvB
  rw [decide_eq_true]
  exact ⟨by omega, by omega, h4, h5, by rcases h6 with q | q; exact .inl (by omega); exact .inr q⟩
end Go.Proofs.YtnlclmlnpkncoaaGreat
