/- Contract of the program's MeanExact. -/
import Derived.Test.Ytgifkopgnpdkiaa09z
namespace Go.Proofs.Ytgifkopgnpdkiaa
open Go.ChangeShapes Go.WideShapes Go.ChangeAt Go.RowKit
set_option linter.unusedVariables false
set_option linter.unusedSimpArgs false

/-- What MeanExact says. -/
def mnV (p c h s : Int) (X : List Rl) : Int × Int × Int :=
  if sfC p c h s X = 0 then (if X.length = (rollsTo s.toNat).length then xo3 (mnX s.toNat ((rollsTo s.toNat).zip X)) 3 else (0, 0, 2)) else (0, 0, sfC p c h s X)
set_option maxRecDepth 8000 in
set_option maxHeartbeats 1000000 in
theorem implMeanExact_any (p c h s : Int) (va : Option Addr) (kv : Nat) (X : List Rl) (w : World) (hXl : X.length ≤ 1048576) (HO : OX w va X) (hr : ∀ r ∈ X, -9223372036854775808 ≤ r.2 ∧ r.2 ≤ 9223372036854775807) :
    Calls Try.prog 31 #[.agg #[.int .i64 p, .int .i64 c, .int .i64 h, .int .i64 s], .slice va X.length kv] w fun e w' => e = .returned (xoV (mnV p c h s X)) ∧ Below w.heap.size w w' := by
  have hsf := fun W H => scalesFor_any p c h s va X kv W hXl H hr
  obtain ⟨BV, BO, hb, hz⟩ := two_new w #[.int .i64 p, .int .i64 c, .int .i64 h, .int .i64 s] #[.int .i64 0, .int .i64 0] 27 29
  replace HO := HO.below hb
  obtain ⟨⟨r1, r2, r3⟩, hv⟩ : ∃ r, mnV p c h s X = r := ⟨_, rfl⟩
  rw [hv]
  dsimp only [xoV]
  unfold mnV at hv
  by_cases h0 : sfC p c h s X = 0
  · obtain ⟨g, hall⟩ := sfC_zero h0
    obtain ⟨S, rfl, hS⟩ := vB_side g
    rw [h0] at hsf hv
    rw [if_pos rfl] at hv
    simp only [Int.toNat_natCast] at hv hall
    have hro := fun W => implRolls_any p c h S W (by omega)
    have hln := rollsTo_length S
    have hss : S * S ≤ 6 * 6 := Nat.mul_le_mul hS.2 hS.2
    obtain ⟨RL, hRL⟩ : ∃ RL, rollsTo S = RL := ⟨_, rfl⟩
    rw [hRL] at hro hv hln
    by_cases hl : X.length = RL.length
    · have hme := fun (b : Nat) (ra : Option Addr) (kr : Nat) W => mean_any b S hS ra va kr kv RL X hl hall (by omega) W
      rw [if_pos hl] at hv
      rw [hv] at hme
      dsimp only [xoV] at hme
      rw [hl] at hsf hme
      rw [hl]
      have HSF := Lib.hid hsf
      have HRO := Lib.hid hro
      have HME := Lib.hid hme
      clear hsf hro hme hv hl hRL hall hr h0 g hXl hss
      obtain ⟨x0, x1, x2, x3, xf, xl⟩ := BV.four
      obtain ⟨a0, a1, af, al⟩ := BO.two
      go_enter Try.func31, Try.ntmps31
      go_wp2_with (first | (go_at_call 39; refine (HSF.out _ HO).mono ?_; clear HSF; rintro e w1 ⟨mv, rfl, hm, -, hb1⟩; obtain ⟨b, rfl, HS⟩ := hm rfl; clear hm; rw [Int.toNat_natCast] at HS; replace BV := BV.below hb1; replace BO := BO.below hb1; replace HO := HO.below hb1; replace hb := chain hb hb1; clear hb1; obtain ⟨x0, x1, x2, x3, xf, xl⟩ := BV.four; obtain ⟨a0, a1, af, al⟩ := BO.two) | (go_at_call 57; refine (HRO.out _).mono ?_; clear HRO; rintro e w2 ⟨ra, kr, rfl, HR, hb2⟩; replace HR := ORl.rin HR; replace HS := HS.below hb2; replace BV := BV.below hb2; replace BO := BO.below hb2; replace HO := HO.below hb2; replace hb := chain hb hb2; clear hb2; obtain ⟨x0, x1, x2, x3, xf, xl⟩ := BV.four; obtain ⟨a0, a1, af, al⟩ := BO.two) | (go_at_call 58; refine (HME.out _ _ _ _ HS HR HO).mono ?_; clear HME; rintro e w3 ⟨rfl, hb3⟩; replace BV := BV.below hb3; replace BO := BO.below hb3; replace HO := HO.below hb3; replace hb := chain hb hb3; clear hb3; obtain ⟨x0, x1, x2, x3, xf, xl⟩ := BV.four; obtain ⟨a0, a1, af, al⟩ := BO.two))
      have BRn := BO.set2 (.int .i64 r1) (.int .i64 r2)
      obtain ⟨u0, u1, uf, ul⟩ := BRn.two
      refine bodyPost_ret (v := .tuple #[.agg #[.int .i64 r1, .int .i64 r2], .int .i64 r3]) (by simp [results, Try.results31, go_sem, u0, u1]) rfl ?_
      exact ⟨rfl, belowFar2 hb (by omega) _ _⟩
    · rw [if_neg hl] at hv
      simp only [Prod.mk.injEq] at hv
      obtain ⟨rfl, rfl, rfl⟩ := hv
      have f0 : ((X.length : Int) == (RL.length : Int)) = false := by rw [beq_eq_false_iff_ne]; omega
      have f1 : ((RL.length : Int) == (X.length : Int)) = false := by rw [beq_eq_false_iff_ne]; omega
      have hl2 : ¬ (X.length : Int) = (RL.length : Int) := by omega
      have HSF := Lib.hid hsf
      have HRO := Lib.hid hro
      clear hsf hro hRL hall hr h0 g hss
      obtain ⟨x0, x1, x2, x3, xf, xl⟩ := BV.four
      obtain ⟨a0, a1, af, al⟩ := BO.two
      go_enter Try.func31, Try.ntmps31
      go_wp2_with (first | (go_at_call 39; refine (HSF.out _ HO).mono ?_; clear HSF; rintro e w1 ⟨mv, rfl, hm, -, hb1⟩; obtain ⟨b, rfl, HS⟩ := hm rfl; clear hm; rw [Int.toNat_natCast] at HS; replace BV := BV.below hb1; replace BO := BO.below hb1; replace HO := HO.below hb1; replace hb := chain hb hb1; clear hb1; obtain ⟨x0, x1, x2, x3, xf, xl⟩ := BV.four; obtain ⟨a0, a1, af, al⟩ := BO.two) | (go_at_call 57; refine (HRO.out _).mono ?_; clear HRO; rintro e w2 ⟨ra, kr, rfl, HR, hb2⟩; replace HR := ORl.rin HR; replace HS := HS.below hb2; replace BV := BV.below hb2; replace BO := BO.below hb2; replace HO := HO.below hb2; replace hb := chain hb hb2; clear hb2; obtain ⟨x0, x1, x2, x3, xf, xl⟩ := BV.four; obtain ⟨a0, a1, af, al⟩ := BO.two))
      have BRn := BO.set2 (.int .i64 0) (.int .i64 0)
      obtain ⟨u0, u1, uf, ul⟩ := BRn.two
      refine bodyPost_ret (v := .tuple #[.agg #[.int .i64 0, .int .i64 0], .int .i64 2]) (by simp [results, Try.results31, go_sem, u0, u1]) rfl ?_
      exact ⟨rfl, belowFar2 hb (by omega) _ _⟩
  · rw [if_neg h0] at hv
    simp only [Prod.mk.injEq] at hv
    obtain ⟨rfl, rfl, r3e⟩ := hv
    rw [r3e] at hsf h0
    have f0 : (r3 == 0) = false := by rw [beq_eq_false_iff_ne]; exact h0
    have HSF := Lib.hid hsf
    have HR0 := Lib.hid h0
    clear hsf r3e h0
    obtain ⟨x0, x1, x2, x3, xf, xl⟩ := BV.four
    obtain ⟨a0, a1, af, al⟩ := BO.two
    go_enter Try.func31, Try.ntmps31
    go_wp2_with (go_at_call 39; refine (HSF.out _ HO).mono ?_; clear HSF; rintro e w1 ⟨mv, rfl, -, hm, hb1⟩; have hm2 := hm HR0.out; subst hm2; clear hm; replace BV := BV.below hb1; replace BO := BO.below hb1; replace HO := HO.below hb1; replace hb := chain hb hb1; clear hb1; obtain ⟨x0, x1, x2, x3, xf, xl⟩ := BV.four; obtain ⟨a0, a1, af, al⟩ := BO.two)
    have BRn := BO.set2 (.int .i64 0) (.int .i64 0)
    obtain ⟨u0, u1, uf, ul⟩ := BRn.two
    refine bodyPost_ret (v := .tuple #[.agg #[.int .i64 0, .int .i64 0], .int .i64 r3]) (by simp [results, Try.results31, go_sem, u0, u1]) rfl ?_
    exact ⟨rfl, belowFar2 hb (by omega) _ _⟩
end Go.Proofs.Ytgifkopgnpdkiaa
