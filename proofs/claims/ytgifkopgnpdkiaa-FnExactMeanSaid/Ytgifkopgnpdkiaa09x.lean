/- Contracts of the model's whole parts and digits, and of its comparison. -/
import Derived.Test.Ytgifkopgnpdkiaa09q
import Derived.Test.Ytgifkopgnpdkiaa09t
import Derived.Test.Ytgifkopgnpdkiaa09w
import Derived.Test.YtgifkopgnpdkiaaOwnS
import Derived.Deep.LoopGhost
namespace Go.Proofs.Ytgifkopgnpdkiaa
open Go.ChangeShapes Go.WideShapes Go.ChangeAt Go.RowKit
set_option linter.unusedVariables false
set_option linter.unusedSimpArgs false

theorem Own.one (w : World) (u : Int) : Own (w.alloc (.cells #[.int .i64 u] 2)) w.heap.size (.slice (some ⟨w.heap.size, 0, none⟩) 1 1) [u] :=
  ⟨rfl, .inr ⟨w.heap.size, 1, #[.int .i64 u], rfl, Nat.le_refl _, Blk.new w #[.int .i64 u] _, Nat.le_refl _, by unfold maxLen; omega, rfl, rfl⟩⟩
/-- The digits of a rest. -/
def dgI (S : Nat) (r : Int) : Nat → List Int
  | 0 => []
  | m + 1 => r / ((scN S m : Nat) : Int) :: dgI S (r % ((scN S m : Nat) : Int)) m
theorem dgI_length (S : Nat) : ∀ (m : Nat) (r : Int), (dgI S r m).length = m
  | 0, r => rfl
  | m + 1, r => by rw [dgI, List.length_cons, dgI_length S m]
set_option maxRecDepth 8000 in
set_option maxHeartbeats 1000000 in
theorem l09Split_any (p c h : Int) (S : Nat) (hS : 1 ≤ S ∧ S ≤ 6) (xn xd : Int) (hx : -1000000000000000000 ≤ xn ∧ xn ≤ 1000000000000000000) (hd : 0 ≤ xd ∧ xd < ((nn S : Nat) : Int)) (w : World) :
    Calls Try.prog 75 #[.agg #[.int .i64 p, .int .i64 c, .int .i64 h, .int .i64 (S : Int)], .agg #[.int .i64 xn, .int .i64 xd]] w (SliceGot (xn / ((scN S xd.toNat : Nat) : Int) :: dgI S (xn % ((scN S xd.toNat : Nat) : Int)) xd.toNat) w) := by
  have hn := nn_range hS
  have hbr := base_range hS
  obtain ⟨D, hD⟩ : ∃ D, xd.toNat = D := ⟨_, rfl⟩
  rw [hD]
  obtain rfl : xd = (D : Int) := by omega
  have hle := scN_in hS (show D < nn S by omega)
  have hpos := scN_pos hS.1 D
  have hsc := fun W => l09Scale_any p c h S hS (D : Int) (by omega) W
  have hsb : slB S (D : Int) = true := by unfold slB; rw [decide_eq_true (.inr (by omega))]
  rw [hsb, slV_is (k := D) hsb (.inl hD)] at hsc
  obtain ⟨C, hC⟩ : ∃ C : Int, ((scN S D : Nat) : Int) = C := ⟨_, rfl⟩
  rw [hC] at hsc ⊢
  have HCE := Lib.hid hC
  obtain ⟨C1, C2⟩ : 1 ≤ C ∧ C ≤ 1000000000000000 := by omega
  have HSC := Lib.hid hsc
  have hba := fun W => l09Base_any p c h S hS.2 W
  obtain ⟨B, hB⟩ : ∃ B : Int, ((S * S : Nat) : Int) = B := ⟨_, rfl⟩
  rw [hB] at hba
  have HB := Lib.hid hba
  have HBE := Lib.hid hB
  have B0 : 1 ≤ B ∧ B ≤ 36 := by omega
  obtain ⟨OUT, hOUT⟩ : ∃ x, (xn / C :: dgI S (xn % C) D) = x := ⟨_, rfl⟩
  rw [hOUT]
  obtain ⟨BV, BX, hb, hz⟩ := two_new w #[.int .i64 p, .int .i64 c, .int .i64 h, .int .i64 (S : Int)] #[.int .i64 xn, .int .i64 (D : Int)] 27 29
  obtain ⟨x0, x1, x2, x3, xf, xl⟩ := BV.four
  obtain ⟨a0, a1, af, al⟩ := BX.two
  have hspn := fun h => split_neg (x := xn) (show 0 < C by omega) h
  have hspp := fun h => split_pos (x := xn) (show 0 < C by omega) h
  have b1 : -C < xn.tmod C := Int.lt_tmod_of_pos xn (by omega)
  have b2 : xn.tmod C < C := Int.tmod_lt_of_pos xn (by omega)
  have b3 : (xn.tdiv C).natAbs ≤ xn.natAbs := Int.natAbs_tdiv_le_natAbs xn C
  have b4 := Int.emod_nonneg xn (show C ≠ 0 by omega)
  have b5 := Int.emod_lt_of_pos xn (show 0 < C by omega)
  obtain ⟨W, hW⟩ : ∃ W, xn.tdiv C = W := ⟨_, rfl⟩
  obtain ⟨T, hT⟩ : ∃ T, xn.tmod C = T := ⟨_, rfl⟩
  rw [hT] at b1 b2
  rw [hW] at b3
  simp only [hW, hT] at hspn hspp
  have wW : IntKind.i64.wrap W = W := IntWalk.i64_in _ (by omega)
  have wT : IntKind.i64.wrap T = T := IntWalk.i64_in _ (by omega)
  have wW1 : IntKind.i64.wrap (W - 1) = W - 1 := IntWalk.i64_in _ (by omega)
  have wT1 : IntKind.i64.wrap (T + C) = T + C := IntWalk.i64_in _ (by omega)
  have nC : C ≠ 0 := by omega
  have nB : B ≠ 0 := by omega
  by_cases ct : T < 0
  · obtain ⟨e1, e2⟩ := hspn ct
    rw [e2] at b4 b5
    have HOUT : Hid ([W - 1] ++ dgI S (T + C) D = OUT) := Lib.hid (by rw [← hOUT, e1, e2]; rfl)
    clear hspn hspp e1 e2 hOUT hsc hba hB hC hsb hle hpos hbr hD
    go_enter Try.func75, Try.ntmps75
    go_wp2_with (go_at_call 40; refine (HSC.out _).mono ?_; clear HSC; rintro e w2 ⟨rfl, hb2⟩; replace BV := BV.below hb2; replace BX := BX.below hb2; replace hb := chain hb hb2; clear hb2; obtain ⟨x0, x1, x2, x3, xf, xl⟩ := BV.four; obtain ⟨a0, a1, af, al⟩ := BX.two)
    clear x0 x1 x2 x3 xf xl a0 a1 af al
    have hz2 := BX.lt
    have HO0 := Own.one w2 (W - 1)
    have hal : Below w2.heap.size w2 (w2.alloc (.cells #[.int .i64 (W - 1)] 2)) := (Below.refl _ _).alloc (Nat.le_refl _) _
    have hlt2 : w.heap.size + 1 < w2.heap.size := BX.lt
    go_loopg [5, 8, 9, 10] D (fun n q5 q8 q9 q10 wr => ∃ (k : Nat) (C R : Int) (L : List Int), k ≤ D ∧ n = D - k ∧ q5 = .int .i64 C ∧ q8 = .int .i64 R ∧ q10 = .int .i64 (k : Int) ∧ Hid (C = ((scN S (D - k) : Nat) : Int)) ∧ 0 ≤ R ∧ R < C ∧ C ≤ 1000000000000000 ∧ Own wr w2.heap.size q9 L ∧ Hid (L ++ dgI S R (D - k) = OUT) ∧ L.length = k + 1 ∧ Below w2.heap.size w2 wr)
    case atStart => exact ⟨0, C, (T + C), [(W - 1)], by omega, by omega, rfl, rfl, rfl, Lib.hid HCE.out.symm, by omega, by omega, by omega, HO0, HOUT, rfl, hal⟩
    case round =>
      obtain ⟨k, C', R, L, hk, hm, rfl, rfl, rfl, HC, R0, R1, C3, hO, HL, hll, hbel⟩ := hrel
      have BV' := BV.below hbel
      have BX' := BX.below hbel
      by_cases hlt : k < D
      · have hkI : (k : Int) < (D : Int) := by omega
        obtain ⟨M, hM⟩ : ∃ M, D - k = M + 1 := ⟨D - k - 1, by omega⟩
        have hM2 : D - (k + 1) = M := by omega
        have hCE := HC.out
        have hLE := HL.out
        rw [hM] at hCE hLE
        rw [scN_succ, Int.natCast_mul, HBE.out] at hCE
        rw [dgI] at hLE
        have hEp := scN_pos hS.1 M
        have hEl := scN_in hS (show M < nn S by omega)
        obtain ⟨E, hE⟩ : ∃ E : Int, ((scN S M : Nat) : Int) = E := ⟨_, rfl⟩
        rw [hE] at hCE hLE
        obtain ⟨E1, E2⟩ : 1 ≤ E ∧ E ≤ 1000000000000000 := by omega
        have v1 : C' / B = E := by rw [hCE]; exact Int.mul_ediv_cancel _ nB
        have v2 : C'.tdiv B = E := by rw [hCE]; exact Int.mul_tdiv_cancel _ nB
        have nE : E ≠ 0 := by omega
        have r0 := Int.emod_nonneg R nE
        have r1 := Int.emod_lt_of_pos R (show 0 < E by omega)
        have d0 : 0 ≤ R / E := Int.ediv_nonneg R0 (by omega)
        have d1 : R / E ≤ R := Int.ediv_le_self _ R0
        have v3 : R.tdiv E = R / E := Int.tdiv_eq_ediv_of_nonneg R0
        have v4 : R.tmod E = R % E := Int.tmod_eq_emod_of_nonneg R0
        obtain ⟨D1, hD1⟩ : ∃ x, R / E = x := ⟨_, rfl⟩
        obtain ⟨R2, hR2⟩ : ∃ x, R % E = x := ⟨_, rfl⟩
        rw [hD1] at hLE d0 d1 v3
        rw [hR2] at hLE r0 r1 v4
        have wE : IntKind.i64.wrap E = E := IntWalk.i64_in _ (by omega)
        have wD : IntKind.i64.wrap D1 = D1 := IntWalk.i64_in _ (by omega)
        have HL2 : Hid ((L ++ [D1]) ++ dgI S R2 (D - (k + 1)) = OUT) := Lib.hid (by rw [hM2, List.append_assoc]; exact hLE)
        have HC2 : Hid (E = ((scN S (D - (k + 1)) : Nat) : Int)) := Lib.hid (by rw [hM2]; exact hE.symm)
        have hlL : L.length ≤ 1048576 := by omega
        clear hCE hLE hE hM hM2 hEp hEl HC HL
        obtain ⟨x0, x1, x2, x3, xf, xl⟩ := BV'.four
        obtain ⟨a0, a1, af, al⟩ := BX'.two
        go_wp2_with (first | (go_at_call 63; refine (HB.out _).mono ?_; rintro e w5 ⟨rfl, hb5⟩; obtain ⟨x0, x1, x2, x3, xf, xl⟩ := (BV'.below hb5).four; obtain ⟨a0, a1, af, al⟩ := (BX'.below hb5).two) | (at_builtin; refine wp_push rfl _ _ rfl w2.heap.size _ L rfl (hO.kept hb5) D1 rfl hlL (chain hbel hb5).size ?_; intro v6 w6 hO6 hb6))
        go_roundg (D - (k + 1))
        case measure => omega
        case rel => exact ⟨k + 1, E, R2, L ++ [D1], by omega, rfl, rfl, rfl, by go_num, HC2, r0, r1, E2, hO6, HL2, by simp; omega, (chain hbel hb5).trans hb6⟩
      · obtain rfl : k = D := by omega
        have hLE := HL.out
        rw [Nat.sub_self, dgI, List.append_nil] at hLE
        subst hLE
        obtain ⟨a, cap, rfl⟩ := hO.form
        have hsz := hbel.size
        obtain ⟨x0, x1, x2, x3, xf, xl⟩ := BV'.four
        obtain ⟨a0, a1, af, al⟩ := BX'.two
        go_wp2
        go_ret
        exact ⟨a, cap, rfl, hO.osl.mono (by omega) (Nat.le_refl _), chain hb hbel⟩
  · obtain ⟨e1, e2⟩ := hspp ct
    rw [e2] at b4 b5
    have HOUT : Hid ([W] ++ dgI S T D = OUT) := Lib.hid (by rw [← hOUT, e1, e2]; rfl)
    clear hspn hspp e1 e2 hOUT hsc hba hB hC hsb hle hpos hbr hD
    go_enter Try.func75, Try.ntmps75
    go_wp2_with (go_at_call 40; refine (HSC.out _).mono ?_; clear HSC; rintro e w2 ⟨rfl, hb2⟩; replace BV := BV.below hb2; replace BX := BX.below hb2; replace hb := chain hb hb2; clear hb2; obtain ⟨x0, x1, x2, x3, xf, xl⟩ := BV.four; obtain ⟨a0, a1, af, al⟩ := BX.two)
    clear x0 x1 x2 x3 xf xl a0 a1 af al
    have hz2 := BX.lt
    have HO0 := Own.one w2 W
    have hal : Below w2.heap.size w2 (w2.alloc (.cells #[.int .i64 W] 2)) := (Below.refl _ _).alloc (Nat.le_refl _) _
    have hlt2 : w.heap.size + 1 < w2.heap.size := BX.lt
    go_loopg [5, 8, 9, 10] D (fun n q5 q8 q9 q10 wr => ∃ (k : Nat) (C R : Int) (L : List Int), k ≤ D ∧ n = D - k ∧ q5 = .int .i64 C ∧ q8 = .int .i64 R ∧ q10 = .int .i64 (k : Int) ∧ Hid (C = ((scN S (D - k) : Nat) : Int)) ∧ 0 ≤ R ∧ R < C ∧ C ≤ 1000000000000000 ∧ Own wr w2.heap.size q9 L ∧ Hid (L ++ dgI S R (D - k) = OUT) ∧ L.length = k + 1 ∧ Below w2.heap.size w2 wr)
    case atStart => exact ⟨0, C, T, [W], by omega, by omega, rfl, rfl, rfl, Lib.hid HCE.out.symm, by omega, by omega, by omega, HO0, HOUT, rfl, hal⟩
    case round =>
      obtain ⟨k, C', R, L, hk, hm, rfl, rfl, rfl, HC, R0, R1, C3, hO, HL, hll, hbel⟩ := hrel
      have BV' := BV.below hbel
      have BX' := BX.below hbel
      by_cases hlt : k < D
      · have hkI : (k : Int) < (D : Int) := by omega
        obtain ⟨M, hM⟩ : ∃ M, D - k = M + 1 := ⟨D - k - 1, by omega⟩
        have hM2 : D - (k + 1) = M := by omega
        have hCE := HC.out
        have hLE := HL.out
        rw [hM] at hCE hLE
        rw [scN_succ, Int.natCast_mul, HBE.out] at hCE
        rw [dgI] at hLE
        have hEp := scN_pos hS.1 M
        have hEl := scN_in hS (show M < nn S by omega)
        obtain ⟨E, hE⟩ : ∃ E : Int, ((scN S M : Nat) : Int) = E := ⟨_, rfl⟩
        rw [hE] at hCE hLE
        obtain ⟨E1, E2⟩ : 1 ≤ E ∧ E ≤ 1000000000000000 := by omega
        have v1 : C' / B = E := by rw [hCE]; exact Int.mul_ediv_cancel _ nB
        have v2 : C'.tdiv B = E := by rw [hCE]; exact Int.mul_tdiv_cancel _ nB
        have nE : E ≠ 0 := by omega
        have r0 := Int.emod_nonneg R nE
        have r1 := Int.emod_lt_of_pos R (show 0 < E by omega)
        have d0 : 0 ≤ R / E := Int.ediv_nonneg R0 (by omega)
        have d1 : R / E ≤ R := Int.ediv_le_self _ R0
        have v3 : R.tdiv E = R / E := Int.tdiv_eq_ediv_of_nonneg R0
        have v4 : R.tmod E = R % E := Int.tmod_eq_emod_of_nonneg R0
        obtain ⟨D1, hD1⟩ : ∃ x, R / E = x := ⟨_, rfl⟩
        obtain ⟨R2, hR2⟩ : ∃ x, R % E = x := ⟨_, rfl⟩
        rw [hD1] at hLE d0 d1 v3
        rw [hR2] at hLE r0 r1 v4
        have wE : IntKind.i64.wrap E = E := IntWalk.i64_in _ (by omega)
        have wD : IntKind.i64.wrap D1 = D1 := IntWalk.i64_in _ (by omega)
        have HL2 : Hid ((L ++ [D1]) ++ dgI S R2 (D - (k + 1)) = OUT) := Lib.hid (by rw [hM2, List.append_assoc]; exact hLE)
        have HC2 : Hid (E = ((scN S (D - (k + 1)) : Nat) : Int)) := Lib.hid (by rw [hM2]; exact hE.symm)
        have hlL : L.length ≤ 1048576 := by omega
        clear hCE hLE hE hM hM2 hEp hEl HC HL
        obtain ⟨x0, x1, x2, x3, xf, xl⟩ := BV'.four
        obtain ⟨a0, a1, af, al⟩ := BX'.two
        go_wp2_with (first | (go_at_call 63; refine (HB.out _).mono ?_; rintro e w5 ⟨rfl, hb5⟩; obtain ⟨x0, x1, x2, x3, xf, xl⟩ := (BV'.below hb5).four; obtain ⟨a0, a1, af, al⟩ := (BX'.below hb5).two) | (at_builtin; refine wp_push rfl _ _ rfl w2.heap.size _ L rfl (hO.kept hb5) D1 rfl hlL (chain hbel hb5).size ?_; intro v6 w6 hO6 hb6))
        go_roundg (D - (k + 1))
        case measure => omega
        case rel => exact ⟨k + 1, E, R2, L ++ [D1], by omega, rfl, rfl, rfl, by go_num, HC2, r0, r1, E2, hO6, HL2, by simp; omega, (chain hbel hb5).trans hb6⟩
      · obtain rfl : k = D := by omega
        have hLE := HL.out
        rw [Nat.sub_self, dgI, List.append_nil] at hLE
        subst hLE
        obtain ⟨a, cap, rfl⟩ := hO.form
        have hsz := hbel.size
        obtain ⟨x0, x1, x2, x3, xf, xl⟩ := BV'.four
        obtain ⟨a0, a1, af, al⟩ := BX'.two
        go_wp2
        go_ret
        exact ⟨a, cap, rfl, hO.osl.mono (by omega) (Nat.le_refl _), chain hb hbel⟩
end Go.Proofs.Ytgifkopgnpdkiaa
