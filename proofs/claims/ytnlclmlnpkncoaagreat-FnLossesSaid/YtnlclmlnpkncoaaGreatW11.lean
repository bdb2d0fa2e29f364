/- Texts of a proof, laid together. -/
import Derived.Test.YtnlclmlnpkncoaaGreatW07
import Derived.Test.YtnlclmlnpkncoaaGreatW05
import Derived.Test.YtnlclmlnpkncoaaGreatW01
import Derived.Laws.StructEq
import Derived.Lib.MinMax
import Derived.IntWalk
import Derived.Deep.QuietTactic
import Derived.Test.YtnlclmlnpkncoaaGreatW10
import Derived.Deep.CutRange
import Derived.BigQuiet
import Derived.Deep.LoopGhost
import Derived.Test.YtnlclmlnpkncoaaGreatW09
import Derived.Test.YtnlclmlnpkncoaaGreatW02
namespace Go.Proofs.YtnlclmlnpkncoaaGreat
set_option maxRecDepth 20000
set_option linter.unusedVariables false
def prR (a b : Int) : Rl := (max a b, min a b)
theorem prR_A (a b : Int) : (prR a b).1 = max a b := rfl
theorem prR_B (a b : Int) : (prR a b).2 = min a b := rfl
theorem rollsTo_len2 : ∀ S : Nat, 2 * (rollsTo S).length = S * (S + 1)
  | 0 => by simp [rollsTo]
  | S + 1 => by
    have := rollsTo_len2 S
    rw [rollsTo, List.length_append, List.length_map, List.length_range, Nat.mul_add, this]
    simp only [Nat.mul_add, Nat.add_mul]
    omega
def wgR (r : Rl) : Int := if r.1 = r.2 then 1 else 2
def wgTo (l : List Rl) (k : Nat) : Int := ((l.take k).map wgR).sum
theorem wgTo_all (S : Nat) (h : S ≤ 6) : wgTo (rollsTo S) (rollsTo S).length = (S : Int) * S := by
  have : S = 0 ∨ S = 1 ∨ S = 2 ∨ S = 3 ∨ S = 4 ∨ S = 5 ∨ S = 6 := by omega
  rcases this with rfl | rfl | rfl | rfl | rfl | rfl | rfl <;> decide
end Go.Proofs.YtnlclmlnpkncoaaGreat
namespace Go.Proofs.YtnlclmlnpkncoaaGreat
open Go.ChangeShapes Go.WideShapes Go.ChangeAt Go.RowKit
set_option linter.unusedVariables false
set_option linter.unusedSimpArgs false
set_option maxRecDepth 4000
theorem isDouble_any (ra rb : Int) (w : World) :
    Calls Tryz.prog 93 #[.agg #[.int .i64 ra, .int .i64 rb]] w fun e w' => e = .returned (.bool (decide (ra = rb))) ∧ Below w.heap.size w w' := by
  have hb : Below w.heap.size w (w.alloc (.cells #[.int .i64 ra, .int .i64 rb] 39)) := (Below.refl _ _).alloc (Nat.le_refl _) _
  obtain ⟨x0, x1, xf, xl⟩ := (Blk.new w #[.int .i64 ra, .int .i64 rb] 39).two
  by_cases e : ra = rb
  · subst e
    rw [decide_eq_true rfl]
    go_enter Tryz.func93, Tryz.ntmps93
    go_wp2
    go_ret
    exact ⟨rfl, hb⟩
  · have f0 : (ra == rb) = false := by rw [beq_eq_false_iff_ne]; exact e
    have f1 : (rb == ra) = false := by rw [beq_eq_false_iff_ne]; exact fun q => e q.symm
    rw [decide_eq_false e]
    go_enter Tryz.func93, Tryz.ntmps93
    go_wp2
    go_ret
    exact ⟨rfl, hb⟩
theorem implWeight_any (ra rb : Int) (w : World) :
    Calls Tryz.prog 106 #[.agg #[.int .i64 ra, .int .i64 rb]] w fun e w' => e = .returned (.int .i64 (if ra = rb then 1 else 2)) ∧ Below w.heap.size w w' := by
  have hb : Below w.heap.size w (w.alloc (.cells #[.int .i64 ra, .int .i64 rb] 39)) := (Below.refl _ _).alloc (Nat.le_refl _) _
  obtain ⟨x0, x1, xf, xl⟩ := (Blk.new w #[.int .i64 ra, .int .i64 rb] 39).two
  have hd := fun W => isDouble_any ra rb W
  by_cases e : ra = rb
  · rw [decide_eq_true e] at hd
    rw [if_pos e]
    have HD := Lib.hid hd
    clear hd e
    go_enter Tryz.func106, Tryz.ntmps106
    go_wp2_with (go_at_call 93; refine (HD.out _).mono ?_; rintro e w1 ⟨rfl, hb1⟩)
    go_ret
    exact ⟨rfl, chain hb hb1⟩
  · rw [decide_eq_false e] at hd
    rw [if_neg e]
    have HD := Lib.hid hd
    clear hd e
    go_enter Tryz.func106, Tryz.ntmps106
    go_wp2_with (go_at_call 93; refine (HD.out _).mono ?_; rintro e w1 ⟨rfl, hb1⟩)
    go_ret
    exact ⟨rfl, chain hb hb1⟩
theorem rollOfFaces_any (a b : Int) (w : World) :
    Calls Tryz.prog 92 #[.int .i64 a, .int .i64 b] w fun e w' => e = .returned (.agg #[.int .i64 (prR a b).1, .int .i64 (prR a b).2]) ∧ Below w.heap.size w w' := by
  have BR := Blk.new w #[.int .i64 (max a b), .int .i64 (min a b)] 39
  have hb : Below w.heap.size w (w.alloc (.cells #[.int .i64 (max a b), .int .i64 (min a b)] 39)) := (Below.refl _ _).alloc (Nat.le_refl _) _
  obtain ⟨x0, x1, xf, xl⟩ := BR.two
  rw [prR_A, prR_B]
  go_enter Tryz.func92, Tryz.ntmps92
  go_wp2
  refine bodyPost_ret (v := .agg #[.int .i64 (max a b), .int .i64 (min a b)]) (by simp [results, Tryz.results92, go_sem, x0, x1]) rfl ⟨rfl, hb⟩
theorem VRow.far2 {w : World} {g B : Nat} {vs : List Value} {t : TypeId} (h : VRow w g vs t) (hne : g ≠ B) (x y : Value) : VRow ((w.setCell ⟨B, 0, none⟩ x).setCell ⟨B, 1, none⟩ y) g vs t :=
  (h.other (g := B) (o := 0) (v := x) hne).other (g := B) (o := 1) (v := y) hne
theorem VRow.alloc {w : World} {g : Nat} {vs : List Value} {t : TypeId} (h : VRow w g vs t) (o : Obj) : VRow (w.alloc o) g vs t := h.below ((Below.refl _ _).alloc (Nat.le_refl _) o)
theorem drop_at {α : Type} {l : List α} {j : Nat} {z : α} (h : l[j]? = some z) : l.drop j = z :: l.drop (j + 1) := by
  obtain ⟨hl, e⟩ := List.getElem?_eq_some_iff.1 h
  rw [List.drop_eq_getElem_cons hl, e]
def RIn (w : World) (a : Option Addr) (l : List Rl) : Prop := (a = none ∧ l = []) ∨ ∃ g, a = some ⟨g, 0, none⟩ ∧ RRow w g l
theorem RIn.below {w w' : World} {a : Option Addr} {l : List Rl} (h : RIn w a l) (hb : Below w.heap.size w w') : RIn w' a l := by
  rcases h with h | ⟨g, e, r⟩
  · exact .inl h
  · exact .inr ⟨g, e, r.below hb⟩
theorem RIn.row {w : World} {a : Option Addr} {l : List Rl} (h : RIn w a l) {k : Nat} (hk : k < l.length) : ∃ g, a = some ⟨g, 0, none⟩ ∧ RRow w g l := by
  rcases h with ⟨_, rfl⟩ | ⟨g, e, r⟩
  · simp at hk
  · exact ⟨g, e, r⟩
theorem ORl.rin {lo hi : Nat} {w : World} {a : Option Addr} {l : List Rl} (h : ORl lo hi w a l) : RIn w a l := by
  rcases h with h | ⟨g, e, _, _, r⟩
  · exact .inl h
  · exact .inr ⟨g, e, r⟩
def wgt (r : Rl) : Int := if r.1 = r.2 then 1 else 2
def mnSum (S : Nat) : List (Rl × Rl) → Int → Nat → Option (Int × Int)
  | [], a, d => some (a, (d : Int))
  | q :: l, a, d => match rdX S (q.2.1 * wgt q.1) q.2.2.toNat with
    | none => none
    | some y => match adX S a d y.1 y.2.toNat with
      | none => none
      | some z => mnSum S l z.1 z.2.toNat
def mnX (S : Nat) (l : List (Rl × Rl)) : Option (Int × Int) := match mnSum S l 0 0 with
  | none => none
  | some a => rdX S a.1 (a.2.toNat + 1)
theorem wgt_in (r : Rl) : 1 ≤ wgt r ∧ wgt r ≤ 2 := by unfold wgt; split <;> omega
theorem mnSum_cons {S : Nat} {r x : Rl} {l : List (Rl × Rl)} {a : Int} {d : Nat} : mnSum S ((r, x) :: l) a d = match rdX S (x.1 * wgt r) x.2.toNat with
    | none => none
    | some y => match adX S a d y.1 y.2.toNat with
      | none => none
      | some z => mnSum S l z.1 z.2.toNat := rfl
theorem adX_valid {S i j : Nat} {a b n d : Int} (h : adX S a i b j = some (n, d)) : xvB S n d = true := by
  unfold adX at h
  split at h <;> split at h
  · cases h
  · exact xvB_of h
  · cases h
  · exact xvB_of h
theorem ScM.look {w : World} {b S n : Nat} (h : ScM w b S n) {j : Int} (hj : -9223372036854775808 ≤ j ∧ j ≤ 9223372036854775807) :
    (Instr.lookup 65 (.map (some b)) (.int .i64 j) false).run Tryz.prog w = .ok (.int .i64 (scA S n j)) w := by
  obtain ⟨c, hrun, hat, _⟩ := World.ownsMap.lookup_int h scKey scMap Tryz.underlying2 (scZero w) (scKeyOf hj)
  rw [scD_at] at hat
  have e : scA S n j = c := by simpa using hat
  rw [e]
  exact hrun
theorem scA_is {S : Nat} {xd : Int} (h : 0 ≤ xd ∧ xd < ((nn S : Nat) : Int)) : scA S (nn S) xd = ((scN S xd.toNat : Nat) : Int) := by
  unfold scA
  rw [if_pos h]
theorem split_neg {x C : Int} (hC : 0 < C) (h : x.tmod C < 0) : x / C = x.tdiv C - 1 ∧ x % C = x.tmod C + C := by
  have h1 := Int.mul_tdiv_add_tmod x C
  have h2 : -C < x.tmod C := by
    have := Int.lt_tmod_of_pos x hC
    omega
  exact (Int.ediv_emod_unique hC).2 ⟨by rw [Int.mul_sub, Int.mul_one]; omega, by omega, by omega⟩
theorem split_pos {x C : Int} (hC : 0 < C) (h : ¬ x.tmod C < 0) : x / C = x.tdiv C ∧ x % C = x.tmod C := by
  have h1 := Int.mul_tdiv_add_tmod x C
  have h2 : x.tmod C < C := Int.tmod_lt_of_pos x hC
  exact (Int.ediv_emod_unique hC).2 ⟨by omega, by omega, h2⟩
def sg3 (a b : Int) : Int := if a < b then -1 else if b < a then 1 else 0
theorem isNaN_any (a : Int) (w : World) : Calls Tryz.prog 136 #[.int .i64 a] w fun e w' => e = .returned (.bool false) ∧ w = w' := by
  have f0 : (a != a) = false := by simp
  go_enter Tryz.func136, Tryz.ntmps136
  go_wp2
  go_ret
  exact ⟨rfl, rfl⟩
theorem compare64_any (a b : Int) (w : World) : Calls Tryz.prog 123 #[.int .i64 a, .int .i64 b] w fun e w' => e = .returned (.int .i64 (sg3 a b)) ∧ w = w' := by
  unfold sg3
  by_cases h1 : a < b
  · rw [if_pos h1]
    go_enter Tryz.func123, Tryz.ntmps123
    go_wp2_with (go_at_call 136; refine (isNaN_any _ _).mono ?_; rintro e w1 ⟨rfl, rfl⟩)
    go_ret
    exact ⟨rfl, rfl⟩
  · rw [if_neg h1]
    by_cases h2 : b < a
    · rw [if_pos h2]
      go_enter Tryz.func123, Tryz.ntmps123
      go_wp2_with (go_at_call 136; refine (isNaN_any _ _).mono ?_; rintro e w1 ⟨rfl, rfl⟩)
      go_ret
      exact ⟨rfl, rfl⟩
    · rw [if_neg h2]
      go_enter Tryz.func123, Tryz.ntmps123
      go_wp2_with (go_at_call 136; refine (isNaN_any _ _).mono ?_; rintro e w1 ⟨rfl, rfl⟩)
      go_ret
      exact ⟨rfl, rfl⟩
def cmV (S : Nat) (xn xd yn yd : Int) : Int :=
  if sg3 (xn / ((scN S xd.toNat : Nat) : Int)) (yn / ((scN S yd.toNat : Nat) : Int)) ≠ 0 then sg3 (xn / ((scN S xd.toNat : Nat) : Int)) (yn / ((scN S yd.toNat : Nat) : Int))
  else sg3 (xn % ((scN S xd.toNat : Nat) : Int) * ((scN S (max xd yd - xd).toNat : Nat) : Int)) (yn % ((scN S yd.toNat : Nat) : Int) * ((scN S (max xd yd - yd).toNat : Nat) : Int))
theorem Own.one (w : World) (u : Int) : Own (w.alloc (.cells #[.int .i64 u] 2)) w.heap.size (.slice (some ⟨w.heap.size, 0, none⟩) 1 1) [u] :=
  ⟨rfl, .inr ⟨w.heap.size, 1, #[.int .i64 u], rfl, Nat.le_refl _, Blk.new w #[.int .i64 u] _, Nat.le_refl _, by unfold maxLen; omega, rfl, rfl⟩⟩
def dgI (S : Nat) (r : Int) : Nat → List Int
  | 0 => []
  | m + 1 => r / ((scN S m : Nat) : Int) :: dgI S (r % ((scN S m : Nat) : Int)) m
theorem dgI_length (S : Nat) : ∀ (m : Nat) (r : Int), (dgI S r m).length = m
  | 0, r => rfl
  | m + 1, r => by rw [dgI, List.length_cons, dgI_length S m]
set_option maxRecDepth 8000 in
set_option maxHeartbeats 1000000 in
theorem l09Split_any (p c h : Int) (S : Nat) (hS : 1 ≤ S ∧ S ≤ 6) (xn xd : Int) (hx : -1000000000000000000 ≤ xn ∧ xn ≤ 1000000000000000000) (hd : 0 ≤ xd ∧ xd < ((nn S : Nat) : Int)) (w : World) :
    Calls Tryz.prog 117 #[.agg #[.int .i64 p, .int .i64 c, .int .i64 h, .int .i64 (S : Int)], .agg #[.int .i64 xn, .int .i64 xd]] w (SliceGot (xn / ((scN S xd.toNat : Nat) : Int) :: dgI S (xn % ((scN S xd.toNat : Nat) : Int)) xd.toNat) w) := by
  have hn := nn_range hS
  have hbr := base_range hS
  obtain ⟨D, hD⟩ : ∃ D, xd.toNat = D := ⟨_, rfl⟩
  rw [hD]
  obtain rfl : xd = (D : Int) := by omega
  have hle := scN_in hS (show D < nn S by omega)
  have hpos := scN_pos hS.1 D
  have hsc := fun W => l09Scale_any p c h S hS (D : Int) (by omega) W
  have hsb : slB S (D : Int) = true := by unfold slB; rw [decide_eq_true (.inr (by omega))]
  rw [hsb, slV_is (k := D) hsb (.inl hD)] at hsc
  obtain ⟨C, hC⟩ : ∃ C : Int, ((scN S D : Nat) : Int) = C := ⟨_, rfl⟩
  rw [hC] at hsc ⊢
  have HCE := Lib.hid hC
  obtain ⟨C1, C2⟩ : 1 ≤ C ∧ C ≤ 1000000000000000 := by omega
  have HSC := Lib.hid hsc
  have hba := fun W => l09Base_any p c h S hS.2 W
  obtain ⟨B, hB⟩ : ∃ B : Int, ((S * S : Nat) : Int) = B := ⟨_, rfl⟩
  rw [hB] at hba
  have HB := Lib.hid hba
  have HBE := Lib.hid hB
  have B0 : 1 ≤ B ∧ B ≤ 36 := by omega
  obtain ⟨OUT, hOUT⟩ : ∃ x, (xn / C :: dgI S (xn % C) D) = x := ⟨_, rfl⟩
  rw [hOUT]
  obtain ⟨BV, BX, hb, hz⟩ := two_new w #[.int .i64 p, .int .i64 c, .int .i64 h, .int .i64 (S : Int)] #[.int .i64 xn, .int .i64 (D : Int)] 25 35
  obtain ⟨x0, x1, x2, x3, xf, xl⟩ := BV.four
  obtain ⟨a0, a1, af, al⟩ := BX.two
  have hspn := fun h => split_neg (x := xn) (show 0 < C by omega) h
  have hspp := fun h => split_pos (x := xn) (show 0 < C by omega) h
  have b1 : -C < xn.tmod C := Int.lt_tmod_of_pos xn (by omega)
  have b2 : xn.tmod C < C := Int.tmod_lt_of_pos xn (by omega)
  have b3 : (xn.tdiv C).natAbs ≤ xn.natAbs := Int.natAbs_tdiv_le_natAbs xn C
  have b4 := Int.emod_nonneg xn (show C ≠ 0 by omega)
  have b5 := Int.emod_lt_of_pos xn (show 0 < C by omega)
  obtain ⟨W, hW⟩ : ∃ W, xn.tdiv C = W := ⟨_, rfl⟩
  obtain ⟨T, hT⟩ : ∃ T, xn.tmod C = T := ⟨_, rfl⟩
  rw [hT] at b1 b2
  rw [hW] at b3
  simp only [hW, hT] at hspn hspp
  have wW : IntKind.i64.wrap W = W := IntWalk.i64_in _ (by omega)
  have wT : IntKind.i64.wrap T = T := IntWalk.i64_in _ (by omega)
  have wW1 : IntKind.i64.wrap (W - 1) = W - 1 := IntWalk.i64_in _ (by omega)
  have wT1 : IntKind.i64.wrap (T + C) = T + C := IntWalk.i64_in _ (by omega)
  have nC : C ≠ 0 := by omega
  have nB : B ≠ 0 := by omega
  by_cases ct : T < 0
  · obtain ⟨e1, e2⟩ := hspn ct
    rw [e2] at b4 b5
    have HOUT : Hid ([W - 1] ++ dgI S (T + C) D = OUT) := Lib.hid (by rw [← hOUT, e1, e2]; rfl)
    clear hspn hspp e1 e2 hOUT hsc hba hB hC hsb hle hpos hbr hD
    go_enter Tryz.func117, Tryz.ntmps117
    go_wp2_with (go_at_call 75; refine (HSC.out _).mono ?_; clear HSC; rintro e w2 ⟨rfl, hb2⟩; replace BV := BV.below hb2; replace BX := BX.below hb2; replace hb := chain hb hb2; clear hb2; obtain ⟨x0, x1, x2, x3, xf, xl⟩ := BV.four; obtain ⟨a0, a1, af, al⟩ := BX.two)
    clear x0 x1 x2 x3 xf xl a0 a1 af al
    have hz2 := BX.lt
    have HO0 := Own.one w2 (W - 1)
    have hal : Below w2.heap.size w2 (w2.alloc (.cells #[.int .i64 (W - 1)] 2)) := (Below.refl _ _).alloc (Nat.le_refl _) _
    have hlt2 : w.heap.size + 1 < w2.heap.size := BX.lt
    go_loopg [5, 8, 9, 10] D (fun n q5 q8 q9 q10 wr => ∃ (k : Nat) (C R : Int) (L : List Int), k ≤ D ∧ n = D - k ∧ q5 = .int .i64 C ∧ q8 = .int .i64 R ∧ q10 = .int .i64 (k : Int) ∧ Hid (C = ((scN S (D - k) : Nat) : Int)) ∧ 0 ≤ R ∧ R < C ∧ C ≤ 1000000000000000 ∧ Own wr w2.heap.size q9 L ∧ Hid (L ++ dgI S R (D - k) = OUT) ∧ L.length = k + 1 ∧ Below w2.heap.size w2 wr)
    case atStart => exact ⟨0, C, (T + C), [(W - 1)], by omega, by omega, rfl, rfl, rfl, Lib.hid HCE.out.symm, by omega, by omega, by omega, HO0, HOUT, rfl, hal⟩
    case round =>
      obtain ⟨k, C', R, L, hk, hm, rfl, rfl, rfl, HC, R0, R1, C3, hO, HL, hll, hbel⟩ := hrel
      have BV' := BV.below hbel
      have BX' := BX.below hbel
      by_cases hlt : k < D
      · have hkI : (k : Int) < (D : Int) := by omega
        obtain ⟨M, hM⟩ : ∃ M, D - k = M + 1 := ⟨D - k - 1, by omega⟩
        have hM2 : D - (k + 1) = M := by omega
        have hCE := HC.out
        have hLE := HL.out
        rw [hM] at hCE hLE
        rw [scN_succ, Int.natCast_mul, HBE.out] at hCE
        rw [dgI] at hLE
        have hEp := scN_pos hS.1 M
        have hEl := scN_in hS (show M < nn S by omega)
        obtain ⟨E, hE⟩ : ∃ E : Int, ((scN S M : Nat) : Int) = E := ⟨_, rfl⟩
        rw [hE] at hCE hLE
        obtain ⟨E1, E2⟩ : 1 ≤ E ∧ E ≤ 1000000000000000 := by omega
        have v1 : C' / B = E := by rw [hCE]; exact Int.mul_ediv_cancel _ nB
        have v2 : C'.tdiv B = E := by rw [hCE]; exact Int.mul_tdiv_cancel _ nB
        have nE : E ≠ 0 := by omega
        have r0 := Int.emod_nonneg R nE
        have r1 := Int.emod_lt_of_pos R (show 0 < E by omega)
        have d0 : 0 ≤ R / E := Int.ediv_nonneg R0 (by omega)
        have d1 : R / E ≤ R := Int.ediv_le_self _ R0
        have v3 : R.tdiv E = R / E := Int.tdiv_eq_ediv_of_nonneg R0
        have v4 : R.tmod E = R % E := Int.tmod_eq_emod_of_nonneg R0
        obtain ⟨D1, hD1⟩ : ∃ x, R / E = x := ⟨_, rfl⟩
        obtain ⟨R2, hR2⟩ : ∃ x, R % E = x := ⟨_, rfl⟩
        rw [hD1] at hLE d0 d1 v3
        rw [hR2] at hLE r0 r1 v4
        have wE : IntKind.i64.wrap E = E := IntWalk.i64_in _ (by omega)
        have wD : IntKind.i64.wrap D1 = D1 := IntWalk.i64_in _ (by omega)
        have HL2 : Hid ((L ++ [D1]) ++ dgI S R2 (D - (k + 1)) = OUT) := Lib.hid (by rw [hM2, List.append_assoc]; exact hLE)
        have HC2 : Hid (E = ((scN S (D - (k + 1)) : Nat) : Int)) := Lib.hid (by rw [hM2]; exact hE.symm)
        have hlL : L.length ≤ 1048576 := by omega
        clear hCE hLE hE hM hM2 hEp hEl HC HL
        obtain ⟨x0, x1, x2, x3, xf, xl⟩ := BV'.four
        obtain ⟨a0, a1, af, al⟩ := BX'.two
        go_wp2_with (first | (go_at_call 76; refine (HB.out _).mono ?_; rintro e w5 ⟨rfl, hb5⟩; obtain ⟨x0, x1, x2, x3, xf, xl⟩ := (BV'.below hb5).four; obtain ⟨a0, a1, af, al⟩ := (BX'.below hb5).two) | (at_builtin; refine wp_push rfl _ _ rfl w2.heap.size _ L rfl (hO.kept hb5) D1 rfl hlL (chain hbel hb5).size ?_; intro v6 w6 hO6 hb6))
        go_roundg (D - (k + 1))
        case measure => omega
        case rel => exact ⟨k + 1, E, R2, L ++ [D1], by omega, rfl, rfl, rfl, by go_num, HC2, r0, r1, E2, hO6, HL2, by simp; omega, (chain hbel hb5).trans hb6⟩
      · obtain rfl : k = D := by omega
        have hLE := HL.out
        rw [Nat.sub_self, dgI, List.append_nil] at hLE
        subst hLE
        obtain ⟨a, cap, rfl⟩ := hO.form
        have hsz := hbel.size
        obtain ⟨x0, x1, x2, x3, xf, xl⟩ := BV'.four
        obtain ⟨a0, a1, af, al⟩ := BX'.two
        go_wp2
        go_ret
        exact ⟨a, cap, rfl, hO.osl.mono (by omega) (Nat.le_refl _), chain hb hbel⟩
  · obtain ⟨e1, e2⟩ := hspp ct
    rw [e2] at b4 b5
    have HOUT : Hid ([W] ++ dgI S T D = OUT) := Lib.hid (by rw [← hOUT, e1, e2]; rfl)
    clear hspn hspp e1 e2 hOUT hsc hba hB hC hsb hle hpos hbr hD
    go_enter Tryz.func117, Tryz.ntmps117
    go_wp2_with (go_at_call 75; refine (HSC.out _).mono ?_; clear HSC; rintro e w2 ⟨rfl, hb2⟩; replace BV := BV.below hb2; replace BX := BX.below hb2; replace hb := chain hb hb2; clear hb2; obtain ⟨x0, x1, x2, x3, xf, xl⟩ := BV.four; obtain ⟨a0, a1, af, al⟩ := BX.two)
    clear x0 x1 x2 x3 xf xl a0 a1 af al
    have hz2 := BX.lt
    have HO0 := Own.one w2 W
    have hal : Below w2.heap.size w2 (w2.alloc (.cells #[.int .i64 W] 2)) := (Below.refl _ _).alloc (Nat.le_refl _) _
    have hlt2 : w.heap.size + 1 < w2.heap.size := BX.lt
    go_loopg [5, 8, 9, 10] D (fun n q5 q8 q9 q10 wr => ∃ (k : Nat) (C R : Int) (L : List Int), k ≤ D ∧ n = D - k ∧ q5 = .int .i64 C ∧ q8 = .int .i64 R ∧ q10 = .int .i64 (k : Int) ∧ Hid (C = ((scN S (D - k) : Nat) : Int)) ∧ 0 ≤ R ∧ R < C ∧ C ≤ 1000000000000000 ∧ Own wr w2.heap.size q9 L ∧ Hid (L ++ dgI S R (D - k) = OUT) ∧ L.length = k + 1 ∧ Below w2.heap.size w2 wr)
    case atStart => exact ⟨0, C, T, [W], by omega, by omega, rfl, rfl, rfl, Lib.hid HCE.out.symm, by omega, by omega, by omega, HO0, HOUT, rfl, hal⟩
    case round =>
      obtain ⟨k, C', R, L, hk, hm, rfl, rfl, rfl, HC, R0, R1, C3, hO, HL, hll, hbel⟩ := hrel
      have BV' := BV.below hbel
      have BX' := BX.below hbel
      by_cases hlt : k < D
      · have hkI : (k : Int) < (D : Int) := by omega
        obtain ⟨M, hM⟩ : ∃ M, D - k = M + 1 := ⟨D - k - 1, by omega⟩
        have hM2 : D - (k + 1) = M := by omega
        have hCE := HC.out
        have hLE := HL.out
        rw [hM] at hCE hLE
        rw [scN_succ, Int.natCast_mul, HBE.out] at hCE
        rw [dgI] at hLE
        have hEp := scN_pos hS.1 M
        have hEl := scN_in hS (show M < nn S by omega)
        obtain ⟨E, hE⟩ : ∃ E : Int, ((scN S M : Nat) : Int) = E := ⟨_, rfl⟩
        rw [hE] at hCE hLE
        obtain ⟨E1, E2⟩ : 1 ≤ E ∧ E ≤ 1000000000000000 := by omega
        have v1 : C' / B = E := by rw [hCE]; exact Int.mul_ediv_cancel _ nB
        have v2 : C'.tdiv B = E := by rw [hCE]; exact Int.mul_tdiv_cancel _ nB
        have nE : E ≠ 0 := by omega
        have r0 := Int.emod_nonneg R nE
        have r1 := Int.emod_lt_of_pos R (show 0 < E by omega)
        have d0 : 0 ≤ R / E := Int.ediv_nonneg R0 (by omega)
        have d1 : R / E ≤ R := Int.ediv_le_self _ R0
        have v3 : R.tdiv E = R / E := Int.tdiv_eq_ediv_of_nonneg R0
        have v4 : R.tmod E = R % E := Int.tmod_eq_emod_of_nonneg R0
        obtain ⟨D1, hD1⟩ : ∃ x, R / E = x := ⟨_, rfl⟩
        obtain ⟨R2, hR2⟩ : ∃ x, R % E = x := ⟨_, rfl⟩
        rw [hD1] at hLE d0 d1 v3
        rw [hR2] at hLE r0 r1 v4
        have wE : IntKind.i64.wrap E = E := IntWalk.i64_in _ (by omega)
        have wD : IntKind.i64.wrap D1 = D1 := IntWalk.i64_in _ (by omega)
        have HL2 : Hid ((L ++ [D1]) ++ dgI S R2 (D - (k + 1)) = OUT) := Lib.hid (by rw [hM2, List.append_assoc]; exact hLE)
        have HC2 : Hid (E = ((scN S (D - (k + 1)) : Nat) : Int)) := Lib.hid (by rw [hM2]; exact hE.symm)
        have hlL : L.length ≤ 1048576 := by omega
        clear hCE hLE hE hM hM2 hEp hEl HC HL
        obtain ⟨x0, x1, x2, x3, xf, xl⟩ := BV'.four
        obtain ⟨a0, a1, af, al⟩ := BX'.two
        go_wp2_with (first | (go_at_call 76; refine (HB.out _).mono ?_; rintro e w5 ⟨rfl, hb5⟩; obtain ⟨x0, x1, x2, x3, xf, xl⟩ := (BV'.below hb5).four; obtain ⟨a0, a1, af, al⟩ := (BX'.below hb5).two) | (at_builtin; refine wp_push rfl _ _ rfl w2.heap.size _ L rfl (hO.kept hb5) D1 rfl hlL (chain hbel hb5).size ?_; intro v6 w6 hO6 hb6))
        go_roundg (D - (k + 1))
        case measure => omega
        case rel => exact ⟨k + 1, E, R2, L ++ [D1], by omega, rfl, rfl, rfl, by go_num, HC2, r0, r1, E2, hO6, HL2, by simp; omega, (chain hbel hb5).trans hb6⟩
      · obtain rfl : k = D := by omega
        have hLE := HL.out
        rw [Nat.sub_self, dgI, List.append_nil] at hLE
        subst hLE
        obtain ⟨a, cap, rfl⟩ := hO.form
        have hsz := hbel.size
        obtain ⟨x0, x1, x2, x3, xf, xl⟩ := BV'.four
        obtain ⟨a0, a1, af, al⟩ := BX'.two
        go_wp2
        go_ret
        exact ⟨a, cap, rfl, hO.osl.mono (by omega) (Nat.le_refl _), chain hb hbel⟩
end Go.Proofs.YtnlclmlnpkncoaaGreat
