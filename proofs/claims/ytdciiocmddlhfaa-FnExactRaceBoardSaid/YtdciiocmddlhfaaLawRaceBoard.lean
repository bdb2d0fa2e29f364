/- The exact law of chapter 15 on RaceBoard holds: for every input the law returns true and its arguments read behind the call as they read before. No conditions. -/
import Derived.Test.Ytdciiocmddlhfaa15i
import Derived.Test.Ytdciiocmddlhfaa15j
import Derived.Test.YtdciiocmddlhfaaOwnB
import Derived.Test.YtdciiocmddlhfaaOwnS
import Derived.Test.YtdciiocmddlhfaaOpen
import Derived.Test.YtdciiocmddlhfaaRows
import Derived.ChangeOld
namespace Go.Proofs.Ytdciiocmddlhfaa
open Go.ChangeMaps (open_string shut_string)
open Go.ChangeShapes Go.WideShapes Go.ChangeAt Go.RowKit
set_option linter.unusedVariables false
set_option linter.unusedSimpArgs false
set_option maxRecDepth 4000

/-- A board of one's own (or none) and a code are handed back. -/
def BdGot (X Y : List Int) (k : Int) (w : World) (e : Ending) (w' : World) : Prop :=
  ∃ a1 a2 k1 k2, e = .returned (.tuple #[.agg #[.slice a1 X.length k1, .slice a2 Y.length k2], .int .i64 k]) ∧ OBd w.heap.size w'.heap.size w' a1 a2 X Y ∧ Below w.heap.size w w'
theorem bd_ok {X Y : List Int} {w : World} {e : Ending} {w' : World} (hX : 0 < X.length) (hY : 0 < Y.length) (h : RbGot X Y 0 w e w') : BdGot X Y 0 w e w' := by
  obtain ⟨h1, -, hb⟩ := h
  obtain ⟨aO, aT, kO, kT, m, n, rfl, o1, o2, hm, hn⟩ := h1 rfl
  rcases o1 with ⟨-, q⟩ | ⟨g1, rfl, q1, q2, R1⟩
  · rw [q] at hX
    simp at hX
  · rcases o2 with ⟨-, q⟩ | ⟨g2, rfl, q3, q4, R2⟩
    · rw [q] at hY
      simp at hY
    · exact ⟨_, _, kO, kT, rfl, .inr ⟨g1, g2, rfl, rfl, by omega, by omega, by omega, by omega, by omega, R1, R2⟩, hb⟩
theorem bd_no {X Y : List Int} {k : Int} {w : World} {e : Ending} {w' : World} (hk : k ≠ 0) (h : RbGot X Y k w e w') : BdGot [] [] k w e w' := by
  obtain ⟨-, h2, hb⟩ := h
  exact ⟨none, none, 0, 0, h2 hk, .inl ⟨rfl, rfl, rfl, rfl⟩, hb⟩
theorem fnExactRaceBoard_both (p c h s : Int) (bs ds : List Int) (h1 : bs.length ≤ 1048576) (h2 : ds.length ≤ 1048576) : ∃ (X Y : List Int) (r : Int), X.length ≤ 1048576 ∧ Y.length ≤ 1048576 ∧ (∀ (W : World) (a b : Option Addr) (k1 k2 : Nat), IRow W a bs → IRow W b ds → Calls Try.prog 4 #[.agg #[.int .i64 p, .int .i64 c, .int .i64 h, .int .i64 s], .slice a bs.length k1, .slice b ds.length k2] W (BdGot X Y r W)) ∧ (∀ (W : World) (a b : Option Addr) (k1 k2 : Nat), IRow W a bs → IRow W b ds → Calls Try.prog 7 #[.agg #[.int .i64 p, .int .i64 c, .int .i64 h, .int .i64 s], .slice a bs.length k1, .slice b ds.length k2] W (BdGot X Y r W)) := by
  have hs := fun (W : World) (a b : Option Addr) (k1 k2 : Nat) (r1 : IRow W a bs) (r2 : IRow W b ds) => specRaceBoard_any p c h s a b bs.length ds.length k1 k2 bs ds W rfl rfl h1 h2 r1 r2
  have hi := fun (W : World) (a b : Option Addr) (k1 k2 : Nat) (r1 : IRow W a bs) (r2 : IRow W b ds) => raceBoard_any p c h s a b bs.length ds.length k1 k2 bs ds W rfl rfl h1 h2 r1 r2
  by_cases e : rbK p c h s bs ds = 0
  · rw [e] at hs hi
    have hl : (0 < bs.length ∧ bs.length ≤ 24) ∧ (0 < ds.length ∧ ds.length ≤ 24) ∧ (p + 1 - h).toNat ≤ 24 := by
      have hc : rbC p c h s bs ds = 0 := by
        unfold rbK at e
        split at e
        · rename_i q
          exact absurd e q
        · rename_i q
          omega
      unfold rbC at hc
      split at hc
      · rename_i q
        exact absurd hc q
      · rename_i q
        have ox := okP_of (show bcE p c h s bs = 0 by omega)
        have oy := okP_of hc
        simp only [okP, Bool.and_eq_true, vB_iff, sideB_iff] at ox oy
        omega
    refine ⟨rbX p h bs, rbX p h ds, 0, by unfold rbX; rw [List.length_append, List.length_replicate]; omega, by unfold rbX; rw [List.length_append, List.length_replicate]; omega, fun W a b k1 k2 r1 r2 => (hs W a b k1 k2 r1 r2).mono fun e w' q => bd_ok ?_ ?_ q, fun W a b k1 k2 r1 r2 => (hi W a b k1 k2 r1 r2).mono fun e w' q => bd_ok ?_ ?_ q⟩
    all_goals (unfold rbX; rw [List.length_append]; omega)
  · exact ⟨[], [], rbK p c h s bs ds, by simp, by simp, fun W a b k1 k2 r1 r2 => (hs W a b k1 k2 r1 r2).mono fun _ w' q => bd_no e q, fun W a b k1 k2 r1 r2 => (hi W a b k1 k2 r1 r2).mono fun _ w' q => bd_no e q⟩
set_option maxRecDepth 8000 in
set_option maxHeartbeats 4000000 in
theorem fnExactRaceBoard_walk (p c h s : Int) (a : Option Addr) (n cap : Nat) (bs : List Int) (a2 : Option Addr) (n2 cap2 : Nat) (ds : List Int) (w : World) (hn : bs.length = n) (hm : n ≤ 9223372036854775807) (hr : IRow w a bs) (hn2 : ds.length = n2) (hm2 : n2 ≤ 9223372036854775807) (hr2 : IRow w a2 ds) :
    Calls Try.prog 3 #[.agg #[.int .i64 p, .int .i64 c, .int .i64 h, .int .i64 s], .slice a n cap, .slice a2 n2 cap2] w fun e w' => e = .returned (.bool true) ∧ Below w.heap.size w w' := by
  have BV := Blk.new w #[.int .i64 p, .int .i64 c, .int .i64 h, .int .i64 s] 23
  have hb : Below w.heap.size w (w.alloc (.cells #[.int .i64 p, .int .i64 c, .int .i64 h, .int .i64 s] 23)) := (Below.refl _ _).alloc (Nat.le_refl _) _
  have hz0 := BV.lt
  by_cases hle : n ≤ 1048576
  · have hle' : (n : Int) ≤ 1048576 := by omega
    by_cases hle2 : n2 ≤ 1048576
    · have hle2' : (n2 : Int) ≤ 1048576 := by omega
      subst hn hn2
      obtain ⟨X, Y, r, lX, lY, hsp, him⟩ := fnExactRaceBoard_both p c h s bs ds hle hle2
      unfold BdGot at hsp him
      have HSP := Lib.hid hsp
      have HIM := Lib.hid him
      clear hsp him
      have h80b : decide ((1048576 : Int) < (bs.length : Int)) = false := by rw [decide_eq_false_iff_not]; omega
      have h80c : decide (1048576 < bs.length) = false := by rw [decide_eq_false_iff_not]; omega
      have h81b : decide ((1048576 : Int) < (ds.length : Int)) = false := by rw [decide_eq_false_iff_not]; omega
      have h81c : decide (1048576 < ds.length) = false := by rw [decide_eq_false_iff_not]; omega
      obtain ⟨x0, x1, x2, x3, xf, xl⟩ := BV.four
      go_enter Try.func3, Try.ntmps3
      go_wp2_with fail
      clear h80b h80c h81b h81c x0 x1 x2 x3 xf xl
      generalize (w.alloc (.cells #[.int .i64 p, .int .i64 c, .int .i64 h, .int .i64 s] 23)) = v0 at *
      obtain ⟨q0_BV, q1_BV, q2_BV, q3_BV, qf_BV, ql_BV⟩ := BV.four
      go_wp2_with fail
      clear q0_BV q1_BV q2_BV q3_BV qf_BV ql_BV
      refine (toVariant_any _ _ _ _ _).mono ?_
      rintro e w1 ⟨rfl, hb1⟩
      replace BV := BV.below hb1
      have hz1 := hb1.size
      replace hb := chain hb hb1
      clear hb1
      obtain ⟨q0_BV, q1_BV, q2_BV, q3_BV, qf_BV, ql_BV⟩ := BV.four
      go_wp2_with fail
      clear q0_BV q1_BV q2_BV q3_BV qf_BV ql_BV
      refine (toInt64S_any a _ cap bs _ rfl hle (hr.below hb)).mono ?_
      rintro e w2 ⟨g1, rfl, hg1, R1, hb2⟩
      replace BV := BV.below hb2
      have hz2 := hb2.size
      replace hb := chain hb hb2
      clear hb2
      obtain ⟨q0_BV, q1_BV, q2_BV, q3_BV, qf_BV, ql_BV⟩ := BV.four
      go_wp2_with fail
      clear q0_BV q1_BV q2_BV q3_BV qf_BV ql_BV
      refine (toInt64S_any a2 _ cap2 ds _ rfl hle2 (hr2.below hb)).mono ?_
      rintro e w3 ⟨g0, rfl, hg0, R0, hb3⟩
      replace BV := BV.below hb3
      replace R1 := R1.below hb3
      have hz3 := hb3.size
      replace hb := chain hb hb3
      clear hb3
      obtain ⟨q0_BV, q1_BV, q2_BV, q3_BV, qf_BV, ql_BV⟩ := BV.four
      go_wp2_with fail
      clear q0_BV q1_BV q2_BV q3_BV qf_BV ql_BV
      refine (HSP.out _ _ _ _ _ R1.irow R0.irow).mono ?_
      rintro e w4 ⟨aO, aT, kO, kT, rfl, O0, hb4⟩
      replace BV := BV.below hb4
      replace R1 := R1.below hb4
      replace R0 := R0.below hb4
      have hz4 := hb4.size
      replace hb := chain hb hb4
      clear hb4
      clear R1 hg1 R0 hg0
      have B0 := Blk.new w4 #[.slice aO X.length kO, .slice aT Y.length kT] 26
      have hal5 : Below w4.heap.size w4 (w4.alloc (.cells #[.slice aO X.length kO, .slice aT Y.length kT] 26)) := (Below.refl _ _).alloc (Nat.le_refl _) _
      have hz5 : (w4.alloc (.cells #[.slice aO X.length kO, .slice aT Y.length kT] 26)).heap.size = w4.heap.size + 1 := by simp
      replace BV := BV.below hal5
      replace O0 := O0.below hal5
      replace hb := chain hb hal5
      clear hal5
      obtain ⟨q0_BV, q1_BV, q2_BV, q3_BV, qf_BV, ql_BV⟩ := BV.four
      obtain ⟨q0_B0, q1_B0, qf_B0, ql_B0⟩ := B0.two
      go_wp2_with fail
      clear q0_BV q1_BV q2_BV q3_BV qf_BV ql_BV
      clear q0_B0 q1_B0 qf_B0 ql_B0
      generalize (w4.alloc (.cells #[.slice aO X.length kO, .slice aT Y.length kT] 26)) = w5 at *
      obtain ⟨q0_BV, q1_BV, q2_BV, q3_BV, qf_BV, ql_BV⟩ := BV.four
      obtain ⟨q0_B0, q1_B0, qf_B0, ql_B0⟩ := B0.two
      go_wp2_with fail
      clear q0_BV q1_BV q2_BV q3_BV qf_BV ql_BV
      clear q0_B0 q1_B0 qf_B0 ql_B0
      refine (toInt64S_any a _ cap bs _ rfl hle (hr.below hb)).mono ?_
      rintro e w6 ⟨g2, rfl, hg2, R2, hb6⟩
      replace BV := BV.below hb6
      replace O0 := O0.below hb6
      replace B0 := B0.below hb6
      have hz6 := hb6.size
      replace hb := chain hb hb6
      clear hb6
      have X1 : OSl w5.heap.size w6.heap.size w6 (some ⟨g2, 0, none⟩) bs := .inr ⟨g2, rfl, hg2, R2.lt, R2⟩
      clear R2 hg2
      obtain ⟨q0_BV, q1_BV, q2_BV, q3_BV, qf_BV, ql_BV⟩ := BV.four
      obtain ⟨q0_B0, q1_B0, qf_B0, ql_B0⟩ := B0.two
      go_wp2_with fail
      clear q0_BV q1_BV q2_BV q3_BV qf_BV ql_BV
      clear q0_B0 q1_B0 qf_B0 ql_B0
      refine (toInt64S_any a2 _ cap2 ds _ rfl hle2 (hr2.below hb)).mono ?_
      rintro e w7 ⟨g3, rfl, hg3, R3, hb7⟩
      replace BV := BV.below hb7
      replace O0 := O0.below hb7
      replace B0 := B0.below hb7
      replace X1 := X1.below hb7
      have hz7 := hb7.size
      replace hb := chain hb hb7
      clear hb7
      have X2 : OSl w6.heap.size w7.heap.size w7 (some ⟨g3, 0, none⟩) ds := .inr ⟨g3, rfl, hg3, R3.lt, R3⟩
      clear R3 hg3
      obtain ⟨q0_BV, q1_BV, q2_BV, q3_BV, qf_BV, ql_BV⟩ := BV.four
      obtain ⟨q0_B0, q1_B0, qf_B0, ql_B0⟩ := B0.two
      go_wp2_with fail
      clear q0_BV q1_BV q2_BV q3_BV qf_BV ql_BV
      clear q0_B0 q1_B0 qf_B0 ql_B0
      refine (toVariant_any _ _ _ _ _).mono ?_
      rintro e w8 ⟨rfl, hb8⟩
      replace BV := BV.below hb8
      replace O0 := O0.below hb8
      replace B0 := B0.below hb8
      replace X1 := X1.below hb8
      replace X2 := X2.below hb8
      have hz8 := hb8.size
      replace hb := chain hb hb8
      clear hb8
      obtain ⟨q0_BV, q1_BV, q2_BV, q3_BV, qf_BV, ql_BV⟩ := BV.four
      obtain ⟨q0_B0, q1_B0, qf_B0, ql_B0⟩ := B0.two
      go_wp2_with fail
      clear q0_BV q1_BV q2_BV q3_BV qf_BV ql_BV
      clear q0_B0 q1_B0 qf_B0 ql_B0
      refine (HIM.out _ _ _ _ _ X1.irow X2.irow).mono ?_
      rintro e w9 ⟨bO, bT, jO, jT, rfl, O1, hb9⟩
      replace BV := BV.below hb9
      replace O0 := O0.below hb9
      replace B0 := B0.below hb9
      replace X1 := X1.below hb9
      replace X2 := X2.below hb9
      have hz9 := hb9.size
      replace hb := chain hb hb9
      clear hb9
      have B1 := Blk.new w9 #[.slice bO X.length jO, .slice bT Y.length jT] 26
      have hal10 : Below w9.heap.size w9 (w9.alloc (.cells #[.slice bO X.length jO, .slice bT Y.length jT] 26)) := (Below.refl _ _).alloc (Nat.le_refl _) _
      have hz10 : (w9.alloc (.cells #[.slice bO X.length jO, .slice bT Y.length jT] 26)).heap.size = w9.heap.size + 1 := by simp
      replace BV := BV.below hal10
      replace O0 := O0.below hal10
      replace B0 := B0.below hal10
      replace X1 := X1.below hal10
      replace X2 := X2.below hal10
      replace O1 := O1.below hal10
      replace hb := chain hb hal10
      clear hal10
      obtain ⟨q0_BV, q1_BV, q2_BV, q3_BV, qf_BV, ql_BV⟩ := BV.four
      obtain ⟨q0_B0, q1_B0, qf_B0, ql_B0⟩ := B0.two
      obtain ⟨q0_B1, q1_B1, qf_B1, ql_B1⟩ := B1.two
      go_wp2_with fail
      clear q0_BV q1_BV q2_BV q3_BV qf_BV ql_BV
      clear q0_B0 q1_B0 qf_B0 ql_B0
      clear q0_B1 q1_B1 qf_B1 ql_B1
      generalize (w9.alloc (.cells #[.slice bO X.length jO, .slice bT Y.length jT] 26)) = w10 at *
      obtain ⟨q0_BV, q1_BV, q2_BV, q3_BV, qf_BV, ql_BV⟩ := BV.four
      obtain ⟨q0_B0, q1_B0, qf_B0, ql_B0⟩ := B0.two
      obtain ⟨q0_B1, q1_B1, qf_B1, ql_B1⟩ := B1.two
      go_wp2_with fail
      clear q0_BV q1_BV q2_BV q3_BV qf_BV ql_BV
      clear q0_B0 q1_B0 qf_B0 ql_B0
      clear q0_B1 q1_B1 qf_B1 ql_B1
      refine (eqBoard_same _ _ _ _ _ _ _ _ _ _ X Y _ rfl rfl lX lY O1.irow1 O1.irow2 O0.irow1 O0.irow2).mono ?_
      rintro e w11 ⟨rfl, hb11⟩
      replace BV := BV.below hb11
      replace O0 := O0.below hb11
      replace B0 := B0.below hb11
      replace X1 := X1.below hb11
      replace X2 := X2.below hb11
      replace O1 := O1.below hb11
      replace B1 := B1.below hb11
      have hz11 := hb11.size
      replace hb := chain hb hb11
      clear hb11
      obtain ⟨q0_BV, q1_BV, q2_BV, q3_BV, qf_BV, ql_BV⟩ := BV.four
      obtain ⟨q0_B0, q1_B0, qf_B0, ql_B0⟩ := B0.two
      obtain ⟨q0_B1, q1_B1, qf_B1, ql_B1⟩ := B1.two
      go_wp2_with fail
      clear q0_BV q1_BV q2_BV q3_BV qf_BV ql_BV
      clear q0_B0 q1_B0 qf_B0 ql_B0
      clear q0_B1 q1_B1 qf_B1 ql_B1
      refine (toInt64S_any a _ cap bs _ rfl hle (hr.below hb)).mono ?_
      rintro e w12 ⟨g4, rfl, hg4, R4, hb12⟩
      replace BV := BV.below hb12
      replace O0 := O0.below hb12
      replace B0 := B0.below hb12
      replace X1 := X1.below hb12
      replace X2 := X2.below hb12
      replace O1 := O1.below hb12
      replace B1 := B1.below hb12
      have hz12 := hb12.size
      replace hb := chain hb hb12
      clear hb12
      obtain ⟨q0_BV, q1_BV, q2_BV, q3_BV, qf_BV, ql_BV⟩ := BV.four
      obtain ⟨q0_B0, q1_B0, qf_B0, ql_B0⟩ := B0.two
      obtain ⟨q0_B1, q1_B1, qf_B1, ql_B1⟩ := B1.two
      go_wp2_with fail
      clear q0_BV q1_BV q2_BV q3_BV qf_BV ql_BV
      clear q0_B0 q1_B0 qf_B0 ql_B0
      clear q0_B1 q1_B1 qf_B1 ql_B1
      refine (eqInt64S_same _ _ _ _ _ bs _ rfl hle X1.irow R4.irow).mono ?_
      rintro e w13 ⟨rfl, hb13⟩
      replace BV := BV.below hb13
      replace O0 := O0.below hb13
      replace B0 := B0.below hb13
      replace X1 := X1.below hb13
      replace X2 := X2.below hb13
      replace O1 := O1.below hb13
      replace B1 := B1.below hb13
      replace R4 := R4.below hb13
      have hz13 := hb13.size
      replace hb := chain hb hb13
      clear hb13
      clear R4 hg4
      obtain ⟨q0_BV, q1_BV, q2_BV, q3_BV, qf_BV, ql_BV⟩ := BV.four
      obtain ⟨q0_B0, q1_B0, qf_B0, ql_B0⟩ := B0.two
      obtain ⟨q0_B1, q1_B1, qf_B1, ql_B1⟩ := B1.two
      go_wp2_with fail
      clear q0_BV q1_BV q2_BV q3_BV qf_BV ql_BV
      clear q0_B0 q1_B0 qf_B0 ql_B0
      clear q0_B1 q1_B1 qf_B1 ql_B1
      refine (toInt64S_any a2 _ cap2 ds _ rfl hle2 (hr2.below hb)).mono ?_
      rintro e w14 ⟨g5, rfl, hg5, R5, hb14⟩
      replace BV := BV.below hb14
      replace O0 := O0.below hb14
      replace B0 := B0.below hb14
      replace X1 := X1.below hb14
      replace X2 := X2.below hb14
      replace O1 := O1.below hb14
      replace B1 := B1.below hb14
      have hz14 := hb14.size
      replace hb := chain hb hb14
      clear hb14
      obtain ⟨q0_BV, q1_BV, q2_BV, q3_BV, qf_BV, ql_BV⟩ := BV.four
      obtain ⟨q0_B0, q1_B0, qf_B0, ql_B0⟩ := B0.two
      obtain ⟨q0_B1, q1_B1, qf_B1, ql_B1⟩ := B1.two
      go_wp2_with fail
      clear q0_BV q1_BV q2_BV q3_BV qf_BV ql_BV
      clear q0_B0 q1_B0 qf_B0 ql_B0
      clear q0_B1 q1_B1 qf_B1 ql_B1
      refine (eqInt64S_same _ _ _ _ _ ds _ rfl hle2 X2.irow R5.irow).mono ?_
      rintro e w15 ⟨rfl, hb15⟩
      replace BV := BV.below hb15
      replace O0 := O0.below hb15
      replace B0 := B0.below hb15
      replace X1 := X1.below hb15
      replace X2 := X2.below hb15
      replace O1 := O1.below hb15
      replace B1 := B1.below hb15
      replace R5 := R5.below hb15
      have hz15 := hb15.size
      replace hb := chain hb hb15
      clear hb15
      clear R5 hg5
      obtain ⟨q0_BV, q1_BV, q2_BV, q3_BV, qf_BV, ql_BV⟩ := BV.four
      obtain ⟨q0_B0, q1_B0, qf_B0, ql_B0⟩ := B0.two
      obtain ⟨q0_B1, q1_B1, qf_B1, ql_B1⟩ := B1.two
      go_wp2_with fail
      clear q0_BV q1_BV q2_BV q3_BV qf_BV ql_BV
      clear q0_B0 q1_B0 qf_B0 ql_B0
      clear q0_B1 q1_B1 qf_B1 ql_B1
      refine (markS_own _ _ _ _ _ bs 1 _ rfl hle (by omega) (by omega) X1).mono ?_
      rintro e w16 ⟨rfl, X1, hs16⟩
      replace BV := BV.same hs16 (by omega)
      replace O0 := O0.same hs16 (by omega)
      replace B0 := B0.same hs16 (by omega)
      replace X2 := X2.same hs16 (by omega)
      replace O1 := O1.same hs16 (by omega)
      replace B1 := B1.same hs16 (by omega)
      have hz16 := hs16.size
      replace hb := below_same hb hs16 (by omega) (by omega)
      clear hs16
      obtain ⟨q0_BV, q1_BV, q2_BV, q3_BV, qf_BV, ql_BV⟩ := BV.four
      obtain ⟨q0_B0, q1_B0, qf_B0, ql_B0⟩ := B0.two
      obtain ⟨q0_B1, q1_B1, qf_B1, ql_B1⟩ := B1.two
      go_wp2_with fail
      clear q0_BV q1_BV q2_BV q3_BV qf_BV ql_BV
      clear q0_B0 q1_B0 qf_B0 ql_B0
      clear q0_B1 q1_B1 qf_B1 ql_B1
      refine (markS_own _ _ _ _ _ ds _ _ rfl hle2 (by omega) (by omega) X2).mono ?_
      rintro e w17 ⟨rfl, X2, hs17⟩
      replace BV := BV.same hs17 (by omega)
      replace O0 := O0.same hs17 (by omega)
      replace B0 := B0.same hs17 (by omega)
      replace X1 := X1.same hs17 (by omega)
      replace O1 := O1.same hs17 (by omega)
      replace B1 := B1.same hs17 (by omega)
      have hz17 := hs17.size
      replace hb := below_same hb hs17 (by omega) (by omega)
      clear hs17
      have hk0 : ¬ ((1 : Int) + (bs.length : Int) + (ds.length : Int) < 0) := by omega
      have hq0 : ¬ ((1 : Int) + (X.length : Int) + (Y.length : Int) < 0) := by omega
      obtain ⟨q0_BV, q1_BV, q2_BV, q3_BV, qf_BV, ql_BV⟩ := BV.four
      obtain ⟨q0_B0, q1_B0, qf_B0, ql_B0⟩ := B0.two
      obtain ⟨q0_B1, q1_B1, qf_B1, ql_B1⟩ := B1.two
      go_wp2_with fail
      clear q0_BV q1_BV q2_BV q3_BV qf_BV ql_BV
      clear q0_B0 q1_B0 qf_B0 ql_B0
      clear q0_B1 q1_B1 qf_B1 ql_B1
      refine (eqBoard_same _ _ _ _ _ _ _ _ _ _ X Y _ rfl rfl lX lY O1.irow1 O1.irow2 O0.irow1 O0.irow2).mono ?_
      rintro e w18 ⟨rfl, hb18⟩
      replace BV := BV.below hb18
      replace O0 := O0.below hb18
      replace B0 := B0.below hb18
      replace X1 := X1.below hb18
      replace X2 := X2.below hb18
      replace O1 := O1.below hb18
      replace B1 := B1.below hb18
      have hz18 := hb18.size
      replace hb := chain hb hb18
      clear hb18
      obtain ⟨q0_BV, q1_BV, q2_BV, q3_BV, qf_BV, ql_BV⟩ := BV.four
      obtain ⟨q0_B0, q1_B0, qf_B0, ql_B0⟩ := B0.two
      obtain ⟨q0_B1, q1_B1, qf_B1, ql_B1⟩ := B1.two
      go_wp2_with fail
      clear q0_BV q1_BV q2_BV q3_BV qf_BV ql_BV
      clear q0_B0 q1_B0 qf_B0 ql_B0
      clear q0_B1 q1_B1 qf_B1 ql_B1
      refine (markBoard_own _ _ _ _ _ _ _ _ X Y 1 _ rfl rfl lX lY (by omega) (by omega) O1).mono ?_
      rintro e w19 ⟨rfl, O1, hs19⟩
      replace BV := BV.same hs19 (by omega)
      replace O0 := O0.same hs19 (by omega)
      replace B0 := B0.same hs19 (by omega)
      replace X1 := X1.same hs19 (by omega)
      replace X2 := X2.same hs19 (by omega)
      replace B1 := B1.same hs19 (by omega)
      have hz19 := hs19.size
      replace hb := below_same hb hs19 (by omega) (by omega)
      clear hs19
      obtain ⟨q0_BV, q1_BV, q2_BV, q3_BV, qf_BV, ql_BV⟩ := BV.four
      obtain ⟨q0_B0, q1_B0, qf_B0, ql_B0⟩ := B0.two
      obtain ⟨q0_B1, q1_B1, qf_B1, ql_B1⟩ := B1.two
      go_wp2_with fail
      clear q0_BV q1_BV q2_BV q3_BV qf_BV ql_BV
      clear q0_B0 q1_B0 qf_B0 ql_B0
      clear q0_B1 q1_B1 qf_B1 ql_B1
      refine (heldBoard_any _ _ X.length Y.length _ _ 1 _ lX lY (by omega) (by omega) O1.irow1 O1.irow2).mono ?_
      rintro e w20 ⟨rfl, hb20⟩
      replace BV := BV.below hb20
      replace O0 := O0.below hb20
      replace B0 := B0.below hb20
      replace X1 := X1.below hb20
      replace X2 := X2.below hb20
      replace O1 := O1.below hb20
      replace B1 := B1.below hb20
      have hz20 := hb20.size
      replace hb := chain hb hb20
      clear hb20
      obtain ⟨q0_BV, q1_BV, q2_BV, q3_BV, qf_BV, ql_BV⟩ := BV.four
      obtain ⟨q0_B0, q1_B0, qf_B0, ql_B0⟩ := B0.two
      obtain ⟨q0_B1, q1_B1, qf_B1, ql_B1⟩ := B1.two
      go_wp2_with fail
      clear q0_BV q1_BV q2_BV q3_BV qf_BV ql_BV
      clear q0_B0 q1_B0 qf_B0 ql_B0
      clear q0_B1 q1_B1 qf_B1 ql_B1
      refine (toVariant_any _ _ _ _ _).mono ?_
      rintro e w21 ⟨rfl, hb21⟩
      replace BV := BV.below hb21
      replace O0 := O0.below hb21
      replace B0 := B0.below hb21
      replace X1 := X1.below hb21
      replace X2 := X2.below hb21
      replace O1 := O1.below hb21
      replace B1 := B1.below hb21
      have hz21 := hb21.size
      replace hb := chain hb hb21
      clear hb21
      obtain ⟨q0_BV, q1_BV, q2_BV, q3_BV, qf_BV, ql_BV⟩ := BV.four
      obtain ⟨q0_B0, q1_B0, qf_B0, ql_B0⟩ := B0.two
      obtain ⟨q0_B1, q1_B1, qf_B1, ql_B1⟩ := B1.two
      go_wp2_with fail
      clear q0_BV q1_BV q2_BV q3_BV qf_BV ql_BV
      clear q0_B0 q1_B0 qf_B0 ql_B0
      clear q0_B1 q1_B1 qf_B1 ql_B1
      refine (toInt64S_any a _ cap bs _ rfl hle (hr.below hb)).mono ?_
      rintro e w22 ⟨g6, rfl, hg6, R6, hb22⟩
      replace BV := BV.below hb22
      replace O0 := O0.below hb22
      replace B0 := B0.below hb22
      replace X1 := X1.below hb22
      replace X2 := X2.below hb22
      replace O1 := O1.below hb22
      replace B1 := B1.below hb22
      have hz22 := hb22.size
      replace hb := chain hb hb22
      clear hb22
      obtain ⟨q0_BV, q1_BV, q2_BV, q3_BV, qf_BV, ql_BV⟩ := BV.four
      obtain ⟨q0_B0, q1_B0, qf_B0, ql_B0⟩ := B0.two
      obtain ⟨q0_B1, q1_B1, qf_B1, ql_B1⟩ := B1.two
      go_wp2_with fail
      clear q0_BV q1_BV q2_BV q3_BV qf_BV ql_BV
      clear q0_B0 q1_B0 qf_B0 ql_B0
      clear q0_B1 q1_B1 qf_B1 ql_B1
      refine (toInt64S_any a2 _ cap2 ds _ rfl hle2 (hr2.below hb)).mono ?_
      rintro e w23 ⟨g7, rfl, hg7, R7, hb23⟩
      replace BV := BV.below hb23
      replace O0 := O0.below hb23
      replace B0 := B0.below hb23
      replace X1 := X1.below hb23
      replace X2 := X2.below hb23
      replace O1 := O1.below hb23
      replace B1 := B1.below hb23
      replace R6 := R6.below hb23
      have hz23 := hb23.size
      replace hb := chain hb hb23
      clear hb23
      obtain ⟨q0_BV, q1_BV, q2_BV, q3_BV, qf_BV, ql_BV⟩ := BV.four
      obtain ⟨q0_B0, q1_B0, qf_B0, ql_B0⟩ := B0.two
      obtain ⟨q0_B1, q1_B1, qf_B1, ql_B1⟩ := B1.two
      go_wp2_with fail
      clear q0_BV q1_BV q2_BV q3_BV qf_BV ql_BV
      clear q0_B0 q1_B0 qf_B0 ql_B0
      clear q0_B1 q1_B1 qf_B1 ql_B1
      refine (HIM.out _ _ _ _ _ R6.irow R7.irow).mono ?_
      rintro e w24 ⟨cO, cT, iO, iT, rfl, O2, hb24⟩
      replace BV := BV.below hb24
      replace O0 := O0.below hb24
      replace B0 := B0.below hb24
      replace X1 := X1.below hb24
      replace X2 := X2.below hb24
      replace O1 := O1.below hb24
      replace B1 := B1.below hb24
      replace R6 := R6.below hb24
      replace R7 := R7.below hb24
      have hz24 := hb24.size
      replace hb := chain hb hb24
      clear hb24
      clear R6 hg6 R7 hg7
      have B2 := Blk.new w24 #[.slice cO X.length iO, .slice cT Y.length iT] 26
      have hal25 : Below w24.heap.size w24 (w24.alloc (.cells #[.slice cO X.length iO, .slice cT Y.length iT] 26)) := (Below.refl _ _).alloc (Nat.le_refl _) _
      have hz25 : (w24.alloc (.cells #[.slice cO X.length iO, .slice cT Y.length iT] 26)).heap.size = w24.heap.size + 1 := by simp
      replace BV := BV.below hal25
      replace O0 := O0.below hal25
      replace B0 := B0.below hal25
      replace X1 := X1.below hal25
      replace X2 := X2.below hal25
      replace O1 := O1.below hal25
      replace B1 := B1.below hal25
      replace O2 := O2.below hal25
      replace hb := chain hb hal25
      clear hal25
      obtain ⟨q0_BV, q1_BV, q2_BV, q3_BV, qf_BV, ql_BV⟩ := BV.four
      obtain ⟨q0_B0, q1_B0, qf_B0, ql_B0⟩ := B0.two
      obtain ⟨q0_B1, q1_B1, qf_B1, ql_B1⟩ := B1.two
      obtain ⟨q0_B2, q1_B2, qf_B2, ql_B2⟩ := B2.two
      go_wp2_with fail
      clear q0_BV q1_BV q2_BV q3_BV qf_BV ql_BV
      clear q0_B0 q1_B0 qf_B0 ql_B0
      clear q0_B1 q1_B1 qf_B1 ql_B1
      clear q0_B2 q1_B2 qf_B2 ql_B2
      generalize (w24.alloc (.cells #[.slice cO X.length iO, .slice cT Y.length iT] 26)) = w25 at *
      obtain ⟨q0_BV, q1_BV, q2_BV, q3_BV, qf_BV, ql_BV⟩ := BV.four
      obtain ⟨q0_B0, q1_B0, qf_B0, ql_B0⟩ := B0.two
      obtain ⟨q0_B1, q1_B1, qf_B1, ql_B1⟩ := B1.two
      obtain ⟨q0_B2, q1_B2, qf_B2, ql_B2⟩ := B2.two
      go_wp2_with fail
      clear q0_BV q1_BV q2_BV q3_BV qf_BV ql_BV
      clear q0_B0 q1_B0 qf_B0 ql_B0
      clear q0_B1 q1_B1 qf_B1 ql_B1
      clear q0_B2 q1_B2 qf_B2 ql_B2
      refine (eqBoard_same _ _ _ _ _ _ _ _ _ _ X Y _ rfl rfl lX lY O2.irow1 O2.irow2 O0.irow1 O0.irow2).mono ?_
      rintro e w26 ⟨rfl, hb26⟩
      replace BV := BV.below hb26
      replace O0 := O0.below hb26
      replace B0 := B0.below hb26
      replace X1 := X1.below hb26
      replace X2 := X2.below hb26
      replace O1 := O1.below hb26
      replace B1 := B1.below hb26
      replace O2 := O2.below hb26
      replace B2 := B2.below hb26
      have hz26 := hb26.size
      replace hb := chain hb hb26
      clear hb26
      obtain ⟨q0_BV, q1_BV, q2_BV, q3_BV, qf_BV, ql_BV⟩ := BV.four
      obtain ⟨q0_B0, q1_B0, qf_B0, ql_B0⟩ := B0.two
      obtain ⟨q0_B1, q1_B1, qf_B1, ql_B1⟩ := B1.two
      obtain ⟨q0_B2, q1_B2, qf_B2, ql_B2⟩ := B2.two
      go_wp2_with fail
      clear q0_BV q1_BV q2_BV q3_BV qf_BV ql_BV
      clear q0_B0 q1_B0 qf_B0 ql_B0
      clear q0_B1 q1_B1 qf_B1 ql_B1
      clear q0_B2 q1_B2 qf_B2 ql_B2
      refine (heldBoard_any _ _ X.length Y.length _ _ 1 _ lX lY (by omega) (by omega) O1.irow1 O1.irow2).mono ?_
      rintro e w27 ⟨rfl, hb27⟩
      replace BV := BV.below hb27
      replace O0 := O0.below hb27
      replace B0 := B0.below hb27
      replace X1 := X1.below hb27
      replace X2 := X2.below hb27
      replace O1 := O1.below hb27
      replace B1 := B1.below hb27
      replace O2 := O2.below hb27
      replace B2 := B2.below hb27
      have hz27 := hb27.size
      replace hb := chain hb hb27
      clear hb27
      obtain ⟨q0_BV, q1_BV, q2_BV, q3_BV, qf_BV, ql_BV⟩ := BV.four
      obtain ⟨q0_B0, q1_B0, qf_B0, ql_B0⟩ := B0.two
      obtain ⟨q0_B1, q1_B1, qf_B1, ql_B1⟩ := B1.two
      obtain ⟨q0_B2, q1_B2, qf_B2, ql_B2⟩ := B2.two
      go_wp2_with fail
      go_ret
      exact ⟨rfl, hb⟩
    · have hle2' : ¬ (n2 : Int) ≤ 1048576 := by omega
      go_enter Try.func3, Try.ntmps3
      go_wp2_with fail
      go_ret
      exact ⟨rfl, hb⟩
  · have hle' : ¬ (n : Int) ≤ 1048576 := by omega
    go_enter Try.func3, Try.ntmps3
    go_wp2_with fail
    go_ret
    exact ⟨rfl, hb⟩
set_option maxRecDepth 100000 in
theorem fnExactRaceBoard_lifted (os : Os) (started : os.Started) (H : Type) (enc : TypeId × Value → H) :
    ReturnsInHanded {} Try.checked os 3 .any (Rows.fnExactRaceBoardSpec.pre6 enc Try.prog Try.f3 Rows.fnExactRaceBoardRow.domain false) (Rows.fnExactRaceBoardSpec.post enc Try.prog Try.f3 false true false false) := by
  refine returnsInHanded_of_change (C := Try.checked) own started (by kernel_rfl) Try.func3
    (ChangeSpec.witness6 (enc := enc) (C := Try.checked) false ⟨#[], #[.agg #[.int .i64 0, .int .i64 0, .int .i64 0, .int .i64 0], .slice none 0 0, .slice none 0 0], []⟩ 8 (by kernel_rfl) (by kernel_rfl) (by kernel_rfl) (by kernel_rfl)) ?_
  intro W base args ds gs before hval0 hW hcnd _
  have hval : ∀ (j : Nat) t v, Try.f3.params[j]? = some t → args[j]? = some v → Value.okWide Try.prog W .any base t v := hval0
  have hW' := hW
  obtain ⟨p, q, hA0, hV, rfl, hfz, hnd⟩ := hW
  have hA : DataW.TrodAll enc Try.prog W 0 (fun _ => true) true Try.f3.params.toList args.toList ds p := hA0
  rw [Try.params3] at hA hval
  obtain ⟨v0, vs0, d0, ds0, p0, q0, hargs, rfl, rfl, h0, r0⟩ := trodAll_cons hA
  obtain ⟨v1, vs1, d1, ds1, p1, q1, rfl, rfl, rfl, h1, r1⟩ := trodAll_cons r0
  obtain ⟨v2, vs2, d2, ds2, p2, q2, rfl, rfl, rfl, h2, r2⟩ := trodAll_cons r1
  obtain ⟨rfl, rfl, rfl⟩ := trodAll_nil r2
  obtain rfl : args = #[v0, v1, v2] := by cases args; simp_all
  obtain ⟨rfl, rfl⟩ := trodVars_none hV
  have k0 := h0
  have lt0 : ∀ x ∈ p0, x.block < W.heap.size := by obtain ⟨m, hm⟩ := k0; exact DataW.trod_lt m _ _ _ hm
  have k1 := h1
  have lt1 : ∀ x ∈ p1, x.block < W.heap.size := by obtain ⟨m, hm⟩ := k1; exact DataW.trod_lt m _ _ _ hm
  have k2 := h2
  have lt2 : ∀ x ∈ p2, x.block < W.heap.size := by obtain ⟨m, hm⟩ := k2; exact DataW.trod_lt m _ _ _ hm
  obtain ⟨x0_0, x1_0, x2_0, x3_0, y0_0, y1_0, y2_0, y3_0, m_0, rfl, _, _, hy0_0, hy1_0, hy2_0, hy3_0⟩ := Joins.open_agg4 Try.underlying23 (by kernel_rfl) (show Try.prog.cellsOf 23 = 4 by kernel_rfl) (hval 0 23 v0 rfl rfl) h0
  obtain ⟨a0_0, e0_0, _, wa0_0⟩ := DataW.trod_int Try.underlying2 hy0_0
  obtain ⟨a1_0, e1_0, _, wa1_0⟩ := DataW.trod_int Try.underlying2 hy1_0
  obtain ⟨a2_0, e2_0, _, wa2_0⟩ := DataW.trod_int Try.underlying2 hy2_0
  obtain ⟨a3_0, e3_0, _, wa3_0⟩ := DataW.trod_int Try.underlying2 hy3_0
  simp at e0_0 e1_0 e2_0 e3_0
  subst e0_0 e1_0 e2_0 e3_0
  obtain ⟨sa_1, sl_1, sc_1, rfl⟩ := okWide_slice Try.underlying24 (hval 1 24 v1 rfl rfl)
  obtain ⟨ra_1, rn_1, rc_1, rx_1, hv_1, rl_1, rm_1, rr_1, rw_1⟩ : ∃ (a : Option Addr) (n cap : Nat) (xs : List Int), Value.slice sa_1 sl_1 sc_1 = .slice a n cap ∧ xs.length = n ∧ n ≤ 9223372036854775807 ∧ IRow W a xs ∧ ∀ y ∈ xs, (Lit.int .i64 y).wf = true := by
    obtain ⟨fuel, hf⟩ := h1
    exact open_row hf
  simp only [Value.slice.injEq] at hv_1
  obtain ⟨rfl, rfl, rfl⟩ := hv_1
  obtain ⟨sa_2, sl_2, sc_2, rfl⟩ := okWide_slice Try.underlying24 (hval 2 24 v2 rfl rfl)
  obtain ⟨ra_2, rn_2, rc_2, rx_2, hv_2, rl_2, rm_2, rr_2, rw_2⟩ : ∃ (a : Option Addr) (n cap : Nat) (xs : List Int), Value.slice sa_2 sl_2 sc_2 = .slice a n cap ∧ xs.length = n ∧ n ≤ 9223372036854775807 ∧ IRow W a xs ∧ ∀ y ∈ xs, (Lit.int .i64 y).wf = true := by
    obtain ⟨fuel, hf⟩ := h2
    exact open_row hf
  simp only [Value.slice.injEq] at hv_2
  obtain ⟨rfl, rfl, rfl⟩ := hv_2
  clear hA0 hval0
  refine (fnExactRaceBoard_walk a0_0 a1_0 a2_0 a3_0 sa_1 sl_1 sc_1 rx_1 sa_2 sl_2 sc_2 rx_2 W rl_1 rm_1 rr_1 rl_2 rm_2 rr_2).mono fun e W' ⟨he, bel⟩ => ?_
  subst he
  exact ⟨_, rfl, _, _, _, [], _, [], hW', trodAll_mk1 (shut_bool Try.underlying4 _), (trodAll_cons_mk (Below.trod laidOut (by kernel_rfl) (of_decide_eq_true (by kernel_rfl)) k0 bel lt0) (trodAll_cons_mk (Below.trod laidOut (by kernel_rfl) (of_decide_eq_true (by kernel_rfl)) k1 bel lt1) (trodAll_cons_mk (Below.trod laidOut (by kernel_rfl) (of_decide_eq_true (by kernel_rfl)) k2 bel lt2) trodAll_mk0))), rfl, bel.frame _, fun h => by cases h⟩
theorem fnExactRaceBoard_holds : Rows.FnExactRaceBoardSaid :=
  OpenClaim.holds_of_wide 3 Try.f3 rfl rfl rfl rfl rfl rfl rfl ⟨rfl, rfl, rfl, rfl, rfl⟩ rfl rfl rfl rfl rfl (by kernel_rfl) Try.func3 (by kernel_rfl)
    (of_decide_eq_true (by kernel_rfl)) (by unfold Func.isWrapper; first | (rw [if_pos (by decide +kernel)]; kernel_rfl) | (rw [if_neg (by decide +kernel)]; exact ⟨rfl, rfl⟩))
    (fun os started H enc _ => fnExactRaceBoard_lifted os started H enc)
end Go.Proofs.Ytdciiocmddlhfaa
