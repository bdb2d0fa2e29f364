/- Texts of a proof, laid together. -/
import Derived.Test.YtfomfbfcnenhbaaGreatV18
import Derived.Deep.LoopGhost
namespace Go.Proofs.YtfomfbfcnenhbaaGreat
open Go.ChangeShapes Go.WideShapes Go.ChangeAt Go.RowKit
set_option linter.unusedVariables false
set_option linter.unusedSimpArgs false
set_option maxRecDepth 4000
set_option maxRecDepth 8000 in
set_option maxHeartbeats 1000000 in
theorem l09Compare_any (p c h : Int) (S : Nat) (hS : 1 ≤ S ∧ S ≤ 6) (xn xd yn yd : Int) (hx : -1000000000000000000 ≤ xn ∧ xn ≤ 1000000000000000000) (hy : -1000000000000000000 ≤ yn ∧ yn ≤ 1000000000000000000) (hd : 0 ≤ xd ∧ xd < ((nn S : Nat) : Int)) (he : 0 ≤ yd ∧ yd < ((nn S : Nat) : Int)) (w : World) :
    Calls Tryz.prog 108 #[.agg #[.int .i64 p, .int .i64 c, .int .i64 h, .int .i64 (S : Int)], .agg #[.int .i64 xn, .int .i64 xd], .agg #[.int .i64 yn, .int .i64 yd]] w fun e w' => e = .returned (.int .i64 (cmV S xn xd yn yd)) ∧ Below w.heap.size w w' := by
  have hn := nn_range hS
  have hsx := fun W => l09Split_any p c h S hS xn xd hx hd W
  have hsy := fun W => l09Split_any p c h S hS yn yd hy he W
  rw [cmV_lex hS.1 hd.1 he.1]
  obtain ⟨LX, hLX⟩ : ∃ L, (xn / ((scN S xd.toNat : Nat) : Int) :: dgI S (xn % ((scN S xd.toNat : Nat) : Int)) xd.toNat) = L := ⟨_, rfl⟩
  obtain ⟨LY, hLY⟩ : ∃ L, (yn / ((scN S yd.toNat : Nat) : Int) :: dgI S (yn % ((scN S yd.toNat : Nat) : Int)) yd.toNat) = L := ⟨_, rfl⟩
  have lx : LX.length ≤ 62 := by rw [← hLX, List.length_cons, dgI_length]; omega
  have ly : LY.length ≤ 62 := by rw [← hLY, List.length_cons, dgI_length]; omega
  rw [hLX] at hsx
  rw [hLY] at hsy
  rw [hLX, hLY]
  obtain ⟨RES, hRES⟩ : ∃ r, lexP LX LY = r := ⟨_, rfl⟩
  rw [hRES]
  have HSX := Lib.hid hsx
  have HSY := Lib.hid hsy
  obtain ⟨BV, BX, BY, hb, hz⟩ := three_new w #[.int .i64 p, .int .i64 c, .int .i64 h, .int .i64 (S : Int)] #[.int .i64 xn, .int .i64 xd] #[.int .i64 yn, .int .i64 yd] 25 30 30
  clear hsx hsy hLX hLY hx hy hd he hn
  obtain ⟨x0, x1, x2, x3, xf, xl⟩ := BV.four
  obtain ⟨a0, a1, af, al⟩ := BX.two
  obtain ⟨b0, b1, bf, bl⟩ := BY.two
  go_enter Tryz.func108, Tryz.ntmps108
  go_wp2_with (go_at_call 136; first | (refine (HSX.out _).mono ?_; clear HSX; rintro e w1 ⟨aX, kX, rfl, oX, hb1⟩; replace BV := BV.below hb1; replace BX := BX.below hb1; replace BY := BY.below hb1; replace hb := chain hb hb1; obtain ⟨x0, x1, x2, x3, xf, xl⟩ := BV.four; obtain ⟨a0, a1, af, al⟩ := BX.two; obtain ⟨b0, b1, bf, bl⟩ := BY.two; clear hb1) | (refine (HSY.out _).mono ?_; clear HSY; rintro e w2 ⟨aY, kY, rfl, oY, hb2⟩; replace oX := oX.below hb2; replace BV := BV.below hb2; replace BX := BX.below hb2; replace BY := BY.below hb2; replace hb := chain hb hb2; obtain ⟨x0, x1, x2, x3, xf, xl⟩ := BV.four; obtain ⟨a0, a1, af, al⟩ := BX.two; obtain ⟨b0, b1, bf, bl⟩ := BY.two; clear hb2))
  clear x0 x1 x2 x3 xf xl a0 a1 af al b0 b1 bf bl
  have iX := oX.irow
  have iY := oY.irow
  have hbw := hb
  clear oX oY BV BX BY hb hz
  go_loopg [9] (max LX.length LY.length) (fun n q9 wr => ∃ k : Nat, k ≤ max LX.length LY.length ∧ n = max LX.length LY.length - k ∧ q9 = .int .i64 (k : Int) ∧ lexP (LX.drop k) (LY.drop k) = RES ∧ wr = w2)
  case atStart => exact ⟨0, by omega, by omega, rfl, by rw [List.drop_zero, List.drop_zero]; exact hRES, rfl⟩
  case round =>
    obtain ⟨k, hk, hm, rfl, hR, rfl⟩ := hrel
    clear hRES
    have hk0 : (0 : Int) ≤ (k : Int) := by omega
    have hk62 : (k : Int) ≤ 62 := by omega
    by_cases h1 : k < LX.length
    · by_cases h2 : k < LY.length
      · skip
        obtain ⟨g1, o1, rfl, hc1⟩ := iX k h1
        obtain ⟨u, hu⟩ : ∃ u, LX.getD k 0 = u := ⟨_, rfl⟩
        rw [hu] at hc1
        have hdx : LX.drop k = u :: LX.drop (k + 1) := by
          rw [List.drop_eq_getElem_cons h1]
          congr 1
          rw [List.getD_eq_getElem?_getD, List.getElem?_eq_getElem h1] at hu
          simpa using hu
        have h1I : (k : Int) < (LX.length : Int) := by omega
        obtain ⟨g2, o2, rfl, hc2⟩ := iY k h2
        obtain ⟨v, hv⟩ : ∃ v, LY.getD k 0 = v := ⟨_, rfl⟩
        rw [hv] at hc2
        have hdy : LY.drop k = v :: LY.drop (k + 1) := by
          rw [List.drop_eq_getElem_cons h2]
          congr 1
          rw [List.getD_eq_getElem?_getD, List.getElem?_eq_getElem h2] at hv
          simpa using hv
        have h2I : (k : Int) < (LY.length : Int) := by omega
        rw [hdx, hdy, lexP] at hR
        have HN : Hid (sg3 u v = 0 → lexP (LX.drop (k + 1)) (LY.drop (k + 1)) = RES) := Lib.hid (by
          intro q
          rw [if_neg (by rw [q]; decide)] at hR
          exact hR)
        unfold sg3 at hR
        by_cases c1 : u < v
        · rw [if_pos c1, if_pos (by decide)] at hR
          subst hR
          clear hdx hdy hu hv
          go_wp2
          go_ret
          exact ⟨rfl, hbw⟩
        · by_cases c2 : v < u
          · rw [if_neg c1, if_pos c2, if_pos (by decide)] at hR
            subst hR
            clear hdx hdy hu hv
            go_wp2
            go_ret
            exact ⟨rfl, hbw⟩
          · have HZ := Lib.hid (HN.out (by unfold sg3; rw [if_neg c1, if_neg c2]))
            clear hR HN
            clear hdx hdy hu hv
            go_wp2
            go_roundg (max LX.length LY.length - (k + 1))
            case measure => omega
            case rel => exact ⟨k + 1, by omega, rfl, by go_num, HZ.out, rfl⟩
      · skip
        obtain ⟨g1, o1, rfl, hc1⟩ := iX k h1
        obtain ⟨u, hu⟩ : ∃ u, LX.getD k 0 = u := ⟨_, rfl⟩
        rw [hu] at hc1
        have hdx : LX.drop k = u :: LX.drop (k + 1) := by
          rw [List.drop_eq_getElem_cons h1]
          congr 1
          rw [List.getD_eq_getElem?_getD, List.getElem?_eq_getElem h1] at hu
          simpa using hu
        have h1I : (k : Int) < (LX.length : Int) := by omega
        have hdy : LY.drop k = [] := List.drop_eq_nil_of_le (by omega)
        have hdy2 : LY.drop (k + 1) = [] := List.drop_eq_nil_of_le (by omega)
        have h2I : ¬ (k : Int) < (LY.length : Int) := by omega
        rw [hdx, hdy, lexP] at hR
        have HN : Hid (sg3 u 0 = 0 → lexP (LX.drop (k + 1)) (LY.drop (k + 1)) = RES) := Lib.hid (by
          intro q
          rw [if_neg (by rw [q]; decide)] at hR
          rw [hdy2]
          exact hR)
        unfold sg3 at hR
        by_cases c1 : u < 0
        · rw [if_pos c1, if_pos (by decide)] at hR
          subst hR
          clear hdx hdy hdy2 hu
          go_wp2
          go_ret
          exact ⟨rfl, hbw⟩
        · by_cases c2 : 0 < u
          · rw [if_neg c1, if_pos c2, if_pos (by decide)] at hR
            subst hR
            clear hdx hdy hdy2 hu
            go_wp2
            go_ret
            exact ⟨rfl, hbw⟩
          · have HZ := Lib.hid (HN.out (by unfold sg3; rw [if_neg c1, if_neg c2]))
            clear hR HN
            clear hdx hdy hdy2 hu
            go_wp2
            go_roundg (max LX.length LY.length - (k + 1))
            case measure => omega
            case rel => exact ⟨k + 1, by omega, rfl, by go_num, HZ.out, rfl⟩
    · by_cases h2 : k < LY.length
      · skip
        have hdx : LX.drop k = [] := List.drop_eq_nil_of_le (by omega)
        have hdx2 : LX.drop (k + 1) = [] := List.drop_eq_nil_of_le (by omega)
        have h1I : ¬ (k : Int) < (LX.length : Int) := by omega
        obtain ⟨g2, o2, rfl, hc2⟩ := iY k h2
        obtain ⟨v, hv⟩ : ∃ v, LY.getD k 0 = v := ⟨_, rfl⟩
        rw [hv] at hc2
        have hdy : LY.drop k = v :: LY.drop (k + 1) := by
          rw [List.drop_eq_getElem_cons h2]
          congr 1
          rw [List.getD_eq_getElem?_getD, List.getElem?_eq_getElem h2] at hv
          simpa using hv
        have h2I : (k : Int) < (LY.length : Int) := by omega
        rw [hdx, hdy, lexP] at hR
        have HN : Hid (sg3 0 v = 0 → lexP (LX.drop (k + 1)) (LY.drop (k + 1)) = RES) := Lib.hid (by
          intro q
          rw [if_neg (by rw [q]; decide)] at hR
          rw [hdx2]
          exact hR)
        unfold sg3 at hR
        by_cases c1 : 0 < v
        · rw [if_pos c1, if_pos (by decide)] at hR
          subst hR
          clear hdx hdy hdx2 hv
          go_wp2
          go_ret
          exact ⟨rfl, hbw⟩
        · by_cases c2 : v < 0
          · rw [if_neg c1, if_pos c2, if_pos (by decide)] at hR
            subst hR
            clear hdx hdy hdx2 hv
            go_wp2
            go_ret
            exact ⟨rfl, hbw⟩
          · have HZ := Lib.hid (HN.out (by unfold sg3; rw [if_neg c1, if_neg c2]))
            clear hR HN
            clear hdx hdy hdx2 hv
            go_wp2
            go_roundg (max LX.length LY.length - (k + 1))
            case measure => omega
            case rel => exact ⟨k + 1, by omega, rfl, by go_num, HZ.out, rfl⟩
      · skip
        have hdx : LX.drop k = [] := List.drop_eq_nil_of_le (by omega)
        have hdx2 : LX.drop (k + 1) = [] := List.drop_eq_nil_of_le (by omega)
        have h1I : ¬ (k : Int) < (LX.length : Int) := by omega
        have hdy : LY.drop k = [] := List.drop_eq_nil_of_le (by omega)
        have hdy2 : LY.drop (k + 1) = [] := List.drop_eq_nil_of_le (by omega)
        have h2I : ¬ (k : Int) < (LY.length : Int) := by omega
        rw [hdx, hdy, lexP] at hR
        subst hR
        clear hdx hdy hdx2 hdy2
        go_wp2
        go_ret
        exact ⟨rfl, hbw⟩
end Go.Proofs.YtfomfbfcnenhbaaGreat
