/- Contract of chapter 10: the model's reading of a position. -/
import Derived.Test.YtjbcbcoaoplllaaDoor10o
import Derived.Test.YtjbcbcoaoplllaaDoor10m
import Derived.Test.YtjbcbcoaoplllaaDoor10n
namespace Go.Proofs.YtjbcbcoaoplllaaDoor
open Go.ChangeShapes Go.WideShapes Go.ChangeAt Go.RowKit
set_option linter.unusedVariables false
set_option linter.unusedSimpArgs false

theorem owns_words {w : World} {base : Nat} {v : Value} {W : List (List UInt8)} (h : w.ownsRow base 9 1 v W.length (strVals W)) (h0 : 0 < W.length) : ∃ g k, v = .slice (some ⟨g, 0, none⟩) W.length k ∧ base ≤ g ∧ VRow w g (strVals W) 9 := by
  have hl2 : (strVals W).length = W.length := by simp [strVals]
  obtain ⟨hl, ⟨_, h1⟩ | ⟨g, cap, cur, hv, hb, hh, hc, hm, hs, ht⟩⟩ := h
  · omega
  · refine ⟨g, cap, hv, hb, cur, hh, by omega, ?_⟩
    rw [hl2]
    rw [Nat.mul_one] at ht
    exact ht
theorem join_ne {l : List (List UInt8)} (h : l ≠ []) (hl : ∀ t ∈ l, t ≠ []) : Lib.join l [44] ≠ [] := by
  cases l with
  | nil => exact absurd rfl h
  | cons x r =>
    rw [Lib.join_cons]
    intro e
    exact hl x (by simp) (List.append_eq_nil_iff.1 e).1
theorem btL_facts {p c h s : Int} {L : List Int} (g : okP p c h s L = true) : btL L ≠ [] ∧ (btL L).length ≤ 72 := by
  have hok := okP_parts g
  constructor
  · refine join_ne ?_ ?_
    · intro e
      have := elT_length L
      rw [e] at this
      simp at this
      omega
    · intro t ht e
      obtain ⟨x, hx, rfl⟩ := List.mem_map.1 ht
      have h15 := hok.2.2.1 x hx
      rw [Lib.itoa, if_neg (by omega)] at e
      exact dec_ne _ e
  · have := btL_short L hok.2.2.1 L.length (by omega)
    rwa [List.take_of_length_le (by rw [elT_length]; omega)] at this
set_option maxRecDepth 8000 in
set_option maxHeartbeats 2000000 in
theorem specReadBearoff_any (p c h s : Int) (t : ByteArray) (w : World) (ht : t.size ≤ 1048576) :
    Calls Tryd.prog 14 #[.agg #[.int .i64 p, .int .i64 c, .int .i64 h, .int .i64 s], .string t] w (SliceGotB (rbL p c h s t.data.toList) (rbB p c h s t.data.toList) w) := by
  have BV := Blk.new w #[.int .i64 p, .int .i64 c, .int .i64 h, .int .i64 s] 26
  have hb : Below w.heap.size w (w.alloc (.cells #[.int .i64 p, .int .i64 c, .int .i64 h, .int .i64 s] 26)) := (Below.refl _ _).alloc (Nat.le_refl _) _
  obtain ⟨s1, s2⟩ := accB_same p c h s t.data.toList
  have hA1 : accB p c h s t.data.toList ((splitL 44 t.data.toList).map rdV) = true → rbL p c h s t.data.toList = (splitL 44 t.data.toList).map rdV ∧ rbB p c h s t.data.toList = true := fun q => by
    rw [s1] at q
    exact ⟨by rw [rbL, if_pos q, s2 q], q⟩
  have hA0 : accB p c h s t.data.toList ((splitL 44 t.data.toList).map rdV) = false → rbL p c h s t.data.toList = [] ∧ rbB p c h s t.data.toList = false := fun q => by
    rw [s1] at q
    exact ⟨by rw [rbL, if_neg (by rw [q]; simp)], q⟩
  obtain ⟨RX, hRX⟩ : ∃ X, rbL p c h s t.data.toList = X := ⟨_, rfl⟩
  obtain ⟨RY, hRY⟩ : ∃ X, rbB p c h s t.data.toList = X := ⟨_, rfl⟩
  rw [hRX, hRY] at hA1 hA0 ⊢
  have htl : t.data.toList.length = t.size := rfl
  obtain ⟨x0, x1, x2, x3, xf, xl⟩ := BV.four
  by_cases hbig : 100 < t.size
  · have e1 : (100 : Int) < (t.size : Int) := by omega
    have hno : accB p c h s t.data.toList ((splitL 44 t.data.toList).map rdV) = false := by
      cases q : accB p c h s t.data.toList ((splitL 44 t.data.toList).map rdV) with
      | false => rfl
      | true =>
        simp only [accB, Bool.and_eq_true, decide_eq_true_eq] at q
        have := (btL_facts q.1).2
        rw [q.2] at this
        omega
    obtain ⟨f1, f2⟩ := hA0 hno
    subst f1 f2
    clear hA1 hA0 hno s1 s2 hRX hRY
    go_enter Tryd.func14, Tryd.ntmps14
    go_wp2_with fail
    go_ret2
    exact ⟨none, 0, rfl, .inl ⟨rfl, rfl⟩, hb⟩
  · have e1 : ¬ (100 : Int) < (t.size : Int) := by omega
    have hle := split_length 44 t.data.toList
    have hne : 0 < (splitL 44 t.data.toList).length := List.length_pos_iff.2 (splitL_ne _ _)
    have hws := words_le 44 t.data.toList
    have hsp := fun W => split_any t 44 W ht
    rw [show (44 : UInt8).toNat = 44 from rfl] at hsp
    unfold GotWords at hsp
    obtain ⟨P, hP⟩ : ∃ P, splitL 44 t.data.toList = P := ⟨_, rfl⟩
    rw [hP] at hA1 hA0 hle hne hws hsp
    have hn101 : P.length ≤ 101 := by omega
    have hnI : (P.length : Int) ≤ 101 := by omega
    have HSP := Lib.hid hsp
    have HNE := Lib.hid hne
    have HWS := Lib.hid hws
    have HA1 := Lib.hid hA1
    have HA0 := Lib.hid hA0
    have hbl := BV.lt
    clear hA1 hA0 hle hne hws hsp hP s1 s2 hRX hRY
    go_enter Tryd.func14, Tryd.ntmps14
    go_wp2_with (first | (go_at_call 37; refine (HSP.out _).mono ?_; rintro e w1 ⟨v1, rfl, hown, hb1⟩; obtain ⟨g1, k1, rfl, hg1, RP⟩ := owns_words hown HNE.out; clear x0 x1 x2 x3 xf xl hown; replace BV := BV.below hb1; replace hb := chain hb hb1; clear hb1; obtain ⟨x0, x1, x2, x3, xf, xl⟩ := BV.four))
    clear x0 x1 x2 x3 xf xl
    have hal : Below w1.heap.size w1 (w1.alloc (.cells #[] 2)) := (Below.refl _ _).alloc (Nat.le_refl _) _
    have hO0 := Own.start w1
    have hg1l := RP.lt
    have hsw := hb.size
    have hlv := BV.lt
    replace BV := BV.below hal
    replace RP := RP.below hal
    replace hb := chain hb hal
    clear hal
    obtain ⟨B1, hB1⟩ : ∃ B1, w1.heap.size = B1 := ⟨_, rfl⟩
    rw [hB1] at hO0 hg1l hsw hlv ⊢
    have hB0 : B1 ≤ (w1.alloc (.cells #[] 2)).heap.size := by rw [← hB1]; simp
    generalize (w1.alloc (.cells #[] 2)) = v0 at *
    go_loopg [7, 8] P.length (fun m q i wr => ∃ (W : World) (k : Nat), W = wr ∧ k ≤ P.length ∧ m = P.length - k ∧ i = .int .i64 k ∧ Own W B1 q ((P.take k).map rdV) ∧ VRow W g1 (strVals P) 9 ∧ Blk W w.heap.size #[.int .i64 p, .int .i64 c, .int .i64 h, .int .i64 s] 26 ∧ Below w.heap.size w W ∧ B1 ≤ W.heap.size)
    case atStart => exact ⟨_, 0, rfl, by omega, by omega, rfl, hO0, RP, BV, hb, hB0⟩
    case round =>
      clear hO0 RP BV hb hB0
      obtain ⟨W, k, hW, hk, hm, rfl, hO, RP, BV, hb, hB0⟩ := hrel
      subst hW
      have HM := Lib.hid hm
      by_cases hlt : k < P.length
      · have hlt' : (k : Int) < (P.length : Int) := by omega
        have hk0 : (0 : Int) ≤ (k : Int) := by omega
        obtain ⟨x, hx⟩ : ∃ x, P[k]? = some x := ⟨_, List.getElem?_eq_getElem hlt⟩
        have hxc := VRow.cell RP k (.string ⟨x.toArray⟩) (by unfold strVals; rw [List.getElem?_map, hx]; rfl)
        have hxl : (⟨x.toArray⟩ : ByteArray).size ≤ 1048576 := by
          have := HWS.out x (List.mem_of_getElem? hx)
          show x.length ≤ _
          omega
        have hrd := fun W => l09Read_any ⟨x.toArray⟩ W hxl
        have htk : (P.take (k + 1)).map rdV = (P.take k).map rdV ++ [rdV x] := by
          have : P[k] = x := (List.getElem?_eq_some_iff.1 hx).2
          rw [List.take_succ_eq_append_getElem hlt, List.map_append, this]
          rfl
        obtain ⟨X, hX⟩ : ∃ X : ByteArray, ⟨x.toArray⟩ = X := ⟨_, rfl⟩
        obtain ⟨v, hv⟩ : ∃ v, rdV x = v := ⟨_, rfl⟩
        have hXx : X.data.toList = x := by rw [← hX]
        rw [hX] at hxc hrd
        rw [hXx, hv] at hrd
        rw [hv] at htk
        have hln : ((P.take k).map rdV).length ≤ 1048576 := by simp; omega
        obtain ⟨D, hD⟩ : ∃ D, (P.take k).map rdV = D := ⟨_, rfl⟩
        rw [hD] at hO htk hln
        have HRD := Lib.hid hrd
        have HTK := Lib.hid htk
        have HLN := Lib.hid hln
        clear hrd htk hv hX hXx hxl hln hD hm hx
        go_wp2_with (first | (go_at_call 38; refine (HRD.out _).mono ?_; rintro e wq ⟨rfl, rfl⟩) | (at_builtin; refine wp_push rfl _ _ rfl B1 _ D rfl hO v rfl HLN.out hB0 ?_; intro v2 w4 hO2 hb4))
        go_roundg (P.length - (k + 1))
        case measure => have := HM.out; omega
        case rel =>
          exact ⟨_, k + 1, rfl, by omega, rfl, by go_num, by rw [HTK.out]; exact hO2, by
            obtain ⟨cur, hB, q1, q2⟩ := RP
            exact ⟨cur, hB.low hb4 hg1l, q1, q2⟩, BV.low hb4 hlv, hb.trans (hb4.mono hsw), Nat.le_trans hB0 hb4.size⟩
      · obtain rfl : k = P.length := by omega
        rw [List.take_of_length_le (Nat.le_refl _)] at hO
        have hL2 : (P.map rdV).length ≤ 1048576 := by simp; omega
        obtain ⟨L2, hL⟩ : ∃ L, P.map rdV = L := ⟨_, rfl⟩
        rw [hL] at hO HA1 HA0 hL2
        have hlt' : ¬ (P.length : Int) < (P.length : Int) := by omega
        obtain ⟨aQ, kQ, rfl⟩ := hO.form
        have hbt := fun W (r : IRow W aQ L2) => specBearoffText_any p c h s aQ L2.length kQ L2 W rfl hL2 r
        have hOs := hO.osl
        have hOi := hOs.irow
        obtain ⟨x0, x1, x2, x3, xf, xl⟩ := BV.four
        by_cases h0 : t.size = 0
        · have htn : t.data.toList = [] := List.eq_nil_of_length_eq_zero (by omega)
          have hacc : accB p c h s t.data.toList L2 = false := by
            cases q : accB p c h s t.data.toList L2 with
            | false => rfl
            | true =>
              simp only [accB, Bool.and_eq_true, decide_eq_true_eq] at q
              rw [htn] at q
              exact absurd q.2 (btL_facts q.1).1
          obtain ⟨f1, f2⟩ := HA0.out hacc
          subst f1 f2
          have ht0 : (t.toList == []) = true := by rw [beq_iff_eq, ByteArray.toList_eq]; exact htn
          have ht1 : t = ⟨#[]⟩ := by
            apply ByteArray.ext
            apply Array.toList_inj.1
            exact htn
          clear HA1 HA0 hacc hbt hL hm HM hlt
          go_wp2_with fail
          go_ret2
          exact ⟨none, 0, rfl, .inl ⟨rfl, rfl⟩, hb⟩
        · have htn : t.data.toList ≠ [] := fun e => h0 (by rw [← htl, e]; rfl)
          have ht0 : (t.toList == []) = false := by rw [beq_eq_false_iff_ne, ByteArray.toList_eq]; exact htn
          obtain ⟨X, hX⟩ : ∃ X : ByteArray, ⟨(btT p c h s L2).toArray⟩ = X := ⟨_, rfl⟩
          rw [hX] at hbt
          have hXl : X.data.toList = btT p c h s L2 := by rw [← hX]
          have HBT := Lib.hid hbt
          by_cases hacc : accB p c h s t.data.toList L2 = true
          · obtain ⟨f1, f2⟩ := HA1.out hacc
            subst f1 f2
            have hXt : X = t := by
              apply ByteArray.ext
              apply Array.toList_inj.1
              simp only [accB, Bool.and_eq_true, decide_eq_true_eq] at hacc
              rw [hXl, btT, if_pos hacc.1, hacc.2]
            subst hXt
            clear HA1 HA0 hacc hbt hL hm HM hlt hX hXl htn htl
            go_wp2_with (first | (go_at_call 9; refine (HBT.out _ hOi).mono ?_; rintro e wq ⟨rfl, hbq⟩; clear x0 x1 x2 x3 xf xl; replace BV := BV.below hbq; replace hOs := hOs.below hbq; replace hb := chain hb hbq; have hsq := hbq.size; clear hbq; obtain ⟨x0, x1, x2, x3, xf, xl⟩ := BV.four))
            go_ret2
            exact ⟨aQ, kQ, rfl, hOs.mono (by omega) (by omega), hb⟩
          · replace hacc : accB p c h s t.data.toList L2 = false := by simpa using hacc
            obtain ⟨f1, f2⟩ := HA0.out hacc
            subst f1 f2
            have hne0 : X.data.toList ≠ t.data.toList := by
              intro e
              rw [hXl, btT] at e
              split at e
              · rename_i g
                rw [accB, g, e] at hacc
                simp at hacc
              · exact htn e.symm
            have hne : (X.toList == t.toList) = false := by
              rw [beq_eq_false_iff_ne, ByteArray.toList_eq, ByteArray.toList_eq]
              exact hne0
            have hne3 : ¬ X = t := by
              rintro rfl
              exact hne0 rfl
            clear HA1 HA0 hacc hbt hL hm HM hlt hX hXl htn htl hne0
            go_wp2_with (first | (go_at_call 9; refine (HBT.out _ hOi).mono ?_; rintro e wq ⟨rfl, hbq⟩; clear x0 x1 x2 x3 xf xl; replace BV := BV.below hbq; replace hOs := hOs.below hbq; replace hb := chain hb hbq; have hsq := hbq.size; clear hbq; obtain ⟨x0, x1, x2, x3, xf, xl⟩ := BV.four))
            go_ret2
            exact ⟨none, 0, rfl, .inl ⟨rfl, rfl⟩, hb⟩
end Go.Proofs.YtjbcbcoaoplllaaDoor
