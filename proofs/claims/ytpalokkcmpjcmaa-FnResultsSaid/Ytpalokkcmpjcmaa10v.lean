/- Contract of chapter 10: the positions after a die. -/
import Derived.Test.Ytpalokkcmpjcmaa10r
namespace Go.Proofs.Ytpalokkcmpjcmaa
open Go.ChangeShapes Go.WideShapes Go.ChangeAt Go.RowKit
set_option linter.unusedVariables false
set_option linter.unusedSimpArgs false
set_option maxRecDepth 4000

/-- A list of positions has been made, each in a block of its own. -/
def LstGot (L : List (List Int)) (w : World) (e : Ending) (w' : World) : Prop :=
  ∃ v l, e = .returned v ∧ OwnQ w' w.heap.size v l ∧ nmQ l = L ∧ QAll w.heap.size w'.heap.size w' l ∧ QDis l ∧ Below w.heap.size w w'
theorem nm_len {l : List PQ} {L : List (List Int)} (h : nmQ l = L) : l.length = L.length := by rw [← h, List.length_map]
theorem adK_len (p : List Int) (d : Int) : ∀ j, (adK p d j).length ≤ j
  | 0 => Nat.le_refl _
  | j + 1 => by
    have := adK_len p d j
    rw [adK, List.length_append]
    split <;> simp <;> omega
set_option maxHeartbeats 2000000 in
theorem afterDie_any (a : Option Addr) (n cap : Nat) (d : Int) (xs : List Int) (w : World) (hn : xs.length = n) (h1 : 1 ≤ n) (hle : n ≤ 24) (hd : 1 ≤ d ∧ d ≤ 6) (hx : ∀ x ∈ xs, 0 ≤ x ∧ x ≤ 15) (hr : IRow w a xs) :
    Calls Try.prog 61 #[.slice a n cap, .int .i64 d] w (LstGot (adL xs d) w) := by
  subst hn
  have hS := fun (i : Nat) (hi : i < xs.length) W (r : IRow W a xs) => afterStep_any a xs.length cap i d xs W rfl hle hi hd hx r
  obtain ⟨b, o, rfl, _⟩ := hr 0 (by omega)
  have hC := fun W (r : IRow W (some ⟨b, o, none⟩) xs) => clone_any b o xs.length cap xs W rfl h1 (by omega) r
  have HS := Lib.hid hS
  have HC := Lib.hid hC
  have HX := Lib.hid hx
  have d0 := hd.1
  have d1 := hd.2
  have n0 : (xs.length : Int) ≤ 24 := by omega
  clear hS hC hx hd
  go_enter Try.func61, Try.ntmps61
  go_wp2_with fail
  go_loopg [5, 6] (xs.length + 1) (fun m v i wr => ∃ (j : Nat) (l : List PQ), j ≤ xs.length ∧ m = xs.length + 1 - j ∧ i = .int .i64 ((xs.length : Int) - 1 - j) ∧ OwnQ wr w.heap.size v l ∧ nmQ l = adK xs d j ∧ QAll w.heap.size wr.heap.size wr l ∧ QDis l ∧ Below w.heap.size w wr)
  case atStart => exact ⟨0, [], by omega, by omega, by go_num, OwnE.nil _ _, rfl, QAll.nil _ _ _, QDis.nil, Below.refl _ _⟩
  case round =>
    obtain ⟨j, l, hj, hm, rfl, hO, hL, hA, hD, hb⟩ := hrel
    have hr2 := hr.below hb
    obtain ⟨aV, kV, rfl⟩ := hO.form
    have hll := nm_len hL
    have hlj := adK_len xs d j
    by_cases hlt : j < xs.length
    · obtain ⟨I, hI⟩ : ∃ I, xs.length - 1 - j = I := ⟨_, rfl⟩
      have ei : (xs.length : Int) - 1 - (j : Int) = (I : Int) := by omega
      have hIl : I < xs.length := by omega
      rw [ei]
      have hcl := hr2 I hIl
      obtain ⟨b2, o2, he2, hc⟩ := hcl
      cases he2
      have hstep : adK xs d (j + 1) = adK xs d j ++ (if 0 < xs.getD I 0 ∧ (d ≤ (I : Int) + 1 ∨ adK xs d j = []) then [asL xs I d] else []) := by rw [adK, hI]
      have i0 : (0 : Int) ≤ (I : Int) := by omega
      have i1 : (I : Int) < (xs.length : Int) := by omega
      have hx0 := HX.out _ (getD_mem (xs := xs) (k := I) hIl)
      obtain ⟨x, hxe⟩ : ∃ x, xs.getD I 0 = x := ⟨_, rfl⟩
      rw [hxe] at hc hstep hx0
      have wz : IntKind.i64.wrap ((I : Int) + 1) = (I : Int) + 1 := IntWalk.i64_in _ (by omega)
      have HSI := Lib.hid (HS.out I hIl)
      have hgo : ∀ (same : ¬ (0 < x ∧ (d ≤ (I : Int) + 1 ∨ adK xs d j = []))), adK xs d (j + 1) = adK xs d j := fun q => by rw [hstep, if_neg q, List.append_nil]
      have hgy : ∀ (q : 0 < x ∧ (d ≤ (I : Int) + 1 ∨ adK xs d j = [])), adK xs d (j + 1) = adK xs d j ++ [asL xs I d] := fun q => by rw [hstep, if_pos q]
      have hnil : (l.length : Int) = 0 ↔ adK xs d j = [] := by rw [← List.length_eq_zero_iff]; omega
      have HI := Lib.hid ei
      have HL := Lib.hid hL
      have hl24 : l.length ≤ 24 := by omega
      clear hstep hll hlj hI hIl hxe hL
      by_cases q : 0 < x
      · have hdx : decide (0 < x) = true := decide_eq_true q
        by_cases q2 : d ≤ (I : Int) + 1 ∨ adK xs d j = []
        · have HN := Lib.hid (hgy ⟨q, q2⟩)
          clear hgo hgy
          by_cases q3 : d ≤ (I : Int) + 1
          · clear q2 hnil
            go_wp2_with (first | (go_at_call 71; refine (hasCheckerF_any _ _).mono ?_; rintro e w5 ⟨rfl, rfl⟩) | (go_at_call 72; refine (HSI.out _ hr2).mono ?_; rintro e w6 ⟨u, rfl, hu, hQ, hb6⟩; replace hO := hO.below hb6; have hA6 := hA.below hb6; have hz6 := hb6.size; have hz0 := hb.size; have hQ6 := hQ; replace hb := chain hb hb6) | (at_builtin; go_loud (refine wp_pushQ rfl (.tmp 30) (.tmp 35) rfl w.heap.size _ l rfl hO u rfl (by first | rfl | simp) (by omega) (by omega) ?_; intro v7 w7 hO7 hb7 hk7)))
            go_roundg (xs.length + 1 - (j + 1))
            case measure => omega
            case rel =>
              have hz7 := hb7.size
              exact ⟨j + 1, l ++ [u], by omega, by omega, by (have := HI.out); go_num, hO7, by show List.map _ (l ++ [u]) = _; rw [List.map_append, HN.out]; show nmQ l ++ [u.2.2] = _; rw [HL.out, hu], ((hA6.keepT hk7 (by omega)).mono (Nat.le_refl _) (Nat.le_refl _)).snoc ((hQ6.keepT hk7 (by omega)).mono (by omega) (Nat.le_refl _)), hD.snoc hA6 hQ6 (by omega), hb.trans hb7⟩
          · have q4 : (l.length : Int) = 0 := hnil.2 (by rcases q2 with q2 | q2; exact absurd q2 q3; exact q2)
            clear q2 hnil
            go_wp2_with (first | (go_at_call 71; refine (hasCheckerF_any _ _).mono ?_; rintro e w5 ⟨rfl, rfl⟩) | (go_at_call 72; refine (HSI.out _ hr2).mono ?_; rintro e w6 ⟨u, rfl, hu, hQ, hb6⟩; replace hO := hO.below hb6; have hA6 := hA.below hb6; have hz6 := hb6.size; have hz0 := hb.size; have hQ6 := hQ; replace hb := chain hb hb6) | (at_builtin; go_loud (refine wp_pushQ rfl (.tmp 30) (.tmp 35) rfl w.heap.size _ l rfl hO u rfl (by first | rfl | simp) (by omega) (by omega) ?_; intro v7 w7 hO7 hb7 hk7)))
            go_roundg (xs.length + 1 - (j + 1))
            case measure => omega
            case rel =>
              have hz7 := hb7.size
              exact ⟨j + 1, l ++ [u], by omega, by omega, by (have := HI.out); go_num, hO7, by show List.map _ (l ++ [u]) = _; rw [List.map_append, HN.out]; show nmQ l ++ [u.2.2] = _; rw [HL.out, hu], ((hA6.keepT hk7 (by omega)).mono (Nat.le_refl _) (Nat.le_refl _)).snoc ((hQ6.keepT hk7 (by omega)).mono (by omega) (Nat.le_refl _)), hD.snoc hA6 hQ6 (by omega), hb.trans hb7⟩
        · have HN := Lib.hid (hgo (fun h => q2 h.2))
          have q3 : ¬ d ≤ (I : Int) + 1 := fun h => q2 (.inl h)
          have q4 : ¬ (l.length : Int) = 0 := fun h => q2 (.inr (hnil.1 h))
          have q5 : ((l.length : Int) == 0) = false := by rw [beq_eq_false_iff_ne]; exact q4
          have q6 : decide (d ≤ (I : Int) + 1) = false := decide_eq_false q3
          clear hgo hgy q2 hnil
          go_wp2_with (go_at_call 71; refine (hasCheckerF_any _ _).mono ?_; rintro e w5 ⟨rfl, rfl⟩)
          go_roundg (xs.length + 1 - (j + 1))
          case measure => omega
          case rel => exact ⟨j + 1, l, by omega, by omega, by (have := HI.out); go_num, hO, by rw [HN.out]; exact HL.out, hA, hD, hb⟩
      · have hdx : decide (0 < x) = false := decide_eq_false q
        have HN := Lib.hid (hgo (fun h => q h.1))
        clear hgo hgy hnil
        go_wp2_with (go_at_call 71; refine (hasCheckerF_any _ _).mono ?_; rintro e w5 ⟨rfl, rfl⟩)
        go_roundg (xs.length + 1 - (j + 1))
        case measure => omega
        case rel => exact ⟨j + 1, l, by omega, by omega, by (have := HI.out); go_num, hO, by rw [HN.out]; exact HL.out, hA, hD, hb⟩
    · obtain rfl : j = xs.length := by omega
      have hm1 : (xs.length : Int) - 1 - (xs.length : Int) = -1 := by omega
      rw [hm1]
      have ha : adL xs d = if l.length = 0 then [xs] else adK xs d xs.length := by
        unfold adL
        rw [hll]
        simp only [List.length_eq_zero_iff]
      by_cases q : l.length = 0
      · have q4 : (l.length : Int) = 0 := by omega
        have HQ := Lib.hid (ha.trans (if_pos q))
        have hr3 := hr2
        clear ha
        go_wp2_with (go_at_call 73; refine (HC.out _ hr3).mono ?_; rintro e w1 ⟨g1, k1, rfl, hg1, R1, hb1⟩)
        go_ret
        have hz1 := hb.size
        refine ⟨_, [(g1, k1, xs)], rfl, OwnE.mono (OwnE.one _ (g1, k1, xs) _ rfl rfl) (by have := hb1.size; omega), by rw [HQ.out]; rfl, fun y hy => ?_, List.pairwise_singleton _ _, (chain hb hb1).alloc (by have := hb1.size; omega) _⟩
        simp at hy
        subst hy
        exact ⟨by dsimp only; omega, by have := R1.lt; simp; omega, R1.alloc _⟩
      · have q4 : ¬ (l.length : Int) = 0 := by omega
        have HQ := Lib.hid (ha.trans (if_neg q))
        have q5 : ((l.length : Int) == 0) = false := by rw [beq_eq_false_iff_ne]; exact q4
        clear ha
        go_wp2_with fail
        go_ret
        exact ⟨_, l, rfl, hO, by rw [HQ.out]; exact hL, hA, hD, hb⟩
end Go.Proofs.Ytpalokkcmpjcmaa
