/- Texts of a proof, laid together. -/
import Derived.Test.YtnlclmlnpkncoaaGreatW32
import Derived.Test.YtnlclmlnpkncoaaGreatW13
namespace Go.Proofs.YtnlclmlnpkncoaaGreat
open Go.ChangeShapes Go.WideShapes Go.ChangeAt Go.RowKit
set_option linter.unusedVariables false
set_option linter.unusedSimpArgs false
set_option maxRecDepth 4000
theorem wp_cloneI {ops : Array Oper} {rest : List Oper} {o : Oper} {a : Act} {Q : Exit → Act → World → Prop} (hgd : o.guard = none) (s x : Operand)
    (ho : o.op = .call { callee := .builtin .append, args := #[s, x], argTypes := #[26, 26] })
    {w0 : World} {zz : Nat} (hs : a.eval s = .slice (some ⟨zz, 0, none⟩) 0 0) (hzz : w0.heap.size = zz) (ad : Option Addr) (xs : List Int) (m c : Nat) (hx : a.eval x = .slice ad m c) (hm : xs.length = m) (hr : IRow w0 ad xs) (hpos : 0 < m) (hl : m ≤ 1048576)
    (h : ∀ g k w', w0.heap.size ≤ g → m ≤ k → Row w' g xs → Below w0.heap.size w0 w' → wpList Tryz.prog ops Q rest (a.put o.dst (.slice (some ⟨g, 0, none⟩) m k)) w') : wpList Tryz.prog ops Q (o :: rest) a (w0.alloc (.cells #[] 2)) := by
  subst hzz
  subst hm
  obtain ⟨b, o', rfl, _⟩ := hr 0 hpos
  obtain ⟨i0, hi, hz0, hz1, hz2⟩ := info_parts infoI64
  have hown0 : (w0.alloc (.cells #[] 2)).ownsRow w0.heap.size 2 1 (.slice (some ⟨w0.heap.size, 0, none⟩) 0 0) 0 [] := ⟨rfl, .inr ⟨w0.heap.size, 0, #[], rfl, Nat.le_refl _, Blk.new w0 #[] _, Nat.le_refl _, by unfold maxLen; omega, rfl, rfl⟩⟩
  refine wpList_append_own _ hgd s x 26 ho w0.heap.size 2 i0 _ 1 8 Tryz.underlying26 hi hz0 hz1 hz2 rfl (by decide) _ 0 [] hs hown0 ⟨b, o', none⟩ xs.length c (ints xs) hx (by simp [ints]) ?_ ints_one (by unfold maxLen; omega) (by omega) (by simp) ?_
  · intro j u hj
    obtain ⟨hlt, rfl⟩ := List.getElem?_eq_some_iff.1 hj
    have hlt2 : j < xs.length := by simpa [ints] using hlt
    obtain ⟨b2, o2, e, hc⟩ := (hr.alloc (.cells #[] 2)) j hlt2
    simp at e
    obtain ⟨rfl, rfl⟩ := e
    rw [show (⟨b, o', none⟩ : Addr).add j = ⟨b, o' + j, none⟩ from by unfold Addr.add; split <;> simp_all, hc]
    simp [ints, hlt2]
  · intro v' w' hown hgrow _
    have hb : Below w0.heap.size w0 w' := ((Below.refl w0.heap.size w0).alloc (Nat.le_refl _) _).grown hgrow (by simp) (fun k hk => (hown0.lt k hk).1)
    obtain ⟨hl2, ⟨h1, h2⟩ | ⟨g, cap, cur, rfl, hbg, hh, hc, hm, hcs, ht⟩⟩ := hown
    · omega
    · rw [Nat.zero_add] at hc ht ⊢
      exact h g cap w' hbg hc ⟨cur, hh, by omega, by simpa [Nat.mul_one] using ht⟩ hb
theorem stM_len (p : List Int) (d : Int) : ∀ k, (stM p d k).length ≤ k
  | 0 => Nat.le_refl _
  | k + 1 => by
    have := stM_len p d k
    rw [stM, List.length_append]
    split <;> simp <;> omega
theorem IRow.drop {w : World} {b o : Nat} {xs : List Int} (h : IRow w (some ⟨b, o, none⟩) xs) (k : Nat) : IRow w (some ⟨b, o + k, none⟩) (xs.drop k) := fun i hi => by
  rw [List.length_drop] at hi
  obtain ⟨b2, o2, e, hc⟩ := h (k + i) (by omega)
  simp at e
  obtain ⟨rfl, rfl⟩ := e
  exact ⟨b, o + k, rfl, by rw [dropQ_at, Nat.add_assoc]; exact hc⟩
theorem wp_pushQn {ops : Array Oper} {rest : List Oper} {o : Oper} {a : Act} {Q : Exit → Act → World → Prop} (hgd : o.guard = none) (s x : Operand)
    (ho : o.op = .call { callee := .builtin .append, args := #[s, x], argTypes := #[48, 48] })
    (base : Nat) (v : Value) (l : List PQ) (hs : a.eval s = v) {w0 : World} (hown : OwnQ w0 base v l) (u : PQ) (n : Nat) (hn : u.2.2.length = n)
    {zz : Nat} (hx : a.eval x = .slice (some ⟨zz, 0, none⟩) 1 1) (hzz : w0.heap.size = zz) (hl : l.length ≤ 1048576) (hbase : base ≤ w0.heap.size)
    (h : ∀ v' w', OwnQ w' base v' (l ++ [u]) → Below base w0 w' → (∀ g cur t, Blk w0 g cur t → t ≠ 26 → w'.heap[g]? = w0.heap[g]?) → wpList Tryz.prog ops Q rest (a.put o.dst v') w') : wpList Tryz.prog ops Q (o :: rest) a (w0.alloc (.cells #[.slice (some ⟨u.1, 0, none⟩) n u.2.1] 26)) := by
  subst hn
  exact wp_pushQ hgd s x ho base v l hs hown u hx hzz hl hbase h
set_option maxRecDepth 8000 in
set_option maxHeartbeats 4000000 in
theorem l10Steps_any (a : Option Addr) (n cap : Nat) (d : Int) (xs : List Int) (w : World) (hn : xs.length = n) (h1 : 1 ≤ n) (hle : n ≤ 24) (hcap : n ≤ cap) (hd : 1 ≤ d ∧ d ≤ 6) (hx : ∀ x ∈ xs, 0 ≤ x ∧ x ≤ 15) (hr : IRow w a xs) :
    Calls Tryz.prog 112 #[.slice a n cap, .int .i64 d] w (RowsAt w.heap.size (stepsP xs d) w) := by
  subst hn
  obtain ⟨b, o, rfl, _⟩ := hr 0 (by omega)
  have hSum := fun (ad : Option Addr) (m c : Nat) (ys : List Int) (W : World) (q : ys.length = m) (q2 : ∀ x ∈ ys, x ∈ xs) (r : IRow W ad ys) (q3 : m ≤ 24) => l10Sum_any ad m c ys W q (by omega) (fun x h => by have := hx x (q2 x h); omega) r
  have HSUM := Lib.hid hSum
  have HX := Lib.hid hx
  have d0 := hd.1
  have d1 := hd.2
  have n0 : (xs.length : Int) ≤ 24 := by omega
  have n1 : (xs.length : Int) ≤ (cap : Int) := by omega
  clear hSum hx hd
  go_enter Tryz.func112, Tryz.ntmps112
  go_wp2_with fail
  have hst := ownQ_start w
  have hb0 : Below w.heap.size w (w.alloc (.cells #[] 26)) := (Below.refl _ _).alloc (Nat.le_refl _) _
  generalize w.alloc (.cells #[] 26) = v0 at *
  go_loopg [5, 6] xs.length (fun mm ov iv wr => ∃ (W : World) (I g2 k2 : Nat) (l : List PQ), W = wr ∧ I ≤ xs.length ∧ mm = xs.length - I ∧ iv = .int .i64 I ∧ ov = .slice (some ⟨g2, 0, none⟩) l.length k2 ∧ l.length ≤ k2 ∧ OwnQ W w.heap.size (.slice (some ⟨g2, 0, none⟩) l.length k2) l ∧ nmQ l = stM xs d I ∧ l.length ≤ I ∧ QAll w.heap.size W.heap.size W l ∧ QCap l ∧ Below w.heap.size w W)
  case atStart => exact ⟨v0, 0, w.heap.size, 0, [], rfl, by omega, by omega, by go_num, rfl, Nat.le_refl _, hst, rfl, by simp, QAll.nil _ _ _, fun y hy => by simp at hy, hb0⟩
  case round =>
    clear hst hb0
    obtain ⟨W, I, g2, k2, l, hW, hI, hmm, rfl, rfl, hlk, hO, hL, hll, hA, hC, hb⟩ := hrel
    subst hW
    have hr2 := hr.below hb
    have hzW := hb.size
    by_cases hlt : I < xs.length
    · have i0 : (0 : Int) ≤ (I : Int) := by omega
      have i1 : (I : Int) < (xs.length : Int) := by omega
      obtain ⟨b2, o2, he2, hc⟩ := hr2 I hlt
      cases he2
      have hx0 := HX.out _ (getD_mem (xs := xs) (k := I) hlt)
      have hst : stM xs d (I + 1) = stM xs d I ++ (if okQ xs d I = true then [asL xs I d] else []) := rfl
      obtain ⟨v, hv⟩ : ∃ v, xs.getD I 0 = v := ⟨_, rfl⟩
      have hok : okQ xs d I = decide (v ≠ 0 ∧ (d ≤ (I : Int) + 1 ∨ (xs.drop (I + 1)).sum ≤ 0)) := by rw [okQ, hv]
      rw [hv] at hc hx0
      have v0 := hx0.1
      have v1 := hx0.2
      have wz1 : IntKind.i64.wrap ((I : Int) + 1) = ((I + 1 : Nat) : Int) := by rw [IntWalk.i64_in _ (by omega)]; omega
      have hll1 : l.length ≤ I + 1 := by omega
      have HL := Lib.hid hL
      have HI := Lib.hid hlt
      have HV := Lib.hid hv
      clear hL hx0 hv
      by_cases z : v = 0
      · have hs9 : stM xs d (I + 1) = stM xs d I := by rw [hst, hok, if_neg (by simp [z]), List.append_nil]
        have HST := Lib.hid hs9
        clear hs9
        subst z
        clear hst hok
        go_wp2_with fail
        go_roundg (xs.length - (I + 1))
        case measure => omega
        case rel => exact ⟨W, I + 1, g2, k2, l, rfl, by omega, rfl, by go_num, rfl, hlk, hO, by rw [HST.out]; exact HL.out, hll1, hA, hC, hb⟩
      · have z2 : (v == 0) = false := by rw [beq_eq_false_iff_ne]; exact z
        by_cases q1 : d ≤ (I : Int) + 1
        · have hs9 : stM xs d (I + 1) = stM xs d I ++ [asL xs I d] := by rw [hst, hok, if_pos (by simp [z, q1])]
          have HST := Lib.hid hs9
          clear hs9
          have q1b : ¬ (((I + 1 : Nat) : Int) < d) := by omega
          have q1c : decide (((I + 1 : Nat) : Int) < d) = false := decide_eq_false q1b
          clear hst hok z
          by_cases q : d ≤ (I : Int)
          · obtain ⟨J, hJ⟩ : ∃ J, I - d.toNat = J := ⟨_, rfl⟩
            have eJ : (I : Int) - d = (J : Int) := by omega
            have hji : J < I := by omega
            have hx1 := HX.out _ (getD_mem (xs := xs) (k := J) (by omega))
            obtain ⟨u, hu⟩ : ∃ u, xs.getD J 0 = u := ⟨_, rfl⟩
            rw [hu] at hx1
            have HJ := Lib.hid (show J < (xs.set I (v - 1)).length by rw [List.length_set]; omega)
            have HW := Lib.hid (show (xs.set I (v - 1)).getD J 0 = u by rw [set_at _ _ _ _ hlt, if_neg (by omega)]; exact hu)
            have HE := Lib.hid (show asL xs I d = (xs.set I (v - 1)).set J (u + 1) by rw [asL, if_pos q, hJ, HV.out, hu])
            have u0 := hx1.1
            have u1 := hx1.2
            have j1 : (0 : Int) ≤ (J : Int) := by omega
            have j2 : (J : Int) < (xs.length : Int) := by omega
            have wz : IntKind.i64.wrap ((I : Int) - d) = (J : Int) := by rw [IntWalk.i64_in _ (by omega)]; exact eJ
            clear hx1 hu hJ eJ
            go_wp2_with (first | (at_builtin; go_loud (refine wp_cloneI rfl (.tmp 34) (.tmp 35) rfl rfl rfl _ xs _ _ rfl rfl hr2 (by omega) (by omega) ?_; intro g1 k1 w1 hg1 hk1 R1 hb1; have hc1 := R1.cell I HI.out; have hf1 := R1.free I; rw [HV.out] at hc1; have R2 := R1.set I (v - 1); have hc2 := R2.cell J HJ.out; have hf2 := R2.free J; rw [HW.out] at hc2; have R3 := R2.set J (u + 1); have hb3 := (hb1.setCell (p := ⟨g1, I, none⟩) hg1 (.int .i64 (v - 1))).setCell (p := ⟨g1, J, none⟩) hg1 (.int .i64 (u + 1)); have HR := Lib.hid R3; clear R3; clear R1 R2; have hOb := hO.below hb3; have hAb := hA.below hb3; have hz3 := hb3.size; have hg1l := HR.out.lt)) | (at_builtin; go_loud (refine wp_pushQn rfl (.tmp 60) (.tmp 62) rfl w.heap.size _ l rfl hOb (g1, k1, asL xs I d) xs.length (asL_len _ _ _) rfl (by first | rfl | simp) (by omega) (by omega) ?_; intro v7 w7 hO7 hb7 hk7)))
            go_roundg (xs.length - (I + 1))
            case measure => omega
            case rel =>
              have hz7 := hb7.size
              obtain ⟨g7, k7, rfl, hk77⟩ := ownQ_some hO7 (by simp)
              refine ⟨w7, I + 1, g7, k7, l ++ [(g1, k1, asL xs I d)], rfl, by omega, rfl, by go_num, rfl, hk77, hO7, ?_, by simp; omega, ((hAb.keepT hk7 (by omega)).mono (Nat.le_refl _) (Nat.le_refl _)).snoc ⟨by omega, by dsimp only; omega, ?_⟩, fun y hy => ?_, (hb.trans (hb3.mono (by omega))).trans hb7⟩
              · show List.map _ (l ++ [(g1, k1, asL xs I d)]) = _
                rw [List.map_append, HST.out]
                show nmQ l ++ [asL xs I d] = _
                rw [HL.out]
              · have := HR.out
                rw [← HE.out] at this
                exact this.keepT hk7
              · rcases List.mem_append.1 hy with hy | hy
                · exact hC y hy
                · simp at hy
                  subst hy
                  dsimp only
                  rw [asL_len]
                  exact hk1
          · have HE := Lib.hid (show asL xs I d = xs.set I (v - 1) by rw [asL, if_neg q, HV.out])
            go_wp2_with (first | (at_builtin; go_loud (refine wp_cloneI rfl (.tmp 34) (.tmp 35) rfl rfl rfl _ xs _ _ rfl rfl hr2 (by omega) (by omega) ?_; intro g1 k1 w1 hg1 hk1 R1 hb1; have hc1 := R1.cell I HI.out; have hf1 := R1.free I; rw [HV.out] at hc1; have R2 := R1.set I (v - 1); have hb3 := hb1.setCell (p := ⟨g1, I, none⟩) hg1 (.int .i64 (v - 1)); have HR := Lib.hid R2; clear R1 R2; have hOb := hO.below hb3; have hAb := hA.below hb3; have hz3 := hb3.size; have hg1l := HR.out.lt)) | (at_builtin; go_loud (refine wp_pushQn rfl (.tmp 60) (.tmp 62) rfl w.heap.size _ l rfl hOb (g1, k1, asL xs I d) xs.length (asL_len _ _ _) rfl (by first | rfl | simp) (by omega) (by omega) ?_; intro v7 w7 hO7 hb7 hk7)))
            go_roundg (xs.length - (I + 1))
            case measure => omega
            case rel =>
              have hz7 := hb7.size
              obtain ⟨g7, k7, rfl, hk77⟩ := ownQ_some hO7 (by simp)
              refine ⟨w7, I + 1, g7, k7, l ++ [(g1, k1, asL xs I d)], rfl, by omega, rfl, by go_num, rfl, hk77, hO7, ?_, by simp; omega, ((hAb.keepT hk7 (by omega)).mono (Nat.le_refl _) (Nat.le_refl _)).snoc ⟨by omega, by dsimp only; omega, ?_⟩, fun y hy => ?_, (hb.trans (hb3.mono (by omega))).trans hb7⟩
              · show List.map _ (l ++ [(g1, k1, asL xs I d)]) = _
                rw [List.map_append, HST.out]
                show nmQ l ++ [asL xs I d] = _
                rw [HL.out]
              · have := HR.out
                rw [← HE.out] at this
                exact this.keepT hk7
              · rcases List.mem_append.1 hy with hy | hy
                · exact hC y hy
                · simp at hy
                  subst hy
                  dsimp only
                  rw [asL_len]
                  exact hk1
        · have q1b : ((I + 1 : Nat) : Int) < d := by omega
          have q1c : decide (((I + 1 : Nat) : Int) < d) = true := decide_eq_true q1b
          have q : ¬ d ≤ (I : Int) := by omega
          have HE := Lib.hid (show asL xs I d = xs.set I (v - 1) by rw [asL, if_neg q, HV.out])
          obtain ⟨S, hS⟩ : ∃ S, (xs.drop (I + 1)).sum = S := ⟨_, rfl⟩
          rw [hS] at hok
          have hsm := fun (ad : Option Addr) (c : Nat) (W' : World) (r : IRow W' ad (xs.drop (I + 1))) => HSUM.out ad (xs.length - (I + 1)) c (xs.drop (I + 1)) W' (by simp) (fun x h => List.mem_of_mem_drop h) r (by omega)
          rw [hS] at hsm
          have HS := Lib.hid hsm
          have s1 : ((I + 1 : Nat) : Int) ≤ (xs.length : Int) := by omega
          have s0 : (0 : Int) ≤ ((I + 1 : Nat) : Int) := by omega
          have s2 : ((I + 1 : Nat) : Int) ≤ (cap : Int) := by omega
          have hdr := IRow.drop hr2 (I + 1)
          have hS0 : cap ≤ I + 1 → S = 0 := fun h => by rw [← hS, List.drop_eq_nil_of_le (by omega)]; rfl
          clear hsm hS
          by_cases q2 : S ≤ 0
          · have hs9 : stM xs d (I + 1) = stM xs d I ++ [asL xs I d] := by rw [hst, hok, if_pos (by simp [z, q2])]
            have HST := Lib.hid hs9
            clear hs9
            have q3 : decide (0 < S) = false := decide_eq_false (by omega)
            clear hst hok z
            by_cases hcp : I + 1 < cap
            · have hcp2 : ((I + 1 : Nat) : Int) < (cap : Int) := by omega
              go_wp2_with (first | (go_at_call 56; refine (HS.out _ _ _ hdr).mono ?_; rintro e w8 ⟨rfl, rfl⟩) | (at_builtin; go_loud (refine wp_cloneI rfl (.tmp 34) (.tmp 35) rfl rfl rfl _ xs _ _ rfl rfl hr2 (by omega) (by omega) ?_; intro g1 k1 w1 hg1 hk1 R1 hb1; have hc1 := R1.cell I HI.out; have hf1 := R1.free I; rw [HV.out] at hc1; have R2 := R1.set I (v - 1); have hb3 := hb1.setCell (p := ⟨g1, I, none⟩) hg1 (.int .i64 (v - 1)); have HR := Lib.hid R2; clear R1 R2; have hOb := hO.below hb3; have hAb := hA.below hb3; have hz3 := hb3.size; have hg1l := HR.out.lt)) | (at_builtin; go_loud (refine wp_pushQn rfl (.tmp 60) (.tmp 62) rfl w.heap.size _ l rfl hOb (g1, k1, asL xs I d) xs.length (asL_len _ _ _) rfl (by first | rfl | simp) (by omega) (by omega) ?_; intro v7 w7 hO7 hb7 hk7)))
              go_roundg (xs.length - (I + 1))
              case measure => omega
              case rel =>
                have hz7 := hb7.size
                obtain ⟨g7, k7, rfl, hk77⟩ := ownQ_some hO7 (by simp)
                refine ⟨w7, I + 1, g7, k7, l ++ [(g1, k1, asL xs I d)], rfl, by omega, rfl, by go_num, rfl, hk77, hO7, ?_, by simp; omega, ((hAb.keepT hk7 (by omega)).mono (Nat.le_refl _) (Nat.le_refl _)).snoc ⟨by omega, by dsimp only; omega, ?_⟩, fun y hy => ?_, (hb.trans (hb3.mono (by omega))).trans hb7⟩
                · show List.map _ (l ++ [(g1, k1, asL xs I d)]) = _
                  rw [List.map_append, HST.out]
                  show nmQ l ++ [asL xs I d] = _
                  rw [HL.out]
                · have := HR.out
                  rw [← HE.out] at this
                  exact this.keepT hk7
                · rcases List.mem_append.1 hy with hy | hy
                  · exact hC y hy
                  · simp at hy
                    subst hy
                    dsimp only
                    rw [asL_len]
                    exact hk1
            · have hcp2 : ¬ ((I + 1 : Nat) : Int) < (cap : Int) := by omega
              have hdn : xs.drop (I + 1) = [] := List.drop_eq_nil_of_le (by omega)
              go_wp2_with (first | (go_at_call 56; refine (HS.out _ _ _ (by rw [hdn]; exact fun i hi => by simp at hi)).mono ?_; rintro e w8 ⟨rfl, rfl⟩) | (at_builtin; go_loud (refine wp_cloneI rfl (.tmp 34) (.tmp 35) rfl rfl rfl _ xs _ _ rfl rfl hr2 (by omega) (by omega) ?_; intro g1 k1 w1 hg1 hk1 R1 hb1; have hc1 := R1.cell I HI.out; have hf1 := R1.free I; rw [HV.out] at hc1; have R2 := R1.set I (v - 1); have hb3 := hb1.setCell (p := ⟨g1, I, none⟩) hg1 (.int .i64 (v - 1)); have HR := Lib.hid R2; clear R1 R2; have hOb := hO.below hb3; have hAb := hA.below hb3; have hz3 := hb3.size; have hg1l := HR.out.lt)) | (at_builtin; go_loud (refine wp_pushQn rfl (.tmp 60) (.tmp 62) rfl w.heap.size _ l rfl hOb (g1, k1, asL xs I d) xs.length (asL_len _ _ _) rfl (by first | rfl | simp) (by omega) (by omega) ?_; intro v7 w7 hO7 hb7 hk7)))
              go_roundg (xs.length - (I + 1))
              case measure => omega
              case rel =>
                have hz7 := hb7.size
                obtain ⟨g7, k7, rfl, hk77⟩ := ownQ_some hO7 (by simp)
                refine ⟨w7, I + 1, g7, k7, l ++ [(g1, k1, asL xs I d)], rfl, by omega, rfl, by go_num, rfl, hk77, hO7, ?_, by simp; omega, ((hAb.keepT hk7 (by omega)).mono (Nat.le_refl _) (Nat.le_refl _)).snoc ⟨by omega, by dsimp only; omega, ?_⟩, fun y hy => ?_, (hb.trans (hb3.mono (by omega))).trans hb7⟩
                · show List.map _ (l ++ [(g1, k1, asL xs I d)]) = _
                  rw [List.map_append, HST.out]
                  show nmQ l ++ [asL xs I d] = _
                  rw [HL.out]
                · have := HR.out
                  rw [← HE.out] at this
                  exact this.keepT hk7
                · rcases List.mem_append.1 hy with hy | hy
                  · exact hC y hy
                  · simp at hy
                    subst hy
                    dsimp only
                    rw [asL_len]
                    exact hk1
          · have hs9 : stM xs d (I + 1) = stM xs d I := by rw [hst, hok, if_neg (by simp [q1, q2]), List.append_nil]
            have HST := Lib.hid hs9
            clear hs9
            have q3 : decide (0 < S) = true := decide_eq_true (by omega)
            have hcp : I + 1 < cap := by
              rcases Nat.lt_or_ge (I + 1) cap with h | h
              · exact h
              · exfalso
                have := hS0 h
                omega
            have hcp2 : ((I + 1 : Nat) : Int) < (cap : Int) := by omega
            clear hst hok z
            go_wp2_with (go_at_call 56; refine (HS.out _ _ _ hdr).mono ?_; rintro e w8 ⟨rfl, rfl⟩)
            go_roundg (xs.length - (I + 1))
            case measure => omega
            case rel => exact ⟨W, I + 1, g2, k2, l, rfl, by omega, rfl, by go_num, rfl, hlk, hO, by rw [HST.out]; exact HL.out, hll1, hA, hC, hb⟩
    · obtain rfl : I = xs.length := by omega
      have HL := Lib.hid hL
      clear hL
      go_wp2_with fail
      go_ret
      exact ⟨g2, k2, l, rfl, hlk, (OwnQ.row hO).2.2.1, HL.out, hA, hC, hb⟩
end Go.Proofs.YtnlclmlnpkncoaaGreat
