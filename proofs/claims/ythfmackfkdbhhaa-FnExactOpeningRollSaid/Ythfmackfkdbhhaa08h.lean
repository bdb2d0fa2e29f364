/- Contracts of the model on new games and valid games. -/
import Derived.Test.Ythfmackfkdbhhaa08g
namespace Go.Proofs.Ythfmackfkdbhhaa
open Go.ChangeShapes Go.WideShapes Go.ChangeAt Go.RowKit
set_option linter.unusedVariables false
set_option linter.unusedSimpArgs false

theorem ngV_length (p c h s : Int) : (ngV p c h s).xs.length ≤ 1048576 ∧ (ngV p c h s).ys.length ≤ 1048576 := by
  unfold ngV
  split
  · rename_i e
    have hp : p ≤ 24 := by
      unfold ngC at e
      split at e
      · exact (vB_iff.1 (by assumption)).2.1
      · omega
    exact ⟨startL_le p c h s hp, startL_le p c h s hp⟩
  · exact ⟨Nat.zero_le _, Nat.zero_le _⟩
set_option maxRecDepth 8000 in
set_option maxHeartbeats 1000000 in
theorem specNewGame_any (p c h s : Int) (w : World) : Calls Try.prog 16 #[.agg #[.int .i64 p, .int .i64 c, .int .i64 h, .int .i64 s]] w (GameGot (ngV p c h s) (ngC p c h s) w) := by
  have hV := fun (W : World) => specIsVariant_any p c h s W
  have hN := fun (g : vB p c h s = true) (q : 4 ≤ p) (W : World) => l08New_any p c h s W g q
  obtain ⟨BV, BO, hb, hz⟩ := two_new' w #[.int .i64 p, .int .i64 c, .int .i64 h, .int .i64 s] #[.slice none 0 0, .slice none 0 0, .int .i64 0, .int .i64 0, .int .i64 0, .int .i64 0, .int .i64 0, .int .i64 0, .int .i64 0] 33 38
  by_cases g : vB p c h s = true
  rotate_left
  · have e1 : ngC p c h s = 1 := by unfold ngC; rw [if_neg g]
    have e2 : ngV p c h s = gm0 := by unfold ngV; rw [if_neg (by omega)]
    rw [e1, e2]
    replace g : vB p c h s = false := by simpa using g
    rw [g] at hV
    have HV := Lib.hid hV
    clear hV hN g e1 e2
    go_enter Try.func16, Try.ntmps16
    obtain ⟨x0, x1, x2, x3, xf, xl⟩ := BV.four
    obtain ⟨go0, go1, go2, go3, go4, go5, go6, go7, go8, gof, gol⟩ := BO.nine
    go_wp2_with fail
    clear x0 x1 x2 x3 xf xl
    clear go0 go1 go2 go3 go4 go5 go6 go7 go8 gof gol
    generalize ((w.alloc (.cells #[.int .i64 p, .int .i64 c, .int .i64 h, .int .i64 s] 33)).alloc (.cells #[.slice none 0 0, .slice none 0 0, .int .i64 0, .int .i64 0, .int .i64 0, .int .i64 0, .int .i64 0, .int .i64 0, .int .i64 0] 38)) = v0 at *
    obtain ⟨q0_BV, q1_BV, q2_BV, q3_BV, qf_BV, ql_BV⟩ := BV.four
    obtain ⟨q0_BO, q1_BO, q2_BO, q3_BO, q4_BO, q5_BO, q6_BO, q7_BO, q8_BO, qf_BO, ql_BO⟩ := BO.nine
    go_wp2_with fail
    clear q0_BV q1_BV q2_BV q3_BV qf_BV ql_BV
    clear q0_BO q1_BO q2_BO q3_BO q4_BO q5_BO q6_BO q7_BO q8_BO qf_BO ql_BO
    refine (HV.out _).mono ?_
    rintro e w1 ⟨rfl, hb1⟩
    replace BV := BV.below hb1
    replace BO := BO.below hb1
    have hz1 := hb1.size
    replace hb := chain hb hb1
    clear hb1
    obtain ⟨x0, x1, x2, x3, xf, xl⟩ := BV.four
    obtain ⟨go0, go1, go2, go3, go4, go5, go6, go7, go8, gof, gol⟩ := BO.nine
    go_wp2
    clear x0 x1 x2 x3 xf xl go0 go1 go2 go3 go4 go5 go6 go7 go8 gof gol
    have MO := BO.setG9 (.slice none 0 0) (.slice none 0 0) (.int .i64 0) (.int .i64 0) (.int .i64 0) (.int .i64 0) (.int .i64 0) (.int .i64 0) (.int .i64 0)
    have hM := Below.farG9 hb (B := w.heap.size + 1) (by omega) (.slice none 0 0) (.slice none 0 0) (.int .i64 0) (.int .i64 0) (.int .i64 0) (.int .i64 0) (.int .i64 0) (.int .i64 0) (.int .i64 0)
    have hsz := size_farG9 w1 (w.heap.size + 1) (.slice none 0 0) (.slice none 0 0) (.int .i64 0) (.int .i64 0) (.int .i64 0) (.int .i64 0) (.int .i64 0) (.int .i64 0) (.int .i64 0)
    clear BO hb BV
    generalize (((((((((w1.setCell ⟨(w.heap.size + 1), 0, none⟩ (.slice none 0 0)).setCell ⟨(w.heap.size + 1), 1, none⟩ (.slice none 0 0)).setCell ⟨(w.heap.size + 1), 2, none⟩ (.int .i64 0)).setCell ⟨(w.heap.size + 1), 3, none⟩ (.int .i64 0)).setCell ⟨(w.heap.size + 1), 4, none⟩ (.int .i64 0)).setCell ⟨(w.heap.size + 1), 5, none⟩ (.int .i64 0)).setCell ⟨(w.heap.size + 1), 6, none⟩ (.int .i64 0)).setCell ⟨(w.heap.size + 1), 7, none⟩ (.int .i64 0)).setCell ⟨(w.heap.size + 1), 8, none⟩ (.int .i64 0)) = we at *
    obtain ⟨go0, go1, go2, go3, go4, go5, go6, go7, go8, gof, gol⟩ := MO.nine
    refine bodyPost_ret (v := .tuple #[.agg #[.slice none 0 0, .slice none 0 0, .int .i64 0, .int .i64 0, .int .i64 0, .int .i64 0, .int .i64 0, .int .i64 0, .int .i64 0], .int .i64 1]) (by simp [results, Try.results16, go_sem, go0, go1, go2, go3, go4, go5, go6, go7, go8]) rfl ?_
    exact ⟨none, none, 0, 0, rfl, .inl ⟨rfl, rfl, rfl, rfl⟩, hM⟩
  · rw [g] at hV
    by_cases q : 4 ≤ p
    rotate_left
    · have e1 : ngC p c h s = 2 := by unfold ngC hgB; rw [if_pos g, if_neg (by simp [q])]
      have e2 : ngV p c h s = gm0 := by unfold ngV; rw [if_neg (by omega)]
      rw [e1, e2]
      have f4 : p < 4 := by omega
      have HV := Lib.hid hV
      clear hV hN g e1 e2 q
      go_enter Try.func16, Try.ntmps16
      obtain ⟨x0, x1, x2, x3, xf, xl⟩ := BV.four
      obtain ⟨go0, go1, go2, go3, go4, go5, go6, go7, go8, gof, gol⟩ := BO.nine
      go_wp2_with fail
      clear x0 x1 x2 x3 xf xl
      clear go0 go1 go2 go3 go4 go5 go6 go7 go8 gof gol
      generalize ((w.alloc (.cells #[.int .i64 p, .int .i64 c, .int .i64 h, .int .i64 s] 33)).alloc (.cells #[.slice none 0 0, .slice none 0 0, .int .i64 0, .int .i64 0, .int .i64 0, .int .i64 0, .int .i64 0, .int .i64 0, .int .i64 0] 38)) = v0 at *
      obtain ⟨q0_BV, q1_BV, q2_BV, q3_BV, qf_BV, ql_BV⟩ := BV.four
      obtain ⟨q0_BO, q1_BO, q2_BO, q3_BO, q4_BO, q5_BO, q6_BO, q7_BO, q8_BO, qf_BO, ql_BO⟩ := BO.nine
      go_wp2_with fail
      clear q0_BV q1_BV q2_BV q3_BV qf_BV ql_BV
      clear q0_BO q1_BO q2_BO q3_BO q4_BO q5_BO q6_BO q7_BO q8_BO qf_BO ql_BO
      refine (HV.out _).mono ?_
      rintro e w1 ⟨rfl, hb1⟩
      replace BV := BV.below hb1
      replace BO := BO.below hb1
      have hz1 := hb1.size
      replace hb := chain hb hb1
      clear hb1
      obtain ⟨x0, x1, x2, x3, xf, xl⟩ := BV.four
      obtain ⟨go0, go1, go2, go3, go4, go5, go6, go7, go8, gof, gol⟩ := BO.nine
      go_wp2
      clear x0 x1 x2 x3 xf xl go0 go1 go2 go3 go4 go5 go6 go7 go8 gof gol
      have MO := BO.setG9 (.slice none 0 0) (.slice none 0 0) (.int .i64 0) (.int .i64 0) (.int .i64 0) (.int .i64 0) (.int .i64 0) (.int .i64 0) (.int .i64 0)
      have hM := Below.farG9 hb (B := w.heap.size + 1) (by omega) (.slice none 0 0) (.slice none 0 0) (.int .i64 0) (.int .i64 0) (.int .i64 0) (.int .i64 0) (.int .i64 0) (.int .i64 0) (.int .i64 0)
      have hsz := size_farG9 w1 (w.heap.size + 1) (.slice none 0 0) (.slice none 0 0) (.int .i64 0) (.int .i64 0) (.int .i64 0) (.int .i64 0) (.int .i64 0) (.int .i64 0) (.int .i64 0)
      clear BO hb BV
      generalize (((((((((w1.setCell ⟨(w.heap.size + 1), 0, none⟩ (.slice none 0 0)).setCell ⟨(w.heap.size + 1), 1, none⟩ (.slice none 0 0)).setCell ⟨(w.heap.size + 1), 2, none⟩ (.int .i64 0)).setCell ⟨(w.heap.size + 1), 3, none⟩ (.int .i64 0)).setCell ⟨(w.heap.size + 1), 4, none⟩ (.int .i64 0)).setCell ⟨(w.heap.size + 1), 5, none⟩ (.int .i64 0)).setCell ⟨(w.heap.size + 1), 6, none⟩ (.int .i64 0)).setCell ⟨(w.heap.size + 1), 7, none⟩ (.int .i64 0)).setCell ⟨(w.heap.size + 1), 8, none⟩ (.int .i64 0)) = we at *
      obtain ⟨go0, go1, go2, go3, go4, go5, go6, go7, go8, gof, gol⟩ := MO.nine
      refine bodyPost_ret (v := .tuple #[.agg #[.slice none 0 0, .slice none 0 0, .int .i64 0, .int .i64 0, .int .i64 0, .int .i64 0, .int .i64 0, .int .i64 0, .int .i64 0], .int .i64 2]) (by simp [results, Try.results16, go_sem, go0, go1, go2, go3, go4, go5, go6, go7, go8]) rfl ?_
      exact ⟨none, none, 0, 0, rfl, .inl ⟨rfl, rfl, rfl, rfl⟩, hM⟩
    · have e1 : ngC p c h s = 0 := by unfold ngC hgB; rw [if_pos g, if_pos (by simp [q, g])]
      have e2 : ngV p c h s = openG p c h s := by unfold ngV; rw [if_pos e1]
      rw [e1, e2]
      have f4 : ¬ p < 4 := by omega
      replace hN := hN g q
      show Calls _ _ _ _ fun e w' => ∃ a1 a2 k1 k2, e = .returned (.tuple #[.agg #[.slice a1 (startL p c h s).length k1, .slice a2 (startL p c h s).length k2, .int .i64 0, .int .i64 0, .int .i64 0, .int .i64 0, .int .i64 0, .int .i64 0, .int .i64 0], .int .i64 0]) ∧ OBd w.heap.size w'.heap.size w' a1 a2 (startL p c h s) (startL p c h s) ∧ Below w.heap.size w w'
      obtain ⟨L, hL⟩ : ∃ L, startL p c h s = L := ⟨_, rfl⟩
      rw [hL] at hN ⊢
      obtain ⟨n, hn⟩ : ∃ n, L.length = n := ⟨_, rfl⟩
      rw [hn] at hN ⊢
      have HN := Lib.hid hN
      have HV := Lib.hid hV
      clear hV hN hL hn g q e1 e2
      go_enter Try.func16, Try.ntmps16
      obtain ⟨x0, x1, x2, x3, xf, xl⟩ := BV.four
      obtain ⟨go0, go1, go2, go3, go4, go5, go6, go7, go8, gof, gol⟩ := BO.nine
      go_wp2_with fail
      clear x0 x1 x2 x3 xf xl
      clear go0 go1 go2 go3 go4 go5 go6 go7 go8 gof gol
      generalize ((w.alloc (.cells #[.int .i64 p, .int .i64 c, .int .i64 h, .int .i64 s] 33)).alloc (.cells #[.slice none 0 0, .slice none 0 0, .int .i64 0, .int .i64 0, .int .i64 0, .int .i64 0, .int .i64 0, .int .i64 0, .int .i64 0] 38)) = v0 at *
      obtain ⟨q0_BV, q1_BV, q2_BV, q3_BV, qf_BV, ql_BV⟩ := BV.four
      obtain ⟨q0_BO, q1_BO, q2_BO, q3_BO, q4_BO, q5_BO, q6_BO, q7_BO, q8_BO, qf_BO, ql_BO⟩ := BO.nine
      go_wp2_with fail
      clear q0_BV q1_BV q2_BV q3_BV qf_BV ql_BV
      clear q0_BO q1_BO q2_BO q3_BO q4_BO q5_BO q6_BO q7_BO q8_BO qf_BO ql_BO
      refine (HV.out _).mono ?_
      rintro e w1 ⟨rfl, hb1⟩
      replace BV := BV.below hb1
      replace BO := BO.below hb1
      have hz1 := hb1.size
      replace hb := chain hb hb1
      clear hb1
      obtain ⟨q0_BV, q1_BV, q2_BV, q3_BV, qf_BV, ql_BV⟩ := BV.four
      obtain ⟨q0_BO, q1_BO, q2_BO, q3_BO, q4_BO, q5_BO, q6_BO, q7_BO, q8_BO, qf_BO, ql_BO⟩ := BO.nine
      go_wp2_with fail
      clear q0_BV q1_BV q2_BV q3_BV qf_BV ql_BV
      clear q0_BO q1_BO q2_BO q3_BO q4_BO q5_BO q6_BO q7_BO q8_BO qf_BO ql_BO
      refine (HN.out _).mono ?_
      rintro e w2 ⟨b1, b2, rfl, hq1, hq2, R1, R2, hb2⟩
      replace BV := BV.below hb2
      replace BO := BO.below hb2
      have hz2 := hb2.size
      replace hb := chain hb hb2
      clear hb2
      obtain ⟨x0, x1, x2, x3, xf, xl⟩ := BV.four
      obtain ⟨go0, go1, go2, go3, go4, go5, go6, go7, go8, gof, gol⟩ := BO.nine
      go_wp2
      clear x0 x1 x2 x3 xf xl go0 go1 go2 go3 go4 go5 go6 go7 go8 gof gol
      have MO := BO.setG9 (.slice (some ⟨b1, 0, none⟩) n n) (.slice (some ⟨b2, 0, none⟩) n n) (.int .i64 0) (.int .i64 0) (.int .i64 0) (.int .i64 0) (.int .i64 0) (.int .i64 0) (.int .i64 0)
      have hl1 := R1.lt
      have hl2 := R2.lt
      have M1 := R1.farG9 (B := w.heap.size + 1) (by omega) (.slice (some ⟨b1, 0, none⟩) n n) (.slice (some ⟨b2, 0, none⟩) n n) (.int .i64 0) (.int .i64 0) (.int .i64 0) (.int .i64 0) (.int .i64 0) (.int .i64 0) (.int .i64 0)
      have M2 := R2.farG9 (B := w.heap.size + 1) (by omega) (.slice (some ⟨b1, 0, none⟩) n n) (.slice (some ⟨b2, 0, none⟩) n n) (.int .i64 0) (.int .i64 0) (.int .i64 0) (.int .i64 0) (.int .i64 0) (.int .i64 0) (.int .i64 0)
      clear R1 R2
      have hM := Below.farG9 hb (B := w.heap.size + 1) (by omega) (.slice (some ⟨b1, 0, none⟩) n n) (.slice (some ⟨b2, 0, none⟩) n n) (.int .i64 0) (.int .i64 0) (.int .i64 0) (.int .i64 0) (.int .i64 0) (.int .i64 0) (.int .i64 0)
      have hsz := size_farG9 w2 (w.heap.size + 1) (.slice (some ⟨b1, 0, none⟩) n n) (.slice (some ⟨b2, 0, none⟩) n n) (.int .i64 0) (.int .i64 0) (.int .i64 0) (.int .i64 0) (.int .i64 0) (.int .i64 0) (.int .i64 0)
      clear BO hb BV
      generalize (((((((((w2.setCell ⟨(w.heap.size + 1), 0, none⟩ (.slice (some ⟨b1, 0, none⟩) n n)).setCell ⟨(w.heap.size + 1), 1, none⟩ (.slice (some ⟨b2, 0, none⟩) n n)).setCell ⟨(w.heap.size + 1), 2, none⟩ (.int .i64 0)).setCell ⟨(w.heap.size + 1), 3, none⟩ (.int .i64 0)).setCell ⟨(w.heap.size + 1), 4, none⟩ (.int .i64 0)).setCell ⟨(w.heap.size + 1), 5, none⟩ (.int .i64 0)).setCell ⟨(w.heap.size + 1), 6, none⟩ (.int .i64 0)).setCell ⟨(w.heap.size + 1), 7, none⟩ (.int .i64 0)).setCell ⟨(w.heap.size + 1), 8, none⟩ (.int .i64 0)) = we at *
      obtain ⟨go0, go1, go2, go3, go4, go5, go6, go7, go8, gof, gol⟩ := MO.nine
      refine bodyPost_ret (v := .tuple #[.agg #[.slice (some ⟨b1, 0, none⟩) n n, .slice (some ⟨b2, 0, none⟩) n n, .int .i64 0, .int .i64 0, .int .i64 0, .int .i64 0, .int .i64 0, .int .i64 0, .int .i64 0], .int .i64 0]) (by simp [results, Try.results16, go_sem, go0, go1, go2, go3, go4, go5, go6, go7, go8]) rfl ?_
      exact ⟨_, _, _, _, rfl, .inr ⟨b1, b2, rfl, rfl, by omega, by omega, by omega, by omega, by omega, M1, M2⟩, hM⟩
theorem specIsGame_any (p c h s : Int) (a1 a2 : Option Addr) (n1 n2 c1 c2 : Nat) (xs ys : List Int) (w : World) (h1 : xs.length = n1) (h2 : ys.length = n2) (l1 : n1 ≤ 1048576) (l2 : n2 ≤ 1048576) (r1 : IRow w a1 xs) (r2 : IRow w a2 ys) (pl ra rb ph wi re tu : Int) :
    Calls Try.prog 11 #[.agg #[.int .i64 p, .int .i64 c, .int .i64 h, .int .i64 s], .agg #[.slice a1 n1 c1, .slice a2 n2 c2, .int .i64 pl, .int .i64 ra, .int .i64 rb, .int .i64 ph, .int .i64 wi, .int .i64 re, .int .i64 tu]] w fun e w' => e = .returned (.bool (gmB p c h s xs ys pl ra rb ph wi re tu)) ∧ Below w.heap.size w w' := by
  obtain ⟨BV, BG, hb, hz⟩ := two_new' w #[.int .i64 p, .int .i64 c, .int .i64 h, .int .i64 s] #[.slice a1 n1 c1, .slice a2 n2 c2, .int .i64 pl, .int .i64 ra, .int .i64 rb, .int .i64 ph, .int .i64 wi, .int .i64 re, .int .i64 tu] 33 38
  replace r1 := r1.below hb
  replace r2 := r2.below hb
  go_enter Try.func11, Try.ntmps11
  obtain ⟨x0, x1, x2, x3, xf, xl⟩ := BV.four
  obtain ⟨ga0, ga1, ga2, ga3, ga4, ga5, ga6, ga7, ga8, gaf, gal⟩ := BG.nine
  go_wp2_with fail
  clear x0 x1 x2 x3 xf xl
  clear ga0 ga1 ga2 ga3 ga4 ga5 ga6 ga7 ga8 gaf gal
  generalize ((w.alloc (.cells #[.int .i64 p, .int .i64 c, .int .i64 h, .int .i64 s] 33)).alloc (.cells #[.slice a1 n1 c1, .slice a2 n2 c2, .int .i64 pl, .int .i64 ra, .int .i64 rb, .int .i64 ph, .int .i64 wi, .int .i64 re, .int .i64 tu] 38)) = v0 at *
  obtain ⟨q0_BV, q1_BV, q2_BV, q3_BV, qf_BV, ql_BV⟩ := BV.four
  obtain ⟨q0_BG, q1_BG, q2_BG, q3_BG, q4_BG, q5_BG, q6_BG, q7_BG, q8_BG, qf_BG, ql_BG⟩ := BG.nine
  go_wp2_with fail
  clear q0_BV q1_BV q2_BV q3_BV qf_BV ql_BV
  clear q0_BG q1_BG q2_BG q3_BG q4_BG q5_BG q6_BG q7_BG q8_BG qf_BG ql_BG
  refine (l08Valid_any p c h s a1 a2 n1 n2 c1 c2 xs ys _ h1 h2 l1 l2 r1 r2 pl ra rb ph wi re tu).mono ?_
  rintro e w1 ⟨rfl, hb1⟩
  replace BV := BV.below hb1
  replace BG := BG.below hb1
  replace r1 := r1.below hb1
  replace r2 := r2.below hb1
  have hz1 := hb1.size
  replace hb := chain hb hb1
  clear hb1
  obtain ⟨q0_BV, q1_BV, q2_BV, q3_BV, qf_BV, ql_BV⟩ := BV.four
  obtain ⟨q0_BG, q1_BG, q2_BG, q3_BG, q4_BG, q5_BG, q6_BG, q7_BG, q8_BG, qf_BG, ql_BG⟩ := BG.nine
  go_wp2_with fail
  go_ret
  exact ⟨rfl, hb⟩
end Go.Proofs.Ythfmackfkdbhhaa
