/- Contract of the program on equal games. -/
import Derived.Test.Ytokjkcnjmfbfiaa08c
namespace Go.Proofs.Ytokjkcnjmfbfiaa
open Go.ChangeShapes Go.WideShapes Go.ChangeAt Go.RowKit
set_option linter.unusedVariables false
set_option linter.unusedSimpArgs false
set_option maxRecDepth 4000

theorem gm_ext {G H : Gm} (h1 : G.xs = H.xs) (h2 : G.ys = H.ys) (h3 : G.pl = H.pl) (h4 : G.ra = H.ra) (h5 : G.rb = H.rb) (h6 : G.ph = H.ph) (h7 : G.wi = H.wi) (h8 : G.re = H.re) (h9 : G.tu = H.tu) : G = H := by
  cases G; cases H
  dsimp only at h1 h2 h3 h4 h5 h6 h7 h8 h9
  subst h1 h2 h3 h4 h5 h6 h7 h8 h9
  rfl
set_option maxRecDepth 8000 in
set_option maxHeartbeats 4000000 in
theorem gameEquals_any (G H : Gm) (a1 a2 b1 b2 : Option Addr) (c1 c2 d1 d2 : Nat) (w : World) (l1 : G.xs.length ≤ 1048576) (l2 : G.ys.length ≤ 1048576) (l3 : H.xs.length ≤ 1048576) (l4 : H.ys.length ≤ 1048576)
    (r1 : IRow w a1 G.xs) (r2 : IRow w a2 G.ys) (s1 : IRow w b1 H.xs) (s2 : IRow w b2 H.ys) :
    Calls Try.prog 164 #[.agg #[.slice a1 G.xs.length c1, .slice a2 G.ys.length c2, .int .i64 G.pl, .int .i64 G.ra, .int .i64 G.rb, .int .i64 G.ph, .int .i64 G.wi, .int .i64 G.re, .int .i64 G.tu], .agg #[.slice b1 H.xs.length d1, .slice b2 H.ys.length d2, .int .i64 H.pl, .int .i64 H.ra, .int .i64 H.rb, .int .i64 H.ph, .int .i64 H.wi, .int .i64 H.re, .int .i64 H.tu]] w fun e w' => e = .returned (.bool (decide (G = H))) ∧ Below w.heap.size w w' := by
  obtain ⟨x1, x2, pl, ra, rb, ph, wi, re, tu⟩ := G
  obtain ⟨y1, y2, pl2, ra2, rb2, ph2, wi2, re2, tu2⟩ := H
  dsimp only at *
  obtain ⟨BG, BO, hb, hz⟩ := two_new w #[.slice a1 x1.length c1, .slice a2 x2.length c2, .int .i64 pl, .int .i64 ra, .int .i64 rb, .int .i64 ph, .int .i64 wi, .int .i64 re, .int .i64 tu] #[.slice b1 y1.length d1, .slice b2 y2.length d2, .int .i64 pl2, .int .i64 ra2, .int .i64 rb2, .int .i64 ph2, .int .i64 wi2, .int .i64 re2, .int .i64 tu2] 70 70
  clear hz
  have hE := fun (W : World) (hW : Below w.heap.size w W) => boardEquals_any a1 a2 b1 b2 _ _ _ _ c1 c2 d1 d2 x1 x2 y1 y2 W rfl rfl rfl rfl l1 l2 l3 l4 (r1.below hW) (r2.below hW) (s1.below hW) (s2.below hW)
  rw [← Bool.decide_and] at hE
  obtain ⟨ga0, ga1, ga2, ga3, ga4, ga5, ga6, ga7, ga8, gaf, gal⟩ := BG.nine
  obtain ⟨go0, go1, go2, go3, go4, go5, go6, go7, go8, gof, gol⟩ := BO.nine
  by_cases eB : x1 = y1 ∧ x2 = y2
  · rw [decide_eq_true eB] at hE
    have HE := Lib.hid hE
    clear hE
    by_cases e_pl : pl = pl2
    · have f_pl : (pl == pl2) = true := by rw [beq_iff_eq]; exact e_pl
      by_cases e_ra : ra = ra2
      · have f_ra : (ra == ra2) = true := by rw [beq_iff_eq]; exact e_ra
        by_cases e_rb : rb = rb2
        · have f_rb : (rb == rb2) = true := by rw [beq_iff_eq]; exact e_rb
          by_cases e_ph : ph = ph2
          · have f_ph : (ph == ph2) = true := by rw [beq_iff_eq]; exact e_ph
            by_cases e_wi : wi = wi2
            · have f_wi : (wi == wi2) = true := by rw [beq_iff_eq]; exact e_wi
              by_cases e_re : re = re2
              · have f_re : (re == re2) = true := by rw [beq_iff_eq]; exact e_re
                by_cases e_tu : tu = tu2
                · have f_tu : (tu == tu2) = true := by rw [beq_iff_eq]; exact e_tu
                  have hR : decide ((⟨x1, x2, pl, ra, rb, ph, wi, re, tu⟩ : Gm) = ⟨y1, y2, pl2, ra2, rb2, ph2, wi2, re2, tu2⟩) = true := by rw [decide_eq_true_eq]; exact gm_ext eB.1 eB.2 e_pl e_ra e_rb e_ph e_wi e_re e_tu
                  rw [hR]
                  clear hR eB
                  (try clear e_pl)
                  (try clear e_ra)
                  (try clear e_rb)
                  (try clear e_ph)
                  (try clear e_wi)
                  (try clear e_re)
                  (try clear e_tu)
                  go_enter Try.func164, Try.ntmps164
                  go_wp2_with fail
                  refine (HE.out _ hb).mono ?_
                  rintro e w1 ⟨rfl, hb1⟩
                  replace BG := BG.below hb1
                  replace BO := BO.below hb1
                  clear ga0 ga1 ga2 ga3 ga4 ga5 ga6 ga7 ga8 gaf gal
                  clear go0 go1 go2 go3 go4 go5 go6 go7 go8 gof gol
                  obtain ⟨ga0, ga1, ga2, ga3, ga4, ga5, ga6, ga7, ga8, gaf, gal⟩ := BG.nine
                  obtain ⟨go0, go1, go2, go3, go4, go5, go6, go7, go8, gof, gol⟩ := BO.nine
                  go_wp2_with fail
                  go_ret
                  exact ⟨rfl, chain hb hb1⟩
                · have f_tu : (tu == tu2) = false := by rw [beq_eq_false_iff_ne]; exact e_tu
                  have hR : decide ((⟨x1, x2, pl, ra, rb, ph, wi, re, tu⟩ : Gm) = ⟨y1, y2, pl2, ra2, rb2, ph2, wi2, re2, tu2⟩) = false := by rw [decide_eq_false_iff_not]; intro q; simp only [Gm.mk.injEq] at q; first | exact eB ⟨q.1, q.2.1⟩ | exact e_pl q.2.2.1 | exact e_ra q.2.2.2.1 | exact e_rb q.2.2.2.2.1 | exact e_ph q.2.2.2.2.2.1 | exact e_wi q.2.2.2.2.2.2.1 | exact e_re q.2.2.2.2.2.2.2.1 | exact e_tu q.2.2.2.2.2.2.2.2
                  rw [hR]
                  clear hR eB
                  (try clear e_pl)
                  (try clear e_ra)
                  (try clear e_rb)
                  (try clear e_ph)
                  (try clear e_wi)
                  (try clear e_re)
                  (try clear e_tu)
                  go_enter Try.func164, Try.ntmps164
                  go_wp2_with fail
                  refine (HE.out _ hb).mono ?_
                  rintro e w1 ⟨rfl, hb1⟩
                  replace BG := BG.below hb1
                  replace BO := BO.below hb1
                  clear ga0 ga1 ga2 ga3 ga4 ga5 ga6 ga7 ga8 gaf gal
                  clear go0 go1 go2 go3 go4 go5 go6 go7 go8 gof gol
                  obtain ⟨ga0, ga1, ga2, ga3, ga4, ga5, ga6, ga7, ga8, gaf, gal⟩ := BG.nine
                  obtain ⟨go0, go1, go2, go3, go4, go5, go6, go7, go8, gof, gol⟩ := BO.nine
                  go_wp2_with fail
                  go_ret
                  exact ⟨rfl, chain hb hb1⟩
              · have f_re : (re == re2) = false := by rw [beq_eq_false_iff_ne]; exact e_re
                have hR : decide ((⟨x1, x2, pl, ra, rb, ph, wi, re, tu⟩ : Gm) = ⟨y1, y2, pl2, ra2, rb2, ph2, wi2, re2, tu2⟩) = false := by rw [decide_eq_false_iff_not]; intro q; simp only [Gm.mk.injEq] at q; first | exact eB ⟨q.1, q.2.1⟩ | exact e_pl q.2.2.1 | exact e_ra q.2.2.2.1 | exact e_rb q.2.2.2.2.1 | exact e_ph q.2.2.2.2.2.1 | exact e_wi q.2.2.2.2.2.2.1 | exact e_re q.2.2.2.2.2.2.2.1 | exact e_tu q.2.2.2.2.2.2.2.2
                rw [hR]
                clear hR eB
                (try clear e_pl)
                (try clear e_ra)
                (try clear e_rb)
                (try clear e_ph)
                (try clear e_wi)
                (try clear e_re)
                (try clear e_tu)
                go_enter Try.func164, Try.ntmps164
                go_wp2_with fail
                refine (HE.out _ hb).mono ?_
                rintro e w1 ⟨rfl, hb1⟩
                replace BG := BG.below hb1
                replace BO := BO.below hb1
                clear ga0 ga1 ga2 ga3 ga4 ga5 ga6 ga7 ga8 gaf gal
                clear go0 go1 go2 go3 go4 go5 go6 go7 go8 gof gol
                obtain ⟨ga0, ga1, ga2, ga3, ga4, ga5, ga6, ga7, ga8, gaf, gal⟩ := BG.nine
                obtain ⟨go0, go1, go2, go3, go4, go5, go6, go7, go8, gof, gol⟩ := BO.nine
                go_wp2_with fail
                go_ret
                exact ⟨rfl, chain hb hb1⟩
            · have f_wi : (wi == wi2) = false := by rw [beq_eq_false_iff_ne]; exact e_wi
              have hR : decide ((⟨x1, x2, pl, ra, rb, ph, wi, re, tu⟩ : Gm) = ⟨y1, y2, pl2, ra2, rb2, ph2, wi2, re2, tu2⟩) = false := by rw [decide_eq_false_iff_not]; intro q; simp only [Gm.mk.injEq] at q; first | exact eB ⟨q.1, q.2.1⟩ | exact e_pl q.2.2.1 | exact e_ra q.2.2.2.1 | exact e_rb q.2.2.2.2.1 | exact e_ph q.2.2.2.2.2.1 | exact e_wi q.2.2.2.2.2.2.1 | exact e_re q.2.2.2.2.2.2.2.1 | exact e_tu q.2.2.2.2.2.2.2.2
              rw [hR]
              clear hR eB
              (try clear e_pl)
              (try clear e_ra)
              (try clear e_rb)
              (try clear e_ph)
              (try clear e_wi)
              (try clear e_re)
              (try clear e_tu)
              go_enter Try.func164, Try.ntmps164
              go_wp2_with fail
              refine (HE.out _ hb).mono ?_
              rintro e w1 ⟨rfl, hb1⟩
              replace BG := BG.below hb1
              replace BO := BO.below hb1
              clear ga0 ga1 ga2 ga3 ga4 ga5 ga6 ga7 ga8 gaf gal
              clear go0 go1 go2 go3 go4 go5 go6 go7 go8 gof gol
              obtain ⟨ga0, ga1, ga2, ga3, ga4, ga5, ga6, ga7, ga8, gaf, gal⟩ := BG.nine
              obtain ⟨go0, go1, go2, go3, go4, go5, go6, go7, go8, gof, gol⟩ := BO.nine
              go_wp2_with fail
              go_ret
              exact ⟨rfl, chain hb hb1⟩
          · have f_ph : (ph == ph2) = false := by rw [beq_eq_false_iff_ne]; exact e_ph
            have hR : decide ((⟨x1, x2, pl, ra, rb, ph, wi, re, tu⟩ : Gm) = ⟨y1, y2, pl2, ra2, rb2, ph2, wi2, re2, tu2⟩) = false := by rw [decide_eq_false_iff_not]; intro q; simp only [Gm.mk.injEq] at q; first | exact eB ⟨q.1, q.2.1⟩ | exact e_pl q.2.2.1 | exact e_ra q.2.2.2.1 | exact e_rb q.2.2.2.2.1 | exact e_ph q.2.2.2.2.2.1 | exact e_wi q.2.2.2.2.2.2.1 | exact e_re q.2.2.2.2.2.2.2.1 | exact e_tu q.2.2.2.2.2.2.2.2
            rw [hR]
            clear hR eB
            (try clear e_pl)
            (try clear e_ra)
            (try clear e_rb)
            (try clear e_ph)
            (try clear e_wi)
            (try clear e_re)
            (try clear e_tu)
            go_enter Try.func164, Try.ntmps164
            go_wp2_with fail
            refine (HE.out _ hb).mono ?_
            rintro e w1 ⟨rfl, hb1⟩
            replace BG := BG.below hb1
            replace BO := BO.below hb1
            clear ga0 ga1 ga2 ga3 ga4 ga5 ga6 ga7 ga8 gaf gal
            clear go0 go1 go2 go3 go4 go5 go6 go7 go8 gof gol
            obtain ⟨ga0, ga1, ga2, ga3, ga4, ga5, ga6, ga7, ga8, gaf, gal⟩ := BG.nine
            obtain ⟨go0, go1, go2, go3, go4, go5, go6, go7, go8, gof, gol⟩ := BO.nine
            go_wp2_with fail
            go_ret
            exact ⟨rfl, chain hb hb1⟩
        · have f_rb : (rb == rb2) = false := by rw [beq_eq_false_iff_ne]; exact e_rb
          have hR : decide ((⟨x1, x2, pl, ra, rb, ph, wi, re, tu⟩ : Gm) = ⟨y1, y2, pl2, ra2, rb2, ph2, wi2, re2, tu2⟩) = false := by rw [decide_eq_false_iff_not]; intro q; simp only [Gm.mk.injEq] at q; first | exact eB ⟨q.1, q.2.1⟩ | exact e_pl q.2.2.1 | exact e_ra q.2.2.2.1 | exact e_rb q.2.2.2.2.1 | exact e_ph q.2.2.2.2.2.1 | exact e_wi q.2.2.2.2.2.2.1 | exact e_re q.2.2.2.2.2.2.2.1 | exact e_tu q.2.2.2.2.2.2.2.2
          rw [hR]
          clear hR eB
          (try clear e_pl)
          (try clear e_ra)
          (try clear e_rb)
          (try clear e_ph)
          (try clear e_wi)
          (try clear e_re)
          (try clear e_tu)
          go_enter Try.func164, Try.ntmps164
          go_wp2_with fail
          refine (HE.out _ hb).mono ?_
          rintro e w1 ⟨rfl, hb1⟩
          replace BG := BG.below hb1
          replace BO := BO.below hb1
          clear ga0 ga1 ga2 ga3 ga4 ga5 ga6 ga7 ga8 gaf gal
          clear go0 go1 go2 go3 go4 go5 go6 go7 go8 gof gol
          obtain ⟨ga0, ga1, ga2, ga3, ga4, ga5, ga6, ga7, ga8, gaf, gal⟩ := BG.nine
          obtain ⟨go0, go1, go2, go3, go4, go5, go6, go7, go8, gof, gol⟩ := BO.nine
          go_wp2_with fail
          go_ret
          exact ⟨rfl, chain hb hb1⟩
      · have f_ra : (ra == ra2) = false := by rw [beq_eq_false_iff_ne]; exact e_ra
        have hR : decide ((⟨x1, x2, pl, ra, rb, ph, wi, re, tu⟩ : Gm) = ⟨y1, y2, pl2, ra2, rb2, ph2, wi2, re2, tu2⟩) = false := by rw [decide_eq_false_iff_not]; intro q; simp only [Gm.mk.injEq] at q; first | exact eB ⟨q.1, q.2.1⟩ | exact e_pl q.2.2.1 | exact e_ra q.2.2.2.1 | exact e_rb q.2.2.2.2.1 | exact e_ph q.2.2.2.2.2.1 | exact e_wi q.2.2.2.2.2.2.1 | exact e_re q.2.2.2.2.2.2.2.1 | exact e_tu q.2.2.2.2.2.2.2.2
        rw [hR]
        clear hR eB
        (try clear e_pl)
        (try clear e_ra)
        (try clear e_rb)
        (try clear e_ph)
        (try clear e_wi)
        (try clear e_re)
        (try clear e_tu)
        go_enter Try.func164, Try.ntmps164
        go_wp2_with fail
        refine (HE.out _ hb).mono ?_
        rintro e w1 ⟨rfl, hb1⟩
        replace BG := BG.below hb1
        replace BO := BO.below hb1
        clear ga0 ga1 ga2 ga3 ga4 ga5 ga6 ga7 ga8 gaf gal
        clear go0 go1 go2 go3 go4 go5 go6 go7 go8 gof gol
        obtain ⟨ga0, ga1, ga2, ga3, ga4, ga5, ga6, ga7, ga8, gaf, gal⟩ := BG.nine
        obtain ⟨go0, go1, go2, go3, go4, go5, go6, go7, go8, gof, gol⟩ := BO.nine
        go_wp2_with fail
        go_ret
        exact ⟨rfl, chain hb hb1⟩
    · have f_pl : (pl == pl2) = false := by rw [beq_eq_false_iff_ne]; exact e_pl
      have hR : decide ((⟨x1, x2, pl, ra, rb, ph, wi, re, tu⟩ : Gm) = ⟨y1, y2, pl2, ra2, rb2, ph2, wi2, re2, tu2⟩) = false := by rw [decide_eq_false_iff_not]; intro q; simp only [Gm.mk.injEq] at q; first | exact eB ⟨q.1, q.2.1⟩ | exact e_pl q.2.2.1 | exact e_ra q.2.2.2.1 | exact e_rb q.2.2.2.2.1 | exact e_ph q.2.2.2.2.2.1 | exact e_wi q.2.2.2.2.2.2.1 | exact e_re q.2.2.2.2.2.2.2.1 | exact e_tu q.2.2.2.2.2.2.2.2
      rw [hR]
      clear hR eB
      (try clear e_pl)
      (try clear e_ra)
      (try clear e_rb)
      (try clear e_ph)
      (try clear e_wi)
      (try clear e_re)
      (try clear e_tu)
      go_enter Try.func164, Try.ntmps164
      go_wp2_with fail
      refine (HE.out _ hb).mono ?_
      rintro e w1 ⟨rfl, hb1⟩
      replace BG := BG.below hb1
      replace BO := BO.below hb1
      clear ga0 ga1 ga2 ga3 ga4 ga5 ga6 ga7 ga8 gaf gal
      clear go0 go1 go2 go3 go4 go5 go6 go7 go8 gof gol
      obtain ⟨ga0, ga1, ga2, ga3, ga4, ga5, ga6, ga7, ga8, gaf, gal⟩ := BG.nine
      obtain ⟨go0, go1, go2, go3, go4, go5, go6, go7, go8, gof, gol⟩ := BO.nine
      go_wp2_with fail
      go_ret
      exact ⟨rfl, chain hb hb1⟩
  · rw [decide_eq_false eB] at hE
    have HE := Lib.hid hE
    clear hE
    have hR : decide ((⟨x1, x2, pl, ra, rb, ph, wi, re, tu⟩ : Gm) = ⟨y1, y2, pl2, ra2, rb2, ph2, wi2, re2, tu2⟩) = false := by rw [decide_eq_false_iff_not]; intro q; simp only [Gm.mk.injEq] at q; first | exact eB ⟨q.1, q.2.1⟩ | exact e_pl q.2.2.1 | exact e_ra q.2.2.2.1 | exact e_rb q.2.2.2.2.1 | exact e_ph q.2.2.2.2.2.1 | exact e_wi q.2.2.2.2.2.2.1 | exact e_re q.2.2.2.2.2.2.2.1 | exact e_tu q.2.2.2.2.2.2.2.2
    rw [hR]
    clear hR eB
    (try clear e_pl)
    (try clear e_ra)
    (try clear e_rb)
    (try clear e_ph)
    (try clear e_wi)
    (try clear e_re)
    (try clear e_tu)
    go_enter Try.func164, Try.ntmps164
    go_wp2_with fail
    refine (HE.out _ hb).mono ?_
    rintro e w1 ⟨rfl, hb1⟩
    replace BG := BG.below hb1
    replace BO := BO.below hb1
    clear ga0 ga1 ga2 ga3 ga4 ga5 ga6 ga7 ga8 gaf gal
    clear go0 go1 go2 go3 go4 go5 go6 go7 go8 gof gol
    obtain ⟨ga0, ga1, ga2, ga3, ga4, ga5, ga6, ga7, ga8, gaf, gal⟩ := BG.nine
    obtain ⟨go0, go1, go2, go3, go4, go5, go6, go7, go8, gof, gol⟩ := BO.nine
    go_wp2_with fail
    go_ret
    exact ⟨rfl, chain hb hb1⟩
end Go.Proofs.Ytokjkcnjmfbfiaa
