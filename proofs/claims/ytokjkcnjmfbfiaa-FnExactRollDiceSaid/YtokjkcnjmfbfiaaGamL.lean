/- The law's own helpers on games: sizes, a copy, comparing, marking. -/
import Derived.Test.YtokjkcnjmfbfiaaGam
import Derived.Test.YtokjkcnjmfbfiaaI64
import Derived.Test.YtokjkcnjmfbfiaaBoardLaws
namespace Go.Proofs.Ytokjkcnjmfbfiaa
open Go.ChangeShapes Go.WideShapes Go.ChangeAt Go.RowKit
set_option linter.unusedVariables false
set_option linter.unusedSimpArgs false
set_option maxRecDepth 4000

theorem below3 {B g : Nat} {w w2 : World} (h : Below B w w2) (hg : B ≤ g) (a b c : Value) : Below B w (((w2.setCell ⟨g, 0, none⟩ a).setCell ⟨g, 1, none⟩ b).setCell ⟨g, 2, none⟩ c) :=
  ((h.setCell hg _).setCell hg _).setCell hg _
theorem toRoll_gm (ra rb : Int) (w : World) :
    Calls Try.prog 19 #[.agg #[.int .i64 ra, .int .i64 rb]] w fun e w' => e = .returned (.agg #[.int .i64 ra, .int .i64 rb]) ∧ Below w.heap.size w w' := by
  go_enter Try.func19, Try.ntmps19
  go_wp2
  refine bodyPost_ret (v := .agg #[.int .i64 ra, .int .i64 rb]) (by simp [results, Try.results19, go_sem]) rfl ⟨rfl, ?_⟩
  exact (((Below.refl _ _).alloc (Nat.le_refl _) _).alloc (by simp) _).alloc (by simp; omega) _
/-- A game of the call's own, its board in two rows. -/
def GameNew (G : Gm) (w : World) (e : Ending) (w' : World) : Prop :=
  ∃ g1 g2, e = .returned (.agg #[.slice (some ⟨g1, 0, none⟩) G.xs.length G.xs.length, .slice (some ⟨g2, 0, none⟩) G.ys.length G.ys.length, .int .i64 G.pl, .int .i64 G.ra, .int .i64 G.rb, .int .i64 G.ph, .int .i64 G.wi, .int .i64 G.re, .int .i64 G.tu]) ∧ w.heap.size ≤ g1 ∧ g1 < g2 ∧ Row w' g1 G.xs ∧ Row w' g2 G.ys ∧ Below w.heap.size w w'
set_option maxRecDepth 8000 in
set_option maxHeartbeats 2000000 in
theorem toGame_any (G : Gm) (a1 a2 : Option Addr) (c1 c2 : Nat) (w : World) (l1 : G.xs.length ≤ 1048576) (l2 : G.ys.length ≤ 1048576) (r1 : IRow w a1 G.xs) (r2 : IRow w a2 G.ys) :
    Calls Try.prog 48 #[.agg #[.slice a1 G.xs.length c1, .slice a2 G.ys.length c2, .int .i64 G.pl, .int .i64 G.ra, .int .i64 G.rb, .int .i64 G.ph, .int .i64 G.wi, .int .i64 G.re, .int .i64 G.tu]] w (GameNew G w) := by
  obtain ⟨BG, BR, BO, hb, hz⟩ := three_new w #[.slice a1 G.xs.length c1, .slice a2 G.ys.length c2, .int .i64 G.pl, .int .i64 G.ra, .int .i64 G.rb, .int .i64 G.ph, .int .i64 G.wi, .int .i64 G.re, .int .i64 G.tu] #[.slice none 0 0, .slice none 0 0, .int .i64 0, .int .i64 0, .int .i64 0, .int .i64 0, .int .i64 0, .int .i64 0, .int .i64 0] #[.slice none 0 0, .slice none 0 0, .int .i64 0, .int .i64 0, .int .i64 0, .int .i64 0, .int .i64 0, .int .i64 0, .int .i64 0] 66 70 70
  have hz1 : w.heap.size + 1 + 1 + 1 ≤ (((w.alloc (.cells #[.slice a1 G.xs.length c1, .slice a2 G.ys.length c2, .int .i64 G.pl, .int .i64 G.ra, .int .i64 G.rb, .int .i64 G.ph, .int .i64 G.wi, .int .i64 G.re, .int .i64 G.tu] 66)).alloc (.cells #[.slice none 0 0, .slice none 0 0, .int .i64 0, .int .i64 0, .int .i64 0, .int .i64 0, .int .i64 0, .int .i64 0, .int .i64 0] 70)).alloc (.cells #[.slice none 0 0, .slice none 0 0, .int .i64 0, .int .i64 0, .int .i64 0, .int .i64 0, .int .i64 0, .int .i64 0, .int .i64 0] 70)).heap.size := by rw [hz]; omega
  clear hz
  replace r1 := r1.below hb
  replace r2 := r2.below hb
  go_enter Try.func48, Try.ntmps48
  go_wp2_with fail
  generalize (((w.alloc (.cells #[.slice a1 G.xs.length c1, .slice a2 G.ys.length c2, .int .i64 G.pl, .int .i64 G.ra, .int .i64 G.rb, .int .i64 G.ph, .int .i64 G.wi, .int .i64 G.re, .int .i64 G.tu] 66)).alloc (.cells #[.slice none 0 0, .slice none 0 0, .int .i64 0, .int .i64 0, .int .i64 0, .int .i64 0, .int .i64 0, .int .i64 0, .int .i64 0] 70)).alloc (.cells #[.slice none 0 0, .slice none 0 0, .int .i64 0, .int .i64 0, .int .i64 0, .int .i64 0, .int .i64 0, .int .i64 0, .int .i64 0] 70)) = v0 at *
  refine (toBoard_any a1 a2 _ _ c1 c2 G.xs G.ys v0 rfl rfl l1 l2 r1 r2).mono ?_
  rintro e w1 ⟨g1, g2, rfl, hg1, hg2, R1, R2, hb1⟩
  replace BG := BG.below hb1
  replace BR := BR.below hb1
  replace BO := BO.below hb1
  replace hb := chain hb hb1
  have hl1 := R1.lt
  have hl2 := R2.lt
  obtain ⟨ga0, ga1, ga2, ga3, ga4, ga5, ga6, ga7, ga8, gaf, gal⟩ := BG.nine
  obtain ⟨go0, go1, go2, go3, go4, go5, go6, go7, go8, gof, gol⟩ := BO.nine
  go_wp2_with fail
  clear ga0 ga1 ga2 ga3 ga4 ga5 ga6 ga7 ga8 gaf gal
  clear go0 go1 go2 go3 go4 go5 go6 go7 go8 gof gol
  have BG3 := BG.farG3 (B := w.heap.size + 1 + 1) (by omega) (.slice (some ⟨g1, 0, none⟩) G.xs.length G.xs.length) (.slice (some ⟨g2, 0, none⟩) G.ys.length G.ys.length) (.int .i64 G.pl)
  have BR3 := BR.farG3 (B := w.heap.size + 1 + 1) (by omega) (.slice (some ⟨g1, 0, none⟩) G.xs.length G.xs.length) (.slice (some ⟨g2, 0, none⟩) G.ys.length G.ys.length) (.int .i64 G.pl)
  have R13 := R1.farG3 (B := w.heap.size + 1 + 1) (by omega) (.slice (some ⟨g1, 0, none⟩) G.xs.length G.xs.length) (.slice (some ⟨g2, 0, none⟩) G.ys.length G.ys.length) (.int .i64 G.pl)
  have R23 := R2.farG3 (B := w.heap.size + 1 + 1) (by omega) (.slice (some ⟨g1, 0, none⟩) G.xs.length G.xs.length) (.slice (some ⟨g2, 0, none⟩) G.ys.length G.ys.length) (.int .i64 G.pl)
  have hb3 := Below.farG3 hb (B := w.heap.size + 1 + 1) (by omega) (.slice (some ⟨g1, 0, none⟩) G.xs.length G.xs.length) (.slice (some ⟨g2, 0, none⟩) G.ys.length G.ys.length) (.int .i64 G.pl)
  have BO3 := BO.setG3 (.slice (some ⟨g1, 0, none⟩) G.xs.length G.xs.length) (.slice (some ⟨g2, 0, none⟩) G.ys.length G.ys.length) (.int .i64 G.pl)
  clear BG BR R1 R2 hb
  clear BO
  generalize (((w1.setCell ⟨w.heap.size + 1 + 1, 0, none⟩ (.slice (some ⟨g1, 0, none⟩) G.xs.length G.xs.length)).setCell ⟨w.heap.size + 1 + 1, 1, none⟩ (.slice (some ⟨g2, 0, none⟩) G.ys.length G.ys.length)).setCell ⟨w.heap.size + 1 + 1, 2, none⟩ (.int .i64 G.pl)) = w3 at *
  have BO := BO3
  have BG := BG3
  have BR := BR3
  have R1 := R13
  have R2 := R23
  have hb := hb3
  clear BO3 BG3 BR3 R13 R23 hb3
  obtain ⟨ga0, ga1, ga2, ga3, ga4, ga5, ga6, ga7, ga8, gaf, gal⟩ := BG.nine
  obtain ⟨go0, go1, go2, go3, go4, go5, go6, go7, go8, gof, gol⟩ := BO.nine
  refine (toRoll_gm _ _ _).mono ?_
  rintro e w4 ⟨rfl, hb4⟩
  clear ga0 ga1 ga2 ga3 ga4 ga5 ga6 ga7 ga8 gaf gal
  clear go0 go1 go2 go3 go4 go5 go6 go7 go8 gof gol
  replace BG := BG.below hb4
  replace BR := BR.below hb4
  replace BO := BO.below hb4
  replace R1 := R1.below hb4
  replace R2 := R2.below hb4
  replace hb := chain hb hb4
  obtain ⟨ga0, ga1, ga2, ga3, ga4, ga5, ga6, ga7, ga8, gaf, gal⟩ := BG.nine
  obtain ⟨go0, go1, go2, go3, go4, go5, go6, go7, go8, gof, gol⟩ := BO.nine
  obtain ⟨z0, z1, z2, z3, z4, z5, z6, z7, z8, zf, zl⟩ := BR.nine
  go_wp2_with fail
  have M6 := BR.farG6 (B := w.heap.size + 1 + 1) (by omega) (.int .i64 G.ra) (.int .i64 G.rb) (.int .i64 G.ph) (.int .i64 G.wi) (.int .i64 G.re) (.int .i64 G.tu)
  have R16 := R1.farG6 (B := w.heap.size + 1 + 1) (by omega) (.int .i64 G.ra) (.int .i64 G.rb) (.int .i64 G.ph) (.int .i64 G.wi) (.int .i64 G.re) (.int .i64 G.tu)
  have R26 := R2.farG6 (B := w.heap.size + 1 + 1) (by omega) (.int .i64 G.ra) (.int .i64 G.rb) (.int .i64 G.ph) (.int .i64 G.wi) (.int .i64 G.re) (.int .i64 G.tu)
  have hb6 := Below.farG6 hb (B := w.heap.size + 1 + 1) (by omega) (.int .i64 G.ra) (.int .i64 G.rb) (.int .i64 G.ph) (.int .i64 G.wi) (.int .i64 G.re) (.int .i64 G.tu)
  have MR := M6.setG9 (.slice (some ⟨g1, 0, none⟩) G.xs.length G.xs.length) (.slice (some ⟨g2, 0, none⟩) G.ys.length G.ys.length) (.int .i64 G.pl) (.int .i64 G.ra) (.int .i64 G.rb) (.int .i64 G.ph) (.int .i64 G.wi) (.int .i64 G.re) (.int .i64 G.tu)
  have R1e := R16.farG9 (B := w.heap.size + 1) (by omega) (.slice (some ⟨g1, 0, none⟩) G.xs.length G.xs.length) (.slice (some ⟨g2, 0, none⟩) G.ys.length G.ys.length) (.int .i64 G.pl) (.int .i64 G.ra) (.int .i64 G.rb) (.int .i64 G.ph) (.int .i64 G.wi) (.int .i64 G.re) (.int .i64 G.tu)
  have R2e := R26.farG9 (B := w.heap.size + 1) (by omega) (.slice (some ⟨g1, 0, none⟩) G.xs.length G.xs.length) (.slice (some ⟨g2, 0, none⟩) G.ys.length G.ys.length) (.int .i64 G.pl) (.int .i64 G.ra) (.int .i64 G.rb) (.int .i64 G.ph) (.int .i64 G.wi) (.int .i64 G.re) (.int .i64 G.tu)
  have hbe := Below.farG9 hb6 (B := w.heap.size + 1) (by omega) (.slice (some ⟨g1, 0, none⟩) G.xs.length G.xs.length) (.slice (some ⟨g2, 0, none⟩) G.ys.length G.ys.length) (.int .i64 G.pl) (.int .i64 G.ra) (.int .i64 G.rb) (.int .i64 G.ph) (.int .i64 G.wi) (.int .i64 G.re) (.int .i64 G.tu)
  clear ga0 ga1 ga2 ga3 ga4 ga5 ga6 ga7 ga8 gaf gal
  clear go0 go1 go2 go3 go4 go5 go6 go7 go8 gof gol
  clear z0 z1 z2 z3 z4 z5 z6 z7 z8 zf zl BG BR BO R1 R2 hb M6 R16 R26 hb6
  generalize (((((((((((((((w4.setCell ⟨w.heap.size + 1 + 1, 3, none⟩ (.int .i64 G.ra)).setCell ⟨w.heap.size + 1 + 1, 4, none⟩ (.int .i64 G.rb)).setCell ⟨w.heap.size + 1 + 1, 5, none⟩ (.int .i64 G.ph)).setCell ⟨w.heap.size + 1 + 1, 6, none⟩ (.int .i64 G.wi)).setCell ⟨w.heap.size + 1 + 1, 7, none⟩ (.int .i64 G.re)).setCell ⟨w.heap.size + 1 + 1, 8, none⟩ (.int .i64 G.tu)).setCell ⟨w.heap.size + 1, 0, none⟩ (.slice (some ⟨g1, 0, none⟩) G.xs.length G.xs.length)).setCell ⟨w.heap.size + 1, 1, none⟩ (.slice (some ⟨g2, 0, none⟩) G.ys.length G.ys.length)).setCell ⟨w.heap.size + 1, 2, none⟩ (.int .i64 G.pl)).setCell ⟨w.heap.size + 1, 3, none⟩ (.int .i64 G.ra)).setCell ⟨w.heap.size + 1, 4, none⟩ (.int .i64 G.rb)).setCell ⟨w.heap.size + 1, 5, none⟩ (.int .i64 G.ph)).setCell ⟨w.heap.size + 1, 6, none⟩ (.int .i64 G.wi)).setCell ⟨w.heap.size + 1, 7, none⟩ (.int .i64 G.re)).setCell ⟨w.heap.size + 1, 8, none⟩ (.int .i64 G.tu)) = we at *
  obtain ⟨z0, z1, z2, z3, z4, z5, z6, z7, z8, zf, zl⟩ := MR.nine
  refine bodyPost_ret (v := .agg #[.slice (some ⟨g1, 0, none⟩) G.xs.length G.xs.length, .slice (some ⟨g2, 0, none⟩) G.ys.length G.ys.length, .int .i64 G.pl, .int .i64 G.ra, .int .i64 G.rb, .int .i64 G.ph, .int .i64 G.wi, .int .i64 G.re, .int .i64 G.tu]) (by simp [results, Try.results48, go_sem, z0, z1, z2, z3, z4, z5, z6, z7, z8]) rfl ?_
  exact ⟨g1, g2, rfl, by omega, by omega, R1e, R2e, hbe⟩
theorem szGame_any (G : Gm) (a1 a2 : Option Addr) (c1 c2 : Nat) (left : Int) (w : World) (h0 : 0 ≤ left) (h1 : left ≤ 1000000000) (b1 : G.xs.length ≤ 9223372036854775807) (b2 : G.ys.length ≤ 9223372036854775807) :
    Calls Try.prog 46 #[.agg #[.slice a1 G.xs.length c1, .slice a2 G.ys.length c2, .int .i64 G.pl, .int .i64 G.ra, .int .i64 G.rb, .int .i64 G.ph, .int .i64 G.wi, .int .i64 G.re, .int .i64 G.tu], .int .i64 left] w fun e w' => e = .returned (.int .i64 (szAfter left G.xs.length G.ys.length)) ∧ Below w.heap.size w w' := by
  have hb : Below w.heap.size w (w.alloc (.cells #[.slice a1 G.xs.length c1, .slice a2 G.ys.length c2, .int .i64 G.pl, .int .i64 G.ra, .int .i64 G.rb, .int .i64 G.ph, .int .i64 G.wi, .int .i64 G.re, .int .i64 G.tu] 66)) := (Below.refl _ _).alloc (Nat.le_refl _) _
  have BG := Blk.new w #[.slice a1 G.xs.length c1, .slice a2 G.ys.length c2, .int .i64 G.pl, .int .i64 G.ra, .int .i64 G.rb, .int .i64 G.ph, .int .i64 G.wi, .int .i64 G.re, .int .i64 G.tu] 66
  obtain ⟨ga0, ga1, ga2, ga3, ga4, ga5, ga6, ga7, ga8, gaf, gal⟩ := BG.nine
  have hz := fun W => szBoard_any a1 a2 G.xs.length G.ys.length c1 c2 left W h0 h1 b1 b2
  have hs : szAfter left G.xs.length G.ys.length = -1 ∨ 0 ≤ szAfter left G.xs.length G.ys.length := by
    unfold szAfter
    split
    · exact .inl rfl
    · split
      · exact .inl rfl
      · right; omega
  obtain ⟨z, hzz⟩ : ∃ z, szAfter left G.xs.length G.ys.length = z := ⟨_, rfl⟩
  rw [hzz] at hz hs ⊢
  have HZ := Lib.hid hz
  clear hz hzz
  rcases hs with rfl | hs
  · go_enter Try.func46, Try.ntmps46
    go_wp2_with fail
    refine (HZ.out _).mono ?_
    rintro e w1 ⟨rfl, hb1⟩
    go_wp2_with fail
    go_ret
    exact ⟨rfl, chain hb hb1⟩
  · have hs' : ¬ z < 0 := by omega
    go_enter Try.func46, Try.ntmps46
    go_wp2_with fail
    refine (HZ.out _).mono ?_
    rintro e w1 ⟨rfl, hb1⟩
    go_wp2_with fail
    go_ret
    exact ⟨rfl, chain hb hb1⟩
theorem eqRoll_gm (ra rb : Int) (w : World) :
    Calls Try.prog 93 #[.agg #[.int .i64 ra, .int .i64 rb], .agg #[.int .i64 ra, .int .i64 rb]] w fun e w' => e = .returned (.bool true) ∧ Below w.heap.size w w' := by
  have hb : Below w.heap.size w ((w.alloc (.cells #[.int .i64 ra, .int .i64 rb] 36)).alloc (.cells #[.int .i64 ra, .int .i64 rb] 36)) := ((Below.refl _ _).alloc (Nat.le_refl _) _).alloc (by simp) _
  go_enter Try.func93, Try.ntmps93
  go_wp2
  go_ret
  exact ⟨rfl, hb⟩
set_option maxRecDepth 8000 in
set_option maxHeartbeats 1000000 in
theorem eqGame_same (G : Gm) (a1 a2 b1 b2 : Option Addr) (c1 c2 d1 d2 : Nat) (w : World) (l1 : G.xs.length ≤ 1048576) (l2 : G.ys.length ≤ 1048576) (r1 : IRow w a1 G.xs) (r2 : IRow w a2 G.ys) (s1 : IRow w b1 G.xs) (s2 : IRow w b2 G.ys) :
    Calls Try.prog 50 #[.agg #[.slice a1 G.xs.length c1, .slice a2 G.ys.length c2, .int .i64 G.pl, .int .i64 G.ra, .int .i64 G.rb, .int .i64 G.ph, .int .i64 G.wi, .int .i64 G.re, .int .i64 G.tu], .agg #[.slice b1 G.xs.length d1, .slice b2 G.ys.length d2, .int .i64 G.pl, .int .i64 G.ra, .int .i64 G.rb, .int .i64 G.ph, .int .i64 G.wi, .int .i64 G.re, .int .i64 G.tu]] w fun e w' => e = .returned (.bool true) ∧ Below w.heap.size w w' := by
  obtain ⟨BG, BO, hb, hz⟩ := two_new w #[.slice a1 G.xs.length c1, .slice a2 G.ys.length c2, .int .i64 G.pl, .int .i64 G.ra, .int .i64 G.rb, .int .i64 G.ph, .int .i64 G.wi, .int .i64 G.re, .int .i64 G.tu] #[.slice b1 G.xs.length d1, .slice b2 G.ys.length d2, .int .i64 G.pl, .int .i64 G.ra, .int .i64 G.rb, .int .i64 G.ph, .int .i64 G.wi, .int .i64 G.re, .int .i64 G.tu] 70 70
  clear hz
  have hE := fun (W : World) (hW : Below w.heap.size w W) => eqBoard_same a1 a2 b1 b2 _ _ c1 c2 d1 d2 G.xs G.ys W rfl rfl l1 l2 (r1.below hW) (r2.below hW) (s1.below hW) (s2.below hW)
  have HE := Lib.hid hE
  clear hE
  obtain ⟨ga0, ga1, ga2, ga3, ga4, ga5, ga6, ga7, ga8, gaf, gal⟩ := BG.nine
  obtain ⟨go0, go1, go2, go3, go4, go5, go6, go7, go8, gof, gol⟩ := BO.nine
  go_enter Try.func50, Try.ntmps50
  go_wp2_with fail
  refine (HE.out _ hb).mono ?_
  rintro e w1 ⟨rfl, hb1⟩
  clear ga0 ga1 ga2 ga3 ga4 ga5 ga6 ga7 ga8 gaf gal
  clear go0 go1 go2 go3 go4 go5 go6 go7 go8 gof gol
  replace BG := BG.below hb1
  replace BO := BO.below hb1
  obtain ⟨ga0, ga1, ga2, ga3, ga4, ga5, ga6, ga7, ga8, gaf, gal⟩ := BG.nine
  obtain ⟨go0, go1, go2, go3, go4, go5, go6, go7, go8, gof, gol⟩ := BO.nine
  go_wp2_with fail
  refine (eqRoll_gm _ _ _).mono ?_
  rintro e w2 ⟨rfl, hb2⟩
  clear ga0 ga1 ga2 ga3 ga4 ga5 ga6 ga7 ga8 gaf gal
  clear go0 go1 go2 go3 go4 go5 go6 go7 go8 gof gol
  replace BG := BG.below hb2
  replace BO := BO.below hb2
  obtain ⟨ga0, ga1, ga2, ga3, ga4, ga5, ga6, ga7, ga8, gaf, gal⟩ := BG.nine
  obtain ⟨go0, go1, go2, go3, go4, go5, go6, go7, go8, gof, gol⟩ := BO.nine
  go_wp2_with fail
  go_ret
  exact ⟨rfl, chain (chain hb hb1) hb2⟩
theorem markGame_own (lo hi : Nat) (G : Gm) (a1 a2 : Option Addr) (c1 c2 : Nat) (k : Int) (w : World) (l1 : G.xs.length ≤ 1048576) (l2 : G.ys.length ≤ 1048576) (k0 : 0 ≤ k) (k1 : k ≤ 100000000) (hhi : hi ≤ w.heap.size) (h : OBd lo hi w a1 a2 G.xs G.ys) :
    Calls Try.prog 53 #[.agg #[.slice a1 G.xs.length c1, .slice a2 G.ys.length c2, .int .i64 G.pl, .int .i64 G.ra, .int .i64 G.rb, .int .i64 G.ph, .int .i64 G.wi, .int .i64 G.re, .int .i64 G.tu], .int .i64 k] w fun e w' => e = .returned (.int .i64 (k + G.xs.length + G.ys.length)) ∧ OBd lo hi w' a1 a2 (marks k G.xs.length) (marks (k + G.xs.length) G.ys.length) ∧ Same lo hi w w' := by
  have hb : Below w.heap.size w (w.alloc (.cells #[.slice a1 G.xs.length c1, .slice a2 G.ys.length c2, .int .i64 G.pl, .int .i64 G.ra, .int .i64 G.rb, .int .i64 G.ph, .int .i64 G.wi, .int .i64 G.re, .int .i64 G.tu] 70)) := (Below.refl _ _).alloc (Nat.le_refl _) _
  have BG := Blk.new w #[.slice a1 G.xs.length c1, .slice a2 G.ys.length c2, .int .i64 G.pl, .int .i64 G.ra, .int .i64 G.rb, .int .i64 G.ph, .int .i64 G.wi, .int .i64 G.re, .int .i64 G.tu] 70
  obtain ⟨ga0, ga1, ga2, ga3, ga4, ga5, ga6, ga7, ga8, gaf, gal⟩ := BG.nine
  go_enter Try.func53, Try.ntmps53
  go_wp2_with fail
  refine (markBoard_own lo hi a1 a2 _ _ c1 c2 G.xs G.ys k _ rfl rfl l1 l2 k0 k1 (h.below hb)).mono ?_
  rintro e w1 ⟨rfl, hO, hs1⟩
  go_wp2_with fail
  go_ret
  exact ⟨rfl, hO, hs1.os.trans hb.os, hs1.tape.trans hb.tape, hs1.output.trans hb.output, Nat.le_trans hb.size hs1.size, fun i hi' ho => (hs1.block i (Nat.lt_of_lt_of_le hi' hb.size) ho).trans (hb.block i hi')⟩
theorem heldGame_any (G : Gm) (a1 a2 : Option Addr) (c1 c2 : Nat) (k : Int) (w : World) (l1 : G.xs.length ≤ 1048576) (l2 : G.ys.length ≤ 1048576) (k0 : 0 ≤ k) (k1 : k ≤ 100000000) (r1 : IRow w a1 (marks k G.xs.length)) (r2 : IRow w a2 (marks (k + G.xs.length) G.ys.length)) :
    Calls Try.prog 54 #[.agg #[.slice a1 G.xs.length c1, .slice a2 G.ys.length c2, .int .i64 G.pl, .int .i64 G.ra, .int .i64 G.rb, .int .i64 G.ph, .int .i64 G.wi, .int .i64 G.re, .int .i64 G.tu], .int .i64 k] w fun e w' => e = .returned (.int .i64 (k + G.xs.length + G.ys.length)) ∧ Below w.heap.size w w' := by
  have hb : Below w.heap.size w (w.alloc (.cells #[.slice a1 G.xs.length c1, .slice a2 G.ys.length c2, .int .i64 G.pl, .int .i64 G.ra, .int .i64 G.rb, .int .i64 G.ph, .int .i64 G.wi, .int .i64 G.re, .int .i64 G.tu] 70)) := (Below.refl _ _).alloc (Nat.le_refl _) _
  have BG := Blk.new w #[.slice a1 G.xs.length c1, .slice a2 G.ys.length c2, .int .i64 G.pl, .int .i64 G.ra, .int .i64 G.rb, .int .i64 G.ph, .int .i64 G.wi, .int .i64 G.re, .int .i64 G.tu] 70
  obtain ⟨ga0, ga1, ga2, ga3, ga4, ga5, ga6, ga7, ga8, gaf, gal⟩ := BG.nine
  have q1 : ¬ (k + (G.xs.length : Int) + (G.ys.length : Int) < 0) := by omega
  go_enter Try.func54, Try.ntmps54
  go_wp2_with fail
  refine (heldBoard_any a1 a2 _ _ c1 c2 k _ l1 l2 k0 k1 (r1.below hb) (r2.below hb)).mono ?_
  rintro e w1 ⟨rfl, hb1⟩
  go_wp2_with fail
  go_ret
  exact ⟨rfl, chain hb hb1⟩
end Go.Proofs.Ytokjkcnjmfbfiaa
