/- Contracts of the program on games behind a roll and behind a resignation. -/
import Derived.Test.Ytokjkcnjmfbfiaa08i
namespace Go.Proofs.Ytokjkcnjmfbfiaa
open Go.ChangeShapes Go.WideShapes Go.ChangeAt Go.RowKit
set_option linter.unusedVariables false
set_option linter.unusedSimpArgs false
set_option maxRecDepth 4000

theorem Blk.setGR {W : World} {B : Nat} {q0 q1 q2 q3 q4 q5 q6 q7 q8 : Value} {t : TypeId} (h : Blk W B #[q0, q1, q2, q3, q4, q5, q6, q7, q8] t) (u3 u4 u5 : Value) : Blk (((W.setCell ⟨B, 3, none⟩ (u3)).setCell ⟨B, 4, none⟩ (u4)).setCell ⟨B, 5, none⟩ (u5)) B #[q0, q1, q2, u3, u4, u5, q6, q7, q8] t := by
  have := ((h.set (i := 3) u3).set (i := 4) u4).set (i := 5) u5
  simp only [List.setIfInBounds_toArray, List.set_cons_zero, List.set_cons_succ] at this
  exact this
theorem Blk.farGR {W : World} {B g : Nat} {vs : Array Value} {t : TypeId} (h : Blk W g vs t) (hne : g ≠ B) (u3 u4 u5 : Value) : Blk (((W.setCell ⟨B, 3, none⟩ (u3)).setCell ⟨B, 4, none⟩ (u4)).setCell ⟨B, 5, none⟩ (u5)) g vs t := ((h.other hne).other hne).other hne
theorem Row.farGR {W : World} {B g : Nat} {xs : List Int} (h : Row W g xs) (hne : g ≠ B) (u3 u4 u5 : Value) : Row (((W.setCell ⟨B, 3, none⟩ (u3)).setCell ⟨B, 4, none⟩ (u4)).setCell ⟨B, 5, none⟩ (u5)) g xs := ((h.other hne).other hne).other hne
theorem Below.farGR {w W : World} {lo B : Nat} (h : Below lo w W) (hB : lo ≤ B) (u3 u4 u5 : Value) : Below lo w (((W.setCell ⟨B, 3, none⟩ (u3)).setCell ⟨B, 4, none⟩ (u4)).setCell ⟨B, 5, none⟩ (u5)) := ((h.setCell (p := ⟨B, 3, none⟩) hB _).setCell (p := ⟨B, 4, none⟩) hB _).setCell (p := ⟨B, 5, none⟩) hB _
theorem size_farGR (W : World) (B : Nat) (u3 u4 u5 : Value) : (((W.setCell ⟨B, 3, none⟩ (u3)).setCell ⟨B, 4, none⟩ (u4)).setCell ⟨B, 5, none⟩ (u5)).heap.size = W.heap.size := by simp
theorem Blk.setGW {W : World} {B : Nat} {q0 q1 q2 q3 q4 q5 q6 q7 q8 : Value} {t : TypeId} (h : Blk W B #[q0, q1, q2, q3, q4, q5, q6, q7, q8] t) (u6 u7 : Value) : Blk ((W.setCell ⟨B, 6, none⟩ (u6)).setCell ⟨B, 7, none⟩ (u7)) B #[q0, q1, q2, q3, q4, q5, u6, u7, q8] t := by
  have := (h.set (i := 6) u6).set (i := 7) u7
  simp only [List.setIfInBounds_toArray, List.set_cons_zero, List.set_cons_succ] at this
  exact this
theorem Below.farGW {w W : World} {lo B : Nat} (h : Below lo w W) (hB : lo ≤ B) (u6 u7 : Value) : Below lo w ((W.setCell ⟨B, 6, none⟩ (u6)).setCell ⟨B, 7, none⟩ (u7)) := (h.setCell (p := ⟨B, 6, none⟩) hB _).setCell (p := ⟨B, 7, none⟩) hB _
set_option maxRecDepth 8000 in
set_option maxHeartbeats 2000000 in
theorem rolled_any (a1 a2 : Option Addr) (n1 n2 c1 c2 : Nat) (xs ys : List Int) (pl ra rb ph wi re tu : Int) (qa qb : Int) (w : World) (h1 : xs.length = n1) (h2 : ys.length = n2) (l1 : 0 < n1) (l2 : 0 < n2) (m1 : n1 ≤ 1048576) (m2 : n2 ≤ 1048576) (r1 : IRow w a1 xs) (r2 : IRow w a2 ys) :
    Calls Try.prog 103 #[.agg #[.slice a1 n1 c1, .slice a2 n2 c2, .int .i64 pl, .int .i64 ra, .int .i64 rb, .int .i64 ph, .int .i64 wi, .int .i64 re, .int .i64 tu], .agg #[.int .i64 qa, .int .i64 qb]] w (GameOwn xs ys n1 n2 pl qa qb 2 wi re tu w) := by
  have hC := fun (W : World) (r1 : IRow W a1 xs) (r2 : IRow W a2 ys) => gameCopied_any a1 a2 n1 n2 c1 c2 xs ys pl ra rb ph wi re tu W h1 h2 l1 l2 m1 m2 r1 r2
  have HC := Lib.hid hC
  clear hC
  obtain ⟨BG, BR, BO, hb, hz⟩ := three_new w #[.slice a1 n1 c1, .slice a2 n2 c2, .int .i64 pl, .int .i64 ra, .int .i64 rb, .int .i64 ph, .int .i64 wi, .int .i64 re, .int .i64 tu] #[.int .i64 qa, .int .i64 qb] #[.slice none 0 0, .slice none 0 0, .int .i64 0, .int .i64 0, .int .i64 0, .int .i64 0, .int .i64 0, .int .i64 0, .int .i64 0] 70 36 70
  have hz1 : w.heap.size + 1 + 1 + 1 ≤ (((w.alloc (.cells #[.slice a1 n1 c1, .slice a2 n2 c2, .int .i64 pl, .int .i64 ra, .int .i64 rb, .int .i64 ph, .int .i64 wi, .int .i64 re, .int .i64 tu] 70)).alloc (.cells #[.int .i64 qa, .int .i64 qb] 36)).alloc (.cells #[.slice none 0 0, .slice none 0 0, .int .i64 0, .int .i64 0, .int .i64 0, .int .i64 0, .int .i64 0, .int .i64 0, .int .i64 0] 70)).heap.size := by rw [hz]; omega
  clear hz
  replace r1 := r1.below hb
  replace r2 := r2.below hb
  go_enter Try.func103, Try.ntmps103
  obtain ⟨ga0, ga1, ga2, ga3, ga4, ga5, ga6, ga7, ga8, gaf, gal⟩ := BG.nine
  obtain ⟨y0, y1, yf, yl⟩ := BR.two
  go_wp2_with fail
  clear ga0 ga1 ga2 ga3 ga4 ga5 ga6 ga7 ga8 gaf gal
  clear y0 y1 yf yl
  generalize (((w.alloc (.cells #[.slice a1 n1 c1, .slice a2 n2 c2, .int .i64 pl, .int .i64 ra, .int .i64 rb, .int .i64 ph, .int .i64 wi, .int .i64 re, .int .i64 tu] 70)).alloc (.cells #[.int .i64 qa, .int .i64 qb] 36)).alloc (.cells #[.slice none 0 0, .slice none 0 0, .int .i64 0, .int .i64 0, .int .i64 0, .int .i64 0, .int .i64 0, .int .i64 0, .int .i64 0] 70)) = v0 at *
  obtain ⟨q0_BG, q1_BG, q2_BG, q3_BG, q4_BG, q5_BG, q6_BG, q7_BG, q8_BG, qf_BG, ql_BG⟩ := BG.nine
  obtain ⟨q0_BR, q1_BR, qf_BR, ql_BR⟩ := BR.two
  go_wp2_with fail
  clear q0_BG q1_BG q2_BG q3_BG q4_BG q5_BG q6_BG q7_BG q8_BG qf_BG ql_BG
  clear q0_BR q1_BR qf_BR ql_BR
  refine (HC.out _ r1 r2).mono ?_
  rintro e w1 ⟨b1, b2, rfl, hne, hq1, hq2, R1, R2, hb1⟩
  replace BG := BG.below hb1
  replace BR := BR.below hb1
  replace BO := BO.below hb1
  replace r1 := r1.below hb1
  replace r2 := r2.below hb1
  have hz1 := hb1.size
  replace hb := chain hb hb1
  clear hb1
  have hl1 := R1.lt
  have hl2 := R2.lt
  have dd0 : w1.heap.size ≠ w.heap.size := by omega
  have dd1 : w.heap.size ≠ w1.heap.size := by omega
  have dd2 : w1.heap.size ≠ w.heap.size + 1 + 1 := by omega
  have dd3 : w.heap.size + 1 + 1 ≠ w1.heap.size := by omega
  have dd4 : w1.heap.size ≠ w.heap.size + 2 := by omega
  have dd5 : w.heap.size + 2 ≠ w1.heap.size := by omega
  obtain ⟨ga0, ga1, ga2, ga3, ga4, ga5, ga6, ga7, ga8, gaf, gal⟩ := BG.nine
  obtain ⟨go0, go1, go2, go3, go4, go5, go6, go7, go8, gof, gol⟩ := BO.nine
  obtain ⟨y0, y1, yf, yl⟩ := BR.two
  go_wp2_with fail
  clear ga0 ga1 ga2 ga3 ga4 ga5 ga6 ga7 ga8 gaf gal
  clear go0 go1 go2 go3 go4 go5 go6 go7 go8 gof gol
  clear y0 y1 yf yl
  have MO := (BO.setG9 (.slice (some ⟨b1, 0, none⟩) n1 n1) (.slice (some ⟨b2, 0, none⟩) n2 n2) (.int .i64 pl) (.int .i64 qa) (.int .i64 qb) (.int .i64 2) (.int .i64 wi) (.int .i64 re) (.int .i64 tu)).alloc (.cells #[.slice (some ⟨b1, 0, none⟩) n1 n1, .slice (some ⟨b2, 0, none⟩) n2 n2, .int .i64 pl, .int .i64 qa, .int .i64 qb, .int .i64 2, .int .i64 wi, .int .i64 re, .int .i64 tu] 70)
  have M1 := (R1.farG9 (B := w.heap.size + 1 + 1) (by omega) (.slice (some ⟨b1, 0, none⟩) n1 n1) (.slice (some ⟨b2, 0, none⟩) n2 n2) (.int .i64 pl) (.int .i64 qa) (.int .i64 qb) (.int .i64 2) (.int .i64 wi) (.int .i64 re) (.int .i64 tu)).alloc (.cells #[.slice (some ⟨b1, 0, none⟩) n1 n1, .slice (some ⟨b2, 0, none⟩) n2 n2, .int .i64 pl, .int .i64 qa, .int .i64 qb, .int .i64 2, .int .i64 wi, .int .i64 re, .int .i64 tu] 70)
  have M2 := (R2.farG9 (B := w.heap.size + 1 + 1) (by omega) (.slice (some ⟨b1, 0, none⟩) n1 n1) (.slice (some ⟨b2, 0, none⟩) n2 n2) (.int .i64 pl) (.int .i64 qa) (.int .i64 qb) (.int .i64 2) (.int .i64 wi) (.int .i64 re) (.int .i64 tu)).alloc (.cells #[.slice (some ⟨b1, 0, none⟩) n1 n1, .slice (some ⟨b2, 0, none⟩) n2 n2, .int .i64 pl, .int .i64 qa, .int .i64 qb, .int .i64 2, .int .i64 wi, .int .i64 re, .int .i64 tu] 70)
  have hM0 := Below.farG9 hb (B := w.heap.size + 1 + 1) (by omega) (.slice (some ⟨b1, 0, none⟩) n1 n1) (.slice (some ⟨b2, 0, none⟩) n2 n2) (.int .i64 pl) (.int .i64 qa) (.int .i64 qb) (.int .i64 2) (.int .i64 wi) (.int .i64 re) (.int .i64 tu)
  have hM := hM0.alloc hM0.size (.cells #[.slice (some ⟨b1, 0, none⟩) n1 n1, .slice (some ⟨b2, 0, none⟩) n2 n2, .int .i64 pl, .int .i64 qa, .int .i64 qb, .int .i64 2, .int .i64 wi, .int .i64 re, .int .i64 tu] 70)
  clear BG BO R1 R2 hb BR hM0
  generalize ((((((((((w1.setCell ⟨(w.heap.size + 1 + 1), 0, none⟩ (.slice (some ⟨b1, 0, none⟩) n1 n1)).setCell ⟨(w.heap.size + 1 + 1), 1, none⟩ (.slice (some ⟨b2, 0, none⟩) n2 n2)).setCell ⟨(w.heap.size + 1 + 1), 2, none⟩ (.int .i64 pl)).setCell ⟨(w.heap.size + 1 + 1), 3, none⟩ (.int .i64 qa)).setCell ⟨(w.heap.size + 1 + 1), 4, none⟩ (.int .i64 qb)).setCell ⟨(w.heap.size + 1 + 1), 5, none⟩ (.int .i64 2)).setCell ⟨(w.heap.size + 1 + 1), 6, none⟩ (.int .i64 wi)).setCell ⟨(w.heap.size + 1 + 1), 7, none⟩ (.int .i64 re)).setCell ⟨(w.heap.size + 1 + 1), 8, none⟩ (.int .i64 tu)).alloc (.cells #[.slice (some ⟨b1, 0, none⟩) n1 n1, .slice (some ⟨b2, 0, none⟩) n2 n2, .int .i64 pl, .int .i64 qa, .int .i64 qb, .int .i64 2, .int .i64 wi, .int .i64 re, .int .i64 tu] 70)) = we at *
  obtain ⟨gO, hgO⟩ : ∃ gO, (w.heap.size + 1 + 1) = gO := ⟨_, rfl⟩
  rw [hgO] at MO ⊢
  clear hgO
  obtain ⟨go0, go1, go2, go3, go4, go5, go6, go7, go8, gof, gol⟩ := MO.nine
  refine bodyPost_ret (v := .agg #[.slice (some ⟨b1, 0, none⟩) n1 n1, .slice (some ⟨b2, 0, none⟩) n2 n2, .int .i64 pl, .int .i64 qa, .int .i64 qb, .int .i64 2, .int .i64 wi, .int .i64 re, .int .i64 tu]) (by simp [results, Try.results103, go_sem, go0, go1, go2, go3, go4, go5, go6, go7, go8]) rfl ?_
  exact ⟨b1, b2, rfl, hne, by omega, by omega, M1, M2, hM⟩
set_option maxRecDepth 8000 in
set_option maxHeartbeats 2000000 in
theorem resigned_any (a1 a2 : Option Addr) (n1 n2 c1 c2 : Nat) (xs ys : List Int) (pl ra rb ph wi re tu : Int) (rs : Int) (w : World) (h1 : xs.length = n1) (h2 : ys.length = n2) (l1 : 0 < n1) (l2 : 0 < n2) (m1 : n1 ≤ 1048576) (m2 : n2 ≤ 1048576) (r1 : IRow w a1 xs) (r2 : IRow w a2 ys) (hpl : 0 ≤ pl ∧ pl ≤ 1) :
    Calls Try.prog 109 #[.agg #[.slice a1 n1 c1, .slice a2 n2 c2, .int .i64 pl, .int .i64 ra, .int .i64 rb, .int .i64 ph, .int .i64 wi, .int .i64 re, .int .i64 tu], .int .i64 rs] w (GameOwn xs ys n1 n2 pl 0 0 3 (1 - pl) rs tu w) := by
  have hC := fun (W : World) (r1 : IRow W a1 xs) (r2 : IRow W a2 ys) => gameCopied_any a1 a2 n1 n2 c1 c2 xs ys pl ra rb ph wi re tu W h1 h2 l1 l2 m1 m2 r1 r2
  have HC := Lib.hid hC
  clear hC
  obtain ⟨BG, BO, hb, hz1⟩ := two_new' w #[.slice a1 n1 c1, .slice a2 n2 c2, .int .i64 pl, .int .i64 ra, .int .i64 rb, .int .i64 ph, .int .i64 wi, .int .i64 re, .int .i64 tu] #[.slice none 0 0, .slice none 0 0, .int .i64 0, .int .i64 0, .int .i64 0, .int .i64 0, .int .i64 0, .int .i64 0, .int .i64 0] 70 70
  replace r1 := r1.below hb
  replace r2 := r2.below hb
  have hO := fun (W : World) => opponent_any pl W hpl
  have HO := Lib.hid hO
  clear hO hpl
  go_enter Try.func109, Try.ntmps109
  obtain ⟨ga0, ga1, ga2, ga3, ga4, ga5, ga6, ga7, ga8, gaf, gal⟩ := BG.nine
  go_wp2_with fail
  clear ga0 ga1 ga2 ga3 ga4 ga5 ga6 ga7 ga8 gaf gal
  generalize ((w.alloc (.cells #[.slice a1 n1 c1, .slice a2 n2 c2, .int .i64 pl, .int .i64 ra, .int .i64 rb, .int .i64 ph, .int .i64 wi, .int .i64 re, .int .i64 tu] 70)).alloc (.cells #[.slice none 0 0, .slice none 0 0, .int .i64 0, .int .i64 0, .int .i64 0, .int .i64 0, .int .i64 0, .int .i64 0, .int .i64 0] 70)) = v0 at *
  obtain ⟨q0_BG, q1_BG, q2_BG, q3_BG, q4_BG, q5_BG, q6_BG, q7_BG, q8_BG, qf_BG, ql_BG⟩ := BG.nine
  go_wp2_with fail
  clear q0_BG q1_BG q2_BG q3_BG q4_BG q5_BG q6_BG q7_BG q8_BG qf_BG ql_BG
  refine (HC.out _ r1 r2).mono ?_
  rintro e w1 ⟨b1, b2, rfl, hne, hq1, hq2, R1, R2, hb1⟩
  replace BG := BG.below hb1
  replace BO := BO.below hb1
  replace r1 := r1.below hb1
  replace r2 := r2.below hb1
  have hz1 := hb1.size
  replace hb := chain hb hb1
  clear hb1
  have hl1 := R1.lt
  have hl2 := R2.lt
  have dd0 : w1.heap.size ≠ w.heap.size := by omega
  have dd1 : w.heap.size ≠ w1.heap.size := by omega
  have dd2 : w1.heap.size ≠ w.heap.size + 1 := by omega
  have dd3 : w.heap.size + 1 ≠ w1.heap.size := by omega
  have dd4 : w1.heap.size ≠ w.heap.size + 1 := by omega
  have dd5 : w.heap.size + 1 ≠ w1.heap.size := by omega
  obtain ⟨ga0, ga1, ga2, ga3, ga4, ga5, ga6, ga7, ga8, gaf, gal⟩ := BG.nine
  obtain ⟨go0, go1, go2, go3, go4, go5, go6, go7, go8, gof, gol⟩ := BO.nine
  go_wp2_with fail
  clear ga0 ga1 ga2 ga3 ga4 ga5 ga6 ga7 ga8 gaf gal
  clear go0 go1 go2 go3 go4 go5 go6 go7 go8 gof gol
  have hal : Below w1.heap.size w1 (w1.alloc (.cells #[.slice (some ⟨b1, 0, none⟩) n1 n1, .slice (some ⟨b2, 0, none⟩) n2 n2, .int .i64 pl, .int .i64 0, .int .i64 0, .int .i64 3, .int .i64 wi, .int .i64 re, .int .i64 tu] 70)) := (Below.refl _ _).alloc (Nat.le_refl _) _
  have BN := Blk.new w1 #[.slice (some ⟨b1, 0, none⟩) n1 n1, .slice (some ⟨b2, 0, none⟩) n2 n2, .int .i64 pl, .int .i64 0, .int .i64 0, .int .i64 3, .int .i64 wi, .int .i64 re, .int .i64 tu] 70
  have hza : w1.heap.size + 1 ≤ (w1.alloc (.cells #[.slice (some ⟨b1, 0, none⟩) n1 n1, .slice (some ⟨b2, 0, none⟩) n2 n2, .int .i64 pl, .int .i64 0, .int .i64 0, .int .i64 3, .int .i64 wi, .int .i64 re, .int .i64 tu] 70)).heap.size := by simp
  replace BO := BO.below hal
  replace R1 := R1.below hal
  replace R2 := R2.below hal
  replace hb := chain hb hal
  clear hal BG
  generalize (w1.alloc (.cells #[.slice (some ⟨b1, 0, none⟩) n1 n1, .slice (some ⟨b2, 0, none⟩) n2 n2, .int .i64 pl, .int .i64 0, .int .i64 0, .int .i64 3, .int .i64 wi, .int .i64 re, .int .i64 tu] 70)) = v8 at *
  refine (HO.out _).mono ?_
  rintro e v9 ⟨rfl, hb9⟩
  replace BN := BN.below hb9
  replace BO := BO.below hb9
  replace R1 := R1.below hb9
  replace R2 := R2.below hb9
  replace hb := chain hb hb9
  obtain ⟨n0, n1_, n2_, n3, n4, n5, n6, n7, n8, nf, nl⟩ := BN.nine
  obtain ⟨go0, go1, go2, go3, go4, go5, go6, go7, go8, gof, gol⟩ := BO.nine
  go_wp2_with fail
  clear go0 go1 go2 go3 go4 go5 go6 go7 go8 gof gol
  clear n0 n1_ n2_ n3 n4 n5 n6 n7 n8 nf nl
  have MO := ((BO.other (g := w1.heap.size) (o := 6) (v := .int .i64 (1 - pl)) (by omega)).other (g := w1.heap.size) (o := 7) (v := .int .i64 rs) (by omega)).setG9 (.slice (some ⟨b1, 0, none⟩) n1 n1) (.slice (some ⟨b2, 0, none⟩) n2 n2) (.int .i64 pl) (.int .i64 0) (.int .i64 0) (.int .i64 3) (.int .i64 (1 - pl)) (.int .i64 rs) (.int .i64 tu)
  have M1 := ((R1.other (g := w1.heap.size) (o := 6) (v := .int .i64 (1 - pl)) (by omega)).other (g := w1.heap.size) (o := 7) (v := .int .i64 rs) (by omega)).farG9 (B := w.heap.size + 1) (by omega) (.slice (some ⟨b1, 0, none⟩) n1 n1) (.slice (some ⟨b2, 0, none⟩) n2 n2) (.int .i64 pl) (.int .i64 0) (.int .i64 0) (.int .i64 3) (.int .i64 (1 - pl)) (.int .i64 rs) (.int .i64 tu)
  have M2 := ((R2.other (g := w1.heap.size) (o := 6) (v := .int .i64 (1 - pl)) (by omega)).other (g := w1.heap.size) (o := 7) (v := .int .i64 rs) (by omega)).farG9 (B := w.heap.size + 1) (by omega) (.slice (some ⟨b1, 0, none⟩) n1 n1) (.slice (some ⟨b2, 0, none⟩) n2 n2) (.int .i64 pl) (.int .i64 0) (.int .i64 0) (.int .i64 3) (.int .i64 (1 - pl)) (.int .i64 rs) (.int .i64 tu)
  have hM := Below.farG9 (Below.farGW hb (B := w1.heap.size) (by omega) (.int .i64 (1 - pl)) (.int .i64 rs)) (B := w.heap.size + 1) (by omega) (.slice (some ⟨b1, 0, none⟩) n1 n1) (.slice (some ⟨b2, 0, none⟩) n2 n2) (.int .i64 pl) (.int .i64 0) (.int .i64 0) (.int .i64 3) (.int .i64 (1 - pl)) (.int .i64 rs) (.int .i64 tu)
  clear BO BN R1 R2 hb
  generalize (((((((((((v9.setCell ⟨w1.heap.size, 6, none⟩ (.int .i64 (1 - pl))).setCell ⟨w1.heap.size, 7, none⟩ (.int .i64 rs)).setCell ⟨(w.heap.size + 1), 0, none⟩ (.slice (some ⟨b1, 0, none⟩) n1 n1)).setCell ⟨(w.heap.size + 1), 1, none⟩ (.slice (some ⟨b2, 0, none⟩) n2 n2)).setCell ⟨(w.heap.size + 1), 2, none⟩ (.int .i64 pl)).setCell ⟨(w.heap.size + 1), 3, none⟩ (.int .i64 0)).setCell ⟨(w.heap.size + 1), 4, none⟩ (.int .i64 0)).setCell ⟨(w.heap.size + 1), 5, none⟩ (.int .i64 3)).setCell ⟨(w.heap.size + 1), 6, none⟩ (.int .i64 (1 - pl))).setCell ⟨(w.heap.size + 1), 7, none⟩ (.int .i64 rs)).setCell ⟨(w.heap.size + 1), 8, none⟩ (.int .i64 tu)) = we at *
  obtain ⟨gO, hgO⟩ : ∃ gO, (w.heap.size + 1) = gO := ⟨_, rfl⟩
  rw [hgO] at MO ⊢
  clear hgO
  obtain ⟨go0, go1, go2, go3, go4, go5, go6, go7, go8, gof, gol⟩ := MO.nine
  refine bodyPost_ret (v := .agg #[.slice (some ⟨b1, 0, none⟩) n1 n1, .slice (some ⟨b2, 0, none⟩) n2 n2, .int .i64 pl, .int .i64 0, .int .i64 0, .int .i64 3, .int .i64 (1 - pl), .int .i64 rs, .int .i64 tu]) (by simp [results, Try.results109, go_sem, go0, go1, go2, go3, go4, go5, go6, go7, go8]) rfl ?_
  exact ⟨b1, b2, rfl, hne, by omega, by omega, M1, M2, hM⟩
end Go.Proofs.Ytokjkcnjmfbfiaa
