/- Contracts of the racers of a race. -/
import Derived.Test.Ytjepbhainidpgaa14b
namespace Go.Proofs.Ytjepbhainidpgaa
open Go.ChangeShapes Go.WideShapes Go.ChangeAt Go.RowKit
set_option linter.unusedVariables false
set_option linter.unusedSimpArgs false
set_option maxRecDepth 4000

theorem Blk.setR8 {W : World} {B : Nat} {q0 q1 q2 q3 q4 q5 q6 q7 : Value} {t : TypeId} (h : Blk W B #[q0, q1, q2, q3, q4, q5, q6, q7] t) (u0 u1 u2 u3 u4 u5 u6 u7 : Value) : Blk ((((((((W.setCell ⟨B, 0, none⟩ (u0)).setCell ⟨B, 1, none⟩ (u1)).setCell ⟨B, 2, none⟩ (u2)).setCell ⟨B, 3, none⟩ (u3)).setCell ⟨B, 4, none⟩ (u4)).setCell ⟨B, 5, none⟩ (u5)).setCell ⟨B, 6, none⟩ (u6)).setCell ⟨B, 7, none⟩ (u7)) B #[u0, u1, u2, u3, u4, u5, u6, u7] t := by
  have := ((((((((h.set (i := 0) u0).set (i := 1) u1).set (i := 2) u2).set (i := 3) u3).set (i := 4) u4).set (i := 5) u5).set (i := 6) u6).set (i := 7) u7)
  simp only [List.setIfInBounds_toArray, List.set_cons_zero, List.set_cons_succ] at this
  exact this
theorem Blk.farR8 {W : World} {B g : Nat} {vs : Array Value} {t : TypeId} (h : Blk W g vs t) (hne : g ≠ B) (u0 u1 u2 u3 u4 u5 u6 u7 : Value) : Blk ((((((((W.setCell ⟨B, 0, none⟩ (u0)).setCell ⟨B, 1, none⟩ (u1)).setCell ⟨B, 2, none⟩ (u2)).setCell ⟨B, 3, none⟩ (u3)).setCell ⟨B, 4, none⟩ (u4)).setCell ⟨B, 5, none⟩ (u5)).setCell ⟨B, 6, none⟩ (u6)).setCell ⟨B, 7, none⟩ (u7)) g vs t :=
  ((((((((h.other hne).other hne).other hne).other hne).other hne).other hne).other hne).other hne)
theorem Below.farR8 {w W : World} {lo B : Nat} (h : Below lo w W) (hB : lo ≤ B) (u0 u1 u2 u3 u4 u5 u6 u7 : Value) : Below lo w ((((((((W.setCell ⟨B, 0, none⟩ (u0)).setCell ⟨B, 1, none⟩ (u1)).setCell ⟨B, 2, none⟩ (u2)).setCell ⟨B, 3, none⟩ (u3)).setCell ⟨B, 4, none⟩ (u4)).setCell ⟨B, 5, none⟩ (u5)).setCell ⟨B, 6, none⟩ (u6)).setCell ⟨B, 7, none⟩ (u7)) :=
  ((((((((h.setCell (p := ⟨B, 0, none⟩) hB _).setCell (p := ⟨B, 1, none⟩) hB _).setCell (p := ⟨B, 2, none⟩) hB _).setCell (p := ⟨B, 3, none⟩) hB _).setCell (p := ⟨B, 4, none⟩) hB _).setCell (p := ⟨B, 5, none⟩) hB _).setCell (p := ⟨B, 6, none⟩) hB _).setCell (p := ⟨B, 7, none⟩) hB _)
theorem four_new (w : World) (a b c d : Array Value) (t1 t2 t3 t4 : TypeId) :
    Blk ((((w.alloc (.cells a t1)).alloc (.cells b t2)).alloc (.cells c t3)).alloc (.cells d t4)) w.heap.size a t1 ∧
    Blk ((((w.alloc (.cells a t1)).alloc (.cells b t2)).alloc (.cells c t3)).alloc (.cells d t4)) (w.heap.size + 1) b t2 ∧
    Blk ((((w.alloc (.cells a t1)).alloc (.cells b t2)).alloc (.cells c t3)).alloc (.cells d t4)) (w.heap.size + 1 + 1) c t3 ∧
    Blk ((((w.alloc (.cells a t1)).alloc (.cells b t2)).alloc (.cells c t3)).alloc (.cells d t4)) (w.heap.size + 1 + 1 + 1) d t4 ∧
    Below w.heap.size w ((((w.alloc (.cells a t1)).alloc (.cells b t2)).alloc (.cells c t3)).alloc (.cells d t4)) ∧
    ((((w.alloc (.cells a t1)).alloc (.cells b t2)).alloc (.cells c t3)).alloc (.cells d t4)).heap.size = w.heap.size + 1 + 1 + 1 + 1 := by
  have h1 := Blk.new w a t1
  have h2 := Blk.new (w.alloc (.cells a t1)) b t2
  have h3 := Blk.new ((w.alloc (.cells a t1)).alloc (.cells b t2)) c t3
  have h4 := Blk.new (((w.alloc (.cells a t1)).alloc (.cells b t2)).alloc (.cells c t3)) d t4
  rw [World.size_alloc] at h2
  rw [World.size_alloc, World.size_alloc] at h3
  rw [World.size_alloc, World.size_alloc, World.size_alloc] at h4
  refine ⟨((h1.alloc _).alloc _).alloc _, (h2.alloc _).alloc _, h3.alloc _, h4, ?_, by simp only [World.size_alloc]⟩
  exact ((((Below.refl _ _).alloc (Nat.le_refl _) _).alloc (by simp) _).alloc (by simp; omega) _).alloc (by simp; omega) _
set_option maxRecDepth 8000 in
set_option maxHeartbeats 2000000 in
theorem racersOf_bad (p c h s : Int) (a1 a2 : Option Addr) (n1 n2 c1 c2 : Nat) (xs ys : List Int) (w : World) (h1 : xs.length = n1) (h2 : ys.length = n2) (l1 : n1 ≤ 1048576) (l2 : n2 ≤ 1048576) (r1 : IRow w a1 xs) (r2 : IRow w a2 ys) (g : isB p c h s xs ys = false) :
    Calls Try.prog 38 #[.agg #[.int .i64 p, .int .i64 c, .int .i64 h, .int .i64 s], .agg #[.slice a1 n1 c1, .slice a2 n2 c2]] w fun e w' => e = .returned (.tuple #[.agg #[.int .i64 0, .int .i64 0, .int .i64 0, .int .i64 0, .int .i64 0, .nilFunc, .nilFunc, .nilFunc], .agg #[.int .i64 0, .int .i64 0, .int .i64 0, .int .i64 0, .int .i64 0, .nilFunc, .nilFunc, .nilFunc], .int .i64 1]) ∧ Below w.heap.size w w' := by
  obtain ⟨BV, BB, BO, BP, hb, hz⟩ := four_new w #[.int .i64 p, .int .i64 c, .int .i64 h, .int .i64 s] #[.slice a1 n1 c1, .slice a2 n2 c2] #[.int .i64 0, .int .i64 0, .int .i64 0, .int .i64 0, .int .i64 0, .nilFunc, .nilFunc, .nilFunc] #[.int .i64 0, .int .i64 0, .int .i64 0, .int .i64 0, .int .i64 0, .nilFunc, .nilFunc, .nilFunc] 26 34 61 61
  obtain ⟨x0, x1, x2, x3, xf, xl⟩ := BV.four; obtain ⟨y0, y1, yf, yl⟩ := BB.two; obtain ⟨u0, u1, u2, u3, u4, u5, u6, u7, uf, ul⟩ := BO.eight; obtain ⟨v0, v1, v2, v3, v4, v5, v6, v7, vf, vl⟩ := BP.eight
  have hB := fun W (q1 : IRow W a1 xs) (q2 : IRow W a2 ys) => isBoard_any p c h s a1 a2 n1 n2 c1 c2 xs ys W h1 h2 l1 l2 q1 q2
  simp only [g] at hB
  have HB := Lib.hid hB
  clear hB
  go_enter Try.func38, Try.ntmps38
  go_wp2_with (go_at_call 48; refine (HB.out _ (r1.below hb) (r2.below hb)).mono ?_; rintro e w1 ⟨rfl, hb1⟩; replace BO := BO.below hb1; replace BP := BP.below hb1; replace hb := chain hb hb1; clear hb1 BV BB x0 x1 x2 x3 xf xl y0 y1 yf yl u0 u1 u2 u3 u4 u5 u6 u7 uf ul v0 v1 v2 v3 v4 v5 v6 v7 vf vl; obtain ⟨u0, u1, u2, u3, u4, u5, u6, u7, uf, ul⟩ := BO.eight; obtain ⟨v0, v1, v2, v3, v4, v5, v6, v7, vf, vl⟩ := BP.eight)
  have MO := (BO.setR8 (.int .i64 0) (.int .i64 0) (.int .i64 0) (.int .i64 0) (.int .i64 0) (.nilFunc) (.nilFunc) (.nilFunc)).farR8 (B := w.heap.size + 1 + 1 + 1) (by omega) (.int .i64 0) (.int .i64 0) (.int .i64 0) (.int .i64 0) (.int .i64 0) (.nilFunc) (.nilFunc) (.nilFunc)
  have MP := (BP.farR8 (B := w.heap.size + 1 + 1) (by omega) (.int .i64 0) (.int .i64 0) (.int .i64 0) (.int .i64 0) (.int .i64 0) (.nilFunc) (.nilFunc) (.nilFunc)).setR8 (.int .i64 0) (.int .i64 0) (.int .i64 0) (.int .i64 0) (.int .i64 0) (.nilFunc) (.nilFunc) (.nilFunc)
  have hM := Below.farR8 (Below.farR8 hb (B := w.heap.size + 1 + 1) (by omega) (.int .i64 0) (.int .i64 0) (.int .i64 0) (.int .i64 0) (.int .i64 0) (.nilFunc) (.nilFunc) (.nilFunc)) (B := w.heap.size + 1 + 1 + 1) (by omega) (.int .i64 0) (.int .i64 0) (.int .i64 0) (.int .i64 0) (.int .i64 0) (.nilFunc) (.nilFunc) (.nilFunc)
  clear BO BP hb u0 u1 u2 u3 u4 u5 u6 u7 uf ul v0 v1 v2 v3 v4 v5 v6 v7 vf vl
  generalize ((((((((((((((((w1.setCell ⟨(w.heap.size + 1 + 1), 0, none⟩ (.int .i64 0)).setCell ⟨(w.heap.size + 1 + 1), 1, none⟩ (.int .i64 0)).setCell ⟨(w.heap.size + 1 + 1), 2, none⟩ (.int .i64 0)).setCell ⟨(w.heap.size + 1 + 1), 3, none⟩ (.int .i64 0)).setCell ⟨(w.heap.size + 1 + 1), 4, none⟩ (.int .i64 0)).setCell ⟨(w.heap.size + 1 + 1), 5, none⟩ (.nilFunc)).setCell ⟨(w.heap.size + 1 + 1), 6, none⟩ (.nilFunc)).setCell ⟨(w.heap.size + 1 + 1), 7, none⟩ (.nilFunc)).setCell ⟨(w.heap.size + 1 + 1 + 1), 0, none⟩ (.int .i64 0)).setCell ⟨(w.heap.size + 1 + 1 + 1), 1, none⟩ (.int .i64 0)).setCell ⟨(w.heap.size + 1 + 1 + 1), 2, none⟩ (.int .i64 0)).setCell ⟨(w.heap.size + 1 + 1 + 1), 3, none⟩ (.int .i64 0)).setCell ⟨(w.heap.size + 1 + 1 + 1), 4, none⟩ (.int .i64 0)).setCell ⟨(w.heap.size + 1 + 1 + 1), 5, none⟩ (.nilFunc)).setCell ⟨(w.heap.size + 1 + 1 + 1), 6, none⟩ (.nilFunc)).setCell ⟨(w.heap.size + 1 + 1 + 1), 7, none⟩ (.nilFunc)) = we at *
  obtain ⟨u0, u1, u2, u3, u4, u5, u6, u7, uf, ul⟩ := MO.eight
  obtain ⟨v0, v1, v2, v3, v4, v5, v6, v7, vf, vl⟩ := MP.eight
  refine bodyPost_ret (v := .tuple #[.agg #[.int .i64 0, .int .i64 0, .int .i64 0, .int .i64 0, .int .i64 0, .nilFunc, .nilFunc, .nilFunc], .agg #[.int .i64 0, .int .i64 0, .int .i64 0, .int .i64 0, .int .i64 0, .nilFunc, .nilFunc, .nilFunc], .int .i64 1]) (by simp [results, Try.results38, go_sem, u0, u1, u2, u3, u4, u5, u6, u7, v0, v1, v2, v3, v4, v5, v6, v7]) rfl ?_
  exact ⟨rfl, hM⟩
set_option maxHeartbeats 1000000 in
theorem countsOf2_any (p c h s : Int) (a1 a2 : Option Addr) (n1 c1 n2 c2 : Nat) (w : World) :
    Calls Try.prog 49 #[.agg #[.int .i64 p, .int .i64 c, .int .i64 h, .int .i64 s], .agg #[.slice a1 n1 c1, .slice a2 n2 c2]] w fun e w' => ∃ B, e = .returned (tv p 79 80 B) ∧ w.heap.size ≤ B ∧ Blk w' B #[.slice a1 n1 c1, .slice a2 n2 c2] 34 ∧ Below w.heap.size w w' := by
  go_enter Try.func49, Try.ntmps49
  go_wp2
  have hb : Below w.heap.size w (((w.alloc (.cells #[.int .i64 p, .int .i64 c, .int .i64 h, .int .i64 s] 26)).alloc (.cells #[.slice a1 n1 c1, .slice a2 n2 c2] 34)).alloc (.cells #[.int .i64 p, fv 79 (w.heap.size + 1), fv 80 (w.heap.size + 1)] 59)) :=
    (((Below.refl _ _).alloc (Nat.le_refl _) _).alloc (by simp) _).alloc (by simp <;> omega) _
  have B1 : Blk ((w.alloc (.cells #[.int .i64 p, .int .i64 c, .int .i64 h, .int .i64 s] 26)).alloc (.cells #[.slice a1 n1 c1, .slice a2 n2 c2] 34)) (w.heap.size + 1) #[.slice a1 n1 c1, .slice a2 n2 c2] 34 := by
    have := Blk.new (w.alloc (.cells #[.int .i64 p, .int .i64 c, .int .i64 h, .int .i64 s] 26)) #[.slice a1 n1 c1, .slice a2 n2 c2] 34
    simpa using this
  have B2 := B1.alloc (.cells #[.int .i64 p, fv 79 (w.heap.size + 1), fv 80 (w.heap.size + 1)] 59)
  exact bodyPost_ret (v := tv p 79 80 (w.heap.size + 1)) (by simp [results, Try.results49, go_sem]) rfl ⟨w.heap.size + 1, rfl, by omega, B2, hb⟩
set_option maxRecDepth 8000 in
set_option maxHeartbeats 4000000 in
theorem racersOf_no (p c h s : Int) (a1 a2 : Option Addr) (n1 n2 c1 c2 : Nat) (xs ys : List Int) (w : World) (h1 : xs.length = n1) (h2 : ys.length = n2) (l1 : n1 ≤ 1048576) (l2 : n2 ≤ 1048576) (r1 : IRow w a1 xs) (r2 : IRow w a2 ys) (g : isB p c h s xs ys = true) (gr : (overB xs ys || contB p xs ys) = true) :
    Calls Try.prog 38 #[.agg #[.int .i64 p, .int .i64 c, .int .i64 h, .int .i64 s], .agg #[.slice a1 n1 c1, .slice a2 n2 c2]] w fun e w' => e = .returned (.tuple #[.agg #[.int .i64 0, .int .i64 0, .int .i64 0, .int .i64 0, .int .i64 0, .nilFunc, .nilFunc, .nilFunc], .agg #[.int .i64 0, .int .i64 0, .int .i64 0, .int .i64 0, .int .i64 0, .nilFunc, .nilFunc, .nilFunc], .int .i64 5]) ∧ Below w.heap.size w w' := by
  obtain ⟨BV, BB, BO, BP, hb, hz⟩ := four_new w #[.int .i64 p, .int .i64 c, .int .i64 h, .int .i64 s] #[.slice a1 n1 c1, .slice a2 n2 c2] #[.int .i64 0, .int .i64 0, .int .i64 0, .int .i64 0, .int .i64 0, .nilFunc, .nilFunc, .nilFunc] #[.int .i64 0, .int .i64 0, .int .i64 0, .int .i64 0, .int .i64 0, .nilFunc, .nilFunc, .nilFunc] 26 34 61 61
  obtain ⟨x0, x1, x2, x3, xf, xl⟩ := BV.four; obtain ⟨y0, y1, yf, yl⟩ := BB.two; obtain ⟨u0, u1, u2, u3, u4, u5, u6, u7, uf, ul⟩ := BO.eight; obtain ⟨v0, v1, v2, v3, v4, v5, v6, v7, vf, vl⟩ := BP.eight
  have hB := fun W (q1 : IRow W a1 xs) (q2 : IRow W a2 ys) => isBoard_any p c h s a1 a2 n1 n2 c1 c2 xs ys W h1 h2 l1 l2 q1 q2
  simp only [g] at hB
  have HB := Lib.hid hB
  clear hB
  obtain ⟨p0, p1, k0, k1, k2, k3, N1, N2, hx, hy, s0, s1, s2, s3⟩ := isB_parts g
  have ho := fun B W (q1 : Pays 79 B xs W) (q2 : Pays 80 B ys W) => over_any p 79 80 B xs ys W p0 p1 N1 N2 hx hy q1 q2
  have hct := fun B W (q1 : Pays 79 B xs W) (q2 : Pays 80 B ys W) => contact_any p 79 80 B xs ys W p0 p1 N1 N2 hx hy q1 q2
  obtain ⟨O, hO⟩ : ∃ O, overB xs ys = O := ⟨_, rfl⟩
  obtain ⟨K, hK⟩ : ∃ K, contB p xs ys = K := ⟨_, rfl⟩
  rw [hO] at ho gr
  rw [hK] at hct gr
  have HO := Lib.hid ho
  have HK := Lib.hid hct
  clear ho hct hO hK hx hy N1 N2 g
  go_enter Try.func38, Try.ntmps38
  go_wp2_with (first | (go_at_call 48; refine (HB.out _ (r1.below hb) (r2.below hb)).mono ?_; rintro e w1 ⟨rfl, hb1⟩; replace BV := BV.below hb1; replace BO := BO.below hb1; replace BP := BP.below hb1; replace hb := chain hb hb1; replace BB := BB.below hb1; clear hb1 x0 x1 x2 x3 xf xl y0 y1 yf yl u0 u1 u2 u3 u4 u5 u6 u7 uf ul v0 v1 v2 v3 v4 v5 v6 v7 vf vl; obtain ⟨x0, x1, x2, x3, xf, xl⟩ := BV.four; obtain ⟨u0, u1, u2, u3, u4, u5, u6, u7, uf, ul⟩ := BO.eight; obtain ⟨v0, v1, v2, v3, v4, v5, v6, v7, vf, vl⟩ := BP.eight; obtain ⟨y0, y1, yf, yl⟩ := BB.two) | (go_at_call 49; refine (countsOf2_any _ c h s a1 a2 n1 c1 n2 c2 _).mono ?_; rintro e w2 ⟨B, rfl, hBg, BQ, hb2⟩; have hBw : w.heap.size + 1 + 1 + 1 < B := Nat.lt_of_lt_of_le BP.lt hBg; replace BV := BV.below hb2; replace BO := BO.below hb2; replace BP := BP.below hb2; replace hb := chain hb hb2; clear hb2 BB hBg x0 x1 x2 x3 xf xl y0 y1 yf yl u0 u1 u2 u3 u4 u5 u6 u7 uf ul v0 v1 v2 v3 v4 v5 v6 v7 vf vl))
  have BC_ := Blk.new w2 #[.int .i64 p, fv 79 B, fv 80 B] 59
  have hCw : w.heap.size + 1 + 1 + 1 < w2.heap.size := BP.lt
  replace BV := BV.alloc (.cells #[.int .i64 p, fv 79 B, fv 80 B] 59)
  replace BO := BO.alloc (.cells #[.int .i64 p, fv 79 B, fv 80 B] 59)
  replace BP := BP.alloc (.cells #[.int .i64 p, fv 79 B, fv 80 B] 59)
  replace BQ := BQ.alloc (.cells #[.int .i64 p, fv 79 B, fv 80 B] 59)
  replace hb := hb.alloc hb.size (.cells #[.int .i64 p, fv 79 B, fv 80 B] 59)
  generalize (w2.alloc (.cells #[.int .i64 p, fv 79 B, fv 80 B] 59)) = w3 at *
  refine (HO.out _ _ (own_pays B a1 a2 n1 c1 n2 c2 xs _ BQ h1 (r1.below hb)) (other_pays B a1 a2 n1 c1 n2 c2 ys _ BQ h2 (r2.below hb))).mono ?_
  rintro e w4 ⟨rfl, hb4⟩
  replace BV := BV.below hb4
  replace BO := BO.below hb4
  replace BP := BP.below hb4
  replace BQ := BQ.below hb4
  replace BC_ := BC_.below hb4
  replace hb := chain hb hb4
  clear hb4
  clear HO
  cases O with
  | true =>
    clear HK gr
    obtain ⟨u0, u1, u2, u3, u4, u5, u6, u7, uf, ul⟩ := BO.eight; obtain ⟨v0, v1, v2, v3, v4, v5, v6, v7, vf, vl⟩ := BP.eight
    go_wp2
    have MO := (BO.setR8 (.int .i64 0) (.int .i64 0) (.int .i64 0) (.int .i64 0) (.int .i64 0) (.nilFunc) (.nilFunc) (.nilFunc)).farR8 (B := w.heap.size + 1 + 1 + 1) (by omega) (.int .i64 0) (.int .i64 0) (.int .i64 0) (.int .i64 0) (.int .i64 0) (.nilFunc) (.nilFunc) (.nilFunc)
    have MP := (BP.farR8 (B := w.heap.size + 1 + 1) (by omega) (.int .i64 0) (.int .i64 0) (.int .i64 0) (.int .i64 0) (.int .i64 0) (.nilFunc) (.nilFunc) (.nilFunc)).setR8 (.int .i64 0) (.int .i64 0) (.int .i64 0) (.int .i64 0) (.int .i64 0) (.nilFunc) (.nilFunc) (.nilFunc)
    have hM := Below.farR8 (Below.farR8 hb (B := w.heap.size + 1 + 1) (by omega) (.int .i64 0) (.int .i64 0) (.int .i64 0) (.int .i64 0) (.int .i64 0) (.nilFunc) (.nilFunc) (.nilFunc)) (B := w.heap.size + 1 + 1 + 1) (by omega) (.int .i64 0) (.int .i64 0) (.int .i64 0) (.int .i64 0) (.int .i64 0) (.nilFunc) (.nilFunc) (.nilFunc)
    clear BO BP hb u0 u1 u2 u3 u4 u5 u6 u7 uf ul v0 v1 v2 v3 v4 v5 v6 v7 vf vl
    generalize ((((((((((((((((w4.setCell ⟨(w.heap.size + 1 + 1), 0, none⟩ (.int .i64 0)).setCell ⟨(w.heap.size + 1 + 1), 1, none⟩ (.int .i64 0)).setCell ⟨(w.heap.size + 1 + 1), 2, none⟩ (.int .i64 0)).setCell ⟨(w.heap.size + 1 + 1), 3, none⟩ (.int .i64 0)).setCell ⟨(w.heap.size + 1 + 1), 4, none⟩ (.int .i64 0)).setCell ⟨(w.heap.size + 1 + 1), 5, none⟩ (.nilFunc)).setCell ⟨(w.heap.size + 1 + 1), 6, none⟩ (.nilFunc)).setCell ⟨(w.heap.size + 1 + 1), 7, none⟩ (.nilFunc)).setCell ⟨(w.heap.size + 1 + 1 + 1), 0, none⟩ (.int .i64 0)).setCell ⟨(w.heap.size + 1 + 1 + 1), 1, none⟩ (.int .i64 0)).setCell ⟨(w.heap.size + 1 + 1 + 1), 2, none⟩ (.int .i64 0)).setCell ⟨(w.heap.size + 1 + 1 + 1), 3, none⟩ (.int .i64 0)).setCell ⟨(w.heap.size + 1 + 1 + 1), 4, none⟩ (.int .i64 0)).setCell ⟨(w.heap.size + 1 + 1 + 1), 5, none⟩ (.nilFunc)).setCell ⟨(w.heap.size + 1 + 1 + 1), 6, none⟩ (.nilFunc)).setCell ⟨(w.heap.size + 1 + 1 + 1), 7, none⟩ (.nilFunc)) = we at *
    obtain ⟨u0, u1, u2, u3, u4, u5, u6, u7, uf, ul⟩ := MO.eight
    obtain ⟨v0, v1, v2, v3, v4, v5, v6, v7, vf, vl⟩ := MP.eight
    refine bodyPost_ret (v := .tuple #[.agg #[.int .i64 0, .int .i64 0, .int .i64 0, .int .i64 0, .int .i64 0, .nilFunc, .nilFunc, .nilFunc], .agg #[.int .i64 0, .int .i64 0, .int .i64 0, .int .i64 0, .int .i64 0, .nilFunc, .nilFunc, .nilFunc], .int .i64 5]) (by simp [results, Try.results38, go_sem, u0, u1, u2, u3, u4, u5, u6, u7, v0, v1, v2, v3, v4, v5, v6, v7]) rfl ?_
    exact ⟨rfl, hM⟩
  | false =>
    rw [Bool.false_or] at gr
    subst gr
    obtain ⟨z0, z1, z2, zf, zl⟩ := BC_.tri
    go_wp2_with (go_at_call 63; refine (HK.out _ _ (own_pays B a1 a2 n1 c1 n2 c2 xs _ BQ h1 (r1.below hb)) (other_pays B a1 a2 n1 c1 n2 c2 ys _ BQ h2 (r2.below hb))).mono ?_; rintro e w5 ⟨rfl, hb5⟩; clear z0 z1 z2 zf zl; replace BV := BV.below hb5; replace BO := BO.below hb5; replace BP := BP.below hb5; replace BQ := BQ.below hb5; replace BC_ := BC_.below hb5; replace hb := chain hb hb5; clear hb5; obtain ⟨u0, u1, u2, u3, u4, u5, u6, u7, uf, ul⟩ := BO.eight; obtain ⟨v0, v1, v2, v3, v4, v5, v6, v7, vf, vl⟩ := BP.eight)
    have MO := (BO.setR8 (.int .i64 0) (.int .i64 0) (.int .i64 0) (.int .i64 0) (.int .i64 0) (.nilFunc) (.nilFunc) (.nilFunc)).farR8 (B := w.heap.size + 1 + 1 + 1) (by omega) (.int .i64 0) (.int .i64 0) (.int .i64 0) (.int .i64 0) (.int .i64 0) (.nilFunc) (.nilFunc) (.nilFunc)
    have MP := (BP.farR8 (B := w.heap.size + 1 + 1) (by omega) (.int .i64 0) (.int .i64 0) (.int .i64 0) (.int .i64 0) (.int .i64 0) (.nilFunc) (.nilFunc) (.nilFunc)).setR8 (.int .i64 0) (.int .i64 0) (.int .i64 0) (.int .i64 0) (.int .i64 0) (.nilFunc) (.nilFunc) (.nilFunc)
    have hM := Below.farR8 (Below.farR8 hb (B := w.heap.size + 1 + 1) (by omega) (.int .i64 0) (.int .i64 0) (.int .i64 0) (.int .i64 0) (.int .i64 0) (.nilFunc) (.nilFunc) (.nilFunc)) (B := w.heap.size + 1 + 1 + 1) (by omega) (.int .i64 0) (.int .i64 0) (.int .i64 0) (.int .i64 0) (.int .i64 0) (.nilFunc) (.nilFunc) (.nilFunc)
    clear BO BP hb u0 u1 u2 u3 u4 u5 u6 u7 uf ul v0 v1 v2 v3 v4 v5 v6 v7 vf vl
    generalize ((((((((((((((((w5.setCell ⟨(w.heap.size + 1 + 1), 0, none⟩ (.int .i64 0)).setCell ⟨(w.heap.size + 1 + 1), 1, none⟩ (.int .i64 0)).setCell ⟨(w.heap.size + 1 + 1), 2, none⟩ (.int .i64 0)).setCell ⟨(w.heap.size + 1 + 1), 3, none⟩ (.int .i64 0)).setCell ⟨(w.heap.size + 1 + 1), 4, none⟩ (.int .i64 0)).setCell ⟨(w.heap.size + 1 + 1), 5, none⟩ (.nilFunc)).setCell ⟨(w.heap.size + 1 + 1), 6, none⟩ (.nilFunc)).setCell ⟨(w.heap.size + 1 + 1), 7, none⟩ (.nilFunc)).setCell ⟨(w.heap.size + 1 + 1 + 1), 0, none⟩ (.int .i64 0)).setCell ⟨(w.heap.size + 1 + 1 + 1), 1, none⟩ (.int .i64 0)).setCell ⟨(w.heap.size + 1 + 1 + 1), 2, none⟩ (.int .i64 0)).setCell ⟨(w.heap.size + 1 + 1 + 1), 3, none⟩ (.int .i64 0)).setCell ⟨(w.heap.size + 1 + 1 + 1), 4, none⟩ (.int .i64 0)).setCell ⟨(w.heap.size + 1 + 1 + 1), 5, none⟩ (.nilFunc)).setCell ⟨(w.heap.size + 1 + 1 + 1), 6, none⟩ (.nilFunc)).setCell ⟨(w.heap.size + 1 + 1 + 1), 7, none⟩ (.nilFunc)) = we at *
    obtain ⟨u0, u1, u2, u3, u4, u5, u6, u7, uf, ul⟩ := MO.eight
    obtain ⟨v0, v1, v2, v3, v4, v5, v6, v7, vf, vl⟩ := MP.eight
    refine bodyPost_ret (v := .tuple #[.agg #[.int .i64 0, .int .i64 0, .int .i64 0, .int .i64 0, .int .i64 0, .nilFunc, .nilFunc, .nilFunc], .agg #[.int .i64 0, .int .i64 0, .int .i64 0, .int .i64 0, .int .i64 0, .nilFunc, .nilFunc, .nilFunc], .int .i64 5]) (by simp [results, Try.results38, go_sem, u0, u1, u2, u3, u4, u5, u6, u7, v0, v1, v2, v3, v4, v5, v6, v7]) rfl ?_
    exact ⟨rfl, hM⟩
end Go.Proofs.Ytjepbhainidpgaa
