/- The model's draws of chapter 7: a variant, a seed, a number of rolls. -/
import Derived.Test.YtcmfknkdfkchmaaSrc4
import Derived.Laws.StructEq
namespace Go.Proofs.Ytcmfknkdfkchmaa
open Go.ChangeShapes Go.WideShapes Go.ChangeAt Go.RowKit
set_option linter.unusedVariables false
set_option linter.unusedSimpArgs false

/-- A number has been drawn. -/
def IntPost (B g : Nat) (a : Option Addr) (len cap : Nat) (w : World) (e : Ending) (w' : World) : Prop :=
  ∃ x : Int, e = .returned (.int .i64 x) ∧ Src B w' g a len cap ∧ w.grownBy w' (some g)
/-- A variant has been drawn from a code. -/
def VarNew (w : World) (e : Ending) (w' : World) : Prop := ∃ p c h s : Int, e = .returned (.agg #[.int .i64 p, .int .i64 c, .int .i64 h, .int .i64 s]) ∧ Below w.heap.size w w'
/-- A variant, a seed and a number have been drawn from a code. -/
def ReqNew (w : World) (e : Ending) (w' : World) : Prop := ∃ p c h s x n : Int, e = .returned (.tuple #[.agg #[.int .i64 p, .int .i64 c, .int .i64 h, .int .i64 s], .int .i64 x, .int .i64 n]) ∧ Below w.heap.size w w'
set_option maxHeartbeats 1000000 in
theorem drawSeed_any (B g : Nat) (a : Option Addr) (len cap : Nat) (w : World) (hS : Src B w g a len cap) :
    Calls Try.prog 53 #[.pointer (some ⟨g, 0, none⟩)] w (IntPost B g a len cap w) := by
  have hgl := hS.lt
  go_enter Try.func53, Try.ntmps53
  go_wp2_with fail
  refine (next_any B g a len cap 16 _ hS (by omega)).mono ?_
  rintro e w1 ⟨r, rfl, r1, r2, hS, hg⟩
  have hz1 := hg.size
  by_cases h0 : r = 0
  · subst h0
    go_wp2_with fail
    have BX := Blk.new w1 #[.int .i64 0, .int .i64 1, .int .i64 2147483646, .int .i64 2147483647, .int .i64 (-1)] 2
    have hS := hS.alloc (.cells #[.int .i64 0, .int .i64 1, .int .i64 2147483646, .int .i64 2147483647, .int .i64 (-1)] 2)
    have hg := grown_alloc hg (.cells #[.int .i64 0, .int .i64 1, .int .i64 2147483646, .int .i64 2147483647, .int .i64 (-1)] 2)
    refine (next_any B g a len cap 5 _ hS (by omega)).mono ?_
    rintro e w2 ⟨q, rfl, q1, q2, hS2, hg2⟩
    replace BX := BX.grown hg2 (by omega)
    replace hg := grown_trans hg hg2
    have c0 : w2.cell? ⟨w1.heap.size, 0, none⟩ = some (.int .i64 0) := by simpa using BX.cell 0
    have c1 : w2.cell? ⟨w1.heap.size, 1, none⟩ = some (.int .i64 1) := by simpa using BX.cell 1
    have c2 : w2.cell? ⟨w1.heap.size, 2, none⟩ = some (.int .i64 2147483646) := by simpa using BX.cell 2
    have c3 : w2.cell? ⟨w1.heap.size, 3, none⟩ = some (.int .i64 2147483647) := by simpa using BX.cell 3
    have c4 : w2.cell? ⟨w1.heap.size, 4, none⟩ = some (.int .i64 (-1)) := by simpa using BX.cell 4
    have cf := fun i => BX.free i
    have cl := BX.lt
    have hq : q = 0 ∨ q = 1 ∨ q = 2 ∨ q = 3 ∨ q = 4 := by omega
    clear q1 q2 BX
    rcases hq with rfl | rfl | rfl | rfl | rfl
    all_goals
      go_wp2
      go_ret
      exact ⟨_, rfl, hS2, hg⟩
  · have f0 : (r == 0) = false := by rw [beq_eq_false_iff_ne]; exact h0
    go_wp2_with fail
    refine (next_any B g a len cap 2147483646 _ hS (by omega)).mono ?_
    rintro e w2 ⟨q, rfl, q1, q2, hS2, hg2⟩
    have q3 : q ≤ 2147483646 := by omega
    go_wp2
    go_ret
    exact ⟨_, rfl, hS2, grown_trans hg hg2⟩
set_option maxHeartbeats 1000000 in
theorem drawMany_any (B g : Nat) (a : Option Addr) (len cap : Nat) (w : World) (hS : Src B w g a len cap) :
    Calls Try.prog 54 #[.pointer (some ⟨g, 0, none⟩)] w (IntPost B g a len cap w) := by
  have hgl := hS.lt
  go_enter Try.func54, Try.ntmps54
  go_wp2_with fail
  refine (next_any B g a len cap 12 _ hS (by omega)).mono ?_
  rintro e w1 ⟨r, rfl, r1, r2, hS, hg⟩
  have hz1 := hg.size
  by_cases h0 : r = 0
  · subst h0
    go_wp2_with fail
    have BX := Blk.new w1 #[.int .i64 (-1), .int .i64 400, .int .i64 401] 2
    have hS := hS.alloc (.cells #[.int .i64 (-1), .int .i64 400, .int .i64 401] 2)
    have hg := grown_alloc hg (.cells #[.int .i64 (-1), .int .i64 400, .int .i64 401] 2)
    refine (next_any B g a len cap 3 _ hS (by omega)).mono ?_
    rintro e w2 ⟨q, rfl, q1, q2, hS2, hg2⟩
    replace BX := BX.grown hg2 (by omega)
    replace hg := grown_trans hg hg2
    have c0 : w2.cell? ⟨w1.heap.size, 0, none⟩ = some (.int .i64 (-1)) := by simpa using BX.cell 0
    have c1 : w2.cell? ⟨w1.heap.size, 1, none⟩ = some (.int .i64 400) := by simpa using BX.cell 1
    have c2 : w2.cell? ⟨w1.heap.size, 2, none⟩ = some (.int .i64 401) := by simpa using BX.cell 2
    have cf := fun i => BX.free i
    have cl := BX.lt
    have hq : q = 0 ∨ q = 1 ∨ q = 2 := by omega
    clear q1 q2 BX
    rcases hq with rfl | rfl | rfl
    all_goals
      go_wp2
      go_ret
      exact ⟨_, rfl, hS2, hg⟩
  · have f0 : (r == 0) = false := by rw [beq_eq_false_iff_ne]; exact h0
    go_wp2_with fail
    refine (next_any B g a len cap 80 _ hS (by omega)).mono ?_
    rintro e w2 ⟨q, rfl, q1, q2, hS2, hg2⟩
    have q3 : q ≤ 2147483646 := by omega
    go_wp2
    go_ret
    exact ⟨_, rfl, hS2, grown_trans hg hg2⟩
set_option maxHeartbeats 1000000 in
theorem drawVar07_any (B : Nat) (a : Option Addr) (len cap : Nat) (w : World) (hB : B ≤ w.heap.size) (hlen : len ≤ 1048576) (hcode : CodeIn B w a len) :
    Calls Try.prog 16 #[.slice a len cap] w (VarNew w) := by
  have hc1 := hcode.below ((Below.refl B w).alloc hB (.cells #[.int .i64 0, .int .i64 0, .int .i64 0, .int .i64 0] 25))
  go_enter Try.func16, Try.ntmps16
  go_wp2_with fail
  have B0 := Blk.new w #[.int .i64 0, .int .i64 0, .int .i64 0, .int .i64 0] 25
  refine (from_any B a len cap _ (by simp; omega) hlen hc1).mono ?_
  rintro e w1 ⟨g, rfl, hg, hS, hb⟩
  have hg' : w.heap.size < g := by simp at hg; omega
  replace B0 := B0.below hb
  replace hb := from_alloc hb
  go_wp2_with fail
  refine (drawAny_any B g a len cap _ hS).mono ?_
  rintro e w2 ⟨p, c, h, s, rfl, _, _, _, _, hS2, hG⟩
  replace B0 := B0.grown hG (by omega)
  replace hb := chain_grown hb hG (by omega)
  obtain ⟨y0, y1, y2, y3, yf, yl⟩ := B0.four
  go_wp2_with fail
  refine bodyPost_ret (v := .agg #[.int .i64 p, .int .i64 c, .int .i64 h, .int .i64 s]) (by simp [results, Try.results16, go_sem, y0, y1, y2, y3]) rfl ?_
  exact ⟨_, _, _, _, rfl, (((hb.setCell (Nat.le_refl _) _).setCell (Nat.le_refl _) _).setCell (Nat.le_refl _) _).setCell (Nat.le_refl _) _⟩
set_option maxHeartbeats 1000000 in
theorem drawReq_any (B : Nat) (a : Option Addr) (len cap : Nat) (w : World) (hB : B ≤ w.heap.size) (hlen : len ≤ 1048576) (hcode : CodeIn B w a len) :
    Calls Try.prog 24 #[.slice a len cap] w (ReqNew w) := by
  have hc1 := hcode.below ((Below.refl B w).alloc hB (.cells #[.int .i64 0, .int .i64 0, .int .i64 0, .int .i64 0] 25))
  go_enter Try.func24, Try.ntmps24
  go_wp2_with fail
  have B0 := Blk.new w #[.int .i64 0, .int .i64 0, .int .i64 0, .int .i64 0] 25
  refine (from_any B a len cap _ (by simp; omega) hlen hc1).mono ?_
  rintro e w1 ⟨g, rfl, hg, hS, hb⟩
  have hg' : w.heap.size < g := by simp at hg; omega
  replace B0 := B0.below hb
  replace hb := from_alloc hb
  go_wp2_with fail
  refine (drawAny_any B g a len cap _ hS).mono ?_
  rintro e w2 ⟨p, c, h, s, rfl, _, _, _, _, hS2, hG⟩
  replace B0 := B0.grown hG (by omega)
  replace hb := chain_grown hb hG (by omega)
  go_wp2_with fail
  refine (drawSeed_any B g a len cap _ hS2).mono ?_
  rintro e w3 ⟨x, rfl, hS3, hG⟩
  replace B0 := B0.grown hG (by omega)
  replace hb := chain_grown hb hG (by omega)
  go_wp2_with fail
  refine (drawMany_any B g a len cap _ hS3).mono ?_
  rintro e w4 ⟨n, rfl, hS4, hG⟩
  replace B0 := B0.grown hG (by omega)
  replace hb := chain_grown hb hG (by omega)
  have BZn := (((B0.set (i := 0) (.int .i64 p)).set (i := 1) (.int .i64 c)).set (i := 2) (.int .i64 h)).set (i := 3) (.int .i64 s)
  obtain ⟨t0, t1, t2, t3, tf, tl⟩ := BZn.four
  obtain ⟨y0, y1, y2, y3, yf, yl⟩ := B0.four
  go_wp2_with fail
  refine bodyPost_ret (v := .tuple #[.agg #[.int .i64 p, .int .i64 c, .int .i64 h, .int .i64 s], .int .i64 x, .int .i64 n]) (by simp [results, Try.results24, go_sem, t0, t1, t2, t3]) rfl ?_
  exact ⟨_, _, _, _, _, _, rfl, (((hb.setCell (Nat.le_refl _) _).setCell (Nat.le_refl _) _).setCell (Nat.le_refl _) _).setCell (Nat.le_refl _) _⟩
set_option maxHeartbeats 1000000 in
theorem drawStr_any (B : Nat) (a : Option Addr) (len cap : Nat) (w : World) (hB : B ≤ w.heap.size) (hlen : len ≤ 1048576) (hcode : CodeIn B w a len) :
    Calls Try.prog 29 #[.slice a len cap] w (ReqNew w) := by
  have hc1 := hcode.below ((Below.refl B w).alloc hB (.cells #[.int .i64 0, .int .i64 0, .int .i64 0, .int .i64 0] 25))
  go_enter Try.func29, Try.ntmps29
  go_wp2_with fail
  have B0 := Blk.new w #[.int .i64 0, .int .i64 0, .int .i64 0, .int .i64 0] 25
  refine (from_any B a len cap _ (by simp; omega) hlen hc1).mono ?_
  rintro e w1 ⟨g, rfl, hg, hS, hb⟩
  have hg' : w.heap.size < g := by simp at hg; omega
  replace B0 := B0.below hb
  replace hb := from_alloc hb
  go_wp2_with fail
  refine (drawAny_any B g a len cap _ hS).mono ?_
  rintro e w2 ⟨p, c, h, s, rfl, _, _, _, _, hS2, hG⟩
  replace B0 := B0.grown hG (by omega)
  replace hb := chain_grown hb hG (by omega)
  go_wp2_with fail
  refine (drawSeed_any B g a len cap _ hS2).mono ?_
  rintro e w3 ⟨x, rfl, hS3, hG⟩
  replace B0 := B0.grown hG (by omega)
  replace hb := chain_grown hb hG (by omega)
  go_wp2_with fail
  refine (drawMany_any B g a len cap _ hS3).mono ?_
  rintro e w4 ⟨n, rfl, hS4, hG⟩
  replace B0 := B0.grown hG (by omega)
  replace hb := chain_grown hb hG (by omega)
  have BZn := (((B0.set (i := 0) (.int .i64 p)).set (i := 1) (.int .i64 c)).set (i := 2) (.int .i64 h)).set (i := 3) (.int .i64 s)
  obtain ⟨t0, t1, t2, t3, tf, tl⟩ := BZn.four
  obtain ⟨y0, y1, y2, y3, yf, yl⟩ := B0.four
  go_wp2_with fail
  refine bodyPost_ret (v := .tuple #[.agg #[.int .i64 p, .int .i64 c, .int .i64 h, .int .i64 s], .int .i64 x, .int .i64 n]) (by simp [results, Try.results29, go_sem, t0, t1, t2, t3]) rfl ?_
  exact ⟨_, _, _, _, _, _, rfl, (((hb.setCell (Nat.le_refl _) _).setCell (Nat.le_refl _) _).setCell (Nat.le_refl _) _).setCell (Nat.le_refl _) _⟩
end Go.Proofs.Ytcmfknkdfkchmaa
