/- Games as values: how they lie, and a game that a call has made. -/
import Derived.Test.YtokjkcnjmfbfiaaM08
import Derived.Test.YtokjkcnjmfbfiaaOwnB
import Derived.Test.YtokjkcnjmfbfiaaOwn
import Derived.ChangeOld
namespace Go.Proofs.Ytokjkcnjmfbfiaa
open Go.ChangeShapes Go.WideShapes Go.ChangeAt Go.RowKit
set_option linter.unusedVariables false
set_option linter.unusedSimpArgs false
set_option maxRecDepth 4000

/-- A game's cells. -/
abbrev gmC (a1 : Option Addr) (c1 : Nat) (a2 : Option Addr) (c2 : Nat) (G : Gm) : Array Value := #[.slice a1 G.xs.length c1, .slice a2 G.ys.length c2, .int .i64 G.pl, .int .i64 G.ra, .int .i64 G.rb, .int .i64 G.ph, .int .i64 G.wi, .int .i64 G.re, .int .i64 G.tu]
abbrev gmV (a1 : Option Addr) (c1 : Nat) (a2 : Option Addr) (c2 : Nat) (G : Gm) : Value := .agg #[.slice a1 G.xs.length c1, .slice a2 G.ys.length c2, .int .i64 G.pl, .int .i64 G.ra, .int .i64 G.rb, .int .i64 G.ph, .int .i64 G.wi, .int .i64 G.re, .int .i64 G.tu]
/-- A game has been made, with a code. -/
def GameGot (G : Gm) (code : Int) (w : World) (e : Ending) (w' : World) : Prop :=
  ∃ a1 a2 k1 k2, e = .returned (.tuple #[gmV a1 k1 a2 k2 G, .int .i64 code]) ∧ OBd w.heap.size w'.heap.size w' a1 a2 G.xs G.ys ∧ Below w.heap.size w w'
/-- A game has been made. -/
def GameMade (G : Gm) (w : World) (e : Ending) (w' : World) : Prop :=
  ∃ a1 a2 k1 k2, e = .returned (gmV a1 k1 a2 k2 G) ∧ OBd w.heap.size w'.heap.size w' a1 a2 G.xs G.ys ∧ Below w.heap.size w w'
/-- A block of nine cells: each cell by itself, and the marks. -/
theorem Blk.nine {w : World} {g : Nat} {v0 v1 v2 v3 v4 v5 v6 v7 v8 : Value} {t : TypeId} (h : Blk w g #[v0, v1, v2, v3, v4, v5, v6, v7, v8] t) :
    w.cell? ⟨g, 0, none⟩ = some v0 ∧ w.cell? ⟨g, 1, none⟩ = some v1 ∧ w.cell? ⟨g, 2, none⟩ = some v2 ∧ w.cell? ⟨g, 3, none⟩ = some v3 ∧ w.cell? ⟨g, 4, none⟩ = some v4 ∧ w.cell? ⟨g, 5, none⟩ = some v5 ∧ w.cell? ⟨g, 6, none⟩ = some v6 ∧ w.cell? ⟨g, 7, none⟩ = some v7 ∧ w.cell? ⟨g, 8, none⟩ = some v8 ∧ (∀ i, w.frozen? ⟨g, i, none⟩ = false) ∧ g < w.heap.size :=
  ⟨by simpa using h.cell 0, by simpa using h.cell 1, by simpa using h.cell 2, by simpa using h.cell 3, by simpa using h.cell 4, by simpa using h.cell 5, by simpa using h.cell 6, by simpa using h.cell 7, by simpa using h.cell 8, fun i => h.free i, h.lt⟩
theorem two_new' (w : World) (vs us : Array Value) (t u : TypeId) :
    Blk ((w.alloc (.cells vs t)).alloc (.cells us u)) w.heap.size vs t ∧ Blk ((w.alloc (.cells vs t)).alloc (.cells us u)) (w.heap.size + 1) us u ∧ Below w.heap.size w ((w.alloc (.cells vs t)).alloc (.cells us u)) ∧ w.heap.size + 1 < ((w.alloc (.cells vs t)).alloc (.cells us u)).heap.size := by
  obtain ⟨h1, h2, h3, h4⟩ := two_new w vs us t u
  exact ⟨h1, h2, h3, by rw [h4]; omega⟩
theorem Blk.setG3 {{W : World}} {{B : Nat}} {{q0 q1 q2 q3 q4 q5 q6 q7 q8 : Value}} {{t : TypeId}} (h : Blk W B #[q0, q1, q2, q3, q4, q5, q6, q7, q8] t) (u0 u1 u2 : Value) : Blk (((W.setCell ⟨B, 0, none⟩ (u0)).setCell ⟨B, 1, none⟩ (u1)).setCell ⟨B, 2, none⟩ (u2)) B #[u0, u1, u2, q3, q4, q5, q6, q7, q8] t := by
  have := (((h.set (i := 0) u0).set (i := 1) u1).set (i := 2) u2)
  simp only [List.setIfInBounds_toArray, List.set_cons_zero, List.set_cons_succ] at this
  exact this
theorem Blk.farG3 {{W : World}} {{B g : Nat}} {{vs : Array Value}} {{t : TypeId}} (h : Blk W g vs t) (hne : g ≠ B) (u0 u1 u2 : Value) : Blk (((W.setCell ⟨B, 0, none⟩ (u0)).setCell ⟨B, 1, none⟩ (u1)).setCell ⟨B, 2, none⟩ (u2)) g vs t :=
  (((h.other hne).other hne).other hne)
theorem Row.farG3 {{W : World}} {{B g : Nat}} {{xs : List Int}} (h : Row W g xs) (hne : g ≠ B) (u0 u1 u2 : Value) : Row (((W.setCell ⟨B, 0, none⟩ (u0)).setCell ⟨B, 1, none⟩ (u1)).setCell ⟨B, 2, none⟩ (u2)) g xs :=
  (((h.other hne).other hne).other hne)
theorem Below.farG3 {{w W : World}} {{lo B : Nat}} (h : Below lo w W) (hB : lo ≤ B) (u0 u1 u2 : Value) : Below lo w (((W.setCell ⟨B, 0, none⟩ (u0)).setCell ⟨B, 1, none⟩ (u1)).setCell ⟨B, 2, none⟩ (u2)) :=
  (((h.setCell (p := ⟨B, 0, none⟩) hB _).setCell (p := ⟨B, 1, none⟩) hB _).setCell (p := ⟨B, 2, none⟩) hB _)
theorem size_farG3 (W : World) (B : Nat) (u0 u1 u2 : Value) : (((W.setCell ⟨B, 0, none⟩ (u0)).setCell ⟨B, 1, none⟩ (u1)).setCell ⟨B, 2, none⟩ (u2)).heap.size = W.heap.size := by simp
theorem Blk.setG6 {{W : World}} {{B : Nat}} {{q0 q1 q2 q3 q4 q5 q6 q7 q8 : Value}} {{t : TypeId}} (h : Blk W B #[q0, q1, q2, q3, q4, q5, q6, q7, q8] t) (u3 u4 u5 u6 u7 u8 : Value) : Blk ((((((W.setCell ⟨B, 3, none⟩ (u3)).setCell ⟨B, 4, none⟩ (u4)).setCell ⟨B, 5, none⟩ (u5)).setCell ⟨B, 6, none⟩ (u6)).setCell ⟨B, 7, none⟩ (u7)).setCell ⟨B, 8, none⟩ (u8)) B #[q0, q1, q2, u3, u4, u5, u6, u7, u8] t := by
  have := ((((((h.set (i := 3) u3).set (i := 4) u4).set (i := 5) u5).set (i := 6) u6).set (i := 7) u7).set (i := 8) u8)
  simp only [List.setIfInBounds_toArray, List.set_cons_zero, List.set_cons_succ] at this
  exact this
theorem Blk.farG6 {{W : World}} {{B g : Nat}} {{vs : Array Value}} {{t : TypeId}} (h : Blk W g vs t) (hne : g ≠ B) (u3 u4 u5 u6 u7 u8 : Value) : Blk ((((((W.setCell ⟨B, 3, none⟩ (u3)).setCell ⟨B, 4, none⟩ (u4)).setCell ⟨B, 5, none⟩ (u5)).setCell ⟨B, 6, none⟩ (u6)).setCell ⟨B, 7, none⟩ (u7)).setCell ⟨B, 8, none⟩ (u8)) g vs t :=
  ((((((h.other hne).other hne).other hne).other hne).other hne).other hne)
theorem Row.farG6 {{W : World}} {{B g : Nat}} {{xs : List Int}} (h : Row W g xs) (hne : g ≠ B) (u3 u4 u5 u6 u7 u8 : Value) : Row ((((((W.setCell ⟨B, 3, none⟩ (u3)).setCell ⟨B, 4, none⟩ (u4)).setCell ⟨B, 5, none⟩ (u5)).setCell ⟨B, 6, none⟩ (u6)).setCell ⟨B, 7, none⟩ (u7)).setCell ⟨B, 8, none⟩ (u8)) g xs :=
  ((((((h.other hne).other hne).other hne).other hne).other hne).other hne)
theorem Below.farG6 {{w W : World}} {{lo B : Nat}} (h : Below lo w W) (hB : lo ≤ B) (u3 u4 u5 u6 u7 u8 : Value) : Below lo w ((((((W.setCell ⟨B, 3, none⟩ (u3)).setCell ⟨B, 4, none⟩ (u4)).setCell ⟨B, 5, none⟩ (u5)).setCell ⟨B, 6, none⟩ (u6)).setCell ⟨B, 7, none⟩ (u7)).setCell ⟨B, 8, none⟩ (u8)) :=
  ((((((h.setCell (p := ⟨B, 3, none⟩) hB _).setCell (p := ⟨B, 4, none⟩) hB _).setCell (p := ⟨B, 5, none⟩) hB _).setCell (p := ⟨B, 6, none⟩) hB _).setCell (p := ⟨B, 7, none⟩) hB _).setCell (p := ⟨B, 8, none⟩) hB _)
theorem size_farG6 (W : World) (B : Nat) (u3 u4 u5 u6 u7 u8 : Value) : ((((((W.setCell ⟨B, 3, none⟩ (u3)).setCell ⟨B, 4, none⟩ (u4)).setCell ⟨B, 5, none⟩ (u5)).setCell ⟨B, 6, none⟩ (u6)).setCell ⟨B, 7, none⟩ (u7)).setCell ⟨B, 8, none⟩ (u8)).heap.size = W.heap.size := by simp
theorem Blk.setG9 {{W : World}} {{B : Nat}} {{q0 q1 q2 q3 q4 q5 q6 q7 q8 : Value}} {{t : TypeId}} (h : Blk W B #[q0, q1, q2, q3, q4, q5, q6, q7, q8] t) (u0 u1 u2 u3 u4 u5 u6 u7 u8 : Value) : Blk (((((((((W.setCell ⟨B, 0, none⟩ (u0)).setCell ⟨B, 1, none⟩ (u1)).setCell ⟨B, 2, none⟩ (u2)).setCell ⟨B, 3, none⟩ (u3)).setCell ⟨B, 4, none⟩ (u4)).setCell ⟨B, 5, none⟩ (u5)).setCell ⟨B, 6, none⟩ (u6)).setCell ⟨B, 7, none⟩ (u7)).setCell ⟨B, 8, none⟩ (u8)) B #[u0, u1, u2, u3, u4, u5, u6, u7, u8] t := by
  have := (((((((((h.set (i := 0) u0).set (i := 1) u1).set (i := 2) u2).set (i := 3) u3).set (i := 4) u4).set (i := 5) u5).set (i := 6) u6).set (i := 7) u7).set (i := 8) u8)
  simp only [List.setIfInBounds_toArray, List.set_cons_zero, List.set_cons_succ] at this
  exact this
theorem Blk.farG9 {{W : World}} {{B g : Nat}} {{vs : Array Value}} {{t : TypeId}} (h : Blk W g vs t) (hne : g ≠ B) (u0 u1 u2 u3 u4 u5 u6 u7 u8 : Value) : Blk (((((((((W.setCell ⟨B, 0, none⟩ (u0)).setCell ⟨B, 1, none⟩ (u1)).setCell ⟨B, 2, none⟩ (u2)).setCell ⟨B, 3, none⟩ (u3)).setCell ⟨B, 4, none⟩ (u4)).setCell ⟨B, 5, none⟩ (u5)).setCell ⟨B, 6, none⟩ (u6)).setCell ⟨B, 7, none⟩ (u7)).setCell ⟨B, 8, none⟩ (u8)) g vs t :=
  (((((((((h.other hne).other hne).other hne).other hne).other hne).other hne).other hne).other hne).other hne)
theorem Row.farG9 {{W : World}} {{B g : Nat}} {{xs : List Int}} (h : Row W g xs) (hne : g ≠ B) (u0 u1 u2 u3 u4 u5 u6 u7 u8 : Value) : Row (((((((((W.setCell ⟨B, 0, none⟩ (u0)).setCell ⟨B, 1, none⟩ (u1)).setCell ⟨B, 2, none⟩ (u2)).setCell ⟨B, 3, none⟩ (u3)).setCell ⟨B, 4, none⟩ (u4)).setCell ⟨B, 5, none⟩ (u5)).setCell ⟨B, 6, none⟩ (u6)).setCell ⟨B, 7, none⟩ (u7)).setCell ⟨B, 8, none⟩ (u8)) g xs :=
  (((((((((h.other hne).other hne).other hne).other hne).other hne).other hne).other hne).other hne).other hne)
theorem Below.farG9 {{w W : World}} {{lo B : Nat}} (h : Below lo w W) (hB : lo ≤ B) (u0 u1 u2 u3 u4 u5 u6 u7 u8 : Value) : Below lo w (((((((((W.setCell ⟨B, 0, none⟩ (u0)).setCell ⟨B, 1, none⟩ (u1)).setCell ⟨B, 2, none⟩ (u2)).setCell ⟨B, 3, none⟩ (u3)).setCell ⟨B, 4, none⟩ (u4)).setCell ⟨B, 5, none⟩ (u5)).setCell ⟨B, 6, none⟩ (u6)).setCell ⟨B, 7, none⟩ (u7)).setCell ⟨B, 8, none⟩ (u8)) :=
  (((((((((h.setCell (p := ⟨B, 0, none⟩) hB _).setCell (p := ⟨B, 1, none⟩) hB _).setCell (p := ⟨B, 2, none⟩) hB _).setCell (p := ⟨B, 3, none⟩) hB _).setCell (p := ⟨B, 4, none⟩) hB _).setCell (p := ⟨B, 5, none⟩) hB _).setCell (p := ⟨B, 6, none⟩) hB _).setCell (p := ⟨B, 7, none⟩) hB _).setCell (p := ⟨B, 8, none⟩) hB _)
theorem size_farG9 (W : World) (B : Nat) (u0 u1 u2 u3 u4 u5 u6 u7 u8 : Value) : (((((((((W.setCell ⟨B, 0, none⟩ (u0)).setCell ⟨B, 1, none⟩ (u1)).setCell ⟨B, 2, none⟩ (u2)).setCell ⟨B, 3, none⟩ (u3)).setCell ⟨B, 4, none⟩ (u4)).setCell ⟨B, 5, none⟩ (u5)).setCell ⟨B, 6, none⟩ (u6)).setCell ⟨B, 7, none⟩ (u7)).setCell ⟨B, 8, none⟩ (u8)).heap.size = W.heap.size := by simp
/-- A game of no cells has been made. -/
theorem OBd.farG9 {lo hi B : Nat} {w : World} {a1 a2 : Option Addr} {xs ys : List Int} (h : OBd lo hi w a1 a2 xs ys) (hB : B < lo ∨ hi ≤ B) (u0 u1 u2 u3 u4 u5 u6 u7 u8 : Value) : OBd lo hi (((((((((w.setCell ⟨B, 0, none⟩ (u0)).setCell ⟨B, 1, none⟩ (u1)).setCell ⟨B, 2, none⟩ (u2)).setCell ⟨B, 3, none⟩ (u3)).setCell ⟨B, 4, none⟩ (u4)).setCell ⟨B, 5, none⟩ (u5)).setCell ⟨B, 6, none⟩ (u6)).setCell ⟨B, 7, none⟩ (u7)).setCell ⟨B, 8, none⟩ (u8)) a1 a2 xs ys := by
  rcases h with h | ⟨g1, g2, e1, e2, hne, b1, b2, b3, b4, r1, r2⟩
  · exact .inl h
  · exact .inr ⟨g1, g2, e1, e2, hne, b1, b2, b3, b4, r1.farG9 (by omega) _ _ _ _ _ _ _ _ _, r2.farG9 (by omega) _ _ _ _ _ _ _ _ _⟩
theorem OBd.nil (lo hi : Nat) (w : World) : OBd lo hi w none none [] [] := .inl ⟨rfl, rfl, rfl, rfl⟩
end Go.Proofs.Ytokjkcnjmfbfiaa
