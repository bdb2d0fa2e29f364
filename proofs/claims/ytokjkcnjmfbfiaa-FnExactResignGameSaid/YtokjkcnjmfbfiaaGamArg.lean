/- How a game that came in is read. -/
import Derived.Test.YtokjkcnjmfbfiaaGam
import Derived.Test.YtokjkcnjmfbfiaaOpen
import Derived.Lib.SmallJoins
namespace Go.Proofs.Ytokjkcnjmfbfiaa
open Go.Joins Go.Deep
open Go.ChangeShapes Go.WideShapes Go.ChangeAt Go.RowKit
set_option linter.unusedVariables false
set_option linter.unusedSimpArgs false
set_option maxRecDepth 4000

set_option maxRecDepth 8000 in
theorem array9 {α : Type} {cs : Array α} (h : cs.size = 9) : ∃ c0 c1 c2 c3 c4 c5 c6 c7 c8, cs = #[c0, c1, c2, c3, c4, c5, c6, c7, c8] := by
  obtain ⟨l⟩ := cs
  match l, h with
  | [c0, c1, c2, c3, c4, c5, c6, c7, c8], _ => exact ⟨c0, c1, c2, c3, c4, c5, c6, c7, c8, rfl⟩
theorem list2 {α : Type} {l : List α} (h : l.length = 2) : ∃ a b, l = [a, b] := by
  match l, h with
  | [a, b], _ => exact ⟨a, b, rfl⟩
set_option maxRecDepth 8000 in
theorem list7 {α : Type} {l : List α} (h : l.length = 7) : ∃ a b c d e f g, l = [a, b, c, d, e, f, g] := by
  match l, h with
  | [a, b, c, d, e, f, g], _ => exact ⟨a, b, c, d, e, f, g, rfl⟩
section
variable {H : Type} {enc : TypeId × Value → H} {w : World} {base : Nat} {spare : Nat → Bool} {held : Bool}
theorem trod_i64 {fuel : Nat} {v : Value} {y : DataW H × List MemPlace} (h : DataW.trod enc Try.prog w base spare held fuel 2 [v] = some y) : ∃ a, v = .int .i64 a ∧ (Lit.int .i64 a).wf = true := by
  obtain ⟨a, e, _, wa⟩ := DataW.trod_int Try.underlying2 h
  simp at e
  exact ⟨a, e, wa⟩
theorem trod_two {t : TypeId} {fuel : Nat} {v0 v1 : Value} {y : DataW H × List MemPlace} {f0 f1 : Field} (hs : Try.prog.underlying t = some (.struct #[f0, f1])) (o0 : f0.offset = 0) (k0 : Try.prog.cellsOf f0.type = 1) (o1 : f1.offset = 1) (k1 : Try.prog.cellsOf f1.type = 1)
    (h : DataW.trod enc Try.prog w base spare held fuel t [v0, v1] = some y) : ∃ n z0 z1, DataW.trod enc Try.prog w base spare held n f0.type [v0] = some z0 ∧ DataW.trod enc Try.prog w base spare held n f1.type [v1] = some z1 := by
  obtain ⟨xs, n, _, hx, _, hlen, hg⟩ := DataW.trod_struct hs h
  obtain ⟨z0, z1, rfl⟩ := list2 hlen
  exact ⟨n, z0, z1, by simpa [o0, k0] using hg 0 f0 rfl, by simpa [o1, k1] using hg 1 f1 rfl⟩
set_option maxRecDepth 8000 in
theorem open_game {r : Reach} {b0 : Nat} {v : Value} {d : DataW H} {p : List MemPlace} (hv : Value.okWide Try.prog w r b0 66 v) (h : DataW.Trod enc Try.prog w base spare held 66 v d p) :
    ∃ (G : Gm) (a1 a2 : Option Addr) (c1 c2 : Nat), v = .agg #[.slice a1 G.xs.length c1, .slice a2 G.ys.length c2, .int .i64 G.pl, .int .i64 G.ra, .int .i64 G.rb, .int .i64 G.ph, .int .i64 G.wi, .int .i64 G.re, .int .i64 G.tu] ∧ G.xs.length ≤ 9223372036854775807 ∧ G.ys.length ≤ 9223372036854775807 ∧ IRow w a1 G.xs ∧ IRow w a2 G.ys := by
  obtain ⟨cs, rfl, hsz⟩ := okWide_struct Try.underlying66 hv
  obtain ⟨v0, v1, v2, v3, v4, v5, v6, v7, v8, rfl⟩ := array9 (hsz.trans (show Try.prog.cellsOf 66 = 9 by kernel_rfl))
  obtain ⟨fuel, hf⟩ := h
  obtain ⟨ys, n, _, hx, _, hlen, hg⟩ := DataW.trod_struct Try.underlying66 hf
  obtain ⟨z0, z1, z2, z3, z4, z5, z6, rfl⟩ := list7 hlen
  have k0 : Try.prog.cellsOf 26 = 2 := by kernel_rfl
  have k1 : Try.prog.cellsOf 2 = 1 := by kernel_rfl
  have k2 : Try.prog.cellsOf 28 = 2 := by kernel_rfl
  have k3 : Try.prog.cellsOf 24 = 1 := by kernel_rfl
  have q0 := hg 0 _ rfl
  have q1 := hg 1 _ rfl
  have q2 := hg 2 _ rfl
  have q3 := hg 3 _ rfl
  have q4 := hg 4 _ rfl
  have q5 := hg 5 _ rfl
  have q6 := hg 6 _ rfl
  simp [Value.cells, k0] at q0
  simp [Value.cells, k1] at q1 q3 q4 q5 q6
  simp [Value.cells, k2] at q2
  obtain ⟨m0, u0, u1, j0, j1⟩ := trod_two Try.underlying26 rfl k3 rfl k3 q0
  obtain ⟨m2, u2, u3, j2, j3⟩ := trod_two Try.underlying28 rfl k1 rfl k1 q2
  obtain ⟨a1, n1, c1, xs, rfl, e1, b1, r1, -⟩ := open_row j0
  obtain ⟨a2, n2, c2, ys, rfl, e2, b2, r2, -⟩ := open_row j1
  obtain ⟨ra, rfl, -⟩ := trod_i64 j2
  obtain ⟨rb, rfl, -⟩ := trod_i64 j3
  obtain ⟨pl, rfl, -⟩ := trod_i64 q1
  obtain ⟨ph, rfl, -⟩ := trod_i64 q3
  obtain ⟨wi, rfl, -⟩ := trod_i64 q4
  obtain ⟨re, rfl, -⟩ := trod_i64 q5
  obtain ⟨tu, rfl, -⟩ := trod_i64 q6
  subst e1 e2
  exact ⟨⟨xs, ys, pl, ra, rb, ph, wi, re, tu⟩, a1, a2, c1, c2, rfl, b1, b2, r1, r2⟩
end
end Go.Proofs.Ytokjkcnjmfbfiaa
