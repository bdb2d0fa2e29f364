/- The model's codes of chapter 16: rules and a cube. -/
import Derived.Test.YtkcjbjkccafekaaDraw16
namespace Go.Proofs.Ytkcjbjkccafekaa
open Go.ChangeShapes Go.WideShapes Go.ChangeAt Go.RowKit
set_option linter.unusedVariables false
set_option linter.unusedSimpArgs false
set_option maxRecDepth 4000

/-- Rules and a cube have been drawn from a code. -/
def CubeNew (w : World) (e : Ending) (w' : World) : Prop :=
  ∃ (m : Int) (x y : Bool) (v o : Int), e = .returned (.tuple #[.agg #[.int .i64 m, .bool x, .bool y], .agg #[.int .i64 v, .int .i64 o]]) ∧ Below w.heap.size w w'
/-- Rules, a cube and a number have been drawn from a code. -/
def CubeNew3 (w : World) (e : Ending) (w' : World) : Prop :=
  ∃ (m : Int) (x y : Bool) (v o k : Int), e = .returned (.tuple #[.agg #[.int .i64 m, .bool x, .bool y], .agg #[.int .i64 v, .int .i64 o], .int .i64 k]) ∧ Below w.heap.size w w'
set_option maxRecDepth 8000 in
set_option maxHeartbeats 2000000 in
theorem drawIsCube_any (B : Nat) (a : Option Addr) (len cap : Nat) (w : World) (hB : B ≤ w.heap.size) (hlen : len ≤ 1048576) (hcode : CodeIn B w a len) :
    Calls Try.prog 36 #[.slice a len cap] w (CubeNew w) := by
  obtain ⟨B0, B1, hb, hz⟩ := two_new w #[.int .i64 0, .bool false, .bool false] #[.int .i64 0, .int .i64 0] 25 27
  have hc1 := hcode.below (hb.mono hB)
  go_enter Try.func36, Try.ntmps36
  go_wp2_with fail
  have hz0 : ((w.alloc (.cells #[.int .i64 0, .bool false, .bool false] 25)).alloc (.cells #[.int .i64 0, .int .i64 0] 27)).heap.size = w.heap.size + 1 + 1 := by rw [hz]
  clear hz
  generalize ((w.alloc (.cells #[.int .i64 0, .bool false, .bool false] 25)).alloc (.cells #[.int .i64 0, .int .i64 0] 27)) = v0 at *
  refine (from_any B a len cap _ (by omega) hlen hc1).mono ?_
  rintro e w1 ⟨g, rfl, hg, hS, hb1⟩
  have hg' : w.heap.size + 1 < g := by omega
  replace B0 := B0.below hb1
  replace B1 := B1.below hb1
  replace hb := chain hb hb1
  clear hb1 hc1 hg hz0
  go_wp2_with fail
  refine (drawRules16_any B g a len cap _ hS).mono ?_
  rintro e w2 ⟨m, x, y, rfl, hS, hg⟩
  replace B0 := B0.grown hg (by omega)
  replace B1 := B1.grown hg (by omega)
  replace hb := chain_grown hb hg (by omega)
  clear hg
  have hgl := hS.lt
  have BY := Blk.new w2 #[.int .i64 m, .bool x, .bool y] 25
  have hy0 : w.heap.size + 1 < w2.heap.size := B1.lt
  replace B0 := B0.alloc (.cells #[.int .i64 m, .bool x, .bool y] 25)
  replace B1 := B1.alloc (.cells #[.int .i64 m, .bool x, .bool y] 25)
  replace hS := hS.alloc (.cells #[.int .i64 m, .bool x, .bool y] 25)
  replace hb := chain_alloc hb (.cells #[.int .i64 m, .bool x, .bool y] 25)
  obtain ⟨t0, t1, t2, tf, tl⟩ := BY.t3
  go_wp2_with fail
  clear t0 t1 t2 tf tl
  generalize (w2.alloc (.cells #[.int .i64 m, .bool x, .bool y] 25)) = w3 at *
  generalize w2.heap.size = by_ at *
  have hd_ : w3.drew.heap.size = w3.heap.size := rfl
  replace BY := BY.drew
  replace B0 := B0.drew
  replace B1 := B1.drew
  replace hS := hS.drew
  replace hb := hb.drew
  refine wp_region_held_drew (S := fun w' => w'.cell? ⟨by_, 0, none⟩ = some (.int .i64 m) ∧ w'.cell? ⟨by_, 1, none⟩ = some (.bool x) ∧ w'.cell? ⟨by_, 2, none⟩ = some (.bool y)) (by kernel_rfl) ⟨BY.t3.1, BY.t3.2.1, BY.t3.2.2.1⟩ (fun hHeld => ?_)
  clear hHeld
  generalize w3.drew = vd at *
  have hHeld : vd.cell? ⟨by_, 0, none⟩ = some (.int .i64 m) ∧ vd.cell? ⟨by_, 1, none⟩ = some (.bool x) ∧ vd.cell? ⟨by_, 2, none⟩ = some (.bool y) := ⟨BY.t3.1, BY.t3.2.1, BY.t3.2.2.1⟩
  refine tk 0 10 ?_
  refine tk 1 11 ?_
  refine tk 2 12 ?_
  refine rdk 3 13 fun K hK => ?_
  go_simp
  refine (drawCube16_any B g m x y a len cap _ hS).mono ?_
  rintro e w4 ⟨v, o, rfl, hS, hg⟩
  replace B0 := B0.grown hg (by omega)
  replace B1 := B1.grown hg (by omega)
  replace BY := BY.grown hg (by have := BY.lt; omega)
  replace hb := chain_grown hb hg (by omega)
  clear hg
  (try go_wp2_with fail)
  refine hko hK ⟨BY.t3.1, BY.t3.2.1, BY.t3.2.2.1⟩ fun hHeld => ?_
  clear hK K
  refine rdn 4 fun K hK => ?_
  obtain ⟨z0, z1, z2, zf, zl⟩ := B0.t3
  go_simp
  (try go_wp2_with fail)
  refine hko hK ⟨(((BY.other (by omega)).other (by omega)).other (by omega)).t3.1, (((BY.other (by omega)).other (by omega)).other (by omega)).t3.2.1, (((BY.other (by omega)).other (by omega)).other (by omega)).t3.2.2.1⟩ fun hHeld => ?_
  clear hK K
  refine rdn 5 fun K hK => ?_
  obtain ⟨z0, z1, zf, zl⟩ := ((((B1.other (g := w.heap.size) (o := 0) (v := .int .i64 m) (by omega)).other (g := w.heap.size) (o := 1) (v := .bool x) (by omega)).other (g := w.heap.size) (o := 2) (v := .bool y) (by omega))).two
  go_simp
  (try go_wp2_with fail)
  refine hko hK ⟨(((((BY.other (by omega)).other (by omega)).other (by omega)).other (by omega)).other (by omega)).t3.1, (((((BY.other (by omega)).other (by omega)).other (by omega)).other (by omega)).other (by omega)).t3.2.1, (((((BY.other (by omega)).other (by omega)).other (by omega)).other (by omega)).other (by omega)).t3.2.2.1⟩ fun hHeld => ?_
  clear hK K
  refine wpAnyH_done (by kernel_rfl) ?_ _
  clear hHeld
  go_wp2_with fail
  have Z0 := (((B0.set (i := 0) (.int .i64 m)).set (i := 1) (.bool x)).set (i := 2) (.bool y))
  have Z0n := ((Z0.other (g := w.heap.size + 1) (o := 0) (v := .int .i64 v) (by omega)).other (g := w.heap.size + 1) (o := 1) (v := .int .i64 o) (by omega))
  have Z1 := ((((B1.other (g := w.heap.size) (o := 0) (v := .int .i64 m) (by omega)).other (g := w.heap.size) (o := 1) (v := .bool x) (by omega)).other (g := w.heap.size) (o := 2) (v := .bool y) (by omega)).set (i := 0) (.int .i64 v)).set (i := 1) (.int .i64 o)
  obtain ⟨z0, z1, z2, zf, zl⟩ := Z0n.t3
  obtain ⟨u0, u1, uf, ul⟩ := Z1.two
  refine bodyPost_ret (v := .tuple #[.agg #[.int .i64 m, .bool x, .bool y], .agg #[.int .i64 v, .int .i64 o]]) (by simp [results, Try.results36, go_sem, z0, z1, z2, u0, u1]) rfl ?_
  exact ⟨m, x, y, v, o, rfl, ((((hb.setCell (by simp) _).setCell (by simp) _).setCell (by simp) _).setCell (by simp) _).setCell (by simp) _⟩
set_option maxRecDepth 8000 in
set_option maxHeartbeats 2000000 in
theorem drawGamePoints_any (B : Nat) (a : Option Addr) (len cap : Nat) (w : World) (hB : B ≤ w.heap.size) (hlen : len ≤ 1048576) (hcode : CodeIn B w a len) :
    Calls Try.prog 21 #[.slice a len cap] w (CubeNew3 w) := by
  obtain ⟨B0, B1, hb, hz⟩ := two_new w #[.int .i64 0, .bool false, .bool false] #[.int .i64 0, .int .i64 0] 25 27
  have hc1 := hcode.below (hb.mono hB)
  go_enter Try.func21, Try.ntmps21
  go_wp2_with fail
  have hz0 : ((w.alloc (.cells #[.int .i64 0, .bool false, .bool false] 25)).alloc (.cells #[.int .i64 0, .int .i64 0] 27)).heap.size = w.heap.size + 1 + 1 := by rw [hz]
  clear hz
  generalize ((w.alloc (.cells #[.int .i64 0, .bool false, .bool false] 25)).alloc (.cells #[.int .i64 0, .int .i64 0] 27)) = v0 at *
  refine (from_any B a len cap _ (by omega) hlen hc1).mono ?_
  rintro e w1 ⟨g, rfl, hg, hS, hb1⟩
  have hg' : w.heap.size + 1 < g := by omega
  replace B0 := B0.below hb1
  replace B1 := B1.below hb1
  replace hb := chain hb hb1
  clear hb1 hc1 hg hz0
  go_wp2_with fail
  refine (drawRules16_any B g a len cap _ hS).mono ?_
  rintro e w2 ⟨m, x, y, rfl, hS, hg⟩
  replace B0 := B0.grown hg (by omega)
  replace B1 := B1.grown hg (by omega)
  replace hb := chain_grown hb hg (by omega)
  clear hg
  have hgl := hS.lt
  have BY := Blk.new w2 #[.int .i64 m, .bool x, .bool y] 25
  have hy0 : w.heap.size + 1 < w2.heap.size := B1.lt
  replace B0 := B0.alloc (.cells #[.int .i64 m, .bool x, .bool y] 25)
  replace B1 := B1.alloc (.cells #[.int .i64 m, .bool x, .bool y] 25)
  replace hS := hS.alloc (.cells #[.int .i64 m, .bool x, .bool y] 25)
  replace hb := chain_alloc hb (.cells #[.int .i64 m, .bool x, .bool y] 25)
  obtain ⟨t0, t1, t2, tf, tl⟩ := BY.t3
  go_wp2_with fail
  clear t0 t1 t2 tf tl
  generalize (w2.alloc (.cells #[.int .i64 m, .bool x, .bool y] 25)) = w3 at *
  generalize w2.heap.size = by_ at *
  have hd_ : w3.drew.heap.size = w3.heap.size := rfl
  replace BY := BY.drew
  replace B0 := B0.drew
  replace B1 := B1.drew
  replace hS := hS.drew
  replace hb := hb.drew
  refine wp_region_held_drew (S := fun w' => w'.cell? ⟨by_, 0, none⟩ = some (.int .i64 m) ∧ w'.cell? ⟨by_, 1, none⟩ = some (.bool x) ∧ w'.cell? ⟨by_, 2, none⟩ = some (.bool y)) (by kernel_rfl) ⟨BY.t3.1, BY.t3.2.1, BY.t3.2.2.1⟩ (fun hHeld => ?_)
  clear hHeld
  generalize w3.drew = vd at *
  have hHeld : vd.cell? ⟨by_, 0, none⟩ = some (.int .i64 m) ∧ vd.cell? ⟨by_, 1, none⟩ = some (.bool x) ∧ vd.cell? ⟨by_, 2, none⟩ = some (.bool y) := ⟨BY.t3.1, BY.t3.2.1, BY.t3.2.2.1⟩
  refine tk 0 11 ?_
  refine tk 1 12 ?_
  refine tk 2 13 ?_
  refine tk 4 15 ?_
  refine rdk 3 14 fun K hK => ?_
  go_simp
  refine (drawCube16_any B g m x y a len cap _ hS).mono ?_
  rintro e w4 ⟨v, o, rfl, hS, hg⟩
  replace B0 := B0.grown hg (by omega)
  replace B1 := B1.grown hg (by omega)
  replace BY := BY.grown hg (by have := BY.lt; omega)
  replace hb := chain_grown hb hg (by omega)
  clear hg
  (try go_wp2_with fail)
  refine hko hK ⟨BY.t3.1, BY.t3.2.1, BY.t3.2.2.1⟩ fun hHeld => ?_
  clear hK K
  refine rdk 5 16 fun K hK => ?_
  go_simp
  refine (next_any B g a len cap 5 _ hS (by omega)).mono ?_
  rintro e w5 ⟨k, rfl, q_k, u_k, hS, hg⟩
  replace B0 := B0.grown hg (by omega)
  replace B1 := B1.grown hg (by omega)
  replace BY := BY.grown hg (by have := BY.lt; omega)
  replace hb := chain_grown hb hg (by omega)
  clear hg
  (try go_wp2_with fail)
  refine hko hK ⟨BY.t3.1, BY.t3.2.1, BY.t3.2.2.1⟩ fun hHeld => ?_
  clear hK K
  refine rdn 6 fun K hK => ?_
  obtain ⟨z0, z1, z2, zf, zl⟩ := B0.t3
  go_simp
  (try go_wp2_with fail)
  refine hko hK ⟨(((BY.other (by omega)).other (by omega)).other (by omega)).t3.1, (((BY.other (by omega)).other (by omega)).other (by omega)).t3.2.1, (((BY.other (by omega)).other (by omega)).other (by omega)).t3.2.2.1⟩ fun hHeld => ?_
  clear hK K
  refine rdn 7 fun K hK => ?_
  obtain ⟨z0, z1, zf, zl⟩ := ((((B1.other (g := w.heap.size) (o := 0) (v := .int .i64 m) (by omega)).other (g := w.heap.size) (o := 1) (v := .bool x) (by omega)).other (g := w.heap.size) (o := 2) (v := .bool y) (by omega))).two
  go_simp
  (try go_wp2_with fail)
  refine hko hK ⟨(((((BY.other (by omega)).other (by omega)).other (by omega)).other (by omega)).other (by omega)).t3.1, (((((BY.other (by omega)).other (by omega)).other (by omega)).other (by omega)).other (by omega)).t3.2.1, (((((BY.other (by omega)).other (by omega)).other (by omega)).other (by omega)).other (by omega)).t3.2.2.1⟩ fun hHeld => ?_
  clear hK K
  refine tk 8 4 ?_
  refine wpAnyH_done (by kernel_rfl) ?_ _
  clear hHeld
  go_wp2_with fail
  have Z0 := (((B0.set (i := 0) (.int .i64 m)).set (i := 1) (.bool x)).set (i := 2) (.bool y))
  have Z0n := ((Z0.other (g := w.heap.size + 1) (o := 0) (v := .int .i64 v) (by omega)).other (g := w.heap.size + 1) (o := 1) (v := .int .i64 o) (by omega))
  have Z1 := ((((B1.other (g := w.heap.size) (o := 0) (v := .int .i64 m) (by omega)).other (g := w.heap.size) (o := 1) (v := .bool x) (by omega)).other (g := w.heap.size) (o := 2) (v := .bool y) (by omega)).set (i := 0) (.int .i64 v)).set (i := 1) (.int .i64 o)
  obtain ⟨z0, z1, z2, zf, zl⟩ := Z0n.t3
  obtain ⟨u0, u1, uf, ul⟩ := Z1.two
  refine bodyPost_ret (v := .tuple #[.agg #[.int .i64 m, .bool x, .bool y], .agg #[.int .i64 v, .int .i64 o], .int .i64 k]) (by simp [results, Try.results21, go_sem, z0, z1, z2, u0, u1]) rfl ?_
  exact ⟨m, x, y, v, o, k, rfl, ((((hb.setCell (by simp) _).setCell (by simp) _).setCell (by simp) _).setCell (by simp) _).setCell (by simp) _⟩
set_option maxRecDepth 8000 in
set_option maxHeartbeats 1000000 in
theorem drawCubeActions_any (B : Nat) (a : Option Addr) (len cap : Nat) (w : World) (hB : B ≤ w.heap.size) (hlen : len ≤ 1048576) (hcode : CodeIn B w a len) :
    Calls Try.prog 13 #[.slice a len cap] w (CubeNew w) := by
  obtain ⟨B0, B1, hb, hz⟩ := two_new w #[.int .i64 0, .bool false, .bool false] #[.int .i64 0, .int .i64 0] 25 27
  have hc1 := hcode.below (hb.mono hB)
  go_enter Try.func13, Try.ntmps13
  go_wp2_with fail
  have hz0 : ((w.alloc (.cells #[.int .i64 0, .bool false, .bool false] 25)).alloc (.cells #[.int .i64 0, .int .i64 0] 27)).heap.size = w.heap.size + 1 + 1 := by rw [hz]
  clear hz
  generalize ((w.alloc (.cells #[.int .i64 0, .bool false, .bool false] 25)).alloc (.cells #[.int .i64 0, .int .i64 0] 27)) = v0 at *
  refine (drawIsCube_any B a len cap _ (by omega) hlen hc1).mono ?_
  rintro e w1 ⟨m, x, y, v, o, rfl, hb1⟩
  replace B0 := B0.below hb1
  replace B1 := B1.below hb1
  replace hb := chain hb hb1
  clear hb1 hc1 hz0
  obtain ⟨p0, p1, p2, pf, pl⟩ := B0.t3
  obtain ⟨s0, s1, sf, sl⟩ := B1.two
  go_wp2_with fail
  have Z0 := (((B0.set (i := 0) (.int .i64 m)).set (i := 1) (.bool x)).set (i := 2) (.bool y))
  have Z0n := ((Z0.other (g := w.heap.size + 1) (o := 0) (v := .int .i64 v) (by omega)).other (g := w.heap.size + 1) (o := 1) (v := .int .i64 o) (by omega))
  have Z1 := ((((B1.other (g := w.heap.size) (o := 0) (v := .int .i64 m) (by omega)).other (g := w.heap.size) (o := 1) (v := .bool x) (by omega)).other (g := w.heap.size) (o := 2) (v := .bool y) (by omega)).set (i := 0) (.int .i64 v)).set (i := 1) (.int .i64 o)
  obtain ⟨z0, z1, z2, zf, zl⟩ := Z0n.t3
  obtain ⟨u0, u1, uf, ul⟩ := Z1.two
  refine bodyPost_ret (v := .tuple #[.agg #[.int .i64 m, .bool x, .bool y], .agg #[.int .i64 v, .int .i64 o]]) (by simp [results, Try.results13, go_sem, z0, z1, z2, u0, u1]) rfl ?_
  exact ⟨m, x, y, v, o, rfl, ((((hb.setCell (by simp) _).setCell (by simp) _).setCell (by simp) _).setCell (by simp) _).setCell (by simp) _⟩
end Go.Proofs.Ytkcjbjkccafekaa
