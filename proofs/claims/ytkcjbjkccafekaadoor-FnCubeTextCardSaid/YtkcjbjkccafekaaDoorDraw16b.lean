/- The model's codes of chapter 16: rules and a cube. -/
import Derived.Test.YtkcjbjkccafekaaDoorDraw16
namespace Go.Proofs.YtkcjbjkccafekaaDoor
open Go.ChangeShapes Go.WideShapes Go.ChangeAt Go.RowKit
set_option linter.unusedVariables false
set_option linter.unusedSimpArgs false
set_option maxRecDepth 4000

/-- Rules and a cube have been drawn from a code. -/
def CubeNew (w : World) (e : Ending) (w' : World) : Prop :=
  ∃ (m : Int) (x y : Bool) (v o : Int), e = .returned (.tuple #[.agg #[.int .i64 m, .bool x, .bool y], .agg #[.int .i64 v, .int .i64 o]]) ∧ Below w.heap.size w w'
/-- A cube has been drawn from a code. -/
def OneCube (w : World) (e : Ending) (w' : World) : Prop := ∃ v o : Int, e = .returned (.agg #[.int .i64 v, .int .i64 o]) ∧ Below w.heap.size w w'
/-- Rules, a cube and a number have been drawn from a code. -/
def CubeNew3 (w : World) (e : Ending) (w' : World) : Prop :=
  ∃ (m : Int) (x y : Bool) (v o k : Int), e = .returned (.tuple #[.agg #[.int .i64 m, .bool x, .bool y], .agg #[.int .i64 v, .int .i64 o], .int .i64 k]) ∧ Below w.heap.size w w'
set_option maxRecDepth 8000 in
set_option maxHeartbeats 2000000 in
theorem drawIsCube_any (B : Nat) (a : Option Addr) (len cap : Nat) (w : World) (hB : B ≤ w.heap.size) (hlen : len ≤ 1048576) (hcode : CodeIn B w a len) :
    Calls Tryd.prog 22 #[.slice a len cap] w (CubeNew w) := by
  obtain ⟨B0, B1, hb, hz⟩ := two_new w #[.int .i64 0, .bool false, .bool false] #[.int .i64 0, .int .i64 0] 37 25
  have hc1 := hcode.below (hb.mono hB)
  go_enter Tryd.func22, Tryd.ntmps22
  go_wp2_with fail
  have hz0 : ((w.alloc (.cells #[.int .i64 0, .bool false, .bool false] 37)).alloc (.cells #[.int .i64 0, .int .i64 0] 25)).heap.size = w.heap.size + 1 + 1 := by rw [hz]
  clear hz
  generalize ((w.alloc (.cells #[.int .i64 0, .bool false, .bool false] 37)).alloc (.cells #[.int .i64 0, .int .i64 0] 25)) = v0 at *
  refine (from_any B a len cap _ (by omega) hlen hc1).mono ?_
  rintro e w1 ⟨g, rfl, hg, hS, hb1⟩
  have hg' : w.heap.size + 1 < g := by omega
  replace B0 := B0.below hb1
  replace B1 := B1.below hb1
  replace hb := chain hb hb1
  clear hb1 hc1 hg hz0
  go_wp2_with fail
  refine (drawRules16_any B g a len cap _ hS).mono ?_
  rintro e w2 ⟨m, x, y, rfl, hS, hg⟩
  replace B0 := B0.grown hg (by omega)
  replace B1 := B1.grown hg (by omega)
  replace hb := chain_grown hb hg (by omega)
  clear hg
  have hgl := hS.lt
  have BY := Blk.new w2 #[.int .i64 m, .bool x, .bool y] 37
  have hy0 : w.heap.size + 1 < w2.heap.size := B1.lt
  replace B0 := B0.alloc (.cells #[.int .i64 m, .bool x, .bool y] 37)
  replace B1 := B1.alloc (.cells #[.int .i64 m, .bool x, .bool y] 37)
  replace hS := hS.alloc (.cells #[.int .i64 m, .bool x, .bool y] 37)
  replace hb := chain_alloc hb (.cells #[.int .i64 m, .bool x, .bool y] 37)
  obtain ⟨t0, t1, t2, tf, tl⟩ := BY.t3
  go_wp2_with fail
  clear t0 t1 t2 tf tl
  generalize (w2.alloc (.cells #[.int .i64 m, .bool x, .bool y] 37)) = w3 at *
  generalize w2.heap.size = by_ at *
  have hd_ : w3.drew.heap.size = w3.heap.size := rfl
  replace BY := BY.drew
  replace B0 := B0.drew
  replace B1 := B1.drew
  replace hS := hS.drew
  replace hb := hb.drew
  refine wp_region_held_drew (S := fun w' => w'.cell? ⟨by_, 0, none⟩ = some (.int .i64 m) ∧ w'.cell? ⟨by_, 1, none⟩ = some (.bool x) ∧ w'.cell? ⟨by_, 2, none⟩ = some (.bool y)) (by kernel_rfl) ⟨BY.t3.1, BY.t3.2.1, BY.t3.2.2.1⟩ (fun hHeld => ?_)
  clear hHeld
  generalize w3.drew = vd at *
  have hHeld : vd.cell? ⟨by_, 0, none⟩ = some (.int .i64 m) ∧ vd.cell? ⟨by_, 1, none⟩ = some (.bool x) ∧ vd.cell? ⟨by_, 2, none⟩ = some (.bool y) := ⟨BY.t3.1, BY.t3.2.1, BY.t3.2.2.1⟩
  refine tk 0 10 ?_
  refine tk 1 11 ?_
  refine tk 2 12 ?_
  refine rdk 3 13 fun K hK => ?_
  go_simp
  refine (drawCube16_any B g m x y a len cap _ hS).mono ?_
  rintro e w4 ⟨v, o, rfl, hS, hg⟩
  replace B0 := B0.grown hg (by omega)
  replace B1 := B1.grown hg (by omega)
  replace BY := BY.grown hg (by have := BY.lt; omega)
  replace hb := chain_grown hb hg (by omega)
  clear hg
  (try go_wp2_with fail)
  refine hko hK ⟨BY.t3.1, BY.t3.2.1, BY.t3.2.2.1⟩ fun hHeld => ?_
  clear hK K
  refine rdn 4 fun K hK => ?_
  obtain ⟨z0, z1, z2, zf, zl⟩ := B0.t3
  go_simp
  (try go_wp2_with fail)
  refine hko hK ⟨(((BY.other (by omega)).other (by omega)).other (by omega)).t3.1, (((BY.other (by omega)).other (by omega)).other (by omega)).t3.2.1, (((BY.other (by omega)).other (by omega)).other (by omega)).t3.2.2.1⟩ fun hHeld => ?_
  clear hK K
  refine rdn 5 fun K hK => ?_
  obtain ⟨z0, z1, zf, zl⟩ := ((((B1.other (g := w.heap.size) (o := 0) (v := .int .i64 m) (by omega)).other (g := w.heap.size) (o := 1) (v := .bool x) (by omega)).other (g := w.heap.size) (o := 2) (v := .bool y) (by omega))).two
  go_simp
  (try go_wp2_with fail)
  refine hko hK ⟨(((((BY.other (by omega)).other (by omega)).other (by omega)).other (by omega)).other (by omega)).t3.1, (((((BY.other (by omega)).other (by omega)).other (by omega)).other (by omega)).other (by omega)).t3.2.1, (((((BY.other (by omega)).other (by omega)).other (by omega)).other (by omega)).other (by omega)).t3.2.2.1⟩ fun hHeld => ?_
  clear hK K
  refine wpAnyH_done (by kernel_rfl) ?_ _
  clear hHeld
  go_wp2_with fail
  have Z0 := (((B0.set (i := 0) (.int .i64 m)).set (i := 1) (.bool x)).set (i := 2) (.bool y))
  have Z0n := ((Z0.other (g := w.heap.size + 1) (o := 0) (v := .int .i64 v) (by omega)).other (g := w.heap.size + 1) (o := 1) (v := .int .i64 o) (by omega))
  have Z1 := ((((B1.other (g := w.heap.size) (o := 0) (v := .int .i64 m) (by omega)).other (g := w.heap.size) (o := 1) (v := .bool x) (by omega)).other (g := w.heap.size) (o := 2) (v := .bool y) (by omega)).set (i := 0) (.int .i64 v)).set (i := 1) (.int .i64 o)
  obtain ⟨z0, z1, z2, zf, zl⟩ := Z0n.t3
  obtain ⟨u0, u1, uf, ul⟩ := Z1.two
  refine bodyPost_ret (v := .tuple #[.agg #[.int .i64 m, .bool x, .bool y], .agg #[.int .i64 v, .int .i64 o]]) (by simp [results, Tryd.results22, go_sem, z0, z1, z2, u0, u1]) rfl ?_
  exact ⟨m, x, y, v, o, rfl, ((((hb.setCell (by simp) _).setCell (by simp) _).setCell (by simp) _).setCell (by simp) _).setCell (by simp) _⟩
set_option maxRecDepth 8000 in
set_option maxHeartbeats 1000000 in
theorem drawSwapCube_any (B : Nat) (a : Option Addr) (len cap : Nat) (w : World) (hB : B ≤ w.heap.size) (hlen : len ≤ 1048576) (hcode : CodeIn B w a len) :
    Calls Tryd.prog 15 #[.slice a len cap] w (OneCube w) := by
  have B1 := Blk.new w #[.int .i64 0, .int .i64 0] 25
  have hb : Below w.heap.size w (w.alloc (.cells #[.int .i64 0, .int .i64 0] 25)) := (Below.refl _ _).alloc (Nat.le_refl _) _
  have hc1 := hcode.below (hb.mono hB)
  have hz0 : (w.alloc (.cells #[.int .i64 0, .int .i64 0] 25)).heap.size = w.heap.size + 1 := by simp
  go_enter Tryd.func15, Tryd.ntmps15
  go_wp2_with fail
  generalize (w.alloc (.cells #[.int .i64 0, .int .i64 0] 25)) = v0 at *
  refine (drawIsCube_any B a len cap _ (by omega) hlen hc1).mono ?_
  rintro e w1 ⟨m, x, y, v, o, rfl, hb1⟩
  replace B1 := B1.below hb1
  replace hb := chain hb hb1
  clear hb1 hc1 hz0
  have hne : w.heap.size < w1.heap.size := B1.lt
  have B3 := (B1.alloc (.cells #[.int .i64 m, .bool x, .bool y] 37)).alloc (.cells #[.int .i64 v, .int .i64 o] 25)
  have hb3 := chain_alloc (chain_alloc hb (.cells #[.int .i64 m, .bool x, .bool y] 37)) (.cells #[.int .i64 v, .int .i64 o] 25)
  obtain ⟨z0, z1, zf, zl⟩ := B3.two
  obtain ⟨y0, y1, yf, yl⟩ := B1.two
  go_wp2
  obtain ⟨u0, u1, uf, ul⟩ := ((B3.set (i := 0) (.int .i64 v)).set (i := 1) (.int .i64 o)).two
  refine bodyPost_ret (v := .agg #[.int .i64 v, .int .i64 o]) (by first | (simp [results, Tryd.results15, go_sem, u0, u1]; done) | (simp [results, Tryd.results15, go_sem, *]; done)) rfl ?_
  first
    | exact ⟨v, o, rfl, (hb3.setCell (Nat.le_refl _) _).setCell (Nat.le_refl _) _⟩
    | exact ⟨v, o, rfl, (((hb.setCell (Nat.le_refl _) _).setCell (Nat.le_refl _) _).alloc (by simp; omega) _).alloc (by simp; omega) _⟩
set_option maxHeartbeats 1000000 in
theorem drawCubeText_any (B : Nat) (a : Option Addr) (len cap : Nat) (w : World) (hB : B ≤ w.heap.size) (hlen : len ≤ 1048576) (hcode : CodeIn B w a len) :
    Calls Tryd.prog 7 #[.slice a len cap] w (OneCube w) := by
  have B1 := Blk.new w #[.int .i64 0, .int .i64 0] 25
  have hb : Below w.heap.size w (w.alloc (.cells #[.int .i64 0, .int .i64 0] 25)) := (Below.refl _ _).alloc (Nat.le_refl _) _
  have hc1 := hcode.below (hb.mono hB)
  have hz0 : (w.alloc (.cells #[.int .i64 0, .int .i64 0] 25)).heap.size = w.heap.size + 1 := by simp
  go_enter Tryd.func7, Tryd.ntmps7
  go_wp2_with fail
  generalize (w.alloc (.cells #[.int .i64 0, .int .i64 0] 25)) = v0 at *
  refine (drawSwapCube_any B a len cap _ (by omega) hlen hc1).mono ?_
  rintro e w1 ⟨v, o, rfl, hb1⟩
  replace B1 := B1.below hb1
  replace hb := chain hb hb1
  clear hb1 hc1 hz0
  obtain ⟨y0, y1, yf, yl⟩ := B1.two
  go_wp2
  obtain ⟨u0, u1, uf, ul⟩ := ((B1.set (i := 0) (.int .i64 v)).set (i := 1) (.int .i64 o)).two
  refine bodyPost_ret (v := .agg #[.int .i64 v, .int .i64 o]) (by simp [results, Tryd.results7, go_sem, u0, u1]) rfl ?_
  exact ⟨v, o, rfl, (hb.setCell (Nat.le_refl _) _).setCell (Nat.le_refl _) _⟩
end Go.Proofs.YtkcjbjkccafekaaDoor
