/- An exact number is recovered from its text, and from its numerator and depth: for every code the law of chapter 9 returns true and the code reads behind the call as it read before. No conditions but those of the card: the listed variables of the library hold what their initialisers lay. (Laid into this text: The model's draw of an exact number and its variant. Mathematics of chapter 9: what the program reads of a number's text. Contract of chapter 9: the program's reading of an exact number out of the map of scales.) -/
import Derived.Test.YtenbihglmblalaaDoorDraw09
import Derived.Test.YtenbihglmblalaaDoor09zf
import Derived.Lib.AtoiAllCases
import Derived.Lib.CutLaws
import Derived.Test.YtenbihglmblalaaDoor09zg
import Derived.Test.YtenbihglmblalaaDoor10o
import Derived.Maps.RangeWalk
import Derived.Test.YtenbihglmblalaaDoor09g
import Derived.Test.YtenbihglmblalaaDoor09v
import Derived.Test.YtenbihglmblalaaDoor09p
import Derived.Test.YtenbihglmblalaaDoor09m
import Derived.Test.YtenbihglmblalaaDoorShelf
import Derived.Stop.LaidErr
import Derived.MakeChecks
import Derived.Shelf.Abstract
import Derived.Test.YtenbihglmblalaaDoorCards
import Derived.Test.YtenbihglmblalaaDoorTie
import Derived.Deep.DeepHandedRow
import Derived.Lib.LaidTab
import Derived.Test.YtenbihglmblalaaDoorOpen
import Derived.ChangeOld
namespace Go.Proofs.YtenbihglmblalaaDoor
open Go.ChangeShapes Go.WideShapes Go.ChangeAt Go.RowKit
set_option linter.unusedVariables false
set_option linter.unusedSimpArgs false
set_option maxRecDepth 4000

theorem Blk.away4 {w : World} {g B : Nat} {vs : Array Value} {t : TypeId} (h : Blk w g vs t) (hne : g ≠ B) (x y z u : Value) : Blk ((((w.setCell ⟨B, 0, none⟩ x).setCell ⟨B, 1, none⟩ y).setCell ⟨B, 2, none⟩ z).setCell ⟨B, 3, none⟩ u) g vs t :=
  (h.far3 hne x y z).other (g := B) (o := 3) (v := u) (by omega)
theorem belowFar4 {w w' : World} {m B : Nat} (h : Below m w w') (hB : m ≤ B) (x y z u : Value) : Below m w ((((w'.setCell ⟨B, 0, none⟩ x).setCell ⟨B, 1, none⟩ y).setCell ⟨B, 2, none⟩ z).setCell ⟨B, 3, none⟩ u) :=
  (belowFar3 h hB x y z).setCell (p := ⟨B, 3, none⟩) hB u
/-- A variant and an exact number have been drawn from a code. -/
def ExNew (w : World) (e : Ending) (w' : World) : Prop := ∃ p c h s xn xd : Int, e = .returned (.tuple #[.agg #[.int .i64 p, .int .i64 c, .int .i64 h, .int .i64 s], .agg #[.int .i64 xn, .int .i64 xd]]) ∧ (-9223372036854775808 ≤ xd ∧ xd ≤ 9223372036854775807) ∧ Below w.heap.size w w'
set_option maxRecDepth 8000 in
set_option maxHeartbeats 1000000 in
theorem drawIsExact9_any (B : Nat) (a : Option Addr) (len cap : Nat) (w : World) (hB : B ≤ w.heap.size) (hlen : len ≤ 1048576) (hcode : CodeIn B w a len) :
    Calls Tryd.prog 14 #[.slice a len cap] w (ExNew w) := by
  obtain ⟨RV, RX, hb, hz⟩ := two_new w #[.int .i64 0, .int .i64 0, .int .i64 0, .int .i64 0] #[.int .i64 0, .int .i64 0] 25 27
  have hc1 := hcode.below (hb.mono hB)
  go_enter Tryd.func14, Tryd.ntmps14
  go_wp2_with fail
  generalize ((w.alloc (.cells #[.int .i64 0, .int .i64 0, .int .i64 0, .int .i64 0] 25)).alloc (.cells #[.int .i64 0, .int .i64 0] 27)) = v0 at *
  refine (from_any B a len cap _ (by omega) hlen hc1).mono ?_
  rintro e w1 ⟨g, rfl, hg, hS, hb1⟩
  replace RV := RV.below hb1
  replace RX := RX.below hb1
  replace hb := chain hb hb1
  have hgw : w.heap.size + 1 < g := by omega
  clear hb1 hc1
  go_wp2_with fail
  refine (draw9Variant_any B g a len cap _ hS).mono ?_
  rintro e w2 ⟨p, c, h, s, rfl, hS, hg2⟩
  have hz2 := hg2.size
  have hl2 := hS.lt
  replace RV := RV.grown hg2 (by omega)
  replace RX := RX.grown hg2 (by omega)
  replace hb := chain_grown hb hg2 (by omega)
  have Bv := Blk.new w2 #[.int .i64 p, .int .i64 c, .int .i64 h, .int .i64 s] 25
  have hv2 := RX.lt
  replace RV := RV.alloc (.cells #[.int .i64 p, .int .i64 c, .int .i64 h, .int .i64 s] 25)
  replace RX := RX.alloc (.cells #[.int .i64 p, .int .i64 c, .int .i64 h, .int .i64 s] 25)
  replace hS := hS.alloc (.cells #[.int .i64 p, .int .i64 c, .int .i64 h, .int .i64 s] 25)
  replace hb := chain_alloc hb (.cells #[.int .i64 p, .int .i64 c, .int .i64 h, .int .i64 s] 25)
  obtain ⟨x0, x1, x2, x3, xf, xl⟩ := Bv.four
  go_wp2_with fail
  clear x0 x1 x2 x3 xf xl
  generalize w2.alloc (.cells #[.int .i64 p, .int .i64 c, .int .i64 h, .int .i64 s] 25) = wv at *
  generalize w2.heap.size = gv at *
  refine (draw9Exact_any B g a len cap p c h s _ hS).mono ?_
  rintro e w3 ⟨xn, xd, rfl, hxd, hS, hg3⟩
  have hz3 := hg3.size
  have hl3 := hS.lt
  replace RV := RV.grown hg3 (by omega)
  replace RX := RX.grown hg3 (by omega)
  replace Bv := Bv.grown hg3 (by omega)
  replace hb := chain_grown hb hg3 (by omega)
  have Bx := Blk.new w3 #[.int .i64 xn, .int .i64 xd] 27
  have hv3 := Bv.lt
  have hr3 := RX.lt
  replace RV := RV.alloc (.cells #[.int .i64 xn, .int .i64 xd] 27)
  replace RX := RX.alloc (.cells #[.int .i64 xn, .int .i64 xd] 27)
  replace Bv := Bv.alloc (.cells #[.int .i64 xn, .int .i64 xd] 27)
  replace hS := hS.alloc (.cells #[.int .i64 xn, .int .i64 xd] 27)
  replace hb := chain_alloc hb (.cells #[.int .i64 xn, .int .i64 xd] 27)
  obtain ⟨z0, z1, zf, zl⟩ := Bx.two
  go_wp2_with fail
  clear z0 z1 zf zl
  generalize w3.alloc (.cells #[.int .i64 xn, .int .i64 xd] 27) = wx at *
  generalize w3.heap.size = gx at *
  refine (next_any B g a len cap 6 _ hS (by omega)).mono ?_
  rintro e w4 ⟨r6, rfl, l4, u4, hS, hg4⟩
  have hz4 := hg4.size
  have hsl4 := hS.lt
  replace RV := RV.grown hg4 (by omega)
  replace RX := RX.grown hg4 (by omega)
  replace Bv := Bv.grown hg4 (by omega)
  replace Bx := Bx.grown hg4 (by omega)
  replace hb := chain_grown hb hg4 (by omega)
  clear hg4
  by_cases e6 : r6 = 0
  · subst e6
    go_wp2_with fail
    refine (next_any B g a len cap 80 _ hS (by omega)).mono ?_
    rintro e w5 ⟨r80, rfl, l5, u5, hS, hg5⟩
    have hz5 := hg5.size
    have hsl5 := hS.lt
    replace RV := RV.grown hg5 (by omega)
    replace RX := RX.grown hg5 (by omega)
    replace Bv := Bv.grown hg5 (by omega)
    replace Bx := Bx.grown hg5 (by omega)
    replace hb := chain_grown hb hg5 (by omega)
    clear hg5
    go_wp2_with fail
    refine (next_any B g a len cap 4 _ hS (by omega)).mono ?_
    rintro e w6 ⟨r4, rfl, l6, u6, hS, hg6⟩
    have hz6 := hg6.size
    have hsl6 := hS.lt
    replace RV := RV.grown hg6 (by omega)
    replace RX := RX.grown hg6 (by omega)
    replace Bv := Bv.grown hg6 (by omega)
    replace Bx := Bx.grown hg6 (by omega)
    replace hb := chain_grown hb hg6 (by omega)
    clear hg6
    obtain ⟨z0, z1, zf, zl⟩ := Bx.two
    go_wp2_with fail
    clear z0 z1 zf zl hS
    replace Bx := Bx.set2 (.int .i64 r80) (.int .i64 r4)
    replace RV := RV.far2 (B := gx) (by omega) (.int .i64 r80) (.int .i64 r4)
    replace RX := RX.far2 (B := gx) (by omega) (.int .i64 r80) (.int .i64 r4)
    replace Bv := Bv.far2 (B := gx) (by omega) (.int .i64 r80) (.int .i64 r4)
    replace hb := belowFar2 hb (B := gx) (by omega) (.int .i64 r80) (.int .i64 r4)
    generalize ((w6.setCell ⟨gx, 0, none⟩ (.int .i64 r80)).setCell ⟨gx, 1, none⟩ (.int .i64 r4)) = wy at *
    refine wp_region_held_drew (S := fun w' => w'.cell? ⟨gv, 0, none⟩ = some (.int .i64 p) ∧ w'.cell? ⟨gv, 1, none⟩ = some (.int .i64 c) ∧ w'.cell? ⟨gv, 2, none⟩ = some (.int .i64 h) ∧ w'.cell? ⟨gv, 3, none⟩ = some (.int .i64 s) ∧ w'.cell? ⟨gx, 0, none⟩ = some (.int .i64 r80) ∧ w'.cell? ⟨gx, 1, none⟩ = some (.int .i64 r4)) (by kernel_rfl) ⟨(Bv.drew).four.1, (Bv.drew).four.2.1, (Bv.drew).four.2.2.1, (Bv.drew).four.2.2.2.1, (Bx.drew).two.1, (Bx.drew).two.2.1⟩ (fun hHeld => ?_)
    clear hHeld
    replace RV := RV.drew
    replace RX := RX.drew
    replace Bv := Bv.drew
    replace Bx := Bx.drew
    replace hb := hb.drew
    generalize wy.drew = vd at *
    have hHeld : vd.cell? ⟨gv, 0, none⟩ = some (.int .i64 p) ∧ vd.cell? ⟨gv, 1, none⟩ = some (.int .i64 c) ∧ vd.cell? ⟨gv, 2, none⟩ = some (.int .i64 h) ∧ vd.cell? ⟨gv, 3, none⟩ = some (.int .i64 s) ∧ vd.cell? ⟨gx, 0, none⟩ = some (.int .i64 r80) ∧ vd.cell? ⟨gx, 1, none⟩ = some (.int .i64 r4) := ⟨(Bv).four.1, (Bv).four.2.1, (Bv).four.2.2.1, (Bv).four.2.2.2.1, (Bx).two.1, (Bx).two.2.1⟩
    refine wpAnyH_take (i := 0) (oi := { dst := some 22, op := _, type := _, pos := _, after := _, guard := _ }) (v := ?_) rfl (by kernel_rfl) (by kernel_rfl) (by kernel_rfl) (fun _ _ _ h => h) (Or.inl ⟨by rfl, ?_⟩) (by assumption) ?_
    rotate_left
    · intro w hSw
      (try dsimp only at hSw)
      go_simp
      (try (with_reducible rfl))
    try simp only [Act.put, List.setIfInBounds_toArray, List.set_cons_zero, List.set_cons_succ]
    refine wpAnyH_take (i := 1) (oi := { dst := some 23, op := _, type := _, pos := _, after := _, guard := _ }) (v := ?_) rfl (by kernel_rfl) (by kernel_rfl) (by kernel_rfl) (fun _ _ _ h => h) (Or.inl ⟨by rfl, ?_⟩) (by assumption) ?_
    rotate_left
    · intro w hSw
      (try dsimp only at hSw)
      go_simp
      (try (with_reducible rfl))
    try simp only [Act.put, List.setIfInBounds_toArray, List.set_cons_zero, List.set_cons_succ]
    refine wpAnyH_ready (rs := [2]) (by kernel_rfl) (by simp) ?_
    refine AllReadyH.cons (o := { dst := none, op := _, type := _, pos := _, after := _, guard := _ }) rfl (fun K hK => ?_) AllReadyH.nil
    clear hHeld
    obtain ⟨y0, y1, y2, y3, yf, yl⟩ := RV.four
    have SV := RV.put4 (.int .i64 p) (.int .i64 c) (.int .i64 h) (.int .i64 s)
    have SX := RX.away4 (B := w.heap.size) (by omega) (.int .i64 p) (.int .i64 c) (.int .i64 h) (.int .i64 s)
    have Sv := Bv.away4 (B := w.heap.size) (by omega) (.int .i64 p) (.int .i64 c) (.int .i64 h) (.int .i64 s)
    have Sx := Bx.away4 (B := w.heap.size) (by omega) (.int .i64 p) (.int .i64 c) (.int .i64 h) (.int .i64 s)
    have Sb := belowFar4 hb (B := w.heap.size) (Nat.le_refl _) (.int .i64 p) (.int .i64 c) (.int .i64 h) (.int .i64 s)
    go_simp
    (try go_wp2_with fail)
    refine hK.out _ _ ⟨(Sv).four.1, (Sv).four.2.1, (Sv).four.2.2.1, (Sv).four.2.2.2.1, (Sx).two.1, (Sx).two.2.1⟩ (fun hHeld => ?_)
    clear hK K
    try simp only [Act.put, List.setIfInBounds_toArray, List.set_cons_zero, List.set_cons_succ]
    clear y0 y1 y2 y3 yf yl RV RX Bv Bx hb
    generalize ((((vd.setCell ⟨w.heap.size, 0, none⟩ (.int .i64 p)).setCell ⟨w.heap.size, 1, none⟩ (.int .i64 c)).setCell ⟨w.heap.size, 2, none⟩ (.int .i64 h)).setCell ⟨w.heap.size, 3, none⟩ (.int .i64 s)) = wS at *
    have RV := SV
    have RX := SX
    have Bv := Sv
    have Bx := Sx
    have hb := Sb
    clear SV SX Sv Sx Sb
    refine wpAnyH_ready (rs := [3]) (by kernel_rfl) (by simp) ?_
    refine AllReadyH.cons (o := { dst := none, op := _, type := _, pos := _, after := _, guard := _ }) rfl (fun K hK => ?_) AllReadyH.nil
    clear hHeld
    obtain ⟨y0, y1, yf, yl⟩ := RX.two
    have SX := RX.set2 (.int .i64 r80) (.int .i64 r4)
    have SV := RV.far2 (B := w.heap.size + 1) (by omega) (.int .i64 r80) (.int .i64 r4)
    have Sv := Bv.far2 (B := w.heap.size + 1) (by omega) (.int .i64 r80) (.int .i64 r4)
    have Sx := Bx.far2 (B := w.heap.size + 1) (by omega) (.int .i64 r80) (.int .i64 r4)
    have Sb := belowFar2 hb (B := w.heap.size + 1) (by omega) (.int .i64 r80) (.int .i64 r4)
    go_simp
    (try go_wp2_with fail)
    refine hK.out _ _ ⟨(Sv).four.1, (Sv).four.2.1, (Sv).four.2.2.1, (Sv).four.2.2.2.1, (Sx).two.1, (Sx).two.2.1⟩ (fun hHeld => ?_)
    clear hK K
    try simp only [Act.put, List.setIfInBounds_toArray, List.set_cons_zero, List.set_cons_succ]
    clear y0 y1 yf yl RV RX Bv Bx hb
    generalize ((wS.setCell ⟨w.heap.size + 1, 0, none⟩ (.int .i64 r80)).setCell ⟨w.heap.size + 1, 1, none⟩ (.int .i64 r4)) = wT at *
    have RV := SV
    have RX := SX
    have Bv := Sv
    have Bx := Sx
    have hb := Sb
    clear SV SX Sv Sx Sb
    refine wpAnyH_done (by kernel_rfl) ?_ _
    clear hHeld
    obtain ⟨y0, y1, y2, y3, yf, yl⟩ := RV.four
    obtain ⟨t0, t1, tf, tl⟩ := RX.two
    (try go_wp2_with fail)
    refine bodyPost_ret (v := .tuple #[.agg #[.int .i64 p, .int .i64 c, .int .i64 h, .int .i64 s], .agg #[.int .i64 r80, .int .i64 r4]]) (by simp [results, Tryd.results14, go_sem, y0, y1, y2, y3, t0, t1]) rfl ?_
    exact ⟨_, _, _, _, _, _, rfl, by omega, hb⟩
  · have f6 : (r6 == 0) = false := by rw [beq_eq_false_iff_ne]; exact e6
    go_wp2_with fail
    clear hS
    refine wp_region_held_drew (S := fun w' => w'.cell? ⟨gv, 0, none⟩ = some (.int .i64 p) ∧ w'.cell? ⟨gv, 1, none⟩ = some (.int .i64 c) ∧ w'.cell? ⟨gv, 2, none⟩ = some (.int .i64 h) ∧ w'.cell? ⟨gv, 3, none⟩ = some (.int .i64 s) ∧ w'.cell? ⟨gx, 0, none⟩ = some (.int .i64 xn) ∧ w'.cell? ⟨gx, 1, none⟩ = some (.int .i64 xd)) (by kernel_rfl) ⟨(Bv.drew).four.1, (Bv.drew).four.2.1, (Bv.drew).four.2.2.1, (Bv.drew).four.2.2.2.1, (Bx.drew).two.1, (Bx.drew).two.2.1⟩ (fun hHeld => ?_)
    clear hHeld
    replace RV := RV.drew
    replace RX := RX.drew
    replace Bv := Bv.drew
    replace Bx := Bx.drew
    replace hb := hb.drew
    generalize w4.drew = vd at *
    have hHeld : vd.cell? ⟨gv, 0, none⟩ = some (.int .i64 p) ∧ vd.cell? ⟨gv, 1, none⟩ = some (.int .i64 c) ∧ vd.cell? ⟨gv, 2, none⟩ = some (.int .i64 h) ∧ vd.cell? ⟨gv, 3, none⟩ = some (.int .i64 s) ∧ vd.cell? ⟨gx, 0, none⟩ = some (.int .i64 xn) ∧ vd.cell? ⟨gx, 1, none⟩ = some (.int .i64 xd) := ⟨(Bv).four.1, (Bv).four.2.1, (Bv).four.2.2.1, (Bv).four.2.2.2.1, (Bx).two.1, (Bx).two.2.1⟩
    refine wpAnyH_take (i := 0) (oi := { dst := some 22, op := _, type := _, pos := _, after := _, guard := _ }) (v := ?_) rfl (by kernel_rfl) (by kernel_rfl) (by kernel_rfl) (fun _ _ _ h => h) (Or.inl ⟨by rfl, ?_⟩) (by assumption) ?_
    rotate_left
    · intro w hSw
      (try dsimp only at hSw)
      go_simp
      (try (with_reducible rfl))
    try simp only [Act.put, List.setIfInBounds_toArray, List.set_cons_zero, List.set_cons_succ]
    refine wpAnyH_take (i := 1) (oi := { dst := some 23, op := _, type := _, pos := _, after := _, guard := _ }) (v := ?_) rfl (by kernel_rfl) (by kernel_rfl) (by kernel_rfl) (fun _ _ _ h => h) (Or.inl ⟨by rfl, ?_⟩) (by assumption) ?_
    rotate_left
    · intro w hSw
      (try dsimp only at hSw)
      go_simp
      (try (with_reducible rfl))
    try simp only [Act.put, List.setIfInBounds_toArray, List.set_cons_zero, List.set_cons_succ]
    refine wpAnyH_ready (rs := [2]) (by kernel_rfl) (by simp) ?_
    refine AllReadyH.cons (o := { dst := none, op := _, type := _, pos := _, after := _, guard := _ }) rfl (fun K hK => ?_) AllReadyH.nil
    clear hHeld
    obtain ⟨y0, y1, y2, y3, yf, yl⟩ := RV.four
    have SV := RV.put4 (.int .i64 p) (.int .i64 c) (.int .i64 h) (.int .i64 s)
    have SX := RX.away4 (B := w.heap.size) (by omega) (.int .i64 p) (.int .i64 c) (.int .i64 h) (.int .i64 s)
    have Sv := Bv.away4 (B := w.heap.size) (by omega) (.int .i64 p) (.int .i64 c) (.int .i64 h) (.int .i64 s)
    have Sx := Bx.away4 (B := w.heap.size) (by omega) (.int .i64 p) (.int .i64 c) (.int .i64 h) (.int .i64 s)
    have Sb := belowFar4 hb (B := w.heap.size) (Nat.le_refl _) (.int .i64 p) (.int .i64 c) (.int .i64 h) (.int .i64 s)
    go_simp
    (try go_wp2_with fail)
    refine hK.out _ _ ⟨(Sv).four.1, (Sv).four.2.1, (Sv).four.2.2.1, (Sv).four.2.2.2.1, (Sx).two.1, (Sx).two.2.1⟩ (fun hHeld => ?_)
    clear hK K
    try simp only [Act.put, List.setIfInBounds_toArray, List.set_cons_zero, List.set_cons_succ]
    clear y0 y1 y2 y3 yf yl RV RX Bv Bx hb
    generalize ((((vd.setCell ⟨w.heap.size, 0, none⟩ (.int .i64 p)).setCell ⟨w.heap.size, 1, none⟩ (.int .i64 c)).setCell ⟨w.heap.size, 2, none⟩ (.int .i64 h)).setCell ⟨w.heap.size, 3, none⟩ (.int .i64 s)) = wS at *
    have RV := SV
    have RX := SX
    have Bv := Sv
    have Bx := Sx
    have hb := Sb
    clear SV SX Sv Sx Sb
    refine wpAnyH_ready (rs := [3]) (by kernel_rfl) (by simp) ?_
    refine AllReadyH.cons (o := { dst := none, op := _, type := _, pos := _, after := _, guard := _ }) rfl (fun K hK => ?_) AllReadyH.nil
    clear hHeld
    obtain ⟨y0, y1, yf, yl⟩ := RX.two
    have SX := RX.set2 (.int .i64 xn) (.int .i64 xd)
    have SV := RV.far2 (B := w.heap.size + 1) (by omega) (.int .i64 xn) (.int .i64 xd)
    have Sv := Bv.far2 (B := w.heap.size + 1) (by omega) (.int .i64 xn) (.int .i64 xd)
    have Sx := Bx.far2 (B := w.heap.size + 1) (by omega) (.int .i64 xn) (.int .i64 xd)
    have Sb := belowFar2 hb (B := w.heap.size + 1) (by omega) (.int .i64 xn) (.int .i64 xd)
    go_simp
    (try go_wp2_with fail)
    refine hK.out _ _ ⟨(Sv).four.1, (Sv).four.2.1, (Sv).four.2.2.1, (Sv).four.2.2.2.1, (Sx).two.1, (Sx).two.2.1⟩ (fun hHeld => ?_)
    clear hK K
    try simp only [Act.put, List.setIfInBounds_toArray, List.set_cons_zero, List.set_cons_succ]
    clear y0 y1 yf yl RV RX Bv Bx hb
    generalize ((wS.setCell ⟨w.heap.size + 1, 0, none⟩ (.int .i64 xn)).setCell ⟨w.heap.size + 1, 1, none⟩ (.int .i64 xd)) = wT at *
    have RV := SV
    have RX := SX
    have Bv := Sv
    have Bx := Sx
    have hb := Sb
    clear SV SX Sv Sx Sb
    refine wpAnyH_done (by kernel_rfl) ?_ _
    clear hHeld
    obtain ⟨y0, y1, y2, y3, yf, yl⟩ := RV.four
    obtain ⟨t0, t1, tf, tl⟩ := RX.two
    (try go_wp2_with fail)
    refine bodyPost_ret (v := .tuple #[.agg #[.int .i64 p, .int .i64 c, .int .i64 h, .int .i64 s], .agg #[.int .i64 xn, .int .i64 xd]]) (by simp [results, Tryd.results14, go_sem, y0, y1, y2, y3, t0, t1]) rfl ?_
    exact ⟨_, _, _, _, _, _, rfl, hxd, hb⟩
set_option maxRecDepth 8000 in
set_option maxHeartbeats 1000000 in
theorem drawExactText_any (B : Nat) (a : Option Addr) (len cap : Nat) (w : World) (hB : B ≤ w.heap.size) (hlen : len ≤ 1048576) (hcode : CodeIn B w a len) :
    Calls Tryd.prog 5 #[.slice a len cap] w (ExNew w) := by
  obtain ⟨RV, RX, hb, hz⟩ := two_new w #[.int .i64 0, .int .i64 0, .int .i64 0, .int .i64 0] #[.int .i64 0, .int .i64 0] 25 27
  have hc1 := hcode.below (hb.mono hB)
  go_enter Tryd.func5, Tryd.ntmps5
  go_wp2_with fail
  generalize ((w.alloc (.cells #[.int .i64 0, .int .i64 0, .int .i64 0, .int .i64 0] 25)).alloc (.cells #[.int .i64 0, .int .i64 0] 27)) = v0 at *
  refine (drawIsExact9_any B a len cap _ (by omega) hlen hc1).mono ?_
  rintro e w1 ⟨p, c, h, s, xn, xd, rfl, hxd, hb1⟩
  replace RV := RV.below hb1
  replace RX := RX.below hb1
  replace hb := chain hb hb1
  clear hb1 hc1
  obtain ⟨y0, y1, y2, y3, yf, yl⟩ := RV.four
  obtain ⟨z0, z1, zf, zl⟩ := RX.two
  go_wp2_with fail
  have SV := (RV.put4 (.int .i64 p) (.int .i64 c) (.int .i64 h) (.int .i64 s)).far2 (B := w.heap.size + 1) (by omega) (.int .i64 xn) (.int .i64 xd)
  have SX := (RX.away4 (B := w.heap.size) (by omega) (.int .i64 p) (.int .i64 c) (.int .i64 h) (.int .i64 s)).set2 (.int .i64 xn) (.int .i64 xd)
  have Sb := belowFar2 (belowFar4 hb (B := w.heap.size) (Nat.le_refl _) (.int .i64 p) (.int .i64 c) (.int .i64 h) (.int .i64 s)) (B := w.heap.size + 1) (by omega) (.int .i64 xn) (.int .i64 xd)
  obtain ⟨s0, s1, s2, s3, sf, sl⟩ := SV.four
  obtain ⟨t0, t1, tf, tl⟩ := SX.two
  refine bodyPost_ret (v := .tuple #[.agg #[.int .i64 p, .int .i64 c, .int .i64 h, .int .i64 s], .agg #[.int .i64 xn, .int .i64 xd]]) (by simp [results, Tryd.results5, go_sem, s0, s1, s2, s3, t0, t1]) rfl ?_
  exact ⟨_, _, _, _, _, _, rfl, hxd, Sb⟩
end Go.Proofs.YtenbihglmblalaaDoor

namespace Go.Proofs.YtenbihglmblalaaDoor
open Go.ChangeShapes Go.WideShapes Go.ChangeAt Go.RowKit
set_option linter.unusedVariables false
set_option linter.unusedSimpArgs false
set_option maxRecDepth 4000

theorem pu_dec : ∀ (g k : Nat), k < g → k ≤ 1000000000000000000 → ∀ r : List UInt8, Lib.parseUint10 0 (Lib.decDigits k ++ r) = Lib.parseUint10 k r
  | 0, k, h, _ => by omega
  | g + 1, k, h, hk => by
    intro r
    have hd : (UInt8.ofNat (48 + k % 10)).toNat = 48 + k % 10 := by simp [UInt8.toNat_ofNat]; omega
    rw [dec_step k, List.append_assoc]
    have hq : Lib.parseUint10 0 (dPre (k / 10) ++ ([UInt8.ofNat (48 + k % 10)] ++ r)) = Lib.parseUint10 (k / 10) ([UInt8.ofNat (48 + k % 10)] ++ r) := by
      unfold dPre
      split
      · rename_i h0
        rw [h0]
        rfl
      · exact pu_dec g (k / 10) (by omega) (by omega) _
    rw [hq, List.singleton_append, Lib.parseUint10, hd, if_pos ⟨by omega, by omega⟩, if_neg (by omega), if_neg (by omega), show k / 10 * 10 + (48 + k % 10 - 48) = k by omega]
theorem mag_dec (k : Nat) (h : k ≤ 1000000000000000000) : Lib.parseMag (Lib.decDigits k) = .ok k := by
  have := pu_dec (k + 1) k (by omega) h []
  rw [List.append_nil] at this
  rw [Lib.parseMag, if_neg (dec_ne k), this]
  rfl
theorem prV_itoa {x : Int} (h0 : -1000000000000000000 ≤ x) (h1 : x ≤ 1000000000000000000) : prV (Lib.itoa x) = x := by
  have hp : Lib.parseIntB 64 (Lib.itoa x) = .ok x := by
    rw [Lib.parseIntB_64]
    unfold Lib.itoa
    split
    · rw [Lib.atoiAll_minus, mag_dec _ (by omega), Lib.signed, if_neg (by omega), show -((x.natAbs : Nat) : Int) = x by omega]
    · have hm := mag_dec x.toNat (by omega)
      cases q : Lib.decDigits x.toNat with
      | nil => exact absurd q (dec_ne _)
      | cons b r =>
        have hb := dec_bytes (x.toNat + 1) x.toNat (by omega) b (by rw [q]; simp)
        rw [q] at hm
        rw [Lib.atoiAll_plain b r (by omega) (by omega), hm, Lib.signless, if_neg (by omega), show ((x.toNat : Nat) : Int) = x by omega]
  rw [prV, hp]
/-- What the program reads as the number's digits. -/
theorem cut_text (S : Nat) (n d : Int) : (Lib.cut (xtL S n d) [47]).1 = Lib.itoa n := by
  unfold xtL
  by_cases h : d = 0
  · rw [if_pos h, Lib.cut, index_no 47 _ (no47 n), if_neg (by omega)]
  · rw [if_neg h, List.singleton_append, Lib.cut, index_one 47 _ _ (no47 n), if_pos (by omega)]
    simp
end Go.Proofs.YtenbihglmblalaaDoor

namespace Go.Proofs.YtenbihglmblalaaDoor
open Go.ChangeShapes Go.WideShapes Go.ChangeAt Go.RowKit
set_option linter.unusedVariables false
set_option linter.unusedSimpArgs false
set_option maxRecDepth 4000

theorem rg_below {w w' : World} {b r n cnt : Nat} {S : Nat} {left : Lit → Bool} (h : w.ranges Tryd.prog 2 (plainElem (H := Unit) Tryd.prog 2) b r n (scD S n) left cnt) (hb : Below w.heap.size w w') : w'.ranges Tryd.prog 2 (plainElem (H := Unit) Tryd.prog 2) b r n (scD S n) left cnt :=
  h.kept (row := none) ⟨hb.os, hb.tape, hb.output, hb.size, fun k hk _ => hb.block k hk⟩ (by simp) (by simp)
theorem below_grownR {w W w1 : World} {B r : Nat} (hb : Below B w W) (hg : W.grownBy w1 (some r)) (hr : B ≤ r) (hB : B ≤ W.heap.size) : Below B w w1 :=
  ⟨hg.os.trans hb.os, hg.tape.trans hb.tape, hg.output.trans hb.output, Nat.le_trans hb.size hg.size, fun i hi => (hg.block i (by omega) (by simp; omega)).trans (hb.block i hi)⟩
set_option maxRecDepth 8000 in
set_option maxHeartbeats 2000000 in
theorem scRead_any (p c h : Int) (b S : Nat) (hv : vB p c h (S : Int) = true) (hS : 1 ≤ S ∧ S ≤ 6) (t : ByteArray) (w : World) (HS : ScM w b S (nn S)) (ht : t.size ≤ 1048576) (ht10 : T10 w) (hM : MaxCell w) (hE1 : ErrC w 4) (hE2 : ErrC w 5) :
    Calls Tryd.prog 19 #[.map (some b), .string t] w fun e w' => e = .returned (.tuple #[.agg #[.int .i64 (rxV p c h S t.data.toList).1.1, .int .i64 (rxV p c h S t.data.toList).1.2], .bool (rxV p c h S t.data.toList).2]) ∧ Below w.heap.size w w' := by
  have R0 := Blk.new w #[.int .i64 0, .int .i64 0] 27
  have hb : Below w.heap.size w (w.alloc (.cells #[.int .i64 0, .int .i64 0] 27)) := (Below.refl _ _).alloc (Nat.le_refl _) _
  have hbl : b < w.heap.size := HS.lt
  obtain ⟨mm, hmm⟩ := hM.below hb
  have hcut := Tryd.strings_Cut t ⟨#[47]⟩ mm (w.alloc (.cells #[.int .i64 0, .int .i64 0] 27)) (by omega) hmm
  have hc47 : (⟨#[47]⟩ : ByteArray).data.toList = [47] := rfl
  rw [hc47] at hcut
  obtain ⟨D, hD⟩ : ∃ D, (Lib.cut t.data.toList [47]).1 = D := ⟨_, rfl⟩
  obtain ⟨q2, hq2⟩ : ∃ q, (Lib.cut t.data.toList [47]).2.1 = q := ⟨_, rfl⟩
  obtain ⟨q3, hq3⟩ : ∃ q, (Lib.cut t.data.toList [47]).2.2 = q := ⟨_, rfl⟩
  have hDl : D.length ≤ t.size := by
    rw [← hD]
    unfold Lib.cut
    split
    · dsimp only
      rw [List.length_take]
      exact Nat.min_le_right _ _
    · exact Nat.le_refl _
  rw [hD, hq2, hq3] at hcut
  obtain ⟨DB, hDB⟩ : ∃ DB : ByteArray, ⟨D.toArray⟩ = DB := ⟨_, rfl⟩
  have hDBl : DB.data.toList = D := by rw [← hDB]
  have hDBs : DB.size ≤ 1048576 := by
    show DB.data.toList.length ≤ _
    rw [hDBl]
    omega
  obtain ⟨Q2, hQ2⟩ : ∃ DB : ByteArray, ⟨q2.toArray⟩ = DB := ⟨_, rfl⟩
  rw [hDB, hQ2] at hcut
  have hpi := fun W (k1 : ErrC W 4) (k2 : ErrC W 5) => parse_any DB W hDBs k1 k2
  rw [hDBl] at hpi
  obtain ⟨N, hN⟩ : ∃ N, prV D = N := ⟨_, rfl⟩
  rw [hN] at hpi
  obtain ⟨T, hT⟩ : ∃ T, t.data.toList = T := ⟨_, rfl⟩
  rw [hT] at hD ⊢
  have hun : ∀ n' d', exB p c h S n' d' = true → xtL (S : Int).toNat n' d' = T → n' = N ∧ 0 ≤ d' ∧ d' < nn S ∧ xvB S N d' = true ∧ xtL S N d' = T := by
    intro n' d' g e
    obtain ⟨-, a1, a2, a3, a4, -, -, -⟩ := ex_range g
    have h1 := cut_text (S : Int).toNat n' d'
    rw [e, hD] at h1
    rw [h1, prV_itoa a3 a4] at hN
    subst hN
    rw [Int.toNat_natCast] at a2 e
    have g2 := g
    simp only [exB, Bool.and_eq_true, Int.toNat_natCast] at g2
    exact ⟨rfl, a1, a2, g2.2, e⟩
  have hno := rx_no (p := p) (c := c) (h := h) (s := (S : Int)) (t := T)
  have hyes := fun d => rx_yes (p := p) (c := c) (h := h) (s := (S : Int)) (n := N) (d := d) (t := T)
  obtain ⟨RX, hRX⟩ : ∃ RX, rxV p c h (S : Int) T = RX := ⟨_, rfl⟩
  rw [hRX] at hno hyes ⊢
  have HNO := Lib.hid hno
  have HYES := Lib.hid hyes
  have HUN := Lib.hid hun
  have HTL := Lib.hid hT
  have HCU := Lib.hid hcut
  have HPI := Lib.hid hpi
  clear hno hyes hun hT hcut hpi hN hRX hD hq2 hq3 hDB hDBl hDBs hQ2 hDl hc47 hmm
  go_enter Tryd.func19, Tryd.ntmps19
  go_wp2_with (first
    | (go_at_call 38; refine HCU.out.mono ?_; rintro e w1 ⟨rfl, nd, rfl⟩; replace R0 := R0.drewN nd; replace hb := below_drewN hb nd)
    | (go_at_call 39; refine (HPI.out _ (hE1.below hb) (hE2.below hb)).mono ?_; rintro e w2 ⟨E, rfl, hb2⟩; replace R0 := R0.below hb2; replace hb := chain hb hb2; have HS2 := HS.below hb)
    | (at_range; refine wpList_range_own _ rfl _ 39 rfl 2 2 scKey scMap _ b (nn S) _ rfl HS2 ?_; intro w0 hrg0 hg0 hs0))
  have hbw0 : Below w2.heap.size w2 w0 := ⟨hg0.os, hg0.tape, hg0.output, hg0.size, fun i hi => hg0.block i hi (by simp)⟩
  have hrl : w.heap.size < w2.heap.size := R0.lt
  replace R0 := R0.below hbw0
  replace hb := chain hb hbw0
  clear hbw0 hg0 HS2 HCU HPI hb2
  obtain ⟨r, hr⟩ : ∃ r, w2.heap.size = r := ⟨_, rfl⟩
  rw [hr] at hrg0 hrl ⊢
  clear hr hs0
  go_frame
  go_loopg [11] (Maps.size (scD S (nn S))) (fun m q11 wr => ∃ (W : World) (left : Lit → Bool), W = wr ∧ W.ranges Tryd.prog 2 (plainElem (H := Unit) Tryd.prog 2) b r (nn S) (scD S (nn S)) left m ∧ Blk W w.heap.size #[.int .i64 0, .int .i64 0] 27 ∧ Below w.heap.size w W ∧ Hid (∀ d : Int, 0 ≤ d → d < nn S → left (.int .i64 d) = false → ¬ (xvB S N d = true ∧ xtL S N d = T)))
  case atStart => exact ⟨_, _, rfl, hrg0, R0, hb, Lib.hid (fun d h1 h2 h3 => by rw [scD_has, decide_eq_true ⟨h1, h2⟩] at h3; cases h3)⟩
  case round =>
    clear hrg0 R0 hb
    obtain ⟨W, left, hW, hrg, R0, hb, HF⟩ := hrel
    subst hW
    obtain ⟨y0, y1, yf, yl⟩ := R0.two
    go_wp2_with (first | (at_next; refine wpList_next_ranges_ii _ rfl _ rfl 2 2 .i64 .i64 scKey Tryd.underlying2 Tryd.underlying2 b r (nn S) _ _ _ rfl hrg ?_ ?_))
    · intro _ hl0
      have hrx := HNO.out (fun n' d' g e => by
        obtain ⟨-, q1, q2, q3, q4⟩ := HUN.out n' d' g e
        exact HF.out d' q1 q2 (hl0 _) ⟨q3, q4⟩)
      go_wp2_with fail
      have BRn := R0.set2 (.int .i64 0) (.int .i64 0)
      obtain ⟨t0, t1, tf, tl⟩ := BRn.two
      refine bodyPost_ret (v := .tuple #[.agg #[.int .i64 0, .int .i64 0], .bool false]) (by simp [results, Tryd.results19, go_sem, t0, t1]) rfl ?_
      exact ⟨by first | rfl | rw [hrx], (hb.setCell (p := ⟨w.heap.size, 0, none⟩) (by simp) _).setCell (p := ⟨w.heap.size, 1, none⟩) (by simp) _⟩
    · intro x cc w1' cnt1 hwx hwc hlx hat hrg1 hltm hg1 hs1 hen
      have hxr : -9223372036854775808 ≤ x ∧ x ≤ 9223372036854775807 := by simpa [Lit.wf, IntKind.min, IntKind.max, IntKind.signed, IntKind.bits] using hwx
      clear y0 y1 yf yl
      replace hb := below_grownR hb hg1 (by omega) (Nat.le_of_lt R0.lt)
      replace R0 := R0.grown hg1 (by omega)
      have hh := fun W2 (q : ScM W2 b S (nn S)) => has_any b S hS N x hxr W2 q
      obtain ⟨V_, hV_⟩ : ∃ V_, xvB S N x = V_ := ⟨_, rfl⟩
      rw [hV_] at hh
      have HH := Lib.hid hh
      have BX := Blk.new w1' #[.int .i64 N, .int .i64 x] 27
      have hal : Below w1'.heap.size w1' (w1'.alloc (.cells #[.int .i64 N, .int .i64 x] 27)) := (Below.refl _ _).alloc (Nat.le_refl _) _
      obtain ⟨y0, y1, yf, yl⟩ := (R0.below hal).two
      obtain ⟨z0, z1, zf, zl⟩ := BX.two
      replace R0 := R0.below hal
      replace hb := chain hb hal
      replace hrg1 := rg_below hrg1 hal
      clear hal hh hwx hwc hat hrg hs1
      have hF : ¬ (xvB S N x = true ∧ xtL S N x = T) → Hid (∀ d : Int, 0 ≤ d → d < nn S → (left (.int .i64 d) && !(Lit.int .i64 d).sameKey (.int .i64 x)) = false → ¬ (xvB S N d = true ∧ xtL S N d = T)) := fun hn => Lib.hid (fun d h1 h2 h3 => by
        by_cases e : d = x
        · rw [e]
          exact hn
        · refine HF.out d h1 h2 ?_
          have hsk : (Lit.int .i64 d).sameKey (.int .i64 x) = false := by simpa [Lit.sameKey] using e
          simpa [hsk] using h3)
      cases V_ with
      | false =>
        have HQ := hF (by rw [hV_]; simp)
        clear hF hV_
        go_wp2_with (first | (go_at_call 35; refine (HH.out _ hrg1.owns).mono ?_; clear HH; rintro e w3 ⟨rfl, hb3⟩; clear y0 y1 yf yl z0 z1 zf zl; replace R0 := R0.below hb3; replace BX := BX.below hb3; replace hrg1 := rg_below hrg1 hb3; replace hb := chain hb hb3; clear hb3; obtain ⟨y0, y1, yf, yl⟩ := R0.two; obtain ⟨z0, z1, zf, zl⟩ := BX.two))
        go_roundg cnt1
        case measure => exact hltm
        case rel => exact ⟨_, _, rfl, hrg1, R0, hb, HQ⟩
      | true =>
        have htx := fun W2 (q : ScM W2 b S (nn S)) (k : T10 W2) => scText_any b S hS N x hV_ W2 q k
        obtain ⟨X, hX⟩ : ∃ X : ByteArray, ⟨(xtL S N x).toArray⟩ = X := ⟨_, rfl⟩
        have hXl : X.data.toList = xtL S N x := by rw [← hX]
        rw [hX] at htx
        have HT := Lib.hid htx
        clear htx hX
        by_cases heq : xtL S N x = T
        · have hXt : X = t := by
            apply ByteArray.ext
            apply Array.toList_inj.1
            rw [hXl, heq, HTL.out]
          have hrx := HYES.out x (by simp only [exB, Bool.and_eq_true, Int.toNat_natCast]; exact ⟨hv, hV_⟩) (by rw [Int.toNat_natCast]; exact heq)
          subst hXt
          clear hXl heq hF hV_
          go_wp2_with (first | (go_at_call 35; refine (HH.out _ hrg1.owns).mono ?_; clear HH; rintro e w3 ⟨rfl, hb3⟩; clear y0 y1 yf yl z0 z1 zf zl; replace R0 := R0.below hb3; replace BX := BX.below hb3; replace hrg1 := rg_below hrg1 hb3; replace hb := chain hb hb3; clear hb3; obtain ⟨y0, y1, yf, yl⟩ := R0.two; obtain ⟨z0, z1, zf, zl⟩ := BX.two) | (go_at_call 16; refine (HT.out _ hrg1.owns (ht10.below hb)).mono ?_; clear HT; rintro e w4 ⟨rfl, hb4⟩; clear y0 y1 yf yl z0 z1 zf zl; replace R0 := R0.below hb4; replace BX := BX.below hb4; replace hrg1 := rg_below hrg1 hb4; replace hb := chain hb hb4; clear hb4; obtain ⟨y0, y1, yf, yl⟩ := R0.two; obtain ⟨z0, z1, zf, zl⟩ := BX.two))
          have BRn := R0.set2 (.int .i64 N) (.int .i64 x)
          obtain ⟨t0, t1, tf, tl⟩ := BRn.two
          refine bodyPost_ret (v := .tuple #[.agg #[.int .i64 N, .int .i64 x], .bool true]) (by simp [results, Tryd.results19, go_sem, t0, t1]) rfl ?_
          exact ⟨by first | rfl | rw [hrx], (hb.setCell (p := ⟨w.heap.size, 0, none⟩) (by simp) _).setCell (p := ⟨w.heap.size, 1, none⟩) (by simp) _⟩
        · have hne0 : X.data.toList ≠ t.data.toList := by
            rw [hXl, HTL.out]
            exact heq
          have hne : (X.toList == t.toList) = false := by
            rw [beq_eq_false_iff_ne, ByteArray.toList_eq, ByteArray.toList_eq]
            exact hne0
          have hne3 : ¬ X = t := by
            rintro rfl
            exact hne0 rfl
          have HQ := hF (fun q => heq q.2)
          clear hXl heq hne0 hF hV_
          go_wp2_with (first | (go_at_call 35; refine (HH.out _ hrg1.owns).mono ?_; clear HH; rintro e w3 ⟨rfl, hb3⟩; clear y0 y1 yf yl z0 z1 zf zl; replace R0 := R0.below hb3; replace BX := BX.below hb3; replace hrg1 := rg_below hrg1 hb3; replace hb := chain hb hb3; clear hb3; obtain ⟨y0, y1, yf, yl⟩ := R0.two; obtain ⟨z0, z1, zf, zl⟩ := BX.two) | (go_at_call 16; refine (HT.out _ hrg1.owns (ht10.below hb)).mono ?_; clear HT; rintro e w4 ⟨rfl, hb4⟩; clear y0 y1 yf yl z0 z1 zf zl; replace R0 := R0.below hb4; replace BX := BX.below hb4; replace hrg1 := rg_below hrg1 hb4; replace hb := chain hb hb4; clear hb4; obtain ⟨y0, y1, yf, yl⟩ := R0.two; obtain ⟨z0, z1, zf, zl⟩ := BX.two))
          go_roundg cnt1
          case measure => exact hltm
          case rel => exact ⟨_, _, rfl, hrg1, R0, hb, HQ⟩
end Go.Proofs.YtenbihglmblalaaDoor

namespace Go.Proofs.YtenbihglmblalaaDoor.fnExactTextLaw
open Go.ChangeMaps (open_string shut_string)
open Go.ChangeShapes Go.WideShapes Go.ChangeAt Go.RowKit
set_option linter.unusedVariables false
set_option linter.unusedSimpArgs false
set_option maxRecDepth 4000

def lay (vs : Array Value) : Obj → Obj
  | .cells _ t frozen => .cells vs t frozen
  | o => o
/-- A world for the witness: the settled one, each listed table holding what its initialiser lays. -/
noncomputable def lowBlock : Nat := (World.holding Tryd.prog default ⟨#[], #[], []⟩).heap.size
noncomputable def laidWorld (os : Os) : World :=
  { World.holding Tryd.prog os ⟨#[.cells #[.string ⟨#[118, 97, 108, 117, 101, 32, 111, 117, 116, 32, 111, 102, 32, 114, 97, 110, 103, 101]⟩] 123, .cells #[.string ⟨#[105, 110, 118, 97, 108, 105, 100, 32, 115, 121, 110, 116, 97, 120]⟩] 123], #[], []⟩ with heap := ((((((World.holding Tryd.prog os ⟨#[.cells #[.string ⟨#[118, 97, 108, 117, 101, 32, 111, 117, 116, 32, 111, 102, 32, 114, 97, 110, 103, 101]⟩] 123, .cells #[.string ⟨#[105, 110, 118, 97, 108, 105, 100, 32, 115, 121, 110, 116, 97, 120]⟩] 123], #[], []⟩).heap.modify 6 (lay #[.int .u8 0, .int .u8 1, .int .u8 28, .int .u8 2, .int .u8 29, .int .u8 14, .int .u8 24, .int .u8 3, .int .u8 30, .int .u8 22, .int .u8 20, .int .u8 15, .int .u8 25, .int .u8 17, .int .u8 4, .int .u8 8, .int .u8 31, .int .u8 27, .int .u8 13, .int .u8 23, .int .u8 21, .int .u8 19, .int .u8 16, .int .u8 7, .int .u8 26, .int .u8 12, .int .u8 18, .int .u8 6, .int .u8 11, .int .u8 5, .int .u8 10, .int .u8 9])).modify 7 (lay #[.int .u8 0, .int .u8 1, .int .u8 56, .int .u8 2, .int .u8 57, .int .u8 49, .int .u8 28, .int .u8 3, .int .u8 61, .int .u8 58, .int .u8 42, .int .u8 50, .int .u8 38, .int .u8 29, .int .u8 17, .int .u8 4, .int .u8 62, .int .u8 47, .int .u8 59, .int .u8 36, .int .u8 45, .int .u8 43, .int .u8 51, .int .u8 22, .int .u8 53, .int .u8 39, .int .u8 33, .int .u8 30, .int .u8 24, .int .u8 18, .int .u8 12, .int .u8 5, .int .u8 63, .int .u8 55, .int .u8 48, .int .u8 27, .int .u8 60, .int .u8 41, .int .u8 37, .int .u8 16, .int .u8 46, .int .u8 35, .int .u8 44, .int .u8 21, .int .u8 52, .int .u8 32, .int .u8 23, .int .u8 11, .int .u8 54, .int .u8 26, .int .u8 40, .int .u8 15, .int .u8 34, .int .u8 20, .int .u8 31, .int .u8 10, .int .u8 25, .int .u8 14, .int .u8 19, .int .u8 9, .int .u8 13, .int .u8 8, .int .u8 7, .int .u8 6])).modify 2 (lay #[.int .u64 1, .int .u64 10, .int .u64 100, .int .u64 1000, .int .u64 10000, .int .u64 100000, .int .u64 1000000, .int .u64 10000000, .int .u64 100000000, .int .u64 1000000000, .int .u64 10000000000, .int .u64 100000000000, .int .u64 1000000000000, .int .u64 10000000000000, .int .u64 100000000000000, .int .u64 1000000000000000, .int .u64 10000000000000000, .int .u64 100000000000000000, .int .u64 1000000000000000000, .int .u64 10000000000000000000])).modify 5 (lay #[.iface 121 (.pointer (some ⟨lowBlock + 0, 0, none⟩))])).modify 4 (lay #[.iface 121 (.pointer (some ⟨lowBlock + 1, 0, none⟩))])) }
theorem errRow (u : TypeId) (h : Tryd.prog.typeName? 3 u = some "*errors.errorString") : u = 121 :=
  typeName_ptr_named (nm := "errors.errorString") (by rw [show "*" ++ "errors.errorString" = "*errors.errorString" by decide]; kernel_rfl) (by kernel_rfl) (by decide) u (by rw [show "*" ++ "errors.errorString" = "*errors.errorString" by decide]; exact h)
theorem errGS : Tryd.prog.globalNamed "strconv.ErrSyntax" = some 4 := by kernel_rfl
theorem errCellS {W : World} (hL : laidMetH Tryd.prog Rows.fnExactTextRow.laid W) : ErrC W 4 := by
  have hL1 : laidMet Tryd.prog Rows.fnExactTextRow.laid W := by
    rw [← Go.MakeChecks.laidMetH_plain _ _ _ (by kernel_rfl)]
    exact hL
  have hL2 : laidMet Tryd.prog [("math/bits.deBruijn32tab", Rows.laid_math_bits_deBruijn32tab), ("math/bits.deBruijn64tab", Rows.laid_math_bits_deBruijn64tab), ("internal/strconv.uint64pow10", Rows.laid_internal_strconv_uint64pow10), ("strconv.ErrRange", Rows.laid_strconv_ErrRange), ("strconv.ErrSyntax", Rows.laid_strconv_ErrSyntax)] W := hL1
  obtain ⟨a0, s0, hv0, -, -, -⟩ := laid_sentinel ((((hL2.tail).tail).tail).tail) errGS (show (Tryd.prog.globals[4]?).map (·.type) = some 71 by kernel_rfl) Tryd.underlying71 errRow Tryd.underlying121 Tryd.underlying123 rfl rfl Tryd.underlying9 (by kernel_rfl) (by kernel_rfl)
  exact ⟨_, by have h0 := World.var?_cell errGS hv0 0; simpa using h0, Or.inr ⟨_, _, rfl⟩⟩
theorem errGR : Tryd.prog.globalNamed "strconv.ErrRange" = some 5 := by kernel_rfl
theorem errCellR {W : World} (hL : laidMetH Tryd.prog Rows.fnExactTextRow.laid W) : ErrC W 5 := by
  have hL1 : laidMet Tryd.prog Rows.fnExactTextRow.laid W := by
    rw [← Go.MakeChecks.laidMetH_plain _ _ _ (by kernel_rfl)]
    exact hL
  have hL2 : laidMet Tryd.prog [("math/bits.deBruijn32tab", Rows.laid_math_bits_deBruijn32tab), ("math/bits.deBruijn64tab", Rows.laid_math_bits_deBruijn64tab), ("internal/strconv.uint64pow10", Rows.laid_internal_strconv_uint64pow10), ("strconv.ErrRange", Rows.laid_strconv_ErrRange), ("strconv.ErrSyntax", Rows.laid_strconv_ErrSyntax)] W := hL1
  obtain ⟨a0, s0, hv0, -, -, -⟩ := laid_sentinel (((hL2.tail).tail).tail) errGR (show (Tryd.prog.globals[5]?).map (·.type) = some 71 by kernel_rfl) Tryd.underlying71 errRow Tryd.underlying121 Tryd.underlying123 rfl rfl Tryd.underlying9 (by kernel_rfl) (by kernel_rfl)
  exact ⟨_, by have h0 := World.var?_cell errGR hv0 0; simpa using h0, Or.inr ⟨_, _, rfl⟩⟩
theorem lenCell_of {W : World} (hsh : W.ShapedOpen Tryd.prog) : MaxCell W := let ⟨m, hm⟩ := Tryd.laysM219.s1_3 W hsh; ⟨m, hm⟩
theorem t10_of {W : World} (hL : laidMetH Tryd.prog Rows.fnExactTextRow.laid W) : T10 W := by
  have hL1 : laidMet Tryd.prog Rows.fnExactTextRow.laid W := by
    rw [← Go.MakeChecks.laidMetH_plain _ _ _ (by kernel_rfl)]
    exact hL
  exact Lib.tabIs_of_head (by kernel_rfl) (show (Tryd.prog.globals[2]?).map (·.type) = some 105 by kernel_rfl) Tryd.underlying105 Tryd.underlying47 (by kernel_rfl) (by kernel_rfl) (rest := _) ((hL1.tail).tail)
theorem code_of_ints {w : World} {x : Addr} {len : Nat} {zs : List Int} (hl : len ≤ zs.length) (_hz : True) (hcell : ∀ i, i < zs.length → w.cell? (x.add i) = some (.int .u8 (zs.getD i 0))) (hwz : ∀ n ∈ zs, (Lit.int .u8 n).wf = true) : CodeIn w.heap.size w (some x) len := by
  intro i hi
  obtain ⟨b, o, spot⟩ := x
  have hc := hcell i (by omega)
  have hspot : spot = none := by
    have hc0 := hcell 0 (by omega)
    simpa [Addr.add] using World.cell?_spot hc0
  subst hspot
  rw [show (⟨b, o, none⟩ : Addr).add i = ⟨b, o + i, none⟩ from by unfold Addr.add; split <;> simp_all] at hc
  have hm : zs.getD i 0 ∈ zs := by
    have : i < zs.length := by omega
    simp [List.getD, this]
  have hw := hwz _ hm
  have hr : 0 ≤ zs.getD i 0 ∧ zs.getD i 0 ≤ 255 := by simpa [Lit.wf, IntKind.min, IntKind.max, IntKind.signed, IntKind.bits] using hw
  exact ⟨b, o, zs.getD i 0, rfl, World.block_lt_of_cell? w _ hc, hc, hr.1, hr.2⟩
theorem bigR_any (a : Option Addr) (len cap : Nat) (w : World) :
    Calls Tryd.prog 4 #[.slice a len cap] w fun e w' => e = .returned (.bool (decide (4096 < (len : Int)))) ∧ w = w' := by
  go_enter Tryd.func4, Tryd.ntmps4
  go_wp2
  go_ret
  exact ⟨rfl, rfl⟩
theorem chain_al {w w1 : World} (h : Below w.heap.size w w1) (o : Obj) : Below w.heap.size w (w1.alloc o) := chain h ((Below.refl _ _).alloc (Nat.le_refl _) o)
set_option maxRecDepth 8000 in
set_option maxHeartbeats 1000000 in
theorem readExact_any (p c h s : Int) (t : ByteArray) (w : World) (ht : t.size ≤ 1048576) (ht10 : T10 w) (hM : MaxCell w) (hE1 : ErrC w 4) (hE2 : ErrC w 5) :
    Calls Tryd.prog 9 #[.agg #[.int .i64 p, .int .i64 c, .int .i64 h, .int .i64 s], .string t] w fun e w' => e = .returned (.tuple #[.agg #[.int .i64 (rxV p c h s t.data.toList).1.1, .int .i64 (rxV p c h s t.data.toList).1.2], .bool (rxV p c h s t.data.toList).2]) ∧ Below w.heap.size w w' := by
  obtain ⟨BV, R0, hb, hz⟩ := two_new w #[.int .i64 p, .int .i64 c, .int .i64 h, .int .i64 s] #[.int .i64 0, .int .i64 0] 25 27
  have hsf := fun W => scalesFor_any p c h s none [] 0 W (by simp) (OX.nil W) (by simp)
  unfold ScGot at hsf
  cases hv : vB p c h s with
  | false =>
    have hr : rxV p c h s t.data.toList = ((0, 0), false) := rx_no (fun n d g e => by have := ex_v g; rw [hv] at this; exact absurd this (by decide))
    rw [hr]
    rw [show sfC p c h s [] = 1 by simp [sfC, hv]] at hsf
    have HS := Lib.hid hsf
    clear hsf hr hv
    obtain ⟨x0, x1, x2, x3, xf, xl⟩ := BV.four; obtain ⟨y0, y1, yf, yl⟩ := R0.two
    go_enter Tryd.func9, Tryd.ntmps9
    go_wp2_with fail
    refine (HS.out _).mono ?_
    rintro e w1 ⟨mv, rfl, -, -, hb1⟩
    clear x0 x1 x2 x3 xf xl y0 y1 yf yl
    replace R0 := R0.below hb1
    replace hb := chain hb hb1
    obtain ⟨y0, y1, yf, yl⟩ := R0.two
    go_wp2_with fail
    have BRn := R0.set2 (.int .i64 0) (.int .i64 0)
    obtain ⟨t0, t1, tf, tl⟩ := BRn.two
    refine bodyPost_ret (v := .tuple #[.agg #[.int .i64 0, .int .i64 0], .bool false]) (by simp [results, Tryd.results9, go_sem, t0, t1]) rfl ?_
    exact ⟨rfl, (hb.setCell (p := ⟨w.heap.size + 1, 0, none⟩) (by simp) _).setCell (p := ⟨w.heap.size + 1, 1, none⟩) (by simp) _⟩
  | true =>
    obtain ⟨S, rfl, hS⟩ := vB_sd hv
    have hrd := fun W b (k1 : ScM W b S (nn S)) (k2 : T10 W) (k3 : MaxCell W) k4 k5 => scRead_any p c h b S hv hS t W k1 ht k2 k3 k4 k5
    rw [show sfC p c h S [] = 0 by simp [sfC, hv]] at hsf
    rw [Int.toNat_natCast] at hsf
    obtain ⟨⟨⟨n, d⟩, q⟩, hq⟩ : ∃ r, rxV p c h S t.data.toList = r := ⟨_, rfl⟩
    rw [hq] at hrd ⊢
    have HS := Lib.hid hsf
    have HR := Lib.hid hrd
    clear hsf hrd hq hv
    obtain ⟨x0, x1, x2, x3, xf, xl⟩ := BV.four; obtain ⟨y0, y1, yf, yl⟩ := R0.two
    go_enter Tryd.func9, Tryd.ntmps9
    go_wp2_with fail
    refine (HS.out _).mono ?_
    rintro e w1 ⟨mv, rfl, hm, -, hb1⟩
    obtain ⟨b, rfl, HSM⟩ := hm (by first | trivial | rfl)
    clear x0 x1 x2 x3 xf xl y0 y1 yf yl
    replace R0 := R0.below hb1
    replace hb := chain hb hb1
    go_wp2_with fail
    refine (HR.out _ b HSM (ht10.below hb) (hM.below hb) (hE1.below hb) (hE2.below hb)).mono ?_
    rintro e w2 ⟨rfl, hb2⟩
    replace R0 := R0.below hb2
    replace hb := chain hb hb2
    obtain ⟨y0, y1, yf, yl⟩ := R0.two
    go_wp2_with fail
    have BRn := R0.set2 (.int .i64 n) (.int .i64 d)
    obtain ⟨t0, t1, tf, tl⟩ := BRn.two
    refine bodyPost_ret (v := .tuple #[.agg #[.int .i64 n, .int .i64 d], .bool q]) (by simp [results, Tryd.results9, go_sem, t0, t1]) rfl ?_
    exact ⟨rfl, (hb.setCell (p := ⟨w.heap.size + 1, 0, none⟩) (by simp) _).setCell (p := ⟨w.heap.size + 1, 1, none⟩) (by simp) _⟩
theorem rdX_own {S D : Nat} {n : Int} (h : xvB S n (D : Int) = true) : rdX S n D = some (n, (D : Int)) := by
  unfold xvB at h
  rw [decide_eq_true_eq] at h
  obtain ⟨h0, h1, h2, h3, h4⟩ := h
  have e : rdN (S * S) n.natAbs D = (n.natAbs, D) := by
    cases D with
    | zero => rfl
    | succ D =>
      refine rdN_stop fun q => ?_
      rcases h4 with h4 | h4
      · omega
      · exact h4 (Int.emod_eq_zero_of_dvd (Int.dvd_natAbs.1 (Int.natCast_dvd_natCast.2 (Nat.dvd_of_mod_eq_zero q))))
  unfold rdX
  rw [e, if_pos ⟨by dsimp only; omega, by dsimp only; omega⟩]
  have e2 : sgI n n.natAbs = n := by unfold sgI; split <;> omega
  dsimp only
  rw [e2]
theorem mk_own {p c h s n d : Int} (g : exB p c h s n d = true) : mkV p c h s n d = (n, d, 0) := by
  obtain ⟨hv, q1, q2, q3, q4, -, q6, q7⟩ := ex_range g
  have hx : xvB s.toNat n d = true := by
    simp only [exB, Bool.and_eq_true] at g
    exact g.2
  have hs : sfC p c h s [] = 0 := by simp [sfC, hv]
  unfold mkV
  rw [if_pos hs, if_pos (by simp [inB]; omega)]
  obtain ⟨D, rfl⟩ := Int.eq_ofNat_of_zero_le q1
  rw [Int.toNat_natCast, rdX_own hx]
  rfl
set_option maxRecDepth 8000 in
set_option maxHeartbeats 2000000 in
theorem fnExactText_walk (a : Option Addr) (len cap : Nat) (w : World) (hcode : CodeIn w.heap.size w a len) (hT : T10 w) (hM : MaxCell w) (hE1 : ErrC w 4) (hE2 : ErrC w 5) :
    Calls Tryd.prog 3 #[.slice a len cap] w fun e w' => e = .returned (.bool true) ∧ Below w.heap.size w w' := by
  by_cases hbig : 4096 < len
  · have f0 : decide (4096 < (len : Int)) = true := by simp; omega
    go_enter Tryd.func3, Tryd.ntmps3
    go_wp2_with fail
    refine (bigR_any _ _ _ _).mono ?_
    rintro e w1 ⟨rfl, rfl⟩
    go_wp2
    go_ret
    exact ⟨rfl, Below.refl _ _⟩
  · have f0 : decide (4096 < (len : Int)) = false := by simp; omega
    go_enter Tryd.func3, Tryd.ntmps3
    go_wp2_with fail
    refine (bigR_any _ _ _ _).mono ?_
    rintro e w0 ⟨rfl, rfl⟩
    go_wp2_with fail
    refine (drawExactText_any w.heap.size a len cap w (Nat.le_refl _) (by omega) hcode).mono ?_
    rintro e w1 ⟨p, c, h, s, xn, xd, rfl, hxd, hb⟩
    clear hbig f0 hcode
    have BV := (Blk.new w1 #[.int .i64 p, .int .i64 c, .int .i64 h, .int .i64 s] 25).alloc (.cells #[.int .i64 xn, .int .i64 xd] 27)
    have BX : Blk ((w1.alloc (.cells #[.int .i64 p, .int .i64 c, .int .i64 h, .int .i64 s] 25)).alloc (.cells #[.int .i64 xn, .int .i64 xd] 27)) (w1.heap.size + 1) #[.int .i64 xn, .int .i64 xd] 27 := by simpa using Blk.new (w1.alloc (.cells #[.int .i64 p, .int .i64 c, .int .i64 h, .int .i64 s] 25)) #[.int .i64 xn, .int .i64 xd] 27
    replace hb := chain_alloc (chain_alloc hb (.cells #[.int .i64 p, .int .i64 c, .int .i64 h, .int .i64 s] 25)) (.cells #[.int .i64 xn, .int .i64 xd] 27)
    have het := fun W t => implExactText_any p c h s xn xd hxd W t
    have hsi := fun W => specIsExact_any p c h s xn xd hxd W
    cases z : exB p c h s xn xd with
    | false =>
      have hii := fun W => implIsExact_any p c h s xn xd hxd W
      have e0 : (⟨(etT p c h s xn xd).toArray⟩ : ByteArray) = ⟨#[]⟩ := by unfold etT; rw [z]; rfl
      rw [e0] at het
      rw [z] at hsi hii
      have HET := Lib.hid het
      have HSI := Lib.hid hsi
      have HII := Lib.hid hii
      clear het hsi hii z e0 hxd
      obtain ⟨xBV0, xBV1, xBV2, xBV3, xBVf, xBVl⟩ := BV.four; obtain ⟨xBX0, xBX1, xBXf, xBXl⟩ := BX.two
      go_wp2_with (first | (go_at_call 6; refine (HET.out _ (hT.below hb)).mono ?_; clear HET; rintro e u1 ⟨rfl, h1⟩; clear xBV0 xBV1 xBV2 xBV3 xBVf xBVl xBX0 xBX1 xBXf xBXl; replace BV := BV.below h1; replace BX := BX.below h1; replace hb := chain hb h1; clear h1; obtain ⟨xBV0, xBV1, xBV2, xBV3, xBVf, xBVl⟩ := BV.four; obtain ⟨xBX0, xBX1, xBXf, xBXl⟩ := BX.two) | (go_at_call 7; refine (HSI.out _).mono ?_; clear HSI; rintro e u2 ⟨rfl, h2⟩; clear xBV0 xBV1 xBV2 xBV3 xBVf xBVl xBX0 xBX1 xBXf xBXl; replace BV := BV.below h2; replace BX := BX.below h2; replace hb := chain hb h2; clear h2; obtain ⟨xBV0, xBV1, xBV2, xBV3, xBVf, xBVl⟩ := BV.four; obtain ⟨xBX0, xBX1, xBXf, xBXl⟩ := BX.two) | (go_at_call 8; refine (HII.out _).mono ?_; clear HII; rintro e u3 ⟨rfl, h3⟩; clear xBV0 xBV1 xBV2 xBV3 xBVf xBVl xBX0 xBX1 xBXf xBXl; replace BV := BV.below h3; replace BX := BX.below h3; replace hb := chain hb h3; clear h3; obtain ⟨xBV0, xBV1, xBV2, xBV3, xBVf, xBVl⟩ := BV.four; obtain ⟨xBX0, xBX1, xBXf, xBXl⟩ := BX.two))
      all_goals
        go_ret
        exact ⟨by simp, hb⟩
    | true =>
      have hst := fun W => specExactText_any p c h s xn xd hxd W
      have hmk := fun W => implMakeExact_any p c h s xn xd hxd W
      have him := fun W => implMillionthsOf_any p c h s xn xd hxd W
      have hsm := fun W => specMillionthsOf_any p c h s xn xd hxd W
      have e0 : etT p c h s xn xd = xtL s.toNat xn xd := by unfold etT; rw [if_pos z]
      rw [mk_own z] at hmk
      rw [e0] at het hst
      rw [z] at hsi
      have hx := xt_facts z
      have hre := fun (t : ByteArray) (q : t.data.toList = xtL s.toNat xn xd) W k0 k1 k2 k3 => readExact_any p c h s t W (by have := congrArg List.length q; simp at this; omega) k0 k1 k2 k3
      obtain ⟨T, hTT⟩ : ∃ T : ByteArray, ⟨(xtL s.toNat xn xd).toArray⟩ = T := ⟨_, rfl⟩
      have hTl : T.data.toList = xtL s.toNat xn xd := by rw [← hTT]
      replace hre := hre T hTl
      rw [rx_yes z hTl.symm] at hre
      rw [hTT] at het hst
      obtain ⟨⟨m1, m2⟩, hm⟩ : ∃ r, moV p c h s xn xd = r := ⟨_, rfl⟩
      rw [hm] at him hsm
      have HET := Lib.hid het
      have HSI := Lib.hid hsi
      have HRE := Lib.hid hre
      have HMK := Lib.hid hmk
      have HIM := Lib.hid him
      have HSM := Lib.hid hsm
      have HST := Lib.hid hst
      clear het hsi hre hmk him hsm hst z e0 hxd hx hTl hTT hm
      dsimp only at HRE HMK HIM HSM
      obtain ⟨xBV0, xBV1, xBV2, xBV3, xBVf, xBVl⟩ := BV.four; obtain ⟨xBX0, xBX1, xBXf, xBXl⟩ := BX.two
      go_wp2_with (first | (go_at_call 6; refine (HET.out _ (hT.below hb)).mono ?_; clear HET; rintro e u1 ⟨rfl, h1⟩; clear xBV0 xBV1 xBV2 xBV3 xBVf xBVl xBX0 xBX1 xBXf xBXl; replace BV := BV.below h1; replace BX := BX.below h1; replace hb := chain hb h1; clear h1; obtain ⟨xBV0, xBV1, xBV2, xBV3, xBVf, xBVl⟩ := BV.four; obtain ⟨xBX0, xBX1, xBXf, xBXl⟩ := BX.two) | (go_at_call 7; refine (HSI.out _).mono ?_; clear HSI; rintro e u2 ⟨rfl, h2⟩; clear xBV0 xBV1 xBV2 xBV3 xBVf xBVl xBX0 xBX1 xBXf xBXl; replace BV := BV.below h2; replace BX := BX.below h2; replace hb := chain hb h2; clear h2; obtain ⟨xBV0, xBV1, xBV2, xBV3, xBVf, xBVl⟩ := BV.four; obtain ⟨xBX0, xBX1, xBXf, xBXl⟩ := BX.two) | (go_at_call 9; refine (HRE.out _ (hT.below hb) (hM.below hb) (hE1.below hb) (hE2.below hb)).mono ?_; clear HRE; rintro e u3 ⟨rfl, h3⟩; clear xBV0 xBV1 xBV2 xBV3 xBVf xBVl xBX0 xBX1 xBXf xBXl; replace BV := (BV.below h3).alloc (.cells #[.int .i64 xn, .int .i64 xd] 27); replace BX := (BX.below h3).alloc (.cells #[.int .i64 xn, .int .i64 xd] 27); have R1 := Blk.new u3 #[.int .i64 xn, .int .i64 xd] 27; replace hb := chain_alloc (chain hb h3) (.cells #[.int .i64 xn, .int .i64 xd] 27); clear h3; obtain ⟨xBV0, xBV1, xBV2, xBV3, xBVf, xBVl⟩ := BV.four; obtain ⟨xBX0, xBX1, xBXf, xBXl⟩ := BX.two; obtain ⟨xR10, xR11, xR1f, xR1l⟩ := R1.two) | (go_at_call 10; refine (HMK.out _).mono ?_; clear HMK; rintro e u4 ⟨rfl, h4⟩; clear xBV0 xBV1 xBV2 xBV3 xBVf xBVl xBX0 xBX1 xBXf xBXl xR10 xR11 xR1f xR1l; replace BV := (BV.below h4).alloc (.cells #[.int .i64 xn, .int .i64 xd] 27); replace BX := (BX.below h4).alloc (.cells #[.int .i64 xn, .int .i64 xd] 27); replace R1 := (R1.below h4).alloc (.cells #[.int .i64 xn, .int .i64 xd] 27); have R2 := Blk.new u4 #[.int .i64 xn, .int .i64 xd] 27; replace hb := chain_alloc (chain hb h4) (.cells #[.int .i64 xn, .int .i64 xd] 27); clear h4; obtain ⟨xBV0, xBV1, xBV2, xBV3, xBVf, xBVl⟩ := BV.four; obtain ⟨xBX0, xBX1, xBXf, xBXl⟩ := BX.two; obtain ⟨xR10, xR11, xR1f, xR1l⟩ := R1.two; obtain ⟨xR20, xR21, xR2f, xR2l⟩ := R2.two) | (go_at_call 11; refine (HIM.out _).mono ?_; clear HIM; rintro e u5 ⟨rfl, h5⟩; clear xBV0 xBV1 xBV2 xBV3 xBVf xBVl xBX0 xBX1 xBXf xBXl xR10 xR11 xR1f xR1l xR20 xR21 xR2f xR2l; replace BV := BV.below h5; replace BX := BX.below h5; replace R1 := R1.below h5; replace R2 := R2.below h5; replace hb := chain hb h5; clear h5; obtain ⟨xBV0, xBV1, xBV2, xBV3, xBVf, xBVl⟩ := BV.four; obtain ⟨xBX0, xBX1, xBXf, xBXl⟩ := BX.two; obtain ⟨xR10, xR11, xR1f, xR1l⟩ := R1.two; obtain ⟨xR20, xR21, xR2f, xR2l⟩ := R2.two) | (go_at_call 12; refine (HSM.out _).mono ?_; clear HSM; rintro e u6 ⟨rfl, h6⟩; clear xBV0 xBV1 xBV2 xBV3 xBVf xBVl xBX0 xBX1 xBXf xBXl xR10 xR11 xR1f xR1l xR20 xR21 xR2f xR2l; replace BV := BV.below h6; replace BX := BX.below h6; replace R1 := R1.below h6; replace R2 := R2.below h6; replace hb := chain hb h6; clear h6; obtain ⟨xBV0, xBV1, xBV2, xBV3, xBVf, xBVl⟩ := BV.four; obtain ⟨xBX0, xBX1, xBXf, xBXl⟩ := BX.two; obtain ⟨xR10, xR11, xR1f, xR1l⟩ := R1.two; obtain ⟨xR20, xR21, xR2f, xR2l⟩ := R2.two) | (go_at_call 13; refine (HST.out _).mono ?_; clear HST; rintro e u7 ⟨rfl, h7⟩; clear xBV0 xBV1 xBV2 xBV3 xBVf xBVl xBX0 xBX1 xBXf xBXl xR10 xR11 xR1f xR1l xR20 xR21 xR2f xR2l; replace BV := BV.below h7; replace BX := BX.below h7; replace R1 := R1.below h7; replace R2 := R2.below h7; replace hb := chain hb h7; clear h7; obtain ⟨xBV0, xBV1, xBV2, xBV3, xBVf, xBVl⟩ := BV.four; obtain ⟨xBX0, xBX1, xBXf, xBXl⟩ := BX.two; obtain ⟨xR10, xR11, xR1f, xR1l⟩ := R1.two; obtain ⟨xR20, xR21, xR2f, xR2l⟩ := R2.two))
      all_goals
        go_ret
        exact ⟨by simp, hb⟩
set_option maxRecDepth 100000 in
theorem fnExactText_contract (H : Type) (enc : TypeId × Value → H) (W : World) (base : Nat) (args : Array Value) (ds gs : List (DataW H)) (before : List MemPlace)
    (hval : ∀ (j : Nat) t v, Tryd.f3.params[j]? = some t → args[j]? = some v → Value.okWide Tryd.prog W .any base t v)
    (hW : DataW.Whole enc Tryd.prog Tryd.f3.params.toList Rows.fnExactTextSpec.vars false W args.toList ds gs before) (hL : laidMetH Tryd.prog Rows.fnExactTextRow.laid W) (hsh : W.ShapedOpen Tryd.prog) :
    Calls Tryd.prog 3 args W fun e W' => ∃ v, e = .returned v ∧ Rows.fnExactTextSpec.post enc Tryd.prog Tryd.f3 false true false false W args v W' := by
  have hE1 := errCellS hL
  have hE2 := errCellR hL
  have hM := lenCell_of hsh
  have hT := t10_of hL
  have hW' := hW
  obtain ⟨p, q, hA0, hV, rfl, hfz, hnd⟩ := hW
  have hA : DataW.TrodAll enc Tryd.prog W 0 (fun _ => true) true Tryd.f3.params.toList args.toList ds p := hA0
  rw [Tryd.params3] at hA hval
  obtain ⟨v0, vs0, d0, ds0, p0, q0, hargs, rfl, rfl, h0, r0⟩ := trodAll_cons hA
  obtain ⟨rfl, rfl, rfl⟩ := trodAll_nil r0
  obtain rfl : args = #[v0] := by cases args; simp_all
  obtain ⟨rfl, rfl⟩ := trodVars_none hV
  have k0 := h0
  have lt0 : ∀ x ∈ p0, x.block < W.heap.size := by obtain ⟨m, hm⟩ := k0; exact DataW.trod_lt m _ _ _ hm
  obtain ⟨sa_0, sl_0, sc_0, rfl⟩ := okWide_slice Tryd.underlying22 (hval 0 22 v0 rfl rfl)
  have hcode_0 : CodeIn W.heap.size W sa_0 sl_0 := by
    obtain ⟨fuel, hf⟩ := h0
    rcases open_ints Tryd.underlying22 Tryd.underlying5 (by kernel_rfl) hf with ⟨hcs, _⟩ | ⟨x, l, c, zs, hcs, _, hl, hm, hz, _, hcell, hwz⟩
    · simp [Value.cells] at hcs
      obtain ⟨rfl, rfl, rfl⟩ := hcs
      intro i hi
      omega
    · simp [Value.cells] at hcs
      obtain ⟨rfl, rfl, rfl⟩ := hcs
      exact code_of_ints (by have hz2 := hz; simp at hz2; omega) trivial hcell hwz
  clear hA0
  refine (fnExactText_walk sa_0 sl_0 sc_0 W hcode_0 hT hM hE1 hE2).mono fun e W' ⟨he, bel⟩ => ?_
  subst he
  exact ⟨_, rfl, _, _, _, [], _, [], hW', trodAll_mk1 (shut_bool Tryd.underlying4 _), (trodAll_cons_mk (Below.trod laidOut (by kernel_rfl) (of_decide_eq_true (by kernel_rfl)) k0 bel lt0) trodAll_mk0), rfl, bel.frame _, fun h => by cases h⟩
theorem fnExactText_laid (os : Os) : laidMet Tryd.prog Rows.fnExactTextRow.laid ((laidWorld os).forCall (fun _ _ => 0) ⟨#[], #[.slice none 0 0], []⟩).memory :=
  laidMet_of_run' 8 (by kernel_rfl) (by kernel_rfl)
theorem fnExactText_reads (os : Os) {H : Type} (enc : TypeId × Value → H) : ∃ places, DataW.whole enc Tryd.prog ((laidWorld os).forCall (fun _ _ => 0) ⟨#[], #[.slice none 0 0], []⟩).memory Tryd.f3.params.toList Rows.fnExactTextSpec.vars false (#[.slice none 0 0] : Array Value).toList 8 = some ([.nil], [], places) :=
  ⟨[], by kernel_rfl⟩
set_option maxRecDepth 100000 in
theorem fnExactText_lifted (os : Os) (started : os.Started) (H : Type) (enc : TypeId × Value → H) (F : Stop.Interp) :
    ReturnsInHanded {} Tryd.checked os 3 .any ((OpenSpec.ofChange Rows.fnExactTextSpec).preRow enc Tryd.prog Tryd.f3 Rows.fnExactTextRow.domain false Rows.fnExactTextRow.laid) (((OpenSpec.ofChange Rows.fnExactTextSpec).at F).post enc Tryd.prog Tryd.f3 false true false false) := by
  obtain ⟨places, hx⟩ := fnExactText_reads os enc
  refine returnsInHanded_of_row (C := Tryd.checked) (s := OpenSpec.ofChange Rows.fnExactTextSpec) own started (by kernel_rfl) Tryd.func3
    (witness_row_at (enc := enc) (C := Tryd.checked) false (laidWorld os) #[.slice none 0 0] rfl (by kernel_rfl) (by kernel_rfl) (by kernel_rfl)
      (OpenSpec.preRow_of_cond 8 hx (by kernel_rfl) (fun k hk => by cases hk) (by kernel_rfl) (fnExactText_laid os))) ?_
  intro W base args ds gs before hval hW _ _ _ hL hsh _
  exact fnExactText_contract H enc W base args ds gs before hval hW hL hsh
theorem fnExactText_said : Rows.FnExactTextSaid :=
  OpenClaim.holds_of_cond 3 Tryd.f3 rfl rfl rfl rfl rfl rfl rfl ⟨rfl, rfl, rfl, rfl, rfl⟩ rfl rfl rfl rfl rfl (by kernel_rfl) Tryd.func3 (by kernel_rfl)
    (of_decide_eq_true (by kernel_rfl)) (by unfold Func.isWrapper; first | (rw [if_pos (by decide +kernel)]; kernel_rfl) | (rw [if_neg (by decide +kernel)]; exact ⟨rfl, rfl⟩))
    (fun os started H enc _ F => by rw [OpenClaim.pre_eq_preRow]; exact fnExactText_lifted os started H enc F)
/-- No parameter wants a stand-in; the program's own looks are off: what the card asks. -/
theorem fnExactText_plain (f : FuncId) (fn : Func) (hf : Tryd.pinned.checked.prog.funcNamed "loop.example/g00885/laws.FnExactText" = some f) (hfn : Tryd.pinned.checked.prog.funcs[f]? = some fn) :
    true = Tryd.pinned.checked.prog.looks [] ∧ ∀ (j : Nat) t, fn.params[j]? = some t → Tryd.pinned.checked.prog.wantsStandIn t = false := by
  obtain rfl : f = 3 := Option.some.inj ((show Tryd.prog.funcNamed "loop.example/g00885/laws.FnExactText" = some 3 by kernel_rfl).symm.trans hf) |>.symm
  obtain rfl : fn = Tryd.f3 := (Option.some.inj (Tryd.func3.symm.trans hfn)).symm
  refine ⟨by kernel_rfl, fun j t ht => ?_⟩
  rw [Tryd.params3] at ht
  have hm := Array.mem_of_getElem? ht
  simp at hm
  subst hm
  exact (show Tryd.prog.wantsStandIn 22 = false by kernel_rfl)
theorem fnExactText_card : Rows.FnExactTextCardSaid :=
  Claim7.holds_tied_plain_at .later [] _ _ _ _ fnExactText_said (fun _ h => by cases h) (by kernel_rfl) (fun _ h => by cases h) fnExactText_row_tie rfl ⟨rfl, rfl⟩ (by kernel_rfl) rfl fnExactText_plain (by kernel_rfl)
end Go.Proofs.YtenbihglmblalaaDoor.fnExactTextLaw
