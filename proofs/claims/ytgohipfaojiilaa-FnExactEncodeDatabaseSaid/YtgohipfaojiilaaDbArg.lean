/- A database that came in: how it is read, its size, its copy, its comparison. -/
import Derived.Test.Ytgohipfaojiilaa13f
import Derived.Test.YtgohipfaojiilaaExArg
import Derived.Test.YtgohipfaojiilaaExL
import Derived.Test.YtgohipfaojiilaaOpen
import Derived.Test.YtgohipfaojiilaaL01b
import Derived.Lib.SmallJoins
namespace Go.Proofs.Ytgohipfaojiilaa
open Go.Joins Go.Deep
open Go.ChangeShapes Go.WideShapes Go.ChangeAt Go.RowKit
set_option linter.unusedVariables false
set_option linter.unusedSimpArgs false
set_option maxRecDepth 4000

set_option maxRecDepth 8000 in
theorem array6 {α : Type} {cs : Array α} (h : cs.size = 6) : ∃ c0 c1 c2 c3 c4 c5, cs = #[c0, c1, c2, c3, c4, c5] := by
  obtain ⟨l⟩ := cs
  match l, h with
  | [c0, c1, c2, c3, c4, c5], _ => exact ⟨c0, c1, c2, c3, c4, c5, rfl⟩
theorem list3 {α : Type} {l : List α} (h : l.length = 3) : ∃ a b c, l = [a, b, c] := by
  match l, h with
  | [a, b, c], _ => exact ⟨a, b, c, rfl⟩
theorem list4 {α : Type} {l : List α} (h : l.length = 4) : ∃ a b c d, l = [a, b, c, d] := by
  match l, h with
  | [a, b, c, d], _ => exact ⟨a, b, c, d, rfl⟩
section
variable {H : Type} {enc : TypeId × Value → H} {w : World} {base : Nat} {spare : Nat → Bool} {held : Bool}
theorem trod_i64 {fuel : Nat} {v : Value} {y : DataW H × List MemPlace} (h : DataW.trod enc Try.prog w base spare held fuel 2 [v] = some y) : ∃ a, v = .int .i64 a ∧ (Lit.int .i64 a).wf = true := by
  obtain ⟨a, e, _, wa⟩ := DataW.trod_int Try.underlying2 h
  simp at e
  exact ⟨a, e, wa⟩
set_option maxRecDepth 8000 in
theorem open_db {r : Reach} {b0 : Nat} {v : Value} {d : DataW H} {q : List MemPlace} (hv : Value.okWide Try.prog w r b0 26 v) (h : DataW.Trod enc Try.prog w base spare held 26 v d q) :
    ∃ (p c h s kd : Int) (a : Option Addr) (n k : Nat) (L : List Rl), v = .agg #[.int .i64 p, .int .i64 c, .int .i64 h, .int .i64 s, .int .i64 kd, .slice a n k] ∧ L.length = n ∧ n ≤ 9223372036854775807 ∧ XIn w a L ∧ ∀ r ∈ L, -9223372036854775808 ≤ r.2 ∧ r.2 ≤ 9223372036854775807 := by
  obtain ⟨cs, rfl, hsz⟩ := okWide_struct Try.underlying26 hv
  obtain ⟨v0, v1, v2, v3, v4, v5, rfl⟩ := array6 (hsz.trans (show Try.prog.cellsOf 26 = 6 by kernel_rfl))
  obtain ⟨fuel, hf⟩ := h
  obtain ⟨ys, n, _, hx, _, hlen, hg⟩ := DataW.trod_struct Try.underlying26 hf
  obtain ⟨z0, z1, z2, rfl⟩ := list3 hlen
  have k0 : Try.prog.cellsOf 23 = 4 := by kernel_rfl
  have k1 : Try.prog.cellsOf 2 = 1 := by kernel_rfl
  have k3 : Try.prog.cellsOf 24 = 1 := by kernel_rfl
  have q0 := hg 0 _ rfl
  have q1 := hg 1 _ rfl
  have q2 := hg 2 _ rfl
  simp [Value.cells, k0] at q0
  simp [Value.cells, k1] at q1
  simp [Value.cells, k3] at q2
  obtain ⟨us, m, _, hy, _, hlen2, hg2⟩ := DataW.trod_struct Try.underlying23 q0
  obtain ⟨u0, u1, u2, u3, rfl⟩ := list4 hlen2
  have j0 := hg2 0 _ rfl
  have j1 := hg2 1 _ rfl
  have j2 := hg2 2 _ rfl
  have j3 := hg2 3 _ rfl
  simp [k1] at j0 j1 j2 j3
  obtain ⟨p, rfl, -⟩ := trod_i64 j0
  obtain ⟨c, rfl, -⟩ := trod_i64 j1
  obtain ⟨h, rfl, -⟩ := trod_i64 j2
  obtain ⟨s, rfl, -⟩ := trod_i64 j3
  obtain ⟨kd, rfl, -⟩ := trod_i64 q1
  obtain ⟨a, n2, k, L, rfl, e1, b1, r1, w1⟩ := open_exs q2
  exact ⟨p, c, h, s, kd, a, n2, k, L, rfl, e1, b1, r1, w1⟩
end
theorem szDatabase_any (p c h s kd : Int) (a : Option Addr) (n k : Nat) (left : Int) (w : World) (h0 : 0 ≤ left) (h1 : left ≤ 1000000000) (hn : n ≤ 9223372036854775807) :
    Calls Try.prog 5 #[.agg #[.int .i64 p, .int .i64 c, .int .i64 h, .int .i64 s, .int .i64 kd, .slice a n k], .int .i64 left] w fun e w' => e = .returned (.int .i64 (if left - n < 0 then -1 else left - n)) ∧ Below w.heap.size w w' := by
  have BD := Blk.new w #[.int .i64 p, .int .i64 c, .int .i64 h, .int .i64 s, .int .i64 kd, .slice a n k] 26
  have hb : Below w.heap.size w (w.alloc (.cells #[.int .i64 p, .int .i64 c, .int .i64 h, .int .i64 s, .int .i64 kd, .slice a n k] 26)) := (Below.refl _ _).alloc (Nat.le_refl _) _
  have hs := fun W => szExactS_any a n k left W h0 h1 hn
  obtain ⟨x0, x1, x2, x3, x4, x5, xf, xl⟩ := BD.six
  by_cases g : left - n < 0
  · rw [if_pos g]
    simp only [if_pos g] at hs
    have HS := Lib.hid hs
    clear hs g
    go_enter Try.func5, Try.ntmps5
    go_wp2_with fail
    refine (HS.out _).mono ?_
    rintro e w1 ⟨rfl, rfl⟩
    go_wp2_with fail
    go_ret
    exact ⟨rfl, hb⟩
  · rw [if_neg g]
    simp only [if_neg g] at hs
    obtain ⟨r, hr⟩ : ∃ r : Int, left - n = r := ⟨_, rfl⟩
    rw [hr] at hs ⊢
    have hr0 : ¬ r < 0 := by omega
    have HS := Lib.hid hs
    clear hs g hr
    go_enter Try.func5, Try.ntmps5
    go_wp2_with fail
    refine (HS.out _).mono ?_
    rintro e w1 ⟨rfl, rfl⟩
    go_wp2_with fail
    go_ret
    exact ⟨rfl, hb⟩
set_option maxRecDepth 8000 in
set_option maxHeartbeats 2000000 in
theorem toDatabase_any (p c h s kd : Int) (a : Option Addr) (k : Nat) (L : List Rl) (w : World) (hle : L.length ≤ 1048576) (hr : XIn w a L) :
    Calls Try.prog 7 #[.agg #[.int .i64 p, .int .i64 c, .int .i64 h, .int .i64 s, .int .i64 kd, .slice a L.length k]] w fun e w' => ∃ g, e = .returned (.agg #[.int .i64 p, .int .i64 c, .int .i64 h, .int .i64 s, .int .i64 kd, .slice (some ⟨g, 0, none⟩) L.length L.length]) ∧ w.heap.size ≤ g ∧ g < w'.heap.size ∧ XRow w' g L ∧ Below w.heap.size w w' := by
  have HT := Lib.hid (fun W (q : XIn W a L) => toExactS_any a L.length k L W rfl hle q)
  obtain ⟨BA, BR, BV, hb, hz⟩ := three_new w #[.int .i64 p, .int .i64 c, .int .i64 h, .int .i64 s, .int .i64 kd, .slice a L.length k] #[.int .i64 0, .int .i64 0, .int .i64 0, .int .i64 0, .int .i64 0, .slice none 0 0] #[.int .i64 0, .int .i64 0, .int .i64 0, .int .i64 0, .int .i64 0, .slice none 0 0] 26 34 34
  have hz0 : w.heap.size + 1 + 1 < (((w.alloc (.cells #[.int .i64 p, .int .i64 c, .int .i64 h, .int .i64 s, .int .i64 kd, .slice a L.length k] 26)).alloc (.cells #[.int .i64 0, .int .i64 0, .int .i64 0, .int .i64 0, .int .i64 0, .slice none 0 0] 34)).alloc (.cells #[.int .i64 0, .int .i64 0, .int .i64 0, .int .i64 0, .int .i64 0, .slice none 0 0] 34)).heap.size := by rw [hz]; omega
  clear hz
  obtain ⟨x0, x1, x2, x3, x4, x5, xf, xl⟩ := BA.six
  go_enter Try.func7, Try.ntmps7
  go_wp2_with fail
  clear x0 x1 x2 x3 x4 x5 xf xl
  generalize (((w.alloc (.cells #[.int .i64 p, .int .i64 c, .int .i64 h, .int .i64 s, .int .i64 kd, .slice a L.length k] 26)).alloc (.cells #[.int .i64 0, .int .i64 0, .int .i64 0, .int .i64 0, .int .i64 0, .slice none 0 0] 34)).alloc (.cells #[.int .i64 0, .int .i64 0, .int .i64 0, .int .i64 0, .int .i64 0, .slice none 0 0] 34)) = v0 at *
  refine (toVariant_any _ _ _ _ _).mono ?_
  rintro e w1 ⟨rfl, hb1⟩
  have hz1 := hb1.size
  replace BA := BA.below hb1
  replace BR := BR.below hb1
  replace BV := BV.below hb1
  replace hb := chain hb hb1
  clear hb1
  obtain ⟨x0, x1, x2, x3, x4, x5, xf, xl⟩ := BA.six
  obtain ⟨y0, y1, y2, y3, y4, y5, yf, yl⟩ := BV.six
  go_wp2_with fail
  clear x0 x1 x2 x3 x4 x5 xf xl y0 y1 y2 y3 y4 y5 yf yl
  have BA5 := (((((BA.other (g := (w.heap.size + 1 + 1)) (o := 0) (v := .int .i64 p) (by omega)).other (g := (w.heap.size + 1 + 1)) (o := 1) (v := .int .i64 c) (by omega)).other (g := (w.heap.size + 1 + 1)) (o := 2) (v := .int .i64 h) (by omega)).other (g := (w.heap.size + 1 + 1)) (o := 3) (v := .int .i64 s) (by omega)).other (g := (w.heap.size + 1 + 1)) (o := 4) (v := .int .i64 kd) (by omega))
  have BR5 := (((((BR.other (g := (w.heap.size + 1 + 1)) (o := 0) (v := .int .i64 p) (by omega)).other (g := (w.heap.size + 1 + 1)) (o := 1) (v := .int .i64 c) (by omega)).other (g := (w.heap.size + 1 + 1)) (o := 2) (v := .int .i64 h) (by omega)).other (g := (w.heap.size + 1 + 1)) (o := 3) (v := .int .i64 s) (by omega)).other (g := (w.heap.size + 1 + 1)) (o := 4) (v := .int .i64 kd) (by omega))
  have BV5 := (((((BV.set (i := 0) (.int .i64 p)).set (i := 1) (.int .i64 c)).set (i := 2) (.int .i64 h)).set (i := 3) (.int .i64 s)).set (i := 4) (.int .i64 kd))
  simp only [List.setIfInBounds_toArray, List.set_cons_zero, List.set_cons_succ] at BV5
  have hb5 := (((((hb.setCell (p := ⟨(w.heap.size + 1 + 1), 0, none⟩) (by dsimp only; omega) (.int .i64 p)).setCell (p := ⟨(w.heap.size + 1 + 1), 1, none⟩) (by dsimp only; omega) (.int .i64 c)).setCell (p := ⟨(w.heap.size + 1 + 1), 2, none⟩) (by dsimp only; omega) (.int .i64 h)).setCell (p := ⟨(w.heap.size + 1 + 1), 3, none⟩) (by dsimp only; omega) (.int .i64 s)).setCell (p := ⟨(w.heap.size + 1 + 1), 4, none⟩) (by dsimp only; omega) (.int .i64 kd))
  have hz5 : w.heap.size + 1 + 1 < (((((w1.setCell ⟨(w.heap.size + 1 + 1), 0, none⟩ (.int .i64 p)).setCell ⟨(w.heap.size + 1 + 1), 1, none⟩ (.int .i64 c)).setCell ⟨(w.heap.size + 1 + 1), 2, none⟩ (.int .i64 h)).setCell ⟨(w.heap.size + 1 + 1), 3, none⟩ (.int .i64 s)).setCell ⟨(w.heap.size + 1 + 1), 4, none⟩ (.int .i64 kd)).heap.size := BV5.lt
  generalize (((((w1.setCell ⟨(w.heap.size + 1 + 1), 0, none⟩ (.int .i64 p)).setCell ⟨(w.heap.size + 1 + 1), 1, none⟩ (.int .i64 c)).setCell ⟨(w.heap.size + 1 + 1), 2, none⟩ (.int .i64 h)).setCell ⟨(w.heap.size + 1 + 1), 3, none⟩ (.int .i64 s)).setCell ⟨(w.heap.size + 1 + 1), 4, none⟩ (.int .i64 kd)) = w5 at *
  refine (HT.out _ (hr.below hb5)).mono ?_
  rintro e w6 ⟨g, rfl, hg, hg2, XR, hb6⟩
  have hz6 := hb6.size
  replace BR5 := BR5.below hb6
  replace BV5 := BV5.below hb6
  replace hb5 := chain hb5 hb6
  clear hb6 BA5
  obtain ⟨x0, x1, x2, x3, x4, x5, xf, xl⟩ := BR5.six
  obtain ⟨y0, y1, y2, y3, y4, y5, yf, yl⟩ := BV5.six
  go_wp2_with fail
  clear x0 x1 x2 x3 x4 x5 xf xl y0 y1 y2 y3 y4 y5 yf yl
  have XR2 : XRow (((((((w6.setCell ⟨(w.heap.size + 1 + 1), 5, none⟩ (.slice (some ⟨g, 0, none⟩) L.length L.length)).setCell ⟨(w.heap.size + 1), 0, none⟩ (.int .i64 p)).setCell ⟨(w.heap.size + 1), 1, none⟩ (.int .i64 c)).setCell ⟨(w.heap.size + 1), 2, none⟩ (.int .i64 h)).setCell ⟨(w.heap.size + 1), 3, none⟩ (.int .i64 s)).setCell ⟨(w.heap.size + 1), 4, none⟩ (.int .i64 kd)).setCell ⟨(w.heap.size + 1), 5, none⟩ (.slice (some ⟨g, 0, none⟩) L.length L.length)) g L := (VRow.other (g := (w.heap.size + 1)) (o := 5) (v := .slice (some ⟨g, 0, none⟩) L.length L.length) (VRow.other (g := (w.heap.size + 1)) (o := 4) (v := .int .i64 kd) (VRow.other (g := (w.heap.size + 1)) (o := 3) (v := .int .i64 s) (VRow.other (g := (w.heap.size + 1)) (o := 2) (v := .int .i64 h) (VRow.other (g := (w.heap.size + 1)) (o := 1) (v := .int .i64 c) (VRow.other (g := (w.heap.size + 1)) (o := 0) (v := .int .i64 p) (VRow.other (g := (w.heap.size + 1 + 1)) (o := 5) (v := .slice (some ⟨g, 0, none⟩) L.length L.length) XR (by omega)) (by omega)) (by omega)) (by omega)) (by omega)) (by omega)) (by omega))
  have BR7 := (((((((BR5.other (g := (w.heap.size + 1 + 1)) (o := 5) (v := .slice (some ⟨g, 0, none⟩) L.length L.length) (by omega)).set (i := 0) (.int .i64 p)).set (i := 1) (.int .i64 c)).set (i := 2) (.int .i64 h)).set (i := 3) (.int .i64 s)).set (i := 4) (.int .i64 kd)).set (i := 5) (.slice (some ⟨g, 0, none⟩) L.length L.length))
  simp only [List.setIfInBounds_toArray, List.set_cons_zero, List.set_cons_succ] at BR7
  have hb7 := (((((((hb5.setCell (p := ⟨(w.heap.size + 1 + 1), 5, none⟩) (by dsimp only; omega) (.slice (some ⟨g, 0, none⟩) L.length L.length)).setCell (p := ⟨(w.heap.size + 1), 0, none⟩) (by dsimp only; omega) (.int .i64 p)).setCell (p := ⟨(w.heap.size + 1), 1, none⟩) (by dsimp only; omega) (.int .i64 c)).setCell (p := ⟨(w.heap.size + 1), 2, none⟩) (by dsimp only; omega) (.int .i64 h)).setCell (p := ⟨(w.heap.size + 1), 3, none⟩) (by dsimp only; omega) (.int .i64 s)).setCell (p := ⟨(w.heap.size + 1), 4, none⟩) (by dsimp only; omega) (.int .i64 kd)).setCell (p := ⟨(w.heap.size + 1), 5, none⟩) (by dsimp only; omega) (.slice (some ⟨g, 0, none⟩) L.length L.length))
  have hz7 : g < (((((((w6.setCell ⟨(w.heap.size + 1 + 1), 5, none⟩ (.slice (some ⟨g, 0, none⟩) L.length L.length)).setCell ⟨(w.heap.size + 1), 0, none⟩ (.int .i64 p)).setCell ⟨(w.heap.size + 1), 1, none⟩ (.int .i64 c)).setCell ⟨(w.heap.size + 1), 2, none⟩ (.int .i64 h)).setCell ⟨(w.heap.size + 1), 3, none⟩ (.int .i64 s)).setCell ⟨(w.heap.size + 1), 4, none⟩ (.int .i64 kd)).setCell ⟨(w.heap.size + 1), 5, none⟩ (.slice (some ⟨g, 0, none⟩) L.length L.length)).heap.size := by simp; omega
  obtain ⟨x0, x1, x2, x3, x4, x5, xf, xl⟩ := BR7.six
  refine bodyPost_ret (v := .agg #[.int .i64 p, .int .i64 c, .int .i64 h, .int .i64 s, .int .i64 kd, .slice (some ⟨g, 0, none⟩) L.length L.length]) (by simp [results, Try.results7, go_sem, x0, x1, x2, x3, x4, x5]) rfl ?_
  exact ⟨g, rfl, by omega, hz7, XR2, hb7⟩
set_option maxRecDepth 8000 in
set_option maxHeartbeats 2000000 in
theorem eqDatabase_same (p c h s kd : Int) (g1 g2 : Nat) (L : List Rl) (w : World) (hle : L.length ≤ 1048576) (h1 : XRow w g1 L) (h2 : XRow w g2 L) :
    Calls Try.prog 10 #[.agg #[.int .i64 p, .int .i64 c, .int .i64 h, .int .i64 s, .int .i64 kd, .slice (some ⟨g1, 0, none⟩) L.length L.length], .agg #[.int .i64 p, .int .i64 c, .int .i64 h, .int .i64 s, .int .i64 kd, .slice (some ⟨g2, 0, none⟩) L.length L.length]] w fun e w' => e = .returned (.bool true) ∧ Below w.heap.size w w' := by
  have HX := Lib.hid (fun W (q1 : XRow W g1 L) (q2 : XRow W g2 L) => eqExactS_same g1 g2 L.length L.length L.length L W rfl hle q1 q2)
  obtain ⟨BA, BV, hb, hz⟩ := two_new w #[.int .i64 p, .int .i64 c, .int .i64 h, .int .i64 s, .int .i64 kd, .slice (some ⟨g1, 0, none⟩) L.length L.length] #[.int .i64 p, .int .i64 c, .int .i64 h, .int .i64 s, .int .i64 kd, .slice (some ⟨g2, 0, none⟩) L.length L.length] 34 34
  clear hz
  obtain ⟨x0, x1, x2, x3, x4, x5, xf, xl⟩ := BA.six
  obtain ⟨y0, y1, y2, y3, y4, y5, yf, yl⟩ := BV.six
  go_enter Try.func10, Try.ntmps10
  go_wp2_with fail
  clear x0 x1 x2 x3 x4 x5 xf xl y0 y1 y2 y3 y4 y5 yf yl
  generalize ((w.alloc (.cells #[.int .i64 p, .int .i64 c, .int .i64 h, .int .i64 s, .int .i64 kd, .slice (some ⟨g1, 0, none⟩) L.length L.length] 34)).alloc (.cells #[.int .i64 p, .int .i64 c, .int .i64 h, .int .i64 s, .int .i64 kd, .slice (some ⟨g2, 0, none⟩) L.length L.length] 34)) = v0 at *
  refine (eqVariant_same _ _ _ _ _).mono ?_
  rintro e w1 ⟨rfl, hb1⟩
  replace BA := BA.below hb1
  replace BV := BV.below hb1
  replace hb := chain hb hb1
  clear hb1
  obtain ⟨x0, x1, x2, x3, x4, x5, xf, xl⟩ := BA.six
  obtain ⟨y0, y1, y2, y3, y4, y5, yf, yl⟩ := BV.six
  go_wp2_with fail
  refine (HX.out _ (VRow.below h1 hb) (VRow.below h2 hb)).mono ?_
  rintro e w2 ⟨rfl, hb2⟩
  go_wp2_with fail
  go_ret
  exact ⟨rfl, chain hb hb2⟩
end Go.Proofs.Ytgohipfaojiilaa
