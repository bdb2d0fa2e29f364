/- Texts of a proof, laid together. -/
import Derived.Test.YtlnljfbdicgkcaaGreatV04
import Derived.Test.YtlnljfbdicgkcaaGreatV05
import Derived.Deep.RegionHeld3
import Derived.Laws.StructEq
import Derived.Test.YtlnljfbdicgkcaaGreatV01
import Derived.Maps.OwnSet
import Derived.Maps.OwnOps
import Derived.Maps.RangeWalk
namespace Go.Proofs.YtlnljfbdicgkcaaGreat
open Go.ChangeShapes Go.WideShapes Go.ChangeAt Go.RowKit
set_option linter.unusedVariables false
set_option linter.unusedSimpArgs false
set_option maxRecDepth 4000
theorem OBd.other {lo hi B o : Nat} {w : World} {v : Value} {a1 a2 : Option Addr} {xs ys : List Int} (h : OBd lo hi w a1 a2 xs ys) (hB : B < lo ∨ hi ≤ B) : OBd lo hi (w.setCell ⟨B, o, none⟩ v) a1 a2 xs ys := by
  rcases h with h | ⟨g1, g2, e1, e2, hne, b1, b2, b3, b4, r1, r2⟩
  · exact .inl h
  · exact .inr ⟨g1, g2, e1, e2, hne, b1, b2, b3, b4, r1.other (by omega), r2.other (by omega)⟩
theorem OBd.alloc {lo hi : Nat} {w : World} {a1 a2 : Option Addr} {xs ys : List Int} (h : OBd lo hi w a1 a2 xs ys) (o : Obj) : OBd lo hi (w.alloc o) a1 a2 xs ys := h.below ((Below.refl _ _).alloc (Nat.le_refl _) o)
def VarB (base : Nat) (w' : World) (B : Nat) (d1 d2 : Option Addr) (m1 m2 k1 k2 lo hi : Nat) (sx sy : List Int) : Prop :=
  Blk w' B #[.slice d1 m1 k1, .slice d2 m2 k2] 68 ∧ OBd lo hi w' d1 d2 sx sy ∧ (B < lo ∨ hi ≤ B) ∧ base ≤ lo ∧ hi ≤ w'.heap.size ∧ base ≤ B
theorem VarB.below {base B m1 m2 k1 k2 lo hi : Nat} {w w' : World} {d1 d2 : Option Addr} {sx sy : List Int} (h : VarB base w B d1 d2 m1 m2 k1 k2 lo hi sx sy) (hb : Below w.heap.size w w') : VarB base w' B d1 d2 m1 m2 k1 k2 lo hi sx sy := by
  obtain ⟨h1, h2, h3, h4, h5, h6⟩ := h
  exact ⟨h1.below hb, h2.below hb, h3, h4, Nat.le_trans h5 hb.size, h6⟩
theorem VarB.same {base B m1 m2 k1 k2 lo hi lo2 hi2 : Nat} {w w' : World} {d1 d2 : Option Addr} {sx sy : List Int} (h : VarB base w B d1 d2 m1 m2 k1 k2 lo hi sx sy) (hs : Same lo2 hi2 w w') (hd : hi ≤ lo2 ∨ hi2 ≤ lo) (hB : B < lo2 ∨ hi2 ≤ B) : VarB base w' B d1 d2 m1 m2 k1 k2 lo hi sx sy := by
  obtain ⟨h1, h2, h3, h4, h5, h6⟩ := h
  exact ⟨h1.same hs hB, h2.same hs hd, h3, h4, Nat.le_trans h5 hs.size, h6⟩
theorem VarB.other {base B B2 m1 m2 k1 k2 lo hi : Nat} {W : World} {d1 d2 : Option Addr} {sx sy : List Int} (h : VarB base W B d1 d2 m1 m2 k1 k2 lo hi sx sy) (hne : B2 ≠ B) (ho : B2 < lo ∨ hi ≤ B2) (v0 v1 : Value) :
    VarB base ((W.setCell ⟨B2, 0, none⟩ v0).setCell ⟨B2, 1, none⟩ v1) B d1 d2 m1 m2 k1 k2 lo hi sx sy := by
  obtain ⟨h1, h2, h3, h4, h5, h6⟩ := h
  exact ⟨(h1.other (fun e => hne e.symm)).other (fun e => hne e.symm), (h2.other ho).other ho, h3, h4, by simpa using h5, h6⟩
theorem VarB.drew {base B m1 m2 k1 k2 lo hi : Nat} {w : World} {d1 d2 : Option Addr} {sx sy : List Int} (h : VarB base w B d1 d2 m1 m2 k1 k2 lo hi sx sy) : VarB base w.drew B d1 d2 m1 m2 k1 k2 lo hi sx sy := h
end Go.Proofs.YtlnljfbdicgkcaaGreat
namespace Go.Proofs.YtlnljfbdicgkcaaGreat
open Go.ChangeShapes Go.WideShapes Go.ChangeAt Go.RowKit
set_option linter.unusedVariables false
set_option linter.unusedSimpArgs false
def VRow (w : World) (g : Nat) (vs : List Value) (t : TypeId) : Prop := ∃ cur : Array Value, Blk w g cur t ∧ vs.length ≤ cur.size ∧ cur.toList.take vs.length = vs
theorem VRow.lt {w : World} {g : Nat} {vs : List Value} {t : TypeId} (h : VRow w g vs t) : g < w.heap.size := by obtain ⟨c, hB, _⟩ := h; exact hB.lt
theorem VRow.below {w w' : World} {g : Nat} {vs : List Value} {t : TypeId} (h : VRow w g vs t) (hb : Below w.heap.size w w') : VRow w' g vs t := by
  obtain ⟨c, hB, h1, h2⟩ := h; exact ⟨c, hB.below hb, h1, h2⟩
theorem VRow.drew {w : World} {g : Nat} {vs : List Value} {t : TypeId} (h : VRow w g vs t) : VRow w.drew g vs t := h
theorem VRow.grown {w w' : World} {g g' : Nat} {vs : List Value} {t : TypeId} (h : VRow w g' vs t) (hg : w.grownBy w' (some g)) (hne : g' ≠ g) : VRow w' g' vs t := by
  obtain ⟨c, hB, h1, h2⟩ := h
  exact ⟨c, hB.grown hg hne, h1, h2⟩
theorem VRow.other {w : World} {g g' o : Nat} {vs : List Value} {t : TypeId} {v : Value} (h : VRow w g' vs t) (hne : g' ≠ g) : VRow (w.setCell ⟨g, o, none⟩ v) g' vs t := by
  obtain ⟨c, hB, h1, h2⟩ := h
  exact ⟨c, (Below.heap_setCell w ⟨g, o, none⟩ v g' hne).trans hB, h1, h2⟩
theorem VRow.same {lo hi g : Nat} {w w' : World} {vs : List Value} {t : TypeId} (h : VRow w g vs t) (hs : Same lo hi w w') (hg : g < lo ∨ hi ≤ g) : VRow w' g vs t := by
  obtain ⟨cur, hB, h1, h2⟩ := h
  exact ⟨cur, hB.same hs hg, h1, h2⟩
theorem VRow.cell {w : World} {g : Nat} {vs : List Value} {t : TypeId} (h : VRow w g vs t) (i : Nat) (v : Value) (hi : vs[i]? = some v) : w.cell? ⟨g, i, none⟩ = some v := by
  obtain ⟨c, hB, h1, h2⟩ := h
  rw [hB.cell i, ← hi]
  have hlt := (List.getElem?_eq_some_iff.1 hi).1
  have h3 : (c.toList.take vs.length)[i]? = c[i]? := by rw [List.getElem?_take_of_lt hlt]; simp
  rw [← h3, h2]
theorem VRow.free {w : World} {g : Nat} {vs : List Value} {t : TypeId} (h : VRow w g vs t) (i : Nat) : w.frozen? ⟨g, i, none⟩ = false := by
  obtain ⟨c, hB, _, _⟩ := h; exact hB.free i
theorem VRow.set {w : World} {g : Nat} {vs : List Value} {t : TypeId} (h : VRow w g vs t) (i : Nat) (v : Value) : VRow (w.setCell ⟨g, i, none⟩ v) g (vs.set i v) t := by
  obtain ⟨c, hB, h1, h2⟩ := h
  refine ⟨_, hB.set (i := i) v, by simpa using h1, ?_⟩
  rw [List.length_set, Array.toList_setIfInBounds, List.take_set, h2]
theorem VRow.wf {w : World} {g : Nat} {vs us : List Value} {t : TypeId} (h : VRow w g vs t) (e : vs = us) : VRow w g us t := e ▸ h
theorem VRow.take {w : World} {g : Nat} {vs : List Value} {t : TypeId} (h : VRow w g vs t) (n : Nat) : VRow w g (vs.take n) t := by
  obtain ⟨c, hB, h1, h2⟩ := h
  refine ⟨c, hB, by rw [List.length_take]; omega, ?_⟩
  rw [List.length_take]
  have : c.toList.take (min n vs.length) = (c.toList.take vs.length).take n := by rw [List.take_take]
  rw [this, h2]
def Res4 (w : World) (g : Nat) (t : TypeId) : Prop := ∃ q0 q1 q2 q3, Blk w g #[q0, q1, q2, q3] t
theorem Res4.below {W w2 : World} {g : Nat} {t : TypeId} (h : Res4 W g t) (hb : Below W.heap.size W w2) : Res4 w2 g t := by
  obtain ⟨q0, q1, q2, q3, h⟩ := h
  exact ⟨q0, q1, q2, q3, h.below hb⟩
theorem Res4.drew {W : World} {g : Nat} {t : TypeId} (h : Res4 W g t) : Res4 W.drew g t := h
def CellIs (w : World) (b o : Nat) (v : Value) : Prop := w.cell? ⟨b, o, none⟩ = some v
theorem CellIs.below {W w2 : World} {b o : Nat} {v : Value} (h : CellIs W b o v) (hb : Below W.heap.size W w2) : CellIs w2 b o v :=
  (hb.cell (p := ⟨b, o, none⟩) (World.block_lt_of_cell? W _ h)).trans h
theorem CellIs.drew {W : World} {b o : Nat} {v : Value} (h : CellIs W b o v) : CellIs W.drew b o v := h
abbrev set4 (W : World) (g : Nat) (a b c d : Value) : World := ((((W.setCell ⟨g, 0, none⟩ a).setCell ⟨g, 1, none⟩ b).setCell ⟨g, 2, none⟩ c).setCell ⟨g, 3, none⟩ d)
theorem Blk.set4 {W : World} {g g' : Nat} {vs : Array Value} {t : TypeId} (h : Blk W g' vs t) (hne : g' ≠ g) (a b c d : Value) : Blk (set4 W g a b c d) g' vs t :=
  (((h.other hne).other hne).other hne).other hne
theorem Res4.set4 {W : World} {g : Nat} {t : TypeId} (h : Res4 W g t) (a b c d : Value) : Res4 (set4 W g a b c d) g t := by
  obtain ⟨q0, q1, q2, q3, h⟩ := h
  exact ⟨_, _, _, _, (((h.set _).set _).set _).set _⟩
theorem CellIs.set4 {W : World} {g b' o : Nat} {v : Value} (h : CellIs W b' o v) (hne : b' ≠ g) (a b c d : Value) : CellIs (set4 W g a b c d) b' o v := by
  unfold CellIs at *
  rw [World.cell?_setCell_far _ _ _ _ (by simpa using fun e => hne e.symm), World.cell?_setCell_far _ _ _ _ (by simpa using fun e => hne e.symm), World.cell?_setCell_far _ _ _ _ (by simpa using fun e => hne e.symm), World.cell?_setCell_far _ _ _ _ (by simpa using fun e => hne e.symm)]
  exact h
end Go.Proofs.YtlnljfbdicgkcaaGreat
namespace Go.Proofs.YtlnljfbdicgkcaaGreat
open Go.ChangeShapes Go.WideShapes Go.ChangeAt Go.RowKit
set_option linter.unusedVariables false
set_option linter.unusedSimpArgs false
set_option maxRecDepth 4000
open Go.Maps (Keyed)
theorem scZero (w : World) : (zeroValue 2).run Tryz.prog w = .ok (.int .i64 0) w := by kernel_rfl
theorem scKey : Keyed Tryz.prog 2 := Maps.int_keyed Tryz.underlying2
theorem scMap : Tryz.prog.underlying 85 = some (.map 2 2) := Tryz.underlying85
theorem scWf {x : Int} (h : -9223372036854775808 ≤ x ∧ x ≤ 9223372036854775807) : (Lit.int .i64 x).wf = true := by
  simp [Lit.wf, IntKind.min, IntKind.max, IntKind.signed, IntKind.bits]; omega
theorem scKeyOf {j : Int} (h : -9223372036854775808 ≤ j ∧ j ≤ 9223372036854775807) : keyOf Tryz.prog 2 (.int .i64 j) = some (.int .i64 j) :=
  Maps.keyOf_int_mk Tryz.underlying2 (scWf h)
def scD (S : Nat) : Nat → DataW Unit
  | 0 => .map []
  | n + 1 => (scD S n).put (.int .i64 (n : Int)) (.lit (.int .i64 (scN S n : Int)))
theorem scD_map (S : Nat) : ∀ n, Maps.IsMap (scD S n)
  | 0 => ⟨[], rfl⟩
  | n + 1 => Maps.IsMap.put (scD_map S n) _ _
theorem scLit (j : Int) : WideAt.IsKeyLit (.int .i64 j) := trivial
def scA (S n : Nat) (j : Int) : Int := if 0 ≤ j ∧ j < n then (scN S j.toNat : Int) else 0
theorem scD_at (S : Nat) : ∀ (n : Nat) (j : Int), (scD S n).atKey (.int .i64 j) (.lit (.int .i64 0)) = .lit (.int .i64 (scA S n j))
  | 0, j => by
    unfold scA
    rw [if_neg (by omega)]
    rfl
  | n + 1, j => by
    rw [scD]
    by_cases h : j = n
    · subst h
      rw [Maps.atKey_put_same (scD_map S n) (scLit _)]
      unfold scA
      rw [if_pos (by omega), Int.toNat_natCast]
    · rw [Maps.atKey_put_other (by simpa using h), scD_at S n j]
      unfold scA
      by_cases g : 0 ≤ j ∧ j < n
      · rw [if_pos g, if_pos (by omega)]
      · rw [if_neg g, if_neg (by omega)]
theorem scD_has (S : Nat) : ∀ (n : Nat) (j : Int), Maps.has (scD S n) (.int .i64 j) = decide (0 ≤ j ∧ j < n)
  | 0, j => by
    rw [decide_eq_false (by omega)]
    rfl
  | n + 1, j => by
    rw [scD]
    by_cases h : j = n
    · subst h
      rw [Maps.has_put_same (scD_map S n) (scLit _), decide_eq_true (by omega)]
    · rw [Maps.has_put_other (by simpa using h), scD_has S n j]
      by_cases g : 0 ≤ j ∧ j < n
      · rw [decide_eq_true g, decide_eq_true (by omega)]
      · rw [decide_eq_false g, decide_eq_false (by omega)]
def ScM (w : World) (b S n : Nat) : Prop := w.ownsMap Tryz.prog 2 (plainElem (H := Unit) Tryz.prog 2) b n (scD S n)
theorem ScM.below {w w' : World} {b S n : Nat} (h : ScM w b S n) (hb : Below w.heap.size w w') : ScM w' b S n :=
  World.ownsMap.kept (row := none) h ⟨hb.os, hb.tape, hb.output, hb.size, fun k hk _ => hb.block k hk⟩ (by simp)
theorem ScM.drew {w : World} {b S n : Nat} (h : ScM w b S n) : ScM w.drew b S n := h
theorem ScM.alloc {w : World} {b S n : Nat} (h : ScM w b S n) (o : Obj) : ScM (w.alloc o) b S n := World.ownsMap.alloc h o
theorem ScM.lt {w : World} {b S n : Nat} (h : ScM w b S n) : b < w.heap.size := World.ownsMap.lt h
theorem ScM.made (w : World) (S : Nat) : ScM (w.alloc (.map #[] 0)) w.heap.size S 0 := World.ownsMap_made w _ _ _
section
variable {ops : Array Oper} {rest : List Oper} {o : Oper} {a : Act} {Q : Exit → Act → World → Prop}
theorem wp_scale (w : World) (hg : o.guard = none) (m x : Operand) (hop : o.op = Op.lookup 85 m x false) (b S n : Nat) (hm : a.eval m = .map (some b)) (h : ScM w b S n)
    (j : Int) (hx : a.eval x = .int .i64 j) (hj : -9223372036854775808 ≤ j ∧ j ≤ 9223372036854775807) (hK : wpList Tryz.prog ops Q rest (a.put o.dst (.int .i64 (scA S n j))) w) :
    wpList Tryz.prog ops Q (o :: rest) a w := by
  refine wpList_lookup_own_int w hg m x 85 hop 2 2 .i64 scKey scMap Tryz.underlying2 (scZero w) b n (scD S n) hm h _ _ hx (scKeyOf hj) ?_
  intro c hat _
  rw [scD_at] at hat
  have e : scA S n j = c := by simpa using hat
  rw [← e]
  exact hK
theorem wp_depth (w : World) (hg : o.guard = none) (m x : Operand) (hop : o.op = Op.lookup 85 m x true) (b S n : Nat) (hm : a.eval m = .map (some b)) (h : ScM w b S n)
    (j : Int) (hx : a.eval x = .int .i64 j) (hj : -9223372036854775808 ≤ j ∧ j ≤ 9223372036854775807) (hK : wpList Tryz.prog ops Q rest (a.put o.dst (.tuple #[.int .i64 (scA S n j), .bool (decide (0 ≤ j ∧ j < n))])) w) :
    wpList Tryz.prog ops Q (o :: rest) a w := by
  refine wpList_lookup_own_ok_int w hg m x 85 hop 2 2 .i64 scKey scMap Tryz.underlying2 (scZero w) b n (scD S n) hm h _ _ hx (scKeyOf hj) ?_
  intro c hat _
  rw [scD_at] at hat
  have e : scA S n j = c := by simpa using hat
  rw [← e, scD_has]
  exact hK
end
theorem ScM.put {w : World} {b S n : Nat} (h : ScM w b S n) (hn : n ≤ 61) (hs : scN S n ≤ 1000000000000000) :
    ∃ w', (Instr.mapUpdate 85 (.map (some b)) (.int .i64 (n : Int)) (.int .i64 (scN S n : Int))).run Tryz.prog w = .ok () w' ∧ ScM w' b S (n + 1) ∧ w.grownBy w' (some b) := by
  obtain ⟨w2, r1, own1, g1⟩ := World.ownsMap.update h scKey scMap (by unfold maxLen; omega) (scKeyOf (j := (n : Int)) (by omega)) (plainElem_int Tryz.underlying2 (scWf (x := (scN S n : Int)) (by omega)))
  exact ⟨w2, r1, own1, g1⟩
end Go.Proofs.YtlnljfbdicgkcaaGreat
