/- Texts of a proof, laid together. -/
import Derived.Test.YtnlclmlnpkncoaaGreatW01
import Derived.OwnWalk
import Derived.Deep.AppendLies
import Derived.ArgAppend
import Derived.Laws.StructEq
import Derived.Deep.RegionHeld3
import Derived.Maps.OwnSet
import Derived.Maps.OwnOps
import Derived.Maps.RangeWalk
namespace Go.Proofs.YtnlclmlnpkncoaaGreat
open Go.ChangeShapes Go.WideShapes Go.ChangeAt Go.RowKit
set_option linter.unusedVariables false
set_option linter.unusedSimpArgs false
def OBd (lo hi : Nat) (w : World) (a1 a2 : Option Addr) (xs ys : List Int) : Prop :=
  (a1 = none ∧ a2 = none ∧ xs = [] ∧ ys = []) ∨
  ∃ g1 g2, a1 = some ⟨g1, 0, none⟩ ∧ a2 = some ⟨g2, 0, none⟩ ∧ g1 ≠ g2 ∧ lo ≤ g1 ∧ g1 < hi ∧ lo ≤ g2 ∧ g2 < hi ∧ Row w g1 xs ∧ Row w g2 ys
structure Same (lo hi : Nat) (w w' : World) : Prop where
  os : w'.os = w.os
  tape : w'.tape = w.tape
  output : w'.output = w.output
  size : w.heap.size ≤ w'.heap.size
  block : ∀ i, i < w.heap.size → (i < lo ∨ hi ≤ i) → w'.heap[i]? = w.heap[i]?
theorem Blk.same {lo hi g : Nat} {w w' : World} {vs : Array Value} {t : TypeId} (h : Blk w g vs t) (hs : Same lo hi w w') (hg : g < lo ∨ hi ≤ g) : Blk w' g vs t := (hs.block g h.lt hg).trans h
theorem Row.same {lo hi g : Nat} {w w' : World} {xs : List Int} (h : Row w g xs) (hs : Same lo hi w w') (hg : g < lo ∨ hi ≤ g) : Row w' g xs := by
  obtain ⟨cur, hB, h1, h2⟩ := h
  exact ⟨cur, hB.same hs hg, h1, h2⟩
theorem OBd.below {lo hi : Nat} {w w' : World} {a1 a2 : Option Addr} {xs ys : List Int} (h : OBd lo hi w a1 a2 xs ys) (hb : Below w.heap.size w w') : OBd lo hi w' a1 a2 xs ys := by
  rcases h with h | ⟨g1, g2, e1, e2, hne, b1, b2, b3, b4, r1, r2⟩
  · exact .inl h
  · exact .inr ⟨g1, g2, e1, e2, hne, b1, b2, b3, b4, r1.below hb, r2.below hb⟩
theorem OBd.same {lo hi lo2 hi2 : Nat} {w w' : World} {a1 a2 : Option Addr} {xs ys : List Int} (h : OBd lo2 hi2 w a1 a2 xs ys) (hs : Same lo hi w w') (hd : hi2 ≤ lo ∨ hi ≤ lo2) : OBd lo2 hi2 w' a1 a2 xs ys := by
  rcases h with h | ⟨g1, g2, e1, e2, hne, b1, b2, b3, b4, r1, r2⟩
  · exact .inl h
  · exact .inr ⟨g1, g2, e1, e2, hne, b1, b2, b3, b4, r1.same hs (by omega), r2.same hs (by omega)⟩
theorem wpList_append1 {P : Program} {ops : Array Oper} {rest : List Oper} {o : Oper} {a : Act} {Q : Exit → Act → World → Prop} (hgd : o.guard = none) (s x : Operand) (t : TypeId)
    (ho : o.op = .call { callee := .builtin .append, args := #[s, x], argTypes := #[t, t] })
    (base : Nat) (e : TypeId) (i : TypeInfo) (z : Value) (bytes : Nat) (ht : P.underlying t = some (.slice e)) (hi : P.info? e = some i) (hz : i.zero = some z)
    (hsize : i.size = 1) (hby : i.bytes = bytes) (hzs : z.cells.size = 1)
    (v : Value) (n : Nat) (xs : List Value) (hs : a.eval s = v) {w0 : World} (hown : w0.ownsRow base e 1 v n xs) (u : Value)
    (hx : a.eval x = .slice (some ⟨w0.heap.size, 0, none⟩) 1 1) (h1 : u.oneCell' = true)
    (h63 : n + 1 ≤ maxLen) (hbytes : (n + 1) * bytes ≤ 140737488355328) (hbase : base ≤ w0.heap.size)
    (h : ∀ g cap w', w'.ownsRow base e 1 (.slice (some ⟨g, 0, none⟩) (n + 1) cap) (n + 1) (xs ++ [u]) → Below base w0 w' → (∀ k, k < w0.heap.size → v.ownBlock ≠ some k → w'.heap[k]? = w0.heap[k]?) →
      wpList P ops Q rest (a.put o.dst (.slice (some ⟨g, 0, none⟩) (n + 1) cap)) w') : wpList P ops Q (o :: rest) a (w0.alloc (.cells #[u] e)) := by
  refine wpList_append_own _ hgd s x t ho base e i z 1 bytes ht hi hz hsize hby hzs (by decide) v n xs hs (hown.alloc _) ⟨w0.heap.size, 0, none⟩ 1 1 [u] hx rfl
    (World.news_of_block (cs := #[u]) (Blk.new w0 #[u] e)) (fun y hy => by simp at hy; subst hy; exact h1) h63 hbytes (by simp; omega) ?_
  intro v' w' hown' hgrow _
  obtain ⟨g, cap, rfl⟩ := Joins.ownsRow_form hown' (by omega)
  refine h g cap w' hown' (((Below.refl base w0).alloc hbase _).grown hgrow (by simp; omega) (fun k hk => (hown.lt k hk).1)) (fun k hk hne => ?_)
  rw [hgrow.block k (by simp; omega) (fun hh => hne hh.symm), Below.heap_alloc _ _ _ hk]
def OSl (lo hi : Nat) (w : World) (a : Option Addr) (xs : List Int) : Prop :=
  (a = none ∧ xs = []) ∨ ∃ g, a = some ⟨g, 0, none⟩ ∧ lo ≤ g ∧ g < hi ∧ Row w g xs
theorem OSl.irow {lo hi : Nat} {w : World} {a : Option Addr} {xs : List Int} (h : OSl lo hi w a xs) : IRow w a xs := by
  rcases h with ⟨rfl, rfl⟩ | ⟨g, rfl, _, _, r⟩
  · exact IRow.nil _ _
  · exact r.irow
theorem OSl.below {lo hi : Nat} {w w' : World} {a : Option Addr} {xs : List Int} (h : OSl lo hi w a xs) (hb : Below w.heap.size w w') : OSl lo hi w' a xs := by
  rcases h with h | ⟨g, e, h1, h2, r⟩
  · exact .inl h
  · exact .inr ⟨g, e, h1, h2, r.below hb⟩
theorem OSl.drew {lo hi : Nat} {w : World} {a : Option Addr} {xs : List Int} (h : OSl lo hi w a xs) : OSl lo hi w.drew a xs := h
theorem OSl.alloc {lo hi : Nat} {w : World} {a : Option Addr} {xs : List Int} (h : OSl lo hi w a xs) (o : Obj) : OSl lo hi (w.alloc o) a xs := h.below ((Below.refl _ _).alloc (Nat.le_refl _) o)
theorem OBd.drew {lo hi : Nat} {w : World} {a1 a2 : Option Addr} {xs ys : List Int} (h : OBd lo hi w a1 a2 xs ys) : OBd lo hi w.drew a1 a2 xs ys := h
theorem OSl.mono {lo hi lo' hi' : Nat} {w : World} {a : Option Addr} {xs : List Int} (h : OSl lo hi w a xs) (h1 : lo' ≤ lo) (h2 : hi ≤ hi') : OSl lo' hi' w a xs := by
  rcases h with h | ⟨g, e, q1, q2, r⟩
  · exact .inl h
  · exact .inr ⟨g, e, by omega, by omega, r⟩
theorem OSl.same {lo hi lo2 hi2 : Nat} {w w' : World} {a : Option Addr} {xs : List Int} (h : OSl lo2 hi2 w a xs) (hs : Same lo hi w w') (hd : hi2 ≤ lo ∨ hi ≤ lo2) : OSl lo2 hi2 w' a xs := by
  rcases h with h | ⟨g, e, q1, q2, r⟩
  · exact .inl h
  · exact .inr ⟨g, e, q1, q2, r.same hs (by omega)⟩
def SliceGot (xs : List Int) (w : World) (e : Ending) (w' : World) : Prop :=
  ∃ a k, e = .returned (.slice a xs.length k) ∧ OSl w.heap.size w'.heap.size w' a xs ∧ Below w.heap.size w w'
def SliceGot2 (xs : List Int) (r : Int) (w : World) (e : Ending) (w' : World) : Prop :=
  ∃ a k, e = .returned (.tuple #[.slice a xs.length k, .int .i64 r]) ∧ OSl w.heap.size w'.heap.size w' a xs ∧ Below w.heap.size w w'
def Own (w : World) (base : Nat) (v : Value) (xs : List Int) : Prop := w.ownsRow base 2 1 v xs.length (ints xs)
theorem Own.form {w : World} {base : Nat} {v : Value} {xs : List Int} (h : Own w base v xs) : ∃ a k, v = .slice a xs.length k := by
  rcases h.2 with ⟨h1, h2⟩ | ⟨g, cap, cur, h1, _⟩
  · exact ⟨none, 0, by rw [h1, h2]⟩
  · exact ⟨some ⟨g, 0, none⟩, cap, h1⟩
theorem Own.osl {w : World} {base : Nat} {a : Option Addr} {n k : Nat} {xs : List Int} (h : Own w base (.slice a n k) xs) : OSl base w.heap.size w a xs := by
  obtain ⟨hl, h1 | ⟨g, cap, cur, hv, hb, hh, hc, hm, hs, ht⟩⟩ := h
  · obtain ⟨h1, h2⟩ := h1
    simp at h1
    exact .inl ⟨h1.1, List.eq_nil_of_length_eq_zero h2⟩
  · simp at hv
    obtain ⟨rfl, _, rfl⟩ := hv
    exact .inr ⟨g, rfl, hb, (Array.getElem?_eq_some_iff.1 hh).1, cur, hh, by omega, by simpa using ht⟩
theorem Own.alloc {w : World} {base : Nat} {v : Value} {xs : List Int} (h : Own w base v xs) (o : Obj) : Own (w.alloc o) base v xs := World.ownsRow.alloc h o
theorem Own.drew {w : World} {base : Nat} {v : Value} {xs : List Int} (h : Own w base v xs) : Own w.drew base v xs := h
theorem Own.kept {w w' : World} {base : Nat} {v : Value} {xs : List Int} (h : Own w base v xs) (hb : Below w.heap.size w w') : Own w' base v xs :=
  World.ownsRow.kept (row := none) h ⟨hb.os, hb.tape, hb.output, hb.size, fun k hk _ => hb.block k hk⟩ (by
    cases hv : v.ownBlock with
    | none => exact .inl rfl
    | some g => exact .inr (by simp))
theorem Own.start (w : World) : Own (w.alloc (.cells #[] 2)) w.heap.size (.slice (some ⟨w.heap.size, 0, none⟩) 0 0) [] :=
  ⟨rfl, .inr ⟨w.heap.size, 0, #[], rfl, Nat.le_refl _, Blk.new w #[] _, Nat.le_refl _, by unfold maxLen; omega, rfl, rfl⟩⟩
theorem Own.nil (w : World) (base : Nat) : Own w base (.slice none 0 0) [] := World.ownsRow_nil w base _ _
theorem Own.mono {w : World} {base base' : Nat} {v : Value} {xs : List Int} (h : Own w base v xs) (hb : base' ≤ base) : Own w base' v xs := by
  obtain ⟨h1, h2 | ⟨g, cap, cur, q1, q2, q3⟩⟩ := h
  · exact ⟨h1, .inl h2⟩
  · exact ⟨h1, .inr ⟨g, cap, cur, q1, by omega, q3⟩⟩
theorem wp_push {ops : Array Oper} {rest : List Oper} {o : Oper} {a : Act} {Q : Exit → Act → World → Prop} (hgd : o.guard = none) (s x : Operand)
    (ho : o.op = .call { callee := .builtin .append, args := #[s, x], argTypes := #[26, 26] })
    (base : Nat) (v : Value) (xs : List Int) (hs : a.eval s = v) {w0 : World} (hown : Own w0 base v xs) (u : Int)
    (hx : a.eval x = .slice (some ⟨w0.heap.size, 0, none⟩) 1 1) (hl : xs.length ≤ 1048576) (hbase : base ≤ w0.heap.size)
    (h : ∀ v' w', Own w' base v' (xs ++ [u]) → Below base w0 w' → wpList Tryz.prog ops Q rest (a.put o.dst v') w') : wpList Tryz.prog ops Q (o :: rest) a (w0.alloc (.cells #[.int .i64 u] 2)) := by
  obtain ⟨i0, hi, hz0, hz1, hz2⟩ := info_parts infoI64
  refine wpList_append1 hgd s x 26 ho base 2 i0 (.int .i64 0) 8 Tryz.underlying26 hi hz0 hz1 hz2 rfl v xs.length (ints xs) hs hown (.int .i64 u) hx rfl (by unfold maxLen; omega) (by omega) hbase ?_
  intro g cap w' ho' hb' _
  refine h _ w' ?_ hb'
  show w'.ownsRow base 2 1 _ (xs ++ [u]).length (ints (xs ++ [u]))
  rw [show (xs ++ [u]).length = xs.length + 1 by simp, show ints (xs ++ [u]) = ints xs ++ [.int .i64 u] by simp [ints]]
  exact ho'
def VRow (w : World) (g : Nat) (vs : List Value) (t : TypeId) : Prop := ∃ cur : Array Value, Blk w g cur t ∧ vs.length ≤ cur.size ∧ cur.toList.take vs.length = vs
theorem VRow.lt {w : World} {g : Nat} {vs : List Value} {t : TypeId} (h : VRow w g vs t) : g < w.heap.size := by obtain ⟨c, hB, _⟩ := h; exact hB.lt
theorem VRow.below {w w' : World} {g : Nat} {vs : List Value} {t : TypeId} (h : VRow w g vs t) (hb : Below w.heap.size w w') : VRow w' g vs t := by
  obtain ⟨c, hB, h1, h2⟩ := h; exact ⟨c, hB.below hb, h1, h2⟩
theorem VRow.drew {w : World} {g : Nat} {vs : List Value} {t : TypeId} (h : VRow w g vs t) : VRow w.drew g vs t := h
theorem VRow.grown {w w' : World} {g g' : Nat} {vs : List Value} {t : TypeId} (h : VRow w g' vs t) (hg : w.grownBy w' (some g)) (hne : g' ≠ g) : VRow w' g' vs t := by
  obtain ⟨c, hB, h1, h2⟩ := h
  exact ⟨c, hB.grown hg hne, h1, h2⟩
theorem VRow.other {w : World} {g g' o : Nat} {vs : List Value} {t : TypeId} {v : Value} (h : VRow w g' vs t) (hne : g' ≠ g) : VRow (w.setCell ⟨g, o, none⟩ v) g' vs t := by
  obtain ⟨c, hB, h1, h2⟩ := h
  exact ⟨c, (Below.heap_setCell w ⟨g, o, none⟩ v g' hne).trans hB, h1, h2⟩
theorem VRow.same {lo hi g : Nat} {w w' : World} {vs : List Value} {t : TypeId} (h : VRow w g vs t) (hs : Same lo hi w w') (hg : g < lo ∨ hi ≤ g) : VRow w' g vs t := by
  obtain ⟨cur, hB, h1, h2⟩ := h
  exact ⟨cur, hB.same hs hg, h1, h2⟩
theorem VRow.cell {w : World} {g : Nat} {vs : List Value} {t : TypeId} (h : VRow w g vs t) (i : Nat) (v : Value) (hi : vs[i]? = some v) : w.cell? ⟨g, i, none⟩ = some v := by
  obtain ⟨c, hB, h1, h2⟩ := h
  rw [hB.cell i, ← hi]
  have hlt := (List.getElem?_eq_some_iff.1 hi).1
  have h3 : (c.toList.take vs.length)[i]? = c[i]? := by rw [List.getElem?_take_of_lt hlt]; simp
  rw [← h3, h2]
theorem VRow.free {w : World} {g : Nat} {vs : List Value} {t : TypeId} (h : VRow w g vs t) (i : Nat) : w.frozen? ⟨g, i, none⟩ = false := by
  obtain ⟨c, hB, _, _⟩ := h; exact hB.free i
theorem VRow.set {w : World} {g : Nat} {vs : List Value} {t : TypeId} (h : VRow w g vs t) (i : Nat) (v : Value) : VRow (w.setCell ⟨g, i, none⟩ v) g (vs.set i v) t := by
  obtain ⟨c, hB, h1, h2⟩ := h
  refine ⟨_, hB.set (i := i) v, by simpa using h1, ?_⟩
  rw [List.length_set, Array.toList_setIfInBounds, List.take_set, h2]
theorem VRow.wf {w : World} {g : Nat} {vs us : List Value} {t : TypeId} (h : VRow w g vs t) (e : vs = us) : VRow w g us t := e ▸ h
theorem VRow.take {w : World} {g : Nat} {vs : List Value} {t : TypeId} (h : VRow w g vs t) (n : Nat) : VRow w g (vs.take n) t := by
  obtain ⟨c, hB, h1, h2⟩ := h
  refine ⟨c, hB, by rw [List.length_take]; omega, ?_⟩
  rw [List.length_take]
  have : c.toList.take (min n vs.length) = (c.toList.take vs.length).take n := by rw [List.take_take]
  rw [this, h2]
def Res4 (w : World) (g : Nat) (t : TypeId) : Prop := ∃ q0 q1 q2 q3, Blk w g #[q0, q1, q2, q3] t
theorem Res4.below {W w2 : World} {g : Nat} {t : TypeId} (h : Res4 W g t) (hb : Below W.heap.size W w2) : Res4 w2 g t := by
  obtain ⟨q0, q1, q2, q3, h⟩ := h
  exact ⟨q0, q1, q2, q3, h.below hb⟩
theorem Res4.drew {W : World} {g : Nat} {t : TypeId} (h : Res4 W g t) : Res4 W.drew g t := h
def CellIs (w : World) (b o : Nat) (v : Value) : Prop := w.cell? ⟨b, o, none⟩ = some v
theorem CellIs.below {W w2 : World} {b o : Nat} {v : Value} (h : CellIs W b o v) (hb : Below W.heap.size W w2) : CellIs w2 b o v :=
  (hb.cell (p := ⟨b, o, none⟩) (World.block_lt_of_cell? W _ h)).trans h
theorem CellIs.drew {W : World} {b o : Nat} {v : Value} (h : CellIs W b o v) : CellIs W.drew b o v := h
abbrev set4 (W : World) (g : Nat) (a b c d : Value) : World := ((((W.setCell ⟨g, 0, none⟩ a).setCell ⟨g, 1, none⟩ b).setCell ⟨g, 2, none⟩ c).setCell ⟨g, 3, none⟩ d)
theorem Blk.set4 {W : World} {g g' : Nat} {vs : Array Value} {t : TypeId} (h : Blk W g' vs t) (hne : g' ≠ g) (a b c d : Value) : Blk (set4 W g a b c d) g' vs t :=
  (((h.other hne).other hne).other hne).other hne
theorem Res4.set4 {W : World} {g : Nat} {t : TypeId} (h : Res4 W g t) (a b c d : Value) : Res4 (set4 W g a b c d) g t := by
  obtain ⟨q0, q1, q2, q3, h⟩ := h
  exact ⟨_, _, _, _, (((h.set _).set _).set _).set _⟩
theorem CellIs.set4 {W : World} {g b' o : Nat} {v : Value} (h : CellIs W b' o v) (hne : b' ≠ g) (a b c d : Value) : CellIs (set4 W g a b c d) b' o v := by
  unfold CellIs at *
  rw [World.cell?_setCell_far _ _ _ _ (by simpa using fun e => hne e.symm), World.cell?_setCell_far _ _ _ _ (by simpa using fun e => hne e.symm), World.cell?_setCell_far _ _ _ _ (by simpa using fun e => hne e.symm), World.cell?_setCell_far _ _ _ _ (by simpa using fun e => hne e.symm)]
  exact h
end Go.Proofs.YtnlclmlnpkncoaaGreat
namespace Go.Proofs.YtnlclmlnpkncoaaGreat
open Go.ChangeShapes Go.WideShapes Go.ChangeAt Go.RowKit
set_option linter.unusedVariables false
set_option linter.unusedSimpArgs false
set_option maxRecDepth 4000
open Go.Maps (Keyed)
theorem scZero (w : World) : (zeroValue 2).run Tryz.prog w = .ok (.int .i64 0) w := by kernel_rfl
theorem scKey : Keyed Tryz.prog 2 := Maps.int_keyed Tryz.underlying2
theorem scMap : Tryz.prog.underlying 65 = some (.map 2 2) := Tryz.underlying65
theorem scWf {x : Int} (h : -9223372036854775808 ≤ x ∧ x ≤ 9223372036854775807) : (Lit.int .i64 x).wf = true := by
  simp [Lit.wf, IntKind.min, IntKind.max, IntKind.signed, IntKind.bits]; omega
theorem scKeyOf {j : Int} (h : -9223372036854775808 ≤ j ∧ j ≤ 9223372036854775807) : keyOf Tryz.prog 2 (.int .i64 j) = some (.int .i64 j) :=
  Maps.keyOf_int_mk Tryz.underlying2 (scWf h)
def scD (S : Nat) : Nat → DataW Unit
  | 0 => .map []
  | n + 1 => (scD S n).put (.int .i64 (n : Int)) (.lit (.int .i64 (scN S n : Int)))
theorem scD_map (S : Nat) : ∀ n, Maps.IsMap (scD S n)
  | 0 => ⟨[], rfl⟩
  | n + 1 => Maps.IsMap.put (scD_map S n) _ _
theorem scLit (j : Int) : WideAt.IsKeyLit (.int .i64 j) := trivial
def scA (S n : Nat) (j : Int) : Int := if 0 ≤ j ∧ j < n then (scN S j.toNat : Int) else 0
theorem scD_at (S : Nat) : ∀ (n : Nat) (j : Int), (scD S n).atKey (.int .i64 j) (.lit (.int .i64 0)) = .lit (.int .i64 (scA S n j))
  | 0, j => by
    unfold scA
    rw [if_neg (by omega)]
    rfl
  | n + 1, j => by
    rw [scD]
    by_cases h : j = n
    · subst h
      rw [Maps.atKey_put_same (scD_map S n) (scLit _)]
      unfold scA
      rw [if_pos (by omega), Int.toNat_natCast]
    · rw [Maps.atKey_put_other (by simpa using h), scD_at S n j]
      unfold scA
      by_cases g : 0 ≤ j ∧ j < n
      · rw [if_pos g, if_pos (by omega)]
      · rw [if_neg g, if_neg (by omega)]
theorem scD_has (S : Nat) : ∀ (n : Nat) (j : Int), Maps.has (scD S n) (.int .i64 j) = decide (0 ≤ j ∧ j < n)
  | 0, j => by
    rw [decide_eq_false (by omega)]
    rfl
  | n + 1, j => by
    rw [scD]
    by_cases h : j = n
    · subst h
      rw [Maps.has_put_same (scD_map S n) (scLit _), decide_eq_true (by omega)]
    · rw [Maps.has_put_other (by simpa using h), scD_has S n j]
      by_cases g : 0 ≤ j ∧ j < n
      · rw [decide_eq_true g, decide_eq_true (by omega)]
      · rw [decide_eq_false g, decide_eq_false (by omega)]
def ScM (w : World) (b S n : Nat) : Prop := w.ownsMap Tryz.prog 2 (plainElem (H := Unit) Tryz.prog 2) b n (scD S n)
theorem ScM.below {w w' : World} {b S n : Nat} (h : ScM w b S n) (hb : Below w.heap.size w w') : ScM w' b S n :=
  World.ownsMap.kept (row := none) h ⟨hb.os, hb.tape, hb.output, hb.size, fun k hk _ => hb.block k hk⟩ (by simp)
theorem ScM.drew {w : World} {b S n : Nat} (h : ScM w b S n) : ScM w.drew b S n := h
theorem ScM.alloc {w : World} {b S n : Nat} (h : ScM w b S n) (o : Obj) : ScM (w.alloc o) b S n := World.ownsMap.alloc h o
theorem ScM.lt {w : World} {b S n : Nat} (h : ScM w b S n) : b < w.heap.size := World.ownsMap.lt h
theorem ScM.made (w : World) (S : Nat) : ScM (w.alloc (.map #[] 0)) w.heap.size S 0 := World.ownsMap_made w _ _ _
section
variable {ops : Array Oper} {rest : List Oper} {o : Oper} {a : Act} {Q : Exit → Act → World → Prop}
theorem wp_scale (w : World) (hg : o.guard = none) (m x : Operand) (hop : o.op = Op.lookup 65 m x false) (b S n : Nat) (hm : a.eval m = .map (some b)) (h : ScM w b S n)
    (j : Int) (hx : a.eval x = .int .i64 j) (hj : -9223372036854775808 ≤ j ∧ j ≤ 9223372036854775807) (hK : wpList Tryz.prog ops Q rest (a.put o.dst (.int .i64 (scA S n j))) w) :
    wpList Tryz.prog ops Q (o :: rest) a w := by
  refine wpList_lookup_own_int w hg m x 65 hop 2 2 .i64 scKey scMap Tryz.underlying2 (scZero w) b n (scD S n) hm h _ _ hx (scKeyOf hj) ?_
  intro c hat _
  rw [scD_at] at hat
  have e : scA S n j = c := by simpa using hat
  rw [← e]
  exact hK
theorem wp_depth (w : World) (hg : o.guard = none) (m x : Operand) (hop : o.op = Op.lookup 65 m x true) (b S n : Nat) (hm : a.eval m = .map (some b)) (h : ScM w b S n)
    (j : Int) (hx : a.eval x = .int .i64 j) (hj : -9223372036854775808 ≤ j ∧ j ≤ 9223372036854775807) (hK : wpList Tryz.prog ops Q rest (a.put o.dst (.tuple #[.int .i64 (scA S n j), .bool (decide (0 ≤ j ∧ j < n))])) w) :
    wpList Tryz.prog ops Q (o :: rest) a w := by
  refine wpList_lookup_own_ok_int w hg m x 65 hop 2 2 .i64 scKey scMap Tryz.underlying2 (scZero w) b n (scD S n) hm h _ _ hx (scKeyOf hj) ?_
  intro c hat _
  rw [scD_at] at hat
  have e : scA S n j = c := by simpa using hat
  rw [← e, scD_has]
  exact hK
end
theorem ScM.put {w : World} {b S n : Nat} (h : ScM w b S n) (hn : n ≤ 61) (hs : scN S n ≤ 1000000000000000) :
    ∃ w', (Instr.mapUpdate 65 (.map (some b)) (.int .i64 (n : Int)) (.int .i64 (scN S n : Int))).run Tryz.prog w = .ok () w' ∧ ScM w' b S (n + 1) ∧ w.grownBy w' (some b) := by
  obtain ⟨w2, r1, own1, g1⟩ := World.ownsMap.update h scKey scMap (by unfold maxLen; omega) (scKeyOf (j := (n : Int)) (by omega)) (plainElem_int Tryz.underlying2 (scWf (x := (scN S n : Int)) (by omega)))
  exact ⟨w2, r1, own1, g1⟩
end Go.Proofs.YtnlclmlnpkncoaaGreat
