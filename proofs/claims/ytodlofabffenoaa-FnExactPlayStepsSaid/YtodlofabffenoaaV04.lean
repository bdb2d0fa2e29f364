/- Texts of a proof, laid together. -/
import Derived.Test.YtodlofabffenoaaV01
import Derived.Test.YtodlofabffenoaaV03
import Derived.Deep.RegionHeld3
import Derived.Laws.StructEq
import Derived.Shelf.Abstract
import Derived.Laws.EntriesVeiled
import Derived.IntWalk
import Derived.BigGuard
import Derived.BigGuardPart
namespace Go.Proofs.Ytodlofabffenoaa
open Go.ChangeShapes Go.WideShapes Go.ChangeAt Go.RowKit
set_option linter.unusedVariables false
set_option linter.unusedSimpArgs false
set_option maxRecDepth 4000
theorem wp_region_join {P : Program} {c : Code} {Q : Exit → Act → World → Prop} {a : Act} {w : World} (J : Act → Act → World → Prop) (h1 : Code.wp P c (fun e a' w' => e = .normal ∧ J a a' w') a w)
    (h2 : ∀ a' w', J a a' w' → Q .normal a' w') : Code.wp P c Q a w :=
  Code.wp_mono (fun e a w h => by obtain ⟨rfl, hj⟩ := h; exact h2 _ _ hj) h1
theorem below2n {wS W : World} {B : Nat} {u0 u1 : Value} {t : TypeId} (_ : Blk W B #[u0, u1] t) (h : Below wS.heap.size wS W) (hB : wS.heap.size ≤ B) (v0 v1 : Value) : Below wS.heap.size wS ((W.setCell ⟨B, 0, none⟩ v0).setCell ⟨B, 1, none⟩ v1) :=
  (h.setCell (p := ⟨B, 0, none⟩) hB _).setCell (p := ⟨B, 1, none⟩) hB _
theorem OBd.other {lo hi B o : Nat} {w : World} {v : Value} {a1 a2 : Option Addr} {xs ys : List Int} (h : OBd lo hi w a1 a2 xs ys) (hB : B < lo ∨ hi ≤ B) : OBd lo hi (w.setCell ⟨B, o, none⟩ v) a1 a2 xs ys := by
  rcases h with h | ⟨g1, g2, e1, e2, hne, b1, b2, b3, b4, r1, r2⟩
  · exact .inl h
  · exact .inr ⟨g1, g2, e1, e2, hne, b1, b2, b3, b4, r1.other (by omega), r2.other (by omega)⟩
theorem OBd.alloc {lo hi : Nat} {w : World} {a1 a2 : Option Addr} {xs ys : List Int} (h : OBd lo hi w a1 a2 xs ys) (o : Obj) : OBd lo hi (w.alloc o) a1 a2 xs ys := h.below ((Below.refl _ _).alloc (Nat.le_refl _) o)
def VarB (base : Nat) (w' : World) (B : Nat) (d1 d2 : Option Addr) (m1 m2 k1 k2 lo hi : Nat) (sx sy : List Int) : Prop :=
  Blk w' B #[.slice d1 m1 k1, .slice d2 m2 k2] 32 ∧ OBd lo hi w' d1 d2 sx sy ∧ (B < lo ∨ hi ≤ B) ∧ base ≤ lo ∧ hi ≤ w'.heap.size ∧ base ≤ B
theorem VarB.below {base B m1 m2 k1 k2 lo hi : Nat} {w w' : World} {d1 d2 : Option Addr} {sx sy : List Int} (h : VarB base w B d1 d2 m1 m2 k1 k2 lo hi sx sy) (hb : Below w.heap.size w w') : VarB base w' B d1 d2 m1 m2 k1 k2 lo hi sx sy := by
  obtain ⟨h1, h2, h3, h4, h5, h6⟩ := h
  exact ⟨h1.below hb, h2.below hb, h3, h4, Nat.le_trans h5 hb.size, h6⟩
theorem VarB.same {base B m1 m2 k1 k2 lo hi lo2 hi2 : Nat} {w w' : World} {d1 d2 : Option Addr} {sx sy : List Int} (h : VarB base w B d1 d2 m1 m2 k1 k2 lo hi sx sy) (hs : Same lo2 hi2 w w') (hd : hi ≤ lo2 ∨ hi2 ≤ lo) (hB : B < lo2 ∨ hi2 ≤ B) : VarB base w' B d1 d2 m1 m2 k1 k2 lo hi sx sy := by
  obtain ⟨h1, h2, h3, h4, h5, h6⟩ := h
  exact ⟨h1.same hs hB, h2.same hs hd, h3, h4, Nat.le_trans h5 hs.size, h6⟩
theorem VarB.marked {base B m1 m2 k1 k2 lo hi : Nat} {w w' : World} {d1 d2 : Option Addr} {sx sy tx ty : List Int} (h : VarB base w B d1 d2 m1 m2 k1 k2 lo hi sx sy) (hs : Same lo hi w w') (ho : OBd lo hi w' d1 d2 tx ty) : VarB base w' B d1 d2 m1 m2 k1 k2 lo hi tx ty := by
  obtain ⟨h1, h2, h3, h4, h5, h6⟩ := h
  exact ⟨h1.same hs h3, ho, h3, h4, Nat.le_trans h5 hs.size, h6⟩
theorem VarB.stored {base B m1 m2 k1 k2 lo hi : Nat} {W : World} {d1 d2 : Option Addr} {sx sy : List Int} {u0 u1 : Value} (hB : Blk W B #[u0, u1] 32) (hO : OBd lo hi W d1 d2 sx sy) (h3 : B < lo ∨ hi ≤ B) (h4 : base ≤ lo) (h5 : hi ≤ W.heap.size) (h6 : base ≤ B) :
    VarB base ((W.setCell ⟨B, 0, none⟩ (.slice d1 m1 k1)).setCell ⟨B, 1, none⟩ (.slice d2 m2 k2)) B d1 d2 m1 m2 k1 k2 lo hi sx sy :=
  ⟨(hB.set _).set _, (hO.other h3).other h3, h3, h4, by simpa using h5, h6⟩
theorem VarB.other {base B B2 m1 m2 k1 k2 lo hi : Nat} {W : World} {d1 d2 : Option Addr} {sx sy : List Int} (h : VarB base W B d1 d2 m1 m2 k1 k2 lo hi sx sy) (hne : B2 ≠ B) (ho : B2 < lo ∨ hi ≤ B2) (v0 v1 : Value) :
    VarB base ((W.setCell ⟨B2, 0, none⟩ v0).setCell ⟨B2, 1, none⟩ v1) B d1 d2 m1 m2 k1 k2 lo hi sx sy := by
  obtain ⟨h1, h2, h3, h4, h5, h6⟩ := h
  exact ⟨(h1.other (fun e => hne e.symm)).other (fun e => hne e.symm), (h2.other ho).other ho, h3, h4, by simpa using h5, h6⟩
theorem VarB.drew {base B m1 m2 k1 k2 lo hi : Nat} {w : World} {d1 d2 : Option Addr} {sx sy : List Int} (h : VarB base w B d1 d2 m1 m2 k1 k2 lo hi sx sy) : VarB base w.drew B d1 d2 m1 m2 k1 k2 lo hi sx sy := h
end Go.Proofs.Ytodlofabffenoaa
namespace Go.Proofs.Ytodlofabffenoaa
open Go.ChangeShapes Go.WideShapes Go.ChangeAt Go.RowKit
set_option linter.unusedVariables false
set_option linter.unusedSimpArgs false
abbrev Stp := Int × Int × Int × Bool
def stC (s : Stp) : List Value := [.int .i64 s.1, .int .i64 s.2.1, .int .i64 s.2.2.1, .bool s.2.2.2]
abbrev stV (s : Stp) : Value := .agg #[.int .i64 s.1, .int .i64 s.2.1, .int .i64 s.2.2.1, .bool s.2.2.2]
def stepsC : List Stp → List Value
  | [] => []
  | s :: l => stC s ++ stepsC l
theorem stepsC_length : ∀ l : List Stp, (stepsC l).length = l.length * 4
  | [] => rfl
  | s :: l => by simp [stepsC, stC, stepsC_length l]; omega
theorem stepsC_append : ∀ l m : List Stp, stepsC (l ++ m) = stepsC l ++ stepsC m
  | [], m => rfl
  | s :: l, m => by simp [stepsC, stepsC_append l m]
theorem stepsC_at : ∀ (l : List Stp) (k : Nat) (s : Stp), l[k]? = some s → ∀ j, j < 4 → (stepsC l)[k * 4 + j]? = (stC s)[j]?
  | [], k, s, h, j, hj => by simp at h
  | x :: l, 0, s, h, j, hj => by
    simp at h
    subst h
    rw [stepsC, List.getElem?_append_left (by simp [stC]; omega), Nat.zero_mul, Nat.zero_add]
  | x :: l, k + 1, s, h, j, hj => by
    rw [stepsC, List.getElem?_append_right (by simp [stC]; omega)]
    have := stepsC_at l k s (by simpa using h) j hj
    rw [← this]
    congr 1
    simp [stC]
    omega
def VRow (w : World) (g : Nat) (vs : List Value) (t : TypeId) : Prop := ∃ cur : Array Value, Blk w g cur t ∧ vs.length ≤ cur.size ∧ cur.toList.take vs.length = vs
theorem VRow.lt {w : World} {g : Nat} {vs : List Value} {t : TypeId} (h : VRow w g vs t) : g < w.heap.size := by obtain ⟨c, hB, _⟩ := h; exact hB.lt
theorem VRow.below {w w' : World} {g : Nat} {vs : List Value} {t : TypeId} (h : VRow w g vs t) (hb : Below w.heap.size w w') : VRow w' g vs t := by
  obtain ⟨c, hB, h1, h2⟩ := h; exact ⟨c, hB.below hb, h1, h2⟩
theorem VRow.drew {w : World} {g : Nat} {vs : List Value} {t : TypeId} (h : VRow w g vs t) : VRow w.drew g vs t := h
theorem VRow.grown {w w' : World} {g g' : Nat} {vs : List Value} {t : TypeId} (h : VRow w g' vs t) (hg : w.grownBy w' (some g)) (hne : g' ≠ g) : VRow w' g' vs t := by
  obtain ⟨c, hB, h1, h2⟩ := h
  exact ⟨c, hB.grown hg hne, h1, h2⟩
theorem VRow.other {w : World} {g g' o : Nat} {vs : List Value} {t : TypeId} {v : Value} (h : VRow w g' vs t) (hne : g' ≠ g) : VRow (w.setCell ⟨g, o, none⟩ v) g' vs t := by
  obtain ⟨c, hB, h1, h2⟩ := h
  exact ⟨c, (Below.heap_setCell w ⟨g, o, none⟩ v g' hne).trans hB, h1, h2⟩
theorem VRow.same {lo hi g : Nat} {w w' : World} {vs : List Value} {t : TypeId} (h : VRow w g vs t) (hs : Same lo hi w w') (hg : g < lo ∨ hi ≤ g) : VRow w' g vs t := by
  obtain ⟨cur, hB, h1, h2⟩ := h
  exact ⟨cur, hB.same hs hg, h1, h2⟩
theorem VRow.cell {w : World} {g : Nat} {vs : List Value} {t : TypeId} (h : VRow w g vs t) (i : Nat) (v : Value) (hi : vs[i]? = some v) : w.cell? ⟨g, i, none⟩ = some v := by
  obtain ⟨c, hB, h1, h2⟩ := h
  rw [hB.cell i, ← hi]
  have hlt := (List.getElem?_eq_some_iff.1 hi).1
  have h3 : (c.toList.take vs.length)[i]? = c[i]? := by rw [List.getElem?_take_of_lt hlt]; simp
  rw [← h3, h2]
theorem VRow.free {w : World} {g : Nat} {vs : List Value} {t : TypeId} (h : VRow w g vs t) (i : Nat) : w.frozen? ⟨g, i, none⟩ = false := by
  obtain ⟨c, hB, _, _⟩ := h; exact hB.free i
theorem VRow.set {w : World} {g : Nat} {vs : List Value} {t : TypeId} (h : VRow w g vs t) (i : Nat) (v : Value) : VRow (w.setCell ⟨g, i, none⟩ v) g (vs.set i v) t := by
  obtain ⟨c, hB, h1, h2⟩ := h
  refine ⟨_, hB.set (i := i) v, by simpa using h1, ?_⟩
  rw [List.length_set, Array.toList_setIfInBounds, List.take_set, h2]
theorem VRow.wf {w : World} {g : Nat} {vs us : List Value} {t : TypeId} (h : VRow w g vs t) (e : vs = us) : VRow w g us t := e ▸ h
theorem VRow.take {w : World} {g : Nat} {vs : List Value} {t : TypeId} (h : VRow w g vs t) (n : Nat) : VRow w g (vs.take n) t := by
  obtain ⟨c, hB, h1, h2⟩ := h
  refine ⟨c, hB, by rw [List.length_take]; omega, ?_⟩
  rw [List.length_take]
  have : c.toList.take (min n vs.length) = (c.toList.take vs.length).take n := by rw [List.take_take]
  rw [this, h2]
abbrev SRow (w : World) (g : Nat) (l : List Stp) : Prop := VRow w g (stepsC l) 56
theorem SRow.four {w : World} {g : Nat} {l : List Stp} (h : SRow w g l) (k : Nat) (s : Stp) (hk : l[k]? = some s) :
    w.cell? ⟨g, k * 4, none⟩ = some (.int .i64 s.1) ∧ w.cell? ⟨g, k * 4 + 1, none⟩ = some (.int .i64 s.2.1) ∧ w.cell? ⟨g, k * 4 + 2, none⟩ = some (.int .i64 s.2.2.1) ∧ w.cell? ⟨g, k * 4 + 3, none⟩ = some (.bool s.2.2.2) :=
  ⟨h.cell _ _ (by have := stepsC_at l k s hk 0 (by omega); simpa [stC] using this), h.cell _ _ (by have := stepsC_at l k s hk 1 (by omega); simpa [stC] using this),
   h.cell _ _ (by have := stepsC_at l k s hk 2 (by omega); simpa [stC] using this), h.cell _ _ (by have := stepsC_at l k s hk 3 (by omega); simpa [stC] using this)⟩
def OSt (lo hi : Nat) (w : World) (a : Option Addr) (l : List Stp) : Prop :=
  (a = none ∧ l = []) ∨ ∃ g, a = some ⟨g, 0, none⟩ ∧ lo ≤ g ∧ g < hi ∧ SRow w g l
theorem OSt.below {lo hi : Nat} {w w' : World} {a : Option Addr} {l : List Stp} (h : OSt lo hi w a l) (hb : Below w.heap.size w w') : OSt lo hi w' a l := by
  rcases h with h | ⟨g, e, h1, h2, r⟩
  · exact .inl h
  · exact .inr ⟨g, e, h1, h2, r.below hb⟩
theorem OSt.drew {lo hi : Nat} {w : World} {a : Option Addr} {l : List Stp} (h : OSt lo hi w a l) : OSt lo hi w.drew a l := h
theorem OSt.alloc {lo hi : Nat} {w : World} {a : Option Addr} {l : List Stp} (h : OSt lo hi w a l) (o : Obj) : OSt lo hi (w.alloc o) a l := h.below ((Below.refl _ _).alloc (Nat.le_refl _) o)
theorem OSt.mono {lo hi lo' hi' : Nat} {w : World} {a : Option Addr} {l : List Stp} (h : OSt lo hi w a l) (h1 : lo' ≤ lo) (h2 : hi ≤ hi') : OSt lo' hi' w a l := by
  rcases h with h | ⟨g, e, q1, q2, r⟩
  · exact .inl h
  · exact .inr ⟨g, e, by omega, by omega, r⟩
theorem OSt.same {lo hi lo2 hi2 : Nat} {w w' : World} {a : Option Addr} {l : List Stp} (h : OSt lo2 hi2 w a l) (hs : Same lo hi w w') (hd : hi2 ≤ lo ∨ hi ≤ lo2) : OSt lo2 hi2 w' a l := by
  rcases h with h | ⟨g, e, q1, q2, r⟩
  · exact .inl h
  · exact .inr ⟨g, e, q1, q2, r.same hs (by omega)⟩
theorem OSt.row {lo hi : Nat} {w : World} {a : Option Addr} {l : List Stp} (h : OSt lo hi w a l) {k : Nat} (hk : k < l.length) : ∃ g, a = some ⟨g, 0, none⟩ ∧ SRow w g l := by
  rcases h with ⟨_, rfl⟩ | ⟨g, e, q1, q2, r⟩
  · simp at hk
  · exact ⟨g, e, r⟩
def StepsGot (l : List Stp) (w : World) (e : Ending) (w' : World) : Prop :=
  ∃ a k, e = .returned (.slice a l.length k) ∧ OSt w.heap.size w'.heap.size w' a l ∧ Below w.heap.size w w'
def OwnT (w : World) (base : Nat) (v : Value) (l : List Stp) : Prop := w.ownsRow base 56 4 v l.length (stepsC l)
theorem OwnT.form {w : World} {base : Nat} {v : Value} {l : List Stp} (h : OwnT w base v l) : ∃ a k, v = .slice a l.length k := by
  rcases h.2 with ⟨h1, h2⟩ | ⟨g, cap, cur, h1, _⟩
  · exact ⟨none, 0, by rw [h1, h2]⟩
  · exact ⟨some ⟨g, 0, none⟩, cap, h1⟩
theorem OwnT.ost {w : World} {base : Nat} {a : Option Addr} {n k : Nat} {l : List Stp} (h : OwnT w base (.slice a n k) l) : OSt base w.heap.size w a l := by
  obtain ⟨hl, h1 | ⟨g, cap, cur, hv, hb, hh, hc, hm, hs, ht⟩⟩ := h
  · obtain ⟨h1, h2⟩ := h1
    simp at h1
    exact .inl ⟨h1.1, List.eq_nil_of_length_eq_zero h2⟩
  · simp at hv
    obtain ⟨rfl, _, rfl⟩ := hv
    exact .inr ⟨g, rfl, hb, (Array.getElem?_eq_some_iff.1 hh).1, cur, hh, by rw [hl, hs]; exact Nat.mul_le_mul_right _ hc, by rw [hl]; exact ht⟩
theorem OwnT.alloc {w : World} {base : Nat} {v : Value} {l : List Stp} (h : OwnT w base v l) (o : Obj) : OwnT (w.alloc o) base v l := World.ownsRow.alloc h o
theorem OwnT.drew {w : World} {base : Nat} {v : Value} {l : List Stp} (h : OwnT w base v l) : OwnT w.drew base v l := h
theorem OwnT.kept {w w' : World} {base : Nat} {v : Value} {l : List Stp} (h : OwnT w base v l) (hb : Below w.heap.size w w') : OwnT w' base v l :=
  World.ownsRow.kept (row := none) h ⟨hb.os, hb.tape, hb.output, hb.size, fun k hk _ => hb.block k hk⟩ (by
    cases hv : v.ownBlock with
    | none => exact .inl rfl
    | some g => exact .inr (by simp))
theorem OwnT.start (w : World) : OwnT (w.alloc (.cells #[] 56)) w.heap.size (.slice (some ⟨w.heap.size, 0, none⟩) 0 0) [] :=
  ⟨rfl, .inr ⟨w.heap.size, 0, #[], rfl, Nat.le_refl _, Blk.new w #[] _, Nat.le_refl _, by unfold maxLen; omega, rfl, rfl⟩⟩
theorem OwnT.nil (w : World) (base : Nat) : OwnT w base (.slice none 0 0) [] := World.ownsRow_nil w base _ _
theorem OwnT.mono {w : World} {base base' : Nat} {v : Value} {l : List Stp} (h : OwnT w base v l) (hb : base' ≤ base) : OwnT w base' v l := by
  obtain ⟨h1, h2 | ⟨g, cap, cur, q1, q2, q3⟩⟩ := h
  · exact ⟨h1, .inl h2⟩
  · exact ⟨h1, .inr ⟨g, cap, cur, q1, by omega, q3⟩⟩
theorem infoStp : (Try.prog.info? 56).map (fun i => (i.zero, i.size, i.bytes)) = some (some (.agg #[.int .i64 0, .int .i64 0, .int .i64 0, .bool false]), 4, 32) := by kernel_rfl
theorem wp_pushT {ops : Array Oper} {rest : List Oper} {o : Oper} {a : Act} {Q : Exit → Act → World → Prop} (hgd : o.guard = none) (s x : Operand)
    (ho : o.op = .call { callee := .builtin .append, args := #[s, x], argTypes := #[40, 40] })
    (base : Nat) (v : Value) (l : List Stp) (hs : a.eval s = v) {w0 : World} (hown : OwnT w0 base v l) (u : Stp)
    {zz : Nat} (hx : a.eval x = .slice (some ⟨zz, 0, none⟩) 1 1) (hzz : w0.heap.size = zz) (hl : l.length ≤ 1048576) (hbase : base ≤ w0.heap.size)
    (h : ∀ v' w', OwnT w' base v' (l ++ [u]) → Below base w0 w' → wpList Try.prog ops Q rest (a.put o.dst v') w') : wpList Try.prog ops Q (o :: rest) a (w0.alloc (.cells #[.int .i64 u.1, .int .i64 u.2.1, .int .i64 u.2.2.1, .bool u.2.2.2] 56)) := by
  subst hzz
  obtain ⟨i0, hi, hz0, hz1, hz2⟩ := info_parts infoStp
  have hown0 : w0.ownsRow base 56 4 v l.length (stepsC l) := hown
  refine wpList_append_own _ hgd s x 40 ho base 56 i0 _ 4 32 Try.underlying40 hi hz0 hz1 hz2 rfl (by decide) v l.length (stepsC l) hs (hown0.alloc _) ⟨w0.heap.size, 0, none⟩ 1 1 (stC u) hx (by simp [stC])
    (World.news_of_block (cs := #[.int .i64 u.1, .int .i64 u.2.1, .int .i64 u.2.2.1, .bool u.2.2.2]) (Blk.new w0 _ 56)) (fun y hy => by simp [stC] at hy; rcases hy with rfl | rfl | rfl | rfl <;> rfl) (by unfold maxLen; omega) (by omega) (by simp; omega) ?_
  intro v' w' hown' hgrow _
  refine h v' w' ?_ (((Below.refl base w0).alloc hbase _).grown hgrow (by simp; omega) (fun k hk => (hown0.lt k hk).1))
  show w'.ownsRow base 56 4 _ (l ++ [u]).length (stepsC (l ++ [u]))
  rw [List.length_append, stepsC_append]
  simpa [stepsC] using hown'
def Res4 (w : World) (g : Nat) (t : TypeId) : Prop := ∃ q0 q1 q2 q3, Blk w g #[q0, q1, q2, q3] t
theorem Res4.below {W w2 : World} {g : Nat} {t : TypeId} (h : Res4 W g t) (hb : Below W.heap.size W w2) : Res4 w2 g t := by
  obtain ⟨q0, q1, q2, q3, h⟩ := h
  exact ⟨q0, q1, q2, q3, h.below hb⟩
theorem Res4.drew {W : World} {g : Nat} {t : TypeId} (h : Res4 W g t) : Res4 W.drew g t := h
def CellIs (w : World) (b o : Nat) (v : Value) : Prop := w.cell? ⟨b, o, none⟩ = some v
theorem CellIs.below {W w2 : World} {b o : Nat} {v : Value} (h : CellIs W b o v) (hb : Below W.heap.size W w2) : CellIs w2 b o v :=
  (hb.cell (p := ⟨b, o, none⟩) (World.block_lt_of_cell? W _ h)).trans h
theorem CellIs.drew {W : World} {b o : Nat} {v : Value} (h : CellIs W b o v) : CellIs W.drew b o v := h
abbrev set4 (W : World) (g : Nat) (a b c d : Value) : World := ((((W.setCell ⟨g, 0, none⟩ a).setCell ⟨g, 1, none⟩ b).setCell ⟨g, 2, none⟩ c).setCell ⟨g, 3, none⟩ d)
theorem Blk.set4 {W : World} {g g' : Nat} {vs : Array Value} {t : TypeId} (h : Blk W g' vs t) (hne : g' ≠ g) (a b c d : Value) : Blk (set4 W g a b c d) g' vs t :=
  (((h.other hne).other hne).other hne).other hne
theorem Res4.set4 {W : World} {g : Nat} {t : TypeId} (h : Res4 W g t) (a b c d : Value) : Res4 (set4 W g a b c d) g t := by
  obtain ⟨q0, q1, q2, q3, h⟩ := h
  exact ⟨_, _, _, _, (((h.set _).set _).set _).set _⟩
theorem CellIs.set4 {W : World} {g b' o : Nat} {v : Value} (h : CellIs W b' o v) (hne : b' ≠ g) (a b c d : Value) : CellIs (set4 W g a b c d) b' o v := by
  unfold CellIs at *
  rw [World.cell?_setCell_far _ _ _ _ (by simpa using fun e => hne e.symm), World.cell?_setCell_far _ _ _ _ (by simpa using fun e => hne e.symm), World.cell?_setCell_far _ _ _ _ (by simpa using fun e => hne e.symm), World.cell?_setCell_far _ _ _ _ (by simpa using fun e => hne e.symm)]
  exact h
def Pays (fn B : Nat) (xs : List Int) (w : World) : Prop :=
  (∀ (args : Array Value) (w' : World), (callFunc fn args).run Try.prog w' = .ok (.enter fn args) w') ∧
  ∀ w' : World, Below w.heap.size w w' → ∀ i : Nat, i < xs.length → Calls Try.prog fn #[.int .i64 i, .pointer (some ⟨B, 0, none⟩)] w' fun e w'' => e = .returned (.int .i64 (xs.getD i 0)) ∧ Below w'.heap.size w' w''
theorem Pays.below {fn B : Nat} {xs : List Int} {w w1 : World} (h : Pays fn B xs w) (hb : Below w.heap.size w w1) : Pays fn B xs w1 :=
  ⟨h.1, fun w' hw => h.2 w' (chain hb hw)⟩
theorem Pays.drew {fn B : Nat} {xs : List Int} {w : World} (h : Pays fn B xs w) : Pays fn B xs w.drew := h.below (Below.refl _ _).drew
theorem Blk.tri {w : World} {g : Nat} {v0 v1 v2 : Value} {t : TypeId} (h : Blk w g #[v0, v1, v2] t) :
    w.cell? ⟨g, 0, none⟩ = some v0 ∧ w.cell? ⟨g, 1, none⟩ = some v1 ∧ w.cell? ⟨g, 2, none⟩ = some v2 ∧ (∀ i, w.frozen? ⟨g, i, none⟩ = false) ∧ g < w.heap.size :=
  ⟨by simpa using h.cell 0, by simpa using h.cell 1, by simpa using h.cell 2, fun i => h.free i, h.lt⟩
abbrev fv (fn B : Nat) : Value := .func (.func fn) #[] #[.pointer (some ⟨B, 0, none⟩)]
set_option maxHeartbeats 1000000 in
theorem own_pays (B : Nat) (a1 a2 : Option Addr) (n1 c1 n2 c2 : Nat) (xs : List Int) (w : World) (hB : Blk w B #[.slice a1 n1 c1, .slice a2 n2 c2] 32) (hn : xs.length = n1) (hr : IRow w a1 xs) :
    Pays 67 B xs w := by
  refine ⟨enters_of (fn := Try.f67) (by kernel_rfl) (by kernel_rfl) rfl, fun w' hw i hi => ?_⟩
  obtain ⟨b, o, rfl, hc⟩ := hr.below hw i hi
  obtain ⟨x0, x1, xf, xl⟩ := (hB.below hw).two
  obtain ⟨v, hv⟩ : ∃ v, xs.getD i 0 = v := ⟨_, rfl⟩
  rw [hv] at hc ⊢
  have hi2 : i < n1 := by omega
  clear hv hB hr
  go_enter Try.func67, Try.ntmps67
  go_wp2
  go_ret
  exact ⟨rfl, Below.refl _ _⟩
set_option maxHeartbeats 1000000 in
theorem other_pays (B : Nat) (a1 a2 : Option Addr) (n1 c1 n2 c2 : Nat) (xs : List Int) (w : World) (hB : Blk w B #[.slice a1 n1 c1, .slice a2 n2 c2] 32) (hn : xs.length = n2) (hr : IRow w a2 xs) :
    Pays 68 B xs w := by
  refine ⟨enters_of (fn := Try.f68) (by kernel_rfl) (by kernel_rfl) rfl, fun w' hw i hi => ?_⟩
  obtain ⟨b, o, rfl, hc⟩ := hr.below hw i hi
  obtain ⟨x0, x1, xf, xl⟩ := (hB.below hw).two
  obtain ⟨v, hv⟩ : ∃ v, xs.getD i 0 = v := ⟨_, rfl⟩
  rw [hv] at hc ⊢
  have hi2 : i < n2 := by omega
  clear hv hB hr
  go_enter Try.func68, Try.ntmps68
  go_wp2
  go_ret
  exact ⟨rfl, Below.refl _ _⟩
abbrev tv (p : Int) (f1 f2 B : Nat) : Value := .agg #[.int .i64 p, fv f1 B, fv f2 B]
set_option maxHeartbeats 1000000 in
theorem countsOf_any (p c h s : Int) (a1 a2 : Option Addr) (n1 c1 n2 c2 : Nat) (xs ys : List Int) (w : World) (h1 : xs.length = n1) (h2 : ys.length = n2) (r1 : IRow w a1 xs) (r2 : IRow w a2 ys) :
    Calls Try.prog 47 #[.agg #[.int .i64 p, .int .i64 c, .int .i64 h, .int .i64 s], .agg #[.slice a1 n1 c1, .slice a2 n2 c2]] w fun e w' => ∃ B, e = .returned (tv p 67 68 B) ∧ Pays 67 B xs w' ∧ Pays 68 B ys w' ∧ Below w.heap.size w w' := by
  go_enter Try.func47, Try.ntmps47
  go_wp2
  have hb : Below w.heap.size w (((w.alloc (.cells #[.int .i64 p, .int .i64 c, .int .i64 h, .int .i64 s] 35)).alloc (.cells #[.slice a1 n1 c1, .slice a2 n2 c2] 32)).alloc (.cells #[.int .i64 p, fv 67 (w.heap.size + 1), fv 68 (w.heap.size + 1)] 86)) :=
    (((Below.refl _ _).alloc (Nat.le_refl _) _).alloc (by simp) _).alloc (by simp <;> omega) _
  have B1 : Blk ((w.alloc (.cells #[.int .i64 p, .int .i64 c, .int .i64 h, .int .i64 s] 35)).alloc (.cells #[.slice a1 n1 c1, .slice a2 n2 c2] 32)) (w.heap.size + 1) #[.slice a1 n1 c1, .slice a2 n2 c2] 32 := by
    have := Blk.new (w.alloc (.cells #[.int .i64 p, .int .i64 c, .int .i64 h, .int .i64 s] 35)) #[.slice a1 n1 c1, .slice a2 n2 c2] 32
    simpa using this
  have B2 := B1.alloc (.cells #[.int .i64 p, fv 67 (w.heap.size + 1), fv 68 (w.heap.size + 1)] 86)
  refine bodyPost_ret (v := tv p 67 68 (w.heap.size + 1)) (by simp [results, Try.results47, go_sem]) rfl ⟨w.heap.size + 1, rfl, own_pays _ _ _ _ _ _ _ _ _ B2 h1 (r1.below hb), other_pays _ _ _ _ _ _ _ _ _ B2 h2 (r2.below hb), hb⟩
set_option maxHeartbeats 2000000 in
theorem checkers_any (p : Int) (f1 f2 B0 fn B : Nat) (xs : List Int) (w : World) (p0 : 0 ≤ p) (p1 : p ≤ 24) (hn : (xs.length : Int) = p + 1) (hx : ∀ x ∈ xs, 0 ≤ x ∧ x ≤ 1000) (hp : Pays fn B xs w) :
    Calls Try.prog 60 #[tv p f1 f2 B0, fv fn B] w fun e w' => e = .returned (.int .i64 xs.sum) ∧ Below w.heap.size w w' := by
  go_enter Try.func60, Try.ntmps60
  have hb : Below w.heap.size w (w.alloc (.cells #[.int .i64 p, fv f1 B0, fv f2 B0] 86)) := (Below.refl _ _).alloc (Nat.le_refl _) _
  have hp0 := hp.below hb
  have e199 := hp.1
  go_wp2
  generalize (w.alloc (.cells #[.int .i64 p, fv f1 B0, fv f2 B0] 86)) = v0 at *
  go_loopg [5, 10] xs.length (fun m q i wr => ∃ k : Nat, k ≤ xs.length ∧ m = xs.length - k ∧ i = .int .i64 k ∧ q = .int .i64 (xs.take k).sum ∧ Pays fn B xs wr ∧ Below w.heap.size w wr)
  case atStart => exact ⟨0, by omega, by omega, rfl, rfl, hp0, hb⟩
  case round =>
    obtain ⟨k, hk, hm, rfl, rfl, hpw, hbel⟩ := hrel
    by_cases hlt : k < xs.length
    · have hlt' : (k : Int) < p + 1 := by omega
      have hb := sum_bound (c := 1000) (xs.take k) (fun x h => hx x (List.mem_of_mem_take h))
      have hl : (xs.take k).length ≤ 1000 := by simp; omega
      have hb0 : 0 ≤ (xs.take k).sum := hb.1
      have hb1 : (xs.take k).sum ≤ 1000000 := by have := hb.2; omega
      have hg := hx _ (getD_mem hlt)
      have hpk := hpw.2 wr (Below.refl _ _) k hlt
      obtain ⟨v, hv⟩ : ∃ v, xs.getD k 0 = v := ⟨_, rfl⟩
      have hst := sum_take xs k hlt
      rw [hv] at hpk hg hst
      have g0 : 0 ≤ v := hg.1
      have g1 : v ≤ 1000 := hg.2
      have HS := Lib.hid hst
      have HP := Lib.hid hpk
      clear hst hv hb hl hg hpk
      go_wp2_with (go_at_fn fn; refine HP.out.mono ?_; rintro e w5 ⟨rfl, hb5⟩)
      go_roundg (xs.length - (k + 1))
      case measure => omega
      case rel => exact ⟨k + 1, by omega, rfl, by go_num, by rw [HS.out], hpw.below hb5, chain hbel hb5⟩
    · obtain rfl : k = xs.length := by omega
      have hlt' : ¬ ((xs.length : Nat) : Int) < p + 1 := by omega
      go_wp2
      go_ret
      exact ⟨by simp, hbel⟩
theorem lastL_pos {xs : List Int} {k : Nat} (h : 0 < xs.getD k 0) : lastL xs (k + 1) = (k : Int) := by rw [lastL, if_pos h]
theorem lastL_not {xs : List Int} {k : Nat} (h : xs.getD k 0 = 0) : lastL xs (k + 1) = lastL xs k := by rw [lastL, if_neg (by omega)]
set_option maxHeartbeats 2000000 in
theorem farthest_any (p : Int) (f1 f2 B0 fn B : Nat) (xs : List Int) (w : World) (p0 : 0 ≤ p) (p1 : p ≤ 24) (hn : (xs.length : Int) = p + 1) (hx : ∀ x ∈ xs, 0 ≤ x ∧ x ≤ 1000) (hp : Pays fn B xs w) :
    Calls Try.prog 80 #[tv p f1 f2 B0, fv fn B] w fun e w' => e = .returned (.int .i64 (lastL xs xs.length)) ∧ Below w.heap.size w w' := by
  obtain ⟨L, hL⟩ : ∃ L, lastL xs xs.length = L := ⟨_, rfl⟩
  rw [hL]
  have HL0 := Lib.hid hL
  clear hL
  go_enter Try.func80, Try.ntmps80
  have hb : Below w.heap.size w (w.alloc (.cells #[.int .i64 p, fv f1 B0, fv f2 B0] 86)) := (Below.refl _ _).alloc (Nat.le_refl _) _
  have hp0 := hp.below hb
  have e199 := hp.1
  have hlen : 1 ≤ xs.length := by omega
  go_wp2
  generalize (w.alloc (.cells #[.int .i64 p, fv f1 B0, fv f2 B0] 86)) = v0 at *
  go_loopg [5] xs.length (fun m q wr => ∃ k : Nat, k ≤ xs.length ∧ m = k ∧ q = .int .i64 ((k : Int) - 1) ∧ lastL xs k = L ∧ Pays fn B xs wr ∧ Below w.heap.size w wr)
  case atStart => exact ⟨xs.length, by omega, rfl, by congr 1; omega, HL0.out, hp0, hb⟩
  case round =>
    obtain ⟨k, hk, hm, rfl, hl, hpw, hbel⟩ := hrel
    cases k with
    | zero =>
      have : L = -1 := by rw [← hl]; rfl
      subst this
      go_wp2
      go_ret
      exact ⟨rfl, hbel⟩
    | succ k =>
      have hlt : k < xs.length := by omega
      have hg := hx _ (getD_mem hlt)
      have hpk := hpw.2 wr (Below.refl _ _) k hlt
      obtain ⟨v, hv⟩ : ∃ v, xs.getD k 0 = v := ⟨_, rfl⟩
      rw [hv] at hpk hg
      have g0 : 0 ≤ v := hg.1
      have g1 : v ≤ 1000 := hg.2
      have HP := Lib.hid hpk
      have HV := Lib.hid hv
      have HL := Lib.hid hl
      have e1 : (((k + 1 : Nat) : Int) - 1) = (k : Int) := by omega
      rw [e1]
      clear hv hg hpk hl e1
      by_cases hz : v = 0
      · subst hz
        go_wp2_with (go_at_fn fn; refine HP.out.mono ?_; rintro e w5 ⟨rfl, hb5⟩)
        go_roundg k
        case measure => omega
        case rel => exact ⟨k, by omega, rfl, by go_num, by rw [← HL.out, lastL_not HV.out], hpw.below hb5, chain hbel hb5⟩
      · have : L = k := by rw [← HL.out]; exact lastL_pos (by rw [HV.out]; omega)
        subst this
        go_wp2_with (go_at_fn fn; refine HP.out.mono ?_; rintro e w5 ⟨rfl, hb5⟩)
        go_ret
        exact ⟨rfl, chain hbel hb5⟩
set_option maxHeartbeats 1000000 in
theorem facing_any (P k : Nat) (f1 f2 B : Nat) (ys : List Int) (w : World) (p1 : P ≤ 24) (hk : k < P) (n2 : ys.length = P + 1) (q2 : Pays f2 B ys w) :
    Calls Try.prog 75 #[tv (P : Int) f1 f2 B, .int .i64 k] w fun e w' => e = .returned (.int .i64 (ys.getD (P - 1 - k) 0)) ∧ Below w.heap.size w w' := by
  go_enter Try.func75, Try.ntmps75
  have hb : Below w.heap.size w (w.alloc (.cells #[.int .i64 (P : Int), fv f1 B, fv f2 B] 86)) := (Below.refl _ _).alloc (Nat.le_refl _) _
  have B0 := Blk.new w #[.int .i64 (P : Int), fv f1 B, fv f2 B] 86
  have q20 := q2.below hb
  obtain ⟨z0, z1, z2, zf, zl⟩ := B0.tri
  have e199 := q2.1
  have hpk := q20.2 _ (Below.refl _ _) (P - 1 - k) (by omega)
  have e1 : ((P : Int) - 1 - (k : Int)) = ((P - 1 - k : Nat) : Int) := by omega
  obtain ⟨v, hv⟩ : ∃ v, ys.getD (P - 1 - k) 0 = v := ⟨_, rfl⟩
  rw [hv] at hpk ⊢
  rw [← e1] at hpk
  have HP := Lib.hid hpk
  clear hpk hv e1
  go_wp2_with (go_at_fn f2; refine HP.out.mono ?_; rintro e w5 ⟨rfl, hb5⟩)
  go_ret
  exact ⟨rfl, from_alloc hb5⟩
set_option maxHeartbeats 2000000 in
theorem sharesPoint_any (P : Nat) (f1 f2 B : Nat) (xs ys : List Int) (w : World) (p1 : P ≤ 24) (n1 : xs.length = P + 1) (n2 : ys.length = P + 1) (q1 : Pays f1 B xs w) (q2 : Pays f2 B ys w) :
    Calls Try.prog 61 #[tv (P : Int) f1 f2 B] w fun e w' => e = .returned (.bool (!apartB P xs ys)) ∧ Below w.heap.size w w' := by
  obtain ⟨R, hR⟩ : ∃ R, (!apartB P xs ys) = R := ⟨_, rfl⟩
  rw [hR]
  have HR := Lib.hid hR
  clear hR
  go_enter Try.func61, Try.ntmps61
  have hb : Below w.heap.size w (w.alloc (.cells #[.int .i64 (P : Int), fv f1 B, fv f2 B] 86)) := (Below.refl _ _).alloc (Nat.le_refl _) _
  have B0 := Blk.new w #[.int .i64 (P : Int), fv f1 B, fv f2 B] 86
  have q10 := q1.below hb
  have q20 := q2.below hb
  obtain ⟨z0, z1, z2, zf, zl⟩ := B0.tri
  have e199 := q1.1
  go_wp2
  generalize (w.alloc (.cells #[.int .i64 (P : Int), fv f1 B, fv f2 B] 86)) = v0 at *
  go_loopg [6] P (fun m i wr => ∃ k : Nat, k ≤ P ∧ m = P - k ∧ i = .int .i64 k ∧ (∀ j, j < k → (!(decide (0 < xs.getD j 0) && decide (0 < ys.getD (P - 1 - j) 0))) = true) ∧ Blk wr w.heap.size #[.int .i64 (P : Int), fv f1 B, fv f2 B] 86 ∧ Pays f1 B xs wr ∧ Pays f2 B ys wr ∧ Below w.heap.size w wr)
  case atStart => exact ⟨0, by omega, by omega, rfl, fun j hj => by omega, B0, q10, q20, hb⟩
  case round =>
    obtain ⟨k, hk, hm, rfl, hall, BV, q1w, q2w, hbel⟩ := hrel
    have HA := Lib.hid hall
    clear hall z0 z1 z2 zf zl
    obtain ⟨z0, z1, z2, zf, zl⟩ := BV.tri
    by_cases hlt : k < P
    · have hlt' : (k : Int) < (P : Int) := by omega
      have hpk := q1w.2 wr (Below.refl _ _) k (by omega)
      have hfk := fun W (hW : Below wr.heap.size wr W) => facing_any P k f1 f2 B ys W p1 hlt n2 (q2w.below hW)
      obtain ⟨u1, hu1⟩ : ∃ u, xs.getD k 0 = u := ⟨_, rfl⟩
      obtain ⟨u2, hu2⟩ : ∃ u, ys.getD (P - 1 - k) 0 = u := ⟨_, rfl⟩
      rw [hu1] at hpk
      rw [hu2] at hfk
      have U1 := Lib.hid hu1
      have U2 := Lib.hid hu2
      have HP := Lib.hid hpk
      have HF := Lib.hid hfk
      clear hu1 hu2 hpk hfk
      by_cases d1 : 0 < u1
      · have g1 : decide (0 < u1) = true := by simpa using d1
        by_cases d2 : 0 < u2
        · have g2 : decide (0 < u2) = true := by simpa using d2
          have hno : R = true := by
            rw [← HR.out]
            have : apartB P xs ys = false := by
              rw [apartB, List.all_eq_false]
              exact ⟨k, by simpa using hlt, by rw [U1.out, U2.out, g1, g2]; simp⟩
            rw [this]; rfl
          subst hno
          go_wp2_with (first | (go_at_fn f1; refine HP.out.mono ?_; rintro e w5 ⟨rfl, hb5⟩; obtain ⟨y0, y1, y2, yf, yl⟩ := (BV.below hb5).tri) | (go_at_call 75; refine (HF.out _ hb5).mono ?_; rintro e w6 ⟨rfl, hb6⟩))
          go_ret
          exact ⟨rfl, chain (chain hbel hb5) hb6⟩
        · have g2 : decide (0 < u2) = false := by simpa using d2
          go_wp2_with (first | (go_at_fn f1; refine HP.out.mono ?_; rintro e w5 ⟨rfl, hb5⟩; obtain ⟨y0, y1, y2, yf, yl⟩ := (BV.below hb5).tri) | (go_at_call 75; refine (HF.out _ hb5).mono ?_; rintro e w6 ⟨rfl, hb6⟩))
          go_roundg (P - (k + 1))
          case measure => omega
          case rel =>
            have hb56 := chain hb5 hb6
            refine ⟨k + 1, by omega, rfl, by go_num, fun j hj => ?_, BV.below hb56, q1w.below hb56, q2w.below hb56, chain hbel hb56⟩
            by_cases hjk : j = k
            · subst hjk
              rw [U1.out, U2.out, g1, g2]
              rfl
            · exact HA.out j (by omega)
      · have g1 : decide (0 < u1) = false := by simpa using d1
        go_wp2_with (go_at_fn f1; refine HP.out.mono ?_; rintro e w5 ⟨rfl, hb5⟩)
        go_roundg (P - (k + 1))
        case measure => omega
        case rel =>
          refine ⟨k + 1, by omega, rfl, by go_num, fun j hj => ?_, BV.below hb5, q1w.below hb5, q2w.below hb5, chain hbel hb5⟩
          by_cases hjk : j = k
          · subst hjk
            rw [U1.out, g1]
            rfl
          · exact HA.out j (by omega)
    · obtain rfl : k = P := by omega
      have hyes : R = false := by
        rw [← HR.out]
        have : apartB k xs ys = true := by
          rw [apartB, List.all_eq_true]
          intro j hj
          exact HA.out j (by simpa using hj)
        rw [this]; rfl
      subst hyes
      go_wp2
      go_ret
      exact ⟨rfl, hbel⟩
def overB (xs ys : List Int) : Bool := decide (lastL xs xs.length < 0) || decide (lastL ys ys.length < 0)
set_option maxHeartbeats 1000000 in
theorem over_any (p : Int) (f1 f2 B : Nat) (xs ys : List Int) (w : World) (p0 : 2 ≤ p) (p1 : p ≤ 24) (n1 : (xs.length : Int) = p + 1) (n2 : (ys.length : Int) = p + 1) (hx : ∀ x ∈ xs, 0 ≤ x ∧ x ≤ 1000) (hy : ∀ y ∈ ys, 0 ≤ y ∧ y ≤ 1000) (q1 : Pays f1 B xs w) (q2 : Pays f2 B ys w) :
    Calls Try.prog 70 #[tv p f1 f2 B] w fun e w' => e = .returned (.bool (overB xs ys)) ∧ Below w.heap.size w w' := by
  have hf1 := fun W (hW : Below w.heap.size w W) => farthest_any p f1 f2 B f1 B xs W (by omega) p1 n1 hx (q1.below hW)
  have hf2 := fun W (hW : Below w.heap.size w W) => farthest_any p f1 f2 B f2 B ys W (by omega) p1 n2 hy (q2.below hW)
  rw [overB]
  have lb1 := (lastL_bound xs xs.length).1
  have lb2 := (lastL_bound ys ys.length).1
  have hlen1 : xs.length ≤ 25 := by omega
  have hlen2 : ys.length ≤ 25 := by omega
  have lc1 := (lastL_bound xs xs.length).2
  have lc2 := (lastL_bound ys ys.length).2
  obtain ⟨u1, hu1⟩ : ∃ u, lastL xs xs.length = u := ⟨_, rfl⟩
  obtain ⟨u2, hu2⟩ : ∃ u, lastL ys ys.length = u := ⟨_, rfl⟩
  rw [hu1] at hf1 lb1 lc1
  rw [hu2] at hf2 lb2 lc2
  rw [hu1, hu2]
  have HF1 := Lib.hid hf1
  have HF2 := Lib.hid hf2
  clear hu1 hu2 hf1 hf2
  by_cases d1 : u1 < 0
  · have g1 : decide (u1 < 0) = true := by simpa using d1
    rw [g1, Bool.true_or]
    go_enter Try.func70, Try.ntmps70
    have hb : Below w.heap.size w (w.alloc (.cells #[.int .i64 p, fv f1 B, fv f2 B] 86)) := (Below.refl _ _).alloc (Nat.le_refl _) _
    have B0 := Blk.new w #[.int .i64 p, fv f1 B, fv f2 B] 86
    have q10 := q1.below hb
    have q20 := q2.below hb
    obtain ⟨z0, z1, z2, zf, zl⟩ := B0.tri
    go_wp2_with (go_at_call 80; refine (HF1.out _ hb).mono ?_; rintro e w5 ⟨rfl, hb5⟩)
    go_ret
    exact ⟨rfl, from_alloc hb5⟩
  · have g1 : decide (u1 < 0) = false := by simpa using d1
    rw [g1, Bool.false_or]
    go_enter Try.func70, Try.ntmps70
    have hb : Below w.heap.size w (w.alloc (.cells #[.int .i64 p, fv f1 B, fv f2 B] 86)) := (Below.refl _ _).alloc (Nat.le_refl _) _
    have B0 := Blk.new w #[.int .i64 p, fv f1 B, fv f2 B] 86
    have q10 := q1.below hb
    have q20 := q2.below hb
    obtain ⟨z0, z1, z2, zf, zl⟩ := B0.tri
    have B5 := fun W (hW : Below (w.alloc (.cells #[.int .i64 p, fv f1 B, fv f2 B] 86)).heap.size (w.alloc (.cells #[.int .i64 p, fv f1 B, fv f2 B] 86)) W) => (B0.below hW).tri
    go_wp2_with (go_at_call 80; first | (refine (HF2.out _ (from_alloc hb5)).mono ?_; rintro e w6 ⟨rfl, hb6⟩) | (refine (HF1.out _ hb).mono ?_; rintro e w5 ⟨rfl, hb5⟩; obtain ⟨y0, y1, y2, yf, yl⟩ := B5 _ hb5))
    go_ret
    exact ⟨rfl, from_alloc (chain hb5 hb6)⟩
theorem held3t {w W w2 : World} {g : Nat} {v0 v1 v2 : Value} (hS : W.cell? ⟨g, 0, none⟩ = some v0 ∧ W.cell? ⟨g, 1, none⟩ = some v1 ∧ W.cell? ⟨g, 2, none⟩ = some v2 ∧ Below w.heap.size w W ∧ g < W.heap.size) (hb : Below W.heap.size W w2) :
    w2.cell? ⟨g, 0, none⟩ = some v0 ∧ w2.cell? ⟨g, 1, none⟩ = some v1 ∧ w2.cell? ⟨g, 2, none⟩ = some v2 ∧ Below w.heap.size w w2 ∧ g < w2.heap.size := by
  obtain ⟨h0, h1, h2, h3, h4⟩ := hS
  obtain ⟨hc, _⟩ := bcell hb
  exact ⟨by rw [hc _ _ h4]; exact h0, by rw [hc _ _ h4]; exact h1, by rw [hc _ _ h4]; exact h2, chain h3 hb, Nat.lt_of_lt_of_le h4 hb.size⟩
end Go.Proofs.Ytodlofabffenoaa
