/- Steps as values, and slices of steps in memory: how they lie, how they grow. -/
import Derived.Test.YtokjkcnjmfbfiaaOwnS
import Derived.Laws.StructEq
import Derived.Deep.RegionHeld3
import Derived.Test.YtokjkcnjmfbfiaaVarB
namespace Go.Proofs.Ytokjkcnjmfbfiaa
open Go.ChangeShapes Go.WideShapes Go.ChangeAt Go.RowKit
set_option linter.unusedVariables false
set_option linter.unusedSimpArgs false

/-- A step: from, to, die, hit. -/
abbrev Stp := Int × Int × Int × Bool
def stC (s : Stp) : List Value := [.int .i64 s.1, .int .i64 s.2.1, .int .i64 s.2.2.1, .bool s.2.2.2]
abbrev stV (s : Stp) : Value := .agg #[.int .i64 s.1, .int .i64 s.2.1, .int .i64 s.2.2.1, .bool s.2.2.2]
def stepsC : List Stp → List Value
  | [] => []
  | s :: l => stC s ++ stepsC l
theorem stepsC_length : ∀ l : List Stp, (stepsC l).length = l.length * 4
  | [] => rfl
  | s :: l => by simp [stepsC, stC, stepsC_length l]; omega
theorem stepsC_append : ∀ l m : List Stp, stepsC (l ++ m) = stepsC l ++ stepsC m
  | [], m => rfl
  | s :: l, m => by simp [stepsC, stepsC_append l m]
/-- The cells of the step at a place. -/
theorem stepsC_at : ∀ (l : List Stp) (k : Nat) (s : Stp), l[k]? = some s → ∀ j, j < 4 → (stepsC l)[k * 4 + j]? = (stC s)[j]?
  | [], k, s, h, j, hj => by simp at h
  | x :: l, 0, s, h, j, hj => by
    simp at h
    subst h
    rw [stepsC, List.getElem?_append_left (by simp [stC]; omega), Nat.zero_mul, Nat.zero_add]
  | x :: l, k + 1, s, h, j, hj => by
    rw [stepsC, List.getElem?_append_right (by simp [stC]; omega)]
    have := stepsC_at l k s (by simpa using h) j hj
    rw [← this]
    congr 1
    simp [stC]
    omega
/-- A row of values of the call's own in block g, which begins with vs. -/
def VRow (w : World) (g : Nat) (vs : List Value) (t : TypeId) : Prop := ∃ cur : Array Value, Blk w g cur t ∧ vs.length ≤ cur.size ∧ cur.toList.take vs.length = vs
theorem VRow.lt {w : World} {g : Nat} {vs : List Value} {t : TypeId} (h : VRow w g vs t) : g < w.heap.size := by obtain ⟨c, hB, _⟩ := h; exact hB.lt
theorem VRow.below {w w' : World} {g : Nat} {vs : List Value} {t : TypeId} (h : VRow w g vs t) (hb : Below w.heap.size w w') : VRow w' g vs t := by
  obtain ⟨c, hB, h1, h2⟩ := h; exact ⟨c, hB.below hb, h1, h2⟩
theorem VRow.drew {w : World} {g : Nat} {vs : List Value} {t : TypeId} (h : VRow w g vs t) : VRow w.drew g vs t := h
theorem VRow.grown {w w' : World} {g g' : Nat} {vs : List Value} {t : TypeId} (h : VRow w g' vs t) (hg : w.grownBy w' (some g)) (hne : g' ≠ g) : VRow w' g' vs t := by
  obtain ⟨c, hB, h1, h2⟩ := h
  exact ⟨c, hB.grown hg hne, h1, h2⟩
theorem VRow.other {w : World} {g g' o : Nat} {vs : List Value} {t : TypeId} {v : Value} (h : VRow w g' vs t) (hne : g' ≠ g) : VRow (w.setCell ⟨g, o, none⟩ v) g' vs t := by
  obtain ⟨c, hB, h1, h2⟩ := h
  exact ⟨c, (Below.heap_setCell w ⟨g, o, none⟩ v g' hne).trans hB, h1, h2⟩
theorem VRow.same {lo hi g : Nat} {w w' : World} {vs : List Value} {t : TypeId} (h : VRow w g vs t) (hs : Same lo hi w w') (hg : g < lo ∨ hi ≤ g) : VRow w' g vs t := by
  obtain ⟨cur, hB, h1, h2⟩ := h
  exact ⟨cur, hB.same hs hg, h1, h2⟩
theorem VRow.cell {w : World} {g : Nat} {vs : List Value} {t : TypeId} (h : VRow w g vs t) (i : Nat) (v : Value) (hi : vs[i]? = some v) : w.cell? ⟨g, i, none⟩ = some v := by
  obtain ⟨c, hB, h1, h2⟩ := h
  rw [hB.cell i, ← hi]
  have hlt := (List.getElem?_eq_some_iff.1 hi).1
  have h3 : (c.toList.take vs.length)[i]? = c[i]? := by rw [List.getElem?_take_of_lt hlt]; simp
  rw [← h3, h2]
theorem VRow.free {w : World} {g : Nat} {vs : List Value} {t : TypeId} (h : VRow w g vs t) (i : Nat) : w.frozen? ⟨g, i, none⟩ = false := by
  obtain ⟨c, hB, _, _⟩ := h; exact hB.free i
theorem VRow.set {w : World} {g : Nat} {vs : List Value} {t : TypeId} (h : VRow w g vs t) (i : Nat) (v : Value) : VRow (w.setCell ⟨g, i, none⟩ v) g (vs.set i v) t := by
  obtain ⟨c, hB, h1, h2⟩ := h
  refine ⟨_, hB.set (i := i) v, by simpa using h1, ?_⟩
  rw [List.length_set, Array.toList_setIfInBounds, List.take_set, h2]
theorem VRow.wf {w : World} {g : Nat} {vs us : List Value} {t : TypeId} (h : VRow w g vs t) (e : vs = us) : VRow w g us t := e ▸ h
theorem VRow.take {w : World} {g : Nat} {vs : List Value} {t : TypeId} (h : VRow w g vs t) (n : Nat) : VRow w g (vs.take n) t := by
  obtain ⟨c, hB, h1, h2⟩ := h
  refine ⟨c, hB, by rw [List.length_take]; omega, ?_⟩
  rw [List.length_take]
  have : c.toList.take (min n vs.length) = (c.toList.take vs.length).take n := by rw [List.take_take]
  rw [this, h2]
/-- A row of steps. -/
abbrev SRow (w : World) (g : Nat) (l : List Stp) : Prop := VRow w g (stepsC l) 112
/-- The four cells of one step of a row. -/
theorem SRow.four {w : World} {g : Nat} {l : List Stp} (h : SRow w g l) (k : Nat) (s : Stp) (hk : l[k]? = some s) :
    w.cell? ⟨g, k * 4, none⟩ = some (.int .i64 s.1) ∧ w.cell? ⟨g, k * 4 + 1, none⟩ = some (.int .i64 s.2.1) ∧ w.cell? ⟨g, k * 4 + 2, none⟩ = some (.int .i64 s.2.2.1) ∧ w.cell? ⟨g, k * 4 + 3, none⟩ = some (.bool s.2.2.2) :=
  ⟨h.cell _ _ (by have := stepsC_at l k s hk 0 (by omega); simpa [stC] using this), h.cell _ _ (by have := stepsC_at l k s hk 1 (by omega); simpa [stC] using this),
   h.cell _ _ (by have := stepsC_at l k s hk 2 (by omega); simpa [stC] using this), h.cell _ _ (by have := stepsC_at l k s hk 3 (by omega); simpa [stC] using this)⟩
/-- A slice of steps made between two marks of the heap's size: a row of its own, or nil. -/
def OSt (lo hi : Nat) (w : World) (a : Option Addr) (l : List Stp) : Prop :=
  (a = none ∧ l = []) ∨ ∃ g, a = some ⟨g, 0, none⟩ ∧ lo ≤ g ∧ g < hi ∧ SRow w g l
theorem OSt.below {lo hi : Nat} {w w' : World} {a : Option Addr} {l : List Stp} (h : OSt lo hi w a l) (hb : Below w.heap.size w w') : OSt lo hi w' a l := by
  rcases h with h | ⟨g, e, h1, h2, r⟩
  · exact .inl h
  · exact .inr ⟨g, e, h1, h2, r.below hb⟩
theorem OSt.drew {lo hi : Nat} {w : World} {a : Option Addr} {l : List Stp} (h : OSt lo hi w a l) : OSt lo hi w.drew a l := h
theorem OSt.alloc {lo hi : Nat} {w : World} {a : Option Addr} {l : List Stp} (h : OSt lo hi w a l) (o : Obj) : OSt lo hi (w.alloc o) a l := h.below ((Below.refl _ _).alloc (Nat.le_refl _) o)
theorem OSt.mono {lo hi lo' hi' : Nat} {w : World} {a : Option Addr} {l : List Stp} (h : OSt lo hi w a l) (h1 : lo' ≤ lo) (h2 : hi ≤ hi') : OSt lo' hi' w a l := by
  rcases h with h | ⟨g, e, q1, q2, r⟩
  · exact .inl h
  · exact .inr ⟨g, e, by omega, by omega, r⟩
theorem OSt.same {lo hi lo2 hi2 : Nat} {w w' : World} {a : Option Addr} {l : List Stp} (h : OSt lo2 hi2 w a l) (hs : Same lo hi w w') (hd : hi2 ≤ lo ∨ hi ≤ lo2) : OSt lo2 hi2 w' a l := by
  rcases h with h | ⟨g, e, q1, q2, r⟩
  · exact .inl h
  · exact .inr ⟨g, e, q1, q2, r.same hs (by omega)⟩
theorem OSt.row {lo hi : Nat} {w : World} {a : Option Addr} {l : List Stp} (h : OSt lo hi w a l) {k : Nat} (hk : k < l.length) : ∃ g, a = some ⟨g, 0, none⟩ ∧ SRow w g l := by
  rcases h with ⟨_, rfl⟩ | ⟨g, e, q1, q2, r⟩
  · simp at hk
  · exact ⟨g, e, r⟩
/-- Steps have been made and are handed back; beside a number. -/
def StepsGot (l : List Stp) (w : World) (e : Ending) (w' : World) : Prop :=
  ∃ a k, e = .returned (.slice a l.length k) ∧ OSt w.heap.size w'.heap.size w' a l ∧ Below w.heap.size w w'
def StepsGot2 (l : List Stp) (r : Int) (w : World) (e : Ending) (w' : World) : Prop :=
  ∃ a k, e = .returned (.tuple #[.slice a l.length k, .int .i64 r]) ∧ OSt w.heap.size w'.heap.size w' a l ∧ Below w.heap.size w w'

/-- A slice of steps of the call's own that grows. -/
def OwnT (w : World) (base : Nat) (v : Value) (l : List Stp) : Prop := w.ownsRow base 112 4 v l.length (stepsC l)
theorem OwnT.form {w : World} {base : Nat} {v : Value} {l : List Stp} (h : OwnT w base v l) : ∃ a k, v = .slice a l.length k := by
  rcases h.2 with ⟨h1, h2⟩ | ⟨g, cap, cur, h1, _⟩
  · exact ⟨none, 0, by rw [h1, h2]⟩
  · exact ⟨some ⟨g, 0, none⟩, cap, h1⟩
theorem OwnT.ost {w : World} {base : Nat} {a : Option Addr} {n k : Nat} {l : List Stp} (h : OwnT w base (.slice a n k) l) : OSt base w.heap.size w a l := by
  obtain ⟨hl, h1 | ⟨g, cap, cur, hv, hb, hh, hc, hm, hs, ht⟩⟩ := h
  · obtain ⟨h1, h2⟩ := h1
    simp at h1
    exact .inl ⟨h1.1, List.eq_nil_of_length_eq_zero h2⟩
  · simp at hv
    obtain ⟨rfl, _, rfl⟩ := hv
    exact .inr ⟨g, rfl, hb, (Array.getElem?_eq_some_iff.1 hh).1, cur, hh, by rw [hl, hs]; exact Nat.mul_le_mul_right _ hc, by rw [hl]; exact ht⟩
theorem OwnT.alloc {w : World} {base : Nat} {v : Value} {l : List Stp} (h : OwnT w base v l) (o : Obj) : OwnT (w.alloc o) base v l := World.ownsRow.alloc h o
theorem OwnT.drew {w : World} {base : Nat} {v : Value} {l : List Stp} (h : OwnT w base v l) : OwnT w.drew base v l := h
theorem OwnT.kept {w w' : World} {base : Nat} {v : Value} {l : List Stp} (h : OwnT w base v l) (hb : Below w.heap.size w w') : OwnT w' base v l :=
  World.ownsRow.kept (row := none) h ⟨hb.os, hb.tape, hb.output, hb.size, fun k hk _ => hb.block k hk⟩ (by
    cases hv : v.ownBlock with
    | none => exact .inl rfl
    | some g => exact .inr (by simp))
theorem OwnT.start (w : World) : OwnT (w.alloc (.cells #[] 112)) w.heap.size (.slice (some ⟨w.heap.size, 0, none⟩) 0 0) [] :=
  ⟨rfl, .inr ⟨w.heap.size, 0, #[], rfl, Nat.le_refl _, Blk.new w #[] _, Nat.le_refl _, by unfold maxLen; omega, rfl, rfl⟩⟩
theorem OwnT.nil (w : World) (base : Nat) : OwnT w base (.slice none 0 0) [] := World.ownsRow_nil w base _ _
theorem OwnT.mono {w : World} {base base' : Nat} {v : Value} {l : List Stp} (h : OwnT w base v l) (hb : base' ≤ base) : OwnT w base' v l := by
  obtain ⟨h1, h2 | ⟨g, cap, cur, q1, q2, q3⟩⟩ := h
  · exact ⟨h1, .inl h2⟩
  · exact ⟨h1, .inr ⟨g, cap, cur, q1, by omega, q3⟩⟩
theorem infoStp : (Try.prog.info? 112).map (fun i => (i.zero, i.size, i.bytes)) = some (some (.agg #[.int .i64 0, .int .i64 0, .int .i64 0, .bool false]), 4, 32) := by kernel_rfl
/-- One step appended: 'out = append(out, s)'. -/
theorem wp_pushT {ops : Array Oper} {rest : List Oper} {o : Oper} {a : Act} {Q : Exit → Act → World → Prop} (hgd : o.guard = none) (s x : Operand)
    (ho : o.op = .call { callee := .builtin .append, args := #[s, x], argTypes := #[60, 60] })
    (base : Nat) (v : Value) (l : List Stp) (hs : a.eval s = v) {w0 : World} (hown : OwnT w0 base v l) (u : Stp)
    {zz : Nat} (hx : a.eval x = .slice (some ⟨zz, 0, none⟩) 1 1) (hzz : w0.heap.size = zz) (hl : l.length ≤ 1048576) (hbase : base ≤ w0.heap.size)
    (h : ∀ v' w', OwnT w' base v' (l ++ [u]) → Below base w0 w' → wpList Try.prog ops Q rest (a.put o.dst v') w') : wpList Try.prog ops Q (o :: rest) a (w0.alloc (.cells #[.int .i64 u.1, .int .i64 u.2.1, .int .i64 u.2.2.1, .bool u.2.2.2] 112)) := by
  subst hzz
  obtain ⟨i0, hi, hz0, hz1, hz2⟩ := info_parts infoStp
  have hown0 : w0.ownsRow base 112 4 v l.length (stepsC l) := hown
  refine wpList_append_own _ hgd s x 60 ho base 112 i0 _ 4 32 Try.underlying60 hi hz0 hz1 hz2 rfl (by decide) v l.length (stepsC l) hs (hown0.alloc _) ⟨w0.heap.size, 0, none⟩ 1 1 (stC u) hx (by simp [stC])
    (World.news_of_block (cs := #[.int .i64 u.1, .int .i64 u.2.1, .int .i64 u.2.2.1, .bool u.2.2.2]) (Blk.new w0 _ 112)) (fun y hy => by simp [stC] at hy; rcases hy with rfl | rfl | rfl | rfl <;> rfl) (by unfold maxLen; omega) (by omega) (by simp; omega) ?_
  intro v' w' hown' hgrow _
  refine h v' w' ?_ (((Below.refl base w0).alloc hbase _).grown hgrow (by simp; omega) (fun k hk => (hown0.lt k hk).1))
  show w'.ownsRow base 112 4 _ (l ++ [u]).length (stepsC (l ++ [u]))
  rw [List.length_append, stepsC_append]
  simpa [stepsC] using hown'
/-- A block of four cells, whatever they hold. -/
def Res4 (w : World) (g : Nat) (t : TypeId) : Prop := ∃ q0 q1 q2 q3, Blk w g #[q0, q1, q2, q3] t
theorem Res4.below {W w2 : World} {g : Nat} {t : TypeId} (h : Res4 W g t) (hb : Below W.heap.size W w2) : Res4 w2 g t := by
  obtain ⟨q0, q1, q2, q3, h⟩ := h
  exact ⟨q0, q1, q2, q3, h.below hb⟩
theorem Res4.drew {W : World} {g : Nat} {t : TypeId} (h : Res4 W g t) : Res4 W.drew g t := h
/-- What a cell holds. -/
def CellIs (w : World) (b o : Nat) (v : Value) : Prop := w.cell? ⟨b, o, none⟩ = some v
theorem CellIs.below {W w2 : World} {b o : Nat} {v : Value} (h : CellIs W b o v) (hb : Below W.heap.size W w2) : CellIs w2 b o v :=
  (hb.cell (p := ⟨b, o, none⟩) (World.block_lt_of_cell? W _ h)).trans h
theorem CellIs.drew {W : World} {b o : Nat} {v : Value} (h : CellIs W b o v) : CellIs W.drew b o v := h
abbrev set4 (W : World) (g : Nat) (a b c d : Value) : World := ((((W.setCell ⟨g, 0, none⟩ a).setCell ⟨g, 1, none⟩ b).setCell ⟨g, 2, none⟩ c).setCell ⟨g, 3, none⟩ d)
theorem Blk.set4 {W : World} {g g' : Nat} {vs : Array Value} {t : TypeId} (h : Blk W g' vs t) (hne : g' ≠ g) (a b c d : Value) : Blk (set4 W g a b c d) g' vs t :=
  (((h.other hne).other hne).other hne).other hne
theorem Res4.set4 {W : World} {g : Nat} {t : TypeId} (h : Res4 W g t) (a b c d : Value) : Res4 (set4 W g a b c d) g t := by
  obtain ⟨q0, q1, q2, q3, h⟩ := h
  exact ⟨_, _, _, _, (((h.set _).set _).set _).set _⟩
theorem CellIs.set4 {W : World} {g b' o : Nat} {v : Value} (h : CellIs W b' o v) (hne : b' ≠ g) (a b c d : Value) : CellIs (set4 W g a b c d) b' o v := by
  unfold CellIs at *
  rw [World.cell?_setCell_far _ _ _ _ (by simpa using fun e => hne e.symm), World.cell?_setCell_far _ _ _ _ (by simpa using fun e => hne e.symm), World.cell?_setCell_far _ _ _ _ (by simpa using fun e => hne e.symm), World.cell?_setCell_far _ _ _ _ (by simpa using fun e => hne e.symm)]
  exact h
end Go.Proofs.Ytokjkcnjmfbfiaa
