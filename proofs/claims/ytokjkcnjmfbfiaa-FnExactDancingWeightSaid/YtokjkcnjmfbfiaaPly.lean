/- Plays as values, and slices of plays in memory: how they lie, how they grow. -/
import Derived.Test.YtokjkcnjmfbfiaaStp
import Derived.Test.Ytokjkcnjmfbfiaa04x
namespace Go.Proofs.Ytokjkcnjmfbfiaa
open Go.ChangeShapes Go.WideShapes Go.ChangeAt Go.RowKit
set_option linter.unusedVariables false
set_option linter.unusedSimpArgs false

/-- A play: its steps, and the board after them. -/
abbrev Ply := List Stp × List Int × List Int
/-- Where a play lies: the addresses and capacities of its three slices. -/
structure PD where
  sa : Option Addr
  sc : Nat
  b1 : Option Addr
  k1 : Nat
  b2 : Option Addr
  k2 : Nat
abbrev PP := PD × Ply
abbrev pl0 (x : PP) : Value := .slice x.1.sa x.2.1.length x.1.sc
abbrev pl1 (x : PP) : Value := .slice x.1.b1 x.2.2.1.length x.1.k1
abbrev pl2 (x : PP) : Value := .slice x.1.b2 x.2.2.2.length x.1.k2
abbrev plV (x : PP) : Value := .agg #[pl0 x, pl1 x, pl2 x]
def plC (x : PP) : List Value := [pl0 x, pl1 x, pl2 x]
def plsC : List PP → List Value
  | [] => []
  | x :: l => plC x ++ plsC l
theorem plsC_length : ∀ l : List PP, (plsC l).length = l.length * 3
  | [] => rfl
  | s :: l => by simp [plsC, plC, plsC_length l]; omega
theorem plsC_append : ∀ l m : List PP, plsC (l ++ m) = plsC l ++ plsC m
  | [], m => rfl
  | s :: l, m => by simp [plsC, plsC_append l m]
theorem plsC_at : ∀ (l : List PP) (k : Nat) (s : PP), l[k]? = some s → ∀ j, j < 3 → (plsC l)[k * 3 + j]? = (plC s)[j]?
  | [], k, s, h, j, hj => by simp at h
  | x :: l, 0, s, h, j, hj => by
    simp at h
    subst h
    rw [plsC, List.getElem?_append_left (by simp [plC]; omega), Nat.zero_mul, Nat.zero_add]
  | x :: l, k + 1, s, h, j, hj => by
    rw [plsC, List.getElem?_append_right (by simp [plC]; omega)]
    have := plsC_at l k s (by simpa using h) j hj
    rw [← this]
    congr 1
    simp [plC]
    omega
/-- A row of plays. -/
abbrev PRow (w : World) (g : Nat) (l : List PP) : Prop := VRow w g (plsC l) 94
theorem PRow.three {w : World} {g : Nat} {l : List PP} (h : PRow w g l) (k : Nat) (s : PP) (hk : l[k]? = some s) :
    w.cell? ⟨g, k * 3, none⟩ = some (pl0 s) ∧ w.cell? ⟨g, k * 3 + 1, none⟩ = some (pl1 s) ∧ w.cell? ⟨g, k * 3 + 2, none⟩ = some (pl2 s) :=
  ⟨h.cell _ _ (by have := plsC_at l k s hk 0 (by omega); simpa [plC] using this), h.cell _ _ (by have := plsC_at l k s hk 1 (by omega); simpa [plC] using this), h.cell _ _ (by have := plsC_at l k s hk 2 (by omega); simpa [plC] using this)⟩
/-- What a play's slices hold. -/
def PAt (lo hi : Nat) (w : World) (x : PP) : Prop := OSt lo hi w x.1.sa x.2.1 ∧ OBd lo hi w x.1.b1 x.1.b2 x.2.2.1 x.2.2.2
def PAll (lo hi : Nat) (w : World) (l : List PP) : Prop := ∀ x ∈ l, PAt lo hi w x
theorem OBd.mono {lo hi lo' hi' : Nat} {w : World} {a1 a2 : Option Addr} {xs ys : List Int} (h : OBd lo hi w a1 a2 xs ys) (h1 : lo' ≤ lo) (h2 : hi ≤ hi') : OBd lo' hi' w a1 a2 xs ys := by
  rcases h with h | ⟨g1, g2, e1, e2, hne, b1, b2, b3, b4, r1, r2⟩
  · exact .inl h
  · exact .inr ⟨g1, g2, e1, e2, hne, by omega, by omega, by omega, by omega, r1, r2⟩
theorem PAt.below {lo hi : Nat} {w w' : World} {x : PP} (h : PAt lo hi w x) (hb : Below w.heap.size w w') : PAt lo hi w' x := ⟨h.1.below hb, h.2.below hb⟩
theorem PAt.mono {lo hi lo' hi' : Nat} {w : World} {x : PP} (h : PAt lo hi w x) (h1 : lo' ≤ lo) (h2 : hi ≤ hi') : PAt lo' hi' w x := ⟨h.1.mono h1 h2, h.2.mono h1 h2⟩
theorem PAll.below {lo hi : Nat} {w w' : World} {l : List PP} (h : PAll lo hi w l) (hb : Below w.heap.size w w') : PAll lo hi w' l := fun x hx => (h x hx).below hb
theorem PAll.drew {lo hi : Nat} {w : World} {l : List PP} (h : PAll lo hi w l) : PAll lo hi w.drew l := h.below (Below.refl _ _).drew
theorem PAll.mono {lo hi lo' hi' : Nat} {w : World} {l : List PP} (h : PAll lo hi w l) (h1 : lo' ≤ lo) (h2 : hi ≤ hi') : PAll lo' hi' w l := fun x hx => (h x hx).mono h1 h2
theorem PAll.nil (lo hi : Nat) (w : World) : PAll lo hi w [] := fun x hx => by simp at hx
theorem PAll.snoc {lo hi : Nat} {w : World} {l : List PP} {x : PP} (h : PAll lo hi w l) (hx : PAt lo hi w x) : PAll lo hi w (l ++ [x]) := fun y hy => by
  rcases List.mem_append.1 hy with hy | hy
  · exact h y hy
  · simp at hy; subst hy; exact hx
/-- A slice of plays: a row of its own, or nil. -/
def OPl (lo hi : Nat) (w : World) (a : Option Addr) (l : List PP) : Prop := (a = none ∧ l = []) ∨ ∃ g, a = some ⟨g, 0, none⟩ ∧ lo ≤ g ∧ g < hi ∧ PRow w g l
theorem OPl.below {lo hi : Nat} {w w' : World} {a : Option Addr} {l : List PP} (h : OPl lo hi w a l) (hb : Below w.heap.size w w') : OPl lo hi w' a l := by
  rcases h with h | ⟨g, e, h1, h2, r⟩
  · exact .inl h
  · exact .inr ⟨g, e, h1, h2, r.below hb⟩
theorem OPl.drew {lo hi : Nat} {w : World} {a : Option Addr} {l : List PP} (h : OPl lo hi w a l) : OPl lo hi w.drew a l := h
theorem OPl.mono {lo hi lo' hi' : Nat} {w : World} {a : Option Addr} {l : List PP} (h : OPl lo hi w a l) (h1 : lo' ≤ lo) (h2 : hi ≤ hi') : OPl lo' hi' w a l := by
  rcases h with h | ⟨g, e, q1, q2, r⟩
  · exact .inl h
  · exact .inr ⟨g, e, by omega, by omega, r⟩
theorem OPl.row {lo hi : Nat} {w : World} {a : Option Addr} {l : List PP} (h : OPl lo hi w a l) {k : Nat} (hk : k < l.length) : ∃ g, a = some ⟨g, 0, none⟩ ∧ PRow w g l := by
  rcases h with ⟨_, rfl⟩ | ⟨g, e, q1, q2, r⟩
  · simp at hk
  · exact ⟨g, e, r⟩
theorem PRow.drew {w : World} {g : Nat} {l : List PP} (h : PRow w g l) : PRow w.drew g l := h.below (Below.refl _ _).drew
/-- A slice of plays of the call's own that grows. -/
def OwnP (w : World) (base : Nat) (v : Value) (l : List PP) : Prop := w.ownsRow base 94 3 v l.length (plsC l)
theorem OwnP.form {w : World} {base : Nat} {v : Value} {l : List PP} (h : OwnP w base v l) : ∃ a k, v = .slice a l.length k := by
  rcases h.2 with ⟨h1, h2⟩ | ⟨g, cap, cur, h1, _⟩
  · exact ⟨none, 0, by rw [h1, h2]⟩
  · exact ⟨some ⟨g, 0, none⟩, cap, h1⟩
theorem OwnP.opl {w : World} {base : Nat} {a : Option Addr} {n k : Nat} {l : List PP} (h : OwnP w base (.slice a n k) l) : OPl base w.heap.size w a l := by
  obtain ⟨hl, h1 | ⟨g, cap, cur, hv, hb, hh, hc, hm, hs, ht⟩⟩ := h
  · obtain ⟨h1, h2⟩ := h1
    simp at h1
    exact .inl ⟨h1.1, List.eq_nil_of_length_eq_zero h2⟩
  · simp at hv
    obtain ⟨rfl, _, rfl⟩ := hv
    exact .inr ⟨g, rfl, hb, (Array.getElem?_eq_some_iff.1 hh).1, cur, hh, by rw [hl, hs]; exact Nat.mul_le_mul_right _ hc, by rw [hl]; exact ht⟩
theorem OwnP.alloc {w : World} {base : Nat} {v : Value} {l : List PP} (h : OwnP w base v l) (o : Obj) : OwnP (w.alloc o) base v l := World.ownsRow.alloc h o
theorem OwnP.drew {w : World} {base : Nat} {v : Value} {l : List PP} (h : OwnP w base v l) : OwnP w.drew base v l := h
theorem OwnP.below {w w' : World} {base : Nat} {v : Value} {l : List PP} (h : OwnP w base v l) (hb : Below w.heap.size w w') : OwnP w' base v l :=
  World.ownsRow.kept (row := none) h ⟨hb.os, hb.tape, hb.output, hb.size, fun k hk _ => hb.block k hk⟩ (by
    cases hv : v.ownBlock with
    | none => exact .inl rfl
    | some g => exact .inr (by simp))
theorem OwnP.start (w : World) : OwnP (w.alloc (.cells #[] 94)) w.heap.size (.slice (some ⟨w.heap.size, 0, none⟩) 0 0) [] :=
  ⟨rfl, .inr ⟨w.heap.size, 0, #[], rfl, Nat.le_refl _, Blk.new w #[] _, Nat.le_refl _, by unfold maxLen; omega, rfl, rfl⟩⟩
theorem OwnP.nil (w : World) (base : Nat) : OwnP w base (.slice none 0 0) [] := World.ownsRow_nil w base _ _
theorem OwnP.mono {w : World} {base base' : Nat} {v : Value} {l : List PP} (h : OwnP w base v l) (hb : base' ≤ base) : OwnP w base' v l := by
  obtain ⟨h1, h2 | ⟨g, cap, cur, q1, q2, q3⟩⟩ := h
  · exact ⟨h1, .inl h2⟩
  · exact ⟨h1, .inr ⟨g, cap, cur, q1, by omega, q3⟩⟩
/-- A block of another type is not the one that holds such a slice. -/
theorem OwnP.ne {w : World} {base g : Nat} {v : Value} {l : List PP} {cur : Array Value} {t : TypeId} (h : OwnP w base v l) (hB : Blk w g cur t) (ht : t ≠ 94) : v.ownBlock ≠ some g := by
  intro e
  obtain ⟨_, ⟨h1, _⟩ | ⟨g', cap, cur', rfl, _, hh, _⟩⟩ := h
  · rw [h1] at e
    simp [Value.ownBlock] at e
  · simp [Value.ownBlock] at e
    subst e
    have hB' : w.heap[g']? = some (.cells cur t (0, 0)) := hB
    rw [hB'] at hh
    simp at hh
    exact ht hh.2
/-- What is of other types is kept when such a slice grows. -/
theorem VRow.push {w w' : World} {base g : Nat} {v : Value} {l : List PP} {vs : List Value} {t : TypeId} (h : VRow w g vs t) (hO : OwnP w base v l) (ht : t ≠ 94) (hk : ∀ k, k < w.heap.size → v.ownBlock ≠ some k → w'.heap[k]? = w.heap[k]?) : VRow w' g vs t := by
  obtain ⟨cur, hB, h1, h2⟩ := h
  exact ⟨cur, (hk g hB.lt (hO.ne hB ht)).trans hB, h1, h2⟩
theorem Row.push {w w' : World} {base g : Nat} {v : Value} {l : List PP} {xs : List Int} (h : Row w g xs) (hO : OwnP w base v l) (hk : ∀ k, k < w.heap.size → v.ownBlock ≠ some k → w'.heap[k]? = w.heap[k]?) : Row w' g xs := by
  obtain ⟨cur, hB, h1, h2⟩ := h
  exact ⟨cur, (hk g hB.lt (hO.ne hB (by decide))).trans hB, h1, h2⟩
theorem PAt.push {lo hi : Nat} {w w' : World} {base : Nat} {v : Value} {l : List PP} {x : PP} (h : PAt lo hi w x) (hO : OwnP w base v l) (hk : ∀ k, k < w.heap.size → v.ownBlock ≠ some k → w'.heap[k]? = w.heap[k]?) : PAt lo hi w' x := by
  refine ⟨?_, ?_⟩
  · rcases h.1 with h | ⟨g, e, h1, h2, r⟩
    · exact .inl h
    · exact .inr ⟨g, e, h1, h2, r.push hO (by decide) hk⟩
  · rcases h.2 with h | ⟨g1, g2, e1, e2, hne, b1, b2, b3, b4, r1, r2⟩
    · exact .inl h
    · exact .inr ⟨g1, g2, e1, e2, hne, b1, b2, b3, b4, r1.push hO hk, r2.push hO hk⟩
theorem PAll.push {lo hi : Nat} {w w' : World} {base : Nat} {v : Value} {l m : List PP} (h : PAll lo hi w m) (hO : OwnP w base v l) (hk : ∀ k, k < w.heap.size → v.ownBlock ≠ some k → w'.heap[k]? = w.heap[k]?) : PAll lo hi w' m := fun x hx => (h x hx).push hO hk
theorem infoPly : (Try.prog.info? 94).map (fun i => (i.zero, i.size, i.bytes)) = some (some (.agg #[.slice none 0 0, .slice none 0 0, .slice none 0 0]), 3, 72) := by kernel_rfl
/-- One play appended: 'out = append(out, p)'. -/
theorem wp_pushP {ops : Array Oper} {rest : List Oper} {o : Oper} {a : Act} {Q : Exit → Act → World → Prop} (hgd : o.guard = none) (s x : Operand)
    (ho : o.op = .call { callee := .builtin .append, args := #[s, x], argTypes := #[40, 40] })
    (base : Nat) (v : Value) (l : List PP) (hs : a.eval s = v) {w0 : World} (hown : OwnP w0 base v l) (u : PP)
    {zz : Nat} (hx : a.eval x = .slice (some ⟨zz, 0, none⟩) 1 1) (hzz : w0.heap.size = zz) (hl : l.length ≤ 1048576) (hbase : base ≤ w0.heap.size)
    (h : ∀ v' w', OwnP w' base v' (l ++ [u]) → Below base w0 w' → (∀ k, k < w0.heap.size → v.ownBlock ≠ some k → w'.heap[k]? = w0.heap[k]?) → wpList Try.prog ops Q rest (a.put o.dst v') w') : wpList Try.prog ops Q (o :: rest) a (w0.alloc (.cells #[pl0 u, pl1 u, pl2 u] 94)) := by
  subst hzz
  obtain ⟨i0, hi, hz0, hz1, hz2⟩ := info_parts infoPly
  have hown0 : w0.ownsRow base 94 3 v l.length (plsC l) := hown
  refine wpList_append_own _ hgd s x 40 ho base 94 i0 _ 3 72 Try.underlying40 hi hz0 hz1 hz2 rfl (by decide) v l.length (plsC l) hs (hown0.alloc _) ⟨w0.heap.size, 0, none⟩ 1 1 (plC u) hx (by simp [plC])
    (World.news_of_block (cs := #[pl0 u, pl1 u, pl2 u]) (Blk.new w0 _ 94)) (fun y hy => by simp [plC] at hy; rcases hy with rfl | rfl | rfl <;> rfl) (by unfold maxLen; omega) (by omega) (by simp; omega) ?_
  intro v' w' hown' hgrow _
  refine h v' w' ?_ (((Below.refl base w0).alloc hbase _).grown hgrow (by simp; omega) (fun k hk => (hown0.lt k hk).1)) (fun k hk hne => ?_)
  · show w'.ownsRow base 94 3 _ (l ++ [u]).length (plsC (l ++ [u]))
    rw [List.length_append, plsC_append]
    simpa [plsC] using hown'
  · rw [hgrow.block k (by simp; omega) (fun hh => hne hh.symm), Below.heap_alloc _ _ _ hk]
end Go.Proofs.Ytokjkcnjmfbfiaa
