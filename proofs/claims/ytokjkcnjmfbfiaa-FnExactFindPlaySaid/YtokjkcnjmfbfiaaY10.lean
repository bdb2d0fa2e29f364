/- Texts of a proof, laid together: Plays as values, and slices of plays in memory: how they lie, how they grow. Contracts of the lists of legal steps, of the program and of its model. Mathematics of a legal step: how many there are from a place. Contracts of the model's exchange of sides. -/
import Derived.Test.YtokjkcnjmfbfiaaY04
import Derived.Test.YtokjkcnjmfbfiaaY09
import Derived.Test.YtokjkcnjmfbfiaaY07
import Derived.ArgAppend
namespace Go.Proofs.Ytokjkcnjmfbfiaa
open Go.ChangeShapes Go.WideShapes Go.ChangeAt Go.RowKit
set_option linter.unusedVariables false
set_option linter.unusedSimpArgs false

/-- A play: its steps, and the board after them. -/
abbrev Ply := List Stp × List Int × List Int
/-- Where a play lies: the addresses and capacities of its three slices. -/
structure PD where
  sa : Option Addr
  sc : Nat
  b1 : Option Addr
  k1 : Nat
  b2 : Option Addr
  k2 : Nat
abbrev PP := PD × Ply
abbrev pl0 (x : PP) : Value := .slice x.1.sa x.2.1.length x.1.sc
abbrev pl1 (x : PP) : Value := .slice x.1.b1 x.2.2.1.length x.1.k1
abbrev pl2 (x : PP) : Value := .slice x.1.b2 x.2.2.2.length x.1.k2
abbrev plV (x : PP) : Value := .agg #[pl0 x, pl1 x, pl2 x]
def plC (x : PP) : List Value := [pl0 x, pl1 x, pl2 x]
def plsC : List PP → List Value
  | [] => []
  | x :: l => plC x ++ plsC l
theorem plsC_length : ∀ l : List PP, (plsC l).length = l.length * 3
  | [] => rfl
  | s :: l => by simp [plsC, plC, plsC_length l]; omega
theorem plsC_append : ∀ l m : List PP, plsC (l ++ m) = plsC l ++ plsC m
  | [], m => rfl
  | s :: l, m => by simp [plsC, plsC_append l m]
theorem plsC_at : ∀ (l : List PP) (k : Nat) (s : PP), l[k]? = some s → ∀ j, j < 3 → (plsC l)[k * 3 + j]? = (plC s)[j]?
  | [], k, s, h, j, hj => by simp at h
  | x :: l, 0, s, h, j, hj => by
    simp at h
    subst h
    rw [plsC, List.getElem?_append_left (by simp [plC]; omega), Nat.zero_mul, Nat.zero_add]
  | x :: l, k + 1, s, h, j, hj => by
    rw [plsC, List.getElem?_append_right (by simp [plC]; omega)]
    have := plsC_at l k s (by simpa using h) j hj
    rw [← this]
    congr 1
    simp [plC]
    omega
/-- A row of plays. -/
abbrev PRow (w : World) (g : Nat) (l : List PP) : Prop := VRow w g (plsC l) 94
theorem PRow.three {w : World} {g : Nat} {l : List PP} (h : PRow w g l) (k : Nat) (s : PP) (hk : l[k]? = some s) :
    w.cell? ⟨g, k * 3, none⟩ = some (pl0 s) ∧ w.cell? ⟨g, k * 3 + 1, none⟩ = some (pl1 s) ∧ w.cell? ⟨g, k * 3 + 2, none⟩ = some (pl2 s) :=
  ⟨h.cell _ _ (by have := plsC_at l k s hk 0 (by omega); simpa [plC] using this), h.cell _ _ (by have := plsC_at l k s hk 1 (by omega); simpa [plC] using this), h.cell _ _ (by have := plsC_at l k s hk 2 (by omega); simpa [plC] using this)⟩
/-- What a play's slices hold. -/
def PAt (lo hi : Nat) (w : World) (x : PP) : Prop := OSt lo hi w x.1.sa x.2.1 ∧ OBd lo hi w x.1.b1 x.1.b2 x.2.2.1 x.2.2.2
def PAll (lo hi : Nat) (w : World) (l : List PP) : Prop := ∀ x ∈ l, PAt lo hi w x
theorem OBd.mono {lo hi lo' hi' : Nat} {w : World} {a1 a2 : Option Addr} {xs ys : List Int} (h : OBd lo hi w a1 a2 xs ys) (h1 : lo' ≤ lo) (h2 : hi ≤ hi') : OBd lo' hi' w a1 a2 xs ys := by
  rcases h with h | ⟨g1, g2, e1, e2, hne, b1, b2, b3, b4, r1, r2⟩
  · exact .inl h
  · exact .inr ⟨g1, g2, e1, e2, hne, by omega, by omega, by omega, by omega, r1, r2⟩
theorem PAt.below {lo hi : Nat} {w w' : World} {x : PP} (h : PAt lo hi w x) (hb : Below w.heap.size w w') : PAt lo hi w' x := ⟨h.1.below hb, h.2.below hb⟩
theorem PAt.mono {lo hi lo' hi' : Nat} {w : World} {x : PP} (h : PAt lo hi w x) (h1 : lo' ≤ lo) (h2 : hi ≤ hi') : PAt lo' hi' w x := ⟨h.1.mono h1 h2, h.2.mono h1 h2⟩
theorem PAll.below {lo hi : Nat} {w w' : World} {l : List PP} (h : PAll lo hi w l) (hb : Below w.heap.size w w') : PAll lo hi w' l := fun x hx => (h x hx).below hb
theorem PAll.drew {lo hi : Nat} {w : World} {l : List PP} (h : PAll lo hi w l) : PAll lo hi w.drew l := h.below (Below.refl _ _).drew
theorem PAll.mono {lo hi lo' hi' : Nat} {w : World} {l : List PP} (h : PAll lo hi w l) (h1 : lo' ≤ lo) (h2 : hi ≤ hi') : PAll lo' hi' w l := fun x hx => (h x hx).mono h1 h2
theorem PAll.nil (lo hi : Nat) (w : World) : PAll lo hi w [] := fun x hx => by simp at hx
theorem PAll.snoc {lo hi : Nat} {w : World} {l : List PP} {x : PP} (h : PAll lo hi w l) (hx : PAt lo hi w x) : PAll lo hi w (l ++ [x]) := fun y hy => by
  rcases List.mem_append.1 hy with hy | hy
  · exact h y hy
  · simp at hy; subst hy; exact hx
/-- A slice of plays: a row of its own, or nil. -/
def OPl (lo hi : Nat) (w : World) (a : Option Addr) (l : List PP) : Prop := (a = none ∧ l = []) ∨ ∃ g, a = some ⟨g, 0, none⟩ ∧ lo ≤ g ∧ g < hi ∧ PRow w g l
theorem OPl.below {lo hi : Nat} {w w' : World} {a : Option Addr} {l : List PP} (h : OPl lo hi w a l) (hb : Below w.heap.size w w') : OPl lo hi w' a l := by
  rcases h with h | ⟨g, e, h1, h2, r⟩
  · exact .inl h
  · exact .inr ⟨g, e, h1, h2, r.below hb⟩
theorem OPl.drew {lo hi : Nat} {w : World} {a : Option Addr} {l : List PP} (h : OPl lo hi w a l) : OPl lo hi w.drew a l := h
theorem OPl.mono {lo hi lo' hi' : Nat} {w : World} {a : Option Addr} {l : List PP} (h : OPl lo hi w a l) (h1 : lo' ≤ lo) (h2 : hi ≤ hi') : OPl lo' hi' w a l := by
  rcases h with h | ⟨g, e, q1, q2, r⟩
  · exact .inl h
  · exact .inr ⟨g, e, by omega, by omega, r⟩
theorem OPl.row {lo hi : Nat} {w : World} {a : Option Addr} {l : List PP} (h : OPl lo hi w a l) {k : Nat} (hk : k < l.length) : ∃ g, a = some ⟨g, 0, none⟩ ∧ PRow w g l := by
  rcases h with ⟨_, rfl⟩ | ⟨g, e, q1, q2, r⟩
  · simp at hk
  · exact ⟨g, e, r⟩
theorem PRow.drew {w : World} {g : Nat} {l : List PP} (h : PRow w g l) : PRow w.drew g l := h.below (Below.refl _ _).drew
/-- A slice of plays of the call's own that grows. -/
def OwnP (w : World) (base : Nat) (v : Value) (l : List PP) : Prop := w.ownsRow base 94 3 v l.length (plsC l)
theorem OwnP.form {w : World} {base : Nat} {v : Value} {l : List PP} (h : OwnP w base v l) : ∃ a k, v = .slice a l.length k := by
  rcases h.2 with ⟨h1, h2⟩ | ⟨g, cap, cur, h1, _⟩
  · exact ⟨none, 0, by rw [h1, h2]⟩
  · exact ⟨some ⟨g, 0, none⟩, cap, h1⟩
theorem OwnP.opl {w : World} {base : Nat} {a : Option Addr} {n k : Nat} {l : List PP} (h : OwnP w base (.slice a n k) l) : OPl base w.heap.size w a l := by
  obtain ⟨hl, h1 | ⟨g, cap, cur, hv, hb, hh, hc, hm, hs, ht⟩⟩ := h
  · obtain ⟨h1, h2⟩ := h1
    simp at h1
    exact .inl ⟨h1.1, List.eq_nil_of_length_eq_zero h2⟩
  · simp at hv
    obtain ⟨rfl, _, rfl⟩ := hv
    exact .inr ⟨g, rfl, hb, (Array.getElem?_eq_some_iff.1 hh).1, cur, hh, by rw [hl, hs]; exact Nat.mul_le_mul_right _ hc, by rw [hl]; exact ht⟩
theorem OwnP.alloc {w : World} {base : Nat} {v : Value} {l : List PP} (h : OwnP w base v l) (o : Obj) : OwnP (w.alloc o) base v l := World.ownsRow.alloc h o
theorem OwnP.drew {w : World} {base : Nat} {v : Value} {l : List PP} (h : OwnP w base v l) : OwnP w.drew base v l := h
theorem OwnP.below {w w' : World} {base : Nat} {v : Value} {l : List PP} (h : OwnP w base v l) (hb : Below w.heap.size w w') : OwnP w' base v l :=
  World.ownsRow.kept (row := none) h ⟨hb.os, hb.tape, hb.output, hb.size, fun k hk _ => hb.block k hk⟩ (by
    cases hv : v.ownBlock with
    | none => exact .inl rfl
    | some g => exact .inr (by simp))
theorem OwnP.start (w : World) : OwnP (w.alloc (.cells #[] 94)) w.heap.size (.slice (some ⟨w.heap.size, 0, none⟩) 0 0) [] :=
  ⟨rfl, .inr ⟨w.heap.size, 0, #[], rfl, Nat.le_refl _, Blk.new w #[] _, Nat.le_refl _, by unfold maxLen; omega, rfl, rfl⟩⟩
theorem OwnP.nil (w : World) (base : Nat) : OwnP w base (.slice none 0 0) [] := World.ownsRow_nil w base _ _
theorem OwnP.mono {w : World} {base base' : Nat} {v : Value} {l : List PP} (h : OwnP w base v l) (hb : base' ≤ base) : OwnP w base' v l := by
  obtain ⟨h1, h2 | ⟨g, cap, cur, q1, q2, q3⟩⟩ := h
  · exact ⟨h1, .inl h2⟩
  · exact ⟨h1, .inr ⟨g, cap, cur, q1, by omega, q3⟩⟩
/-- A block of another type is not the one that holds such a slice. -/
theorem OwnP.ne {w : World} {base g : Nat} {v : Value} {l : List PP} {cur : Array Value} {t : TypeId} (h : OwnP w base v l) (hB : Blk w g cur t) (ht : t ≠ 94) : v.ownBlock ≠ some g := by
  intro e
  obtain ⟨_, ⟨h1, _⟩ | ⟨g', cap, cur', rfl, _, hh, _⟩⟩ := h
  · rw [h1] at e
    simp [Value.ownBlock] at e
  · simp [Value.ownBlock] at e
    subst e
    have hB' : w.heap[g']? = some (.cells cur t (0, 0)) := hB
    rw [hB'] at hh
    simp at hh
    exact ht hh.2
/-- What is of other types is kept when such a slice grows. -/
theorem VRow.push {w w' : World} {base g : Nat} {v : Value} {l : List PP} {vs : List Value} {t : TypeId} (h : VRow w g vs t) (hO : OwnP w base v l) (ht : t ≠ 94) (hk : ∀ k, k < w.heap.size → v.ownBlock ≠ some k → w'.heap[k]? = w.heap[k]?) : VRow w' g vs t := by
  obtain ⟨cur, hB, h1, h2⟩ := h
  exact ⟨cur, (hk g hB.lt (hO.ne hB ht)).trans hB, h1, h2⟩
theorem Row.push {w w' : World} {base g : Nat} {v : Value} {l : List PP} {xs : List Int} (h : Row w g xs) (hO : OwnP w base v l) (hk : ∀ k, k < w.heap.size → v.ownBlock ≠ some k → w'.heap[k]? = w.heap[k]?) : Row w' g xs := by
  obtain ⟨cur, hB, h1, h2⟩ := h
  exact ⟨cur, (hk g hB.lt (hO.ne hB (by decide))).trans hB, h1, h2⟩
theorem PAt.push {lo hi : Nat} {w w' : World} {base : Nat} {v : Value} {l : List PP} {x : PP} (h : PAt lo hi w x) (hO : OwnP w base v l) (hk : ∀ k, k < w.heap.size → v.ownBlock ≠ some k → w'.heap[k]? = w.heap[k]?) : PAt lo hi w' x := by
  refine ⟨?_, ?_⟩
  · rcases h.1 with h | ⟨g, e, h1, h2, r⟩
    · exact .inl h
    · exact .inr ⟨g, e, h1, h2, r.push hO (by decide) hk⟩
  · rcases h.2 with h | ⟨g1, g2, e1, e2, hne, b1, b2, b3, b4, r1, r2⟩
    · exact .inl h
    · exact .inr ⟨g1, g2, e1, e2, hne, b1, b2, b3, b4, r1.push hO hk, r2.push hO hk⟩
theorem PAll.push {lo hi : Nat} {w w' : World} {base : Nat} {v : Value} {l m : List PP} (h : PAll lo hi w m) (hO : OwnP w base v l) (hk : ∀ k, k < w.heap.size → v.ownBlock ≠ some k → w'.heap[k]? = w.heap[k]?) : PAll lo hi w' m := fun x hx => (h x hx).push hO hk
theorem infoPly : (Try.prog.info? 94).map (fun i => (i.zero, i.size, i.bytes)) = some (some (.agg #[.slice none 0 0, .slice none 0 0, .slice none 0 0]), 3, 72) := by kernel_rfl
/-- One play appended: 'out = append(out, p)'. -/
theorem wp_pushP {ops : Array Oper} {rest : List Oper} {o : Oper} {a : Act} {Q : Exit → Act → World → Prop} (hgd : o.guard = none) (s x : Operand)
    (ho : o.op = .call { callee := .builtin .append, args := #[s, x], argTypes := #[40, 40] })
    (base : Nat) (v : Value) (l : List PP) (hs : a.eval s = v) {w0 : World} (hown : OwnP w0 base v l) (u : PP)
    {zz : Nat} (hx : a.eval x = .slice (some ⟨zz, 0, none⟩) 1 1) (hzz : w0.heap.size = zz) (hl : l.length ≤ 1048576) (hbase : base ≤ w0.heap.size)
    (h : ∀ v' w', OwnP w' base v' (l ++ [u]) → Below base w0 w' → (∀ k, k < w0.heap.size → v.ownBlock ≠ some k → w'.heap[k]? = w0.heap[k]?) → wpList Try.prog ops Q rest (a.put o.dst v') w') : wpList Try.prog ops Q (o :: rest) a (w0.alloc (.cells #[pl0 u, pl1 u, pl2 u] 94)) := by
  subst hzz
  obtain ⟨i0, hi, hz0, hz1, hz2⟩ := info_parts infoPly
  have hown0 : w0.ownsRow base 94 3 v l.length (plsC l) := hown
  refine wpList_append_own _ hgd s x 40 ho base 94 i0 _ 3 72 Try.underlying40 hi hz0 hz1 hz2 rfl (by decide) v l.length (plsC l) hs (hown0.alloc _) ⟨w0.heap.size, 0, none⟩ 1 1 (plC u) hx (by simp [plC])
    (World.news_of_block (cs := #[pl0 u, pl1 u, pl2 u]) (Blk.new w0 _ 94)) (fun y hy => by simp [plC] at hy; rcases hy with rfl | rfl | rfl <;> rfl) (by unfold maxLen; omega) (by omega) (by simp; omega) ?_
  intro v' w' hown' hgrow _
  refine h v' w' ?_ (((Below.refl base w0).alloc hbase _).grown hgrow (by simp; omega) (fun k hk => (hown0.lt k hk).1)) (fun k hk hne => ?_)
  · show w'.ownsRow base 94 3 _ (l ++ [u]).length (plsC (l ++ [u]))
    rw [List.length_append, plsC_append]
    simpa [plsC] using hown'
  · rw [hgrow.block k (by simp; omega) (fun hh => hne hh.symm), Below.heap_alloc _ _ _ hk]
end Go.Proofs.Ytokjkcnjmfbfiaa
namespace Go.Proofs.Ytokjkcnjmfbfiaa
open Go.ChangeShapes Go.WideShapes Go.ChangeAt Go.RowKit
set_option linter.unusedVariables false
set_option linter.unusedSimpArgs false
set_option maxRecDepth 4000

def lsL (p c h s : Int) (xs ys : List Int) (d : Int) : List Stp := if isB p c h s xs ys = true then (if inB d 1 s = true then legL p.toNat h xs ys d else []) else []
def lsR (p c h s : Int) (xs ys : List Int) (d : Int) : Int := if isB p c h s xs ys = true then (if inB d 1 s = true then 0 else 2) else 1
theorem lsL_length (p c h s : Int) (xs ys : List Int) (d : Int) : (lsL p c h s xs ys d).length ≤ 1048576 := by
  unfold lsL
  split
  · rename_i g
    split
    · obtain ⟨p0, p1, k0, k1, k2, k3, N1, N2, hx, hy, s0, s1, s2, s3⟩ := isB_parts g
      have := legL_length p.toNat h xs ys d
      omega
    · simp
  · simp
end Go.Proofs.Ytokjkcnjmfbfiaa
namespace Go.Proofs.Ytokjkcnjmfbfiaa
open Go.ChangeShapes Go.WideShapes Go.ChangeAt Go.RowKit
set_option linter.unusedVariables false
set_option linter.unusedSimpArgs false
set_option maxRecDepth 4000

theorem nonneg_getD {l : List Int} (h : ∀ x ∈ l, 0 ≤ x) (j : Nat) : 0 ≤ l.getD j 0 := by
  by_cases hj : j < l.length
  · exact h _ (getD_mem hj)
  · rw [getD_out (by omega)]
    omega
theorem stepI_form {P : Nat} {h : Int} {xs ys : List Int} {k : Nat} {d : Int} {t : Stp} (e : stepI P h xs ys k d = some t) : t.1 = (k : Int) ∧ t.2.1 = max (-1) ((k : Int) - d) ∧ t.2.2.1 = d ∧ xs.getD k 0 ≠ 0 ∧ t.2.1 = toI P k d ∧ alB P h xs ys k d = true := by
  unfold stepI at e
  split at e
  · simp at e
  · split at e
    · rename_i h0 ha
      simp only [Option.some.injEq] at e
      subst e
      refine ⟨rfl, ?_, rfl, h0, rfl, ha⟩
      dsimp only
      unfold toI
      split
      · rename_i hk
        by_cases hp : k = P
        · unfold alB at ha
          rw [if_pos hp] at ha
          simp only [openB, Bool.and_eq_true, decide_eq_true_eq] at ha
          omega
        · omega
      · omega
    · simp at e
/-- For a place, how many of the two steps with a die are legal. -/
theorem leg_two {P : Nat} {h s : Int} {xs ys : List Int} (f : Nat) (fP : f ≤ P) (d : Int) (hd : inB d 1 s = true) :
    (if legB P h s xs ys ((f : Int), max (-1) ((f : Int) - d), d, false) = true then 1 else 0) + (if legB P h s xs ys ((f : Int), max (-1) ((f : Int) - d), d, true) = true then 1 else 0) = (stepS P h xs ys f d).toList.length := by
  have hf : inB (f : Int) 0 (P : Int) = true := by simp [inB]; omega
  have hn : ((f : Int)).toNat = f := by simp
  rw [legB_S, legB_S]
  dsimp only
  rw [hd, hf, hn, Bool.true_and, Bool.true_and, Bool.true_and, Bool.true_and]
  cases e : stepS P h xs ys f d with
  | none => simp
  | some t =>
    have e2 : stepI P h xs ys f d = some t := by
      unfold stepS at e
      split at e
      · simp at e
      · exact e
    obtain ⟨q1, q2, q3, -⟩ := stepI_form e2
    obtain ⟨a, b, d', q⟩ := t
    dsimp only at q1 q2 q3
    subst q1 q2 q3
    cases q <;> simp
/-- The number of legal steps from the places below f. -/
def cntL (P : Nat) (h : Int) (xs ys : List Int) (d : Int) (f : Nat) : Nat := if overB xs ys = true then 0 else (legTo P h xs ys d f).length
theorem cntL_succ (P : Nat) (h : Int) (xs ys : List Int) (d : Int) (f : Nat) : cntL P h xs ys d (f + 1) = cntL P h xs ys d f + (stepS P h xs ys f d).toList.length := by
  unfold cntL stepS
  split
  · simp
  · rw [legTo, List.length_append]
    omega
theorem cntL_all (P : Nat) (h : Int) (xs ys : List Int) (d : Int) : cntL P h xs ys d (P + 1) = (legL P h xs ys d).length := by
  unfold cntL legL
  split <;> rfl
theorem cntL_le (P : Nat) (h : Int) (xs ys : List Int) (d : Int) (f : Nat) : cntL P h xs ys d f ≤ f := by
  unfold cntL
  split
  · omega
  · exact legTo_length _ _ _ _ _ _
theorem apart_iff {P : Nat} {xs ys : List Int} : apartB P xs ys = true ↔ ∀ i, i < P → ¬ (0 < xs.getD i 0 ∧ 0 < ys.getD (P - 1 - i) 0) := by
  rw [apartB, List.all_eq_true]
  constructor
  · intro h i hi
    have := h i (by simpa using hi)
    intro ⟨a, b⟩
    rw [decide_eq_true a, decide_eq_true b] at this
    simp at this
  · intro h i hi
    have := h i (by simpa using hi)
    by_cases a : 0 < xs.getD i 0
    · rw [decide_eq_false (show ¬ 0 < ys.getD (P - 1 - i) 0 from fun b => this ⟨a, b⟩)]
      simp
    · rw [decide_eq_false a]
      simp
theorem stepI_hitA {P : Nat} {h : Int} {A B : List Int} {k : Nat} {d : Int} {t : Stp} (e : stepI P h A B k d = some t) : t.2.2.2 = (decide (t.2.1 ≠ -1) && decide (0 < B.getD (P - 1 - t.2.1.toNat) 0)) := by
  unfold stepI at e
  split at e
  · simp at e
  · split at e
    · simp only [Option.some.injEq] at e
      rw [← e]
    · simp at e
end Go.Proofs.Ytokjkcnjmfbfiaa
namespace Go.Proofs.Ytokjkcnjmfbfiaa
open Go.ChangeShapes Go.WideShapes Go.ChangeAt Go.RowKit
set_option linter.unusedVariables false
set_option linter.unusedSimpArgs false
set_option maxRecDepth 4000

/-- A copy of the call's own, whatever its capacity. -/
def OwnCopied (xs : List Int) (w : World) (e : Ending) (w' : World) : Prop :=
  ∃ g k, e = .returned (.slice (some ⟨g, 0, none⟩) xs.length k) ∧ w.heap.size ≤ g ∧ Row w' g xs ∧ Below w.heap.size w w'
theorem Row.of_owns {w : World} {base g n k : Nat} {xs : List Int} (h : w.ownsRow base 2 1 (.slice (some ⟨g, 0, none⟩) n k) n (ints xs)) : Row w g xs ∧ base ≤ g := by
  obtain ⟨hl, h | ⟨g', cap, cur, hv, hb, hh, hc, hm, hs, ht⟩⟩ := h
  · exact absurd h.1 (by simp)
  · simp at hv
    obtain ⟨rfl, rfl⟩ := hv
    rw [ints_length] at hl
    exact ⟨⟨cur, hh, by omega, by rw [hl]; exact ht⟩, hb⟩
set_option maxRecDepth 8000 in
set_option maxHeartbeats 1000000 in
theorem l02Own_any (a : Option Addr) (n cap : Nat) (xs : List Int) (w : World) (hn : xs.length = n) (h0 : 0 < n) (hle : n ≤ 1048576) (hr : IRow w a xs) :
    Calls Try.prog 129 #[.slice a n cap] w (OwnCopied xs w) := by
  obtain ⟨i0, hi, hz0, hz1, hz2⟩ := info_parts infoI64
  obtain ⟨b, o, rfl, -⟩ := hr 0 (by omega)
  go_enter Try.func129, Try.ntmps129
  have hrow : ∀ (W : World), IRow W (some ⟨b, o, none⟩) xs → ∀ (j : Nat) (u : Value), (ints xs)[j]? = some u → W.cell? ((⟨b, o, none⟩ : Addr).add j) = some u := by
    intro W hW j u hj
    obtain ⟨hlt, rfl⟩ := List.getElem?_eq_some_iff.1 hj
    have hlt2 : j < xs.length := by simpa [ints] using hlt
    obtain ⟨b', o', e, hc⟩ := hW j hlt2
    simp at e
    obtain ⟨rfl, rfl⟩ := e
    rw [show (⟨b, o, none⟩ : Addr).add j = ⟨b, o + j, none⟩ from by unfold Addr.add; split <;> simp_all, hc]
    simp [ints, hlt2]
  have hone : ∀ u ∈ ints xs, u.oneCell' = true := fun u hu => by
    simp [ints] at hu
    obtain ⟨x, _, rfl⟩ := hu
    rfl
  have hint : (ints xs).length = n * 1 := by simp [ints, hn]
  have HRW := Lib.hid hrow
  have HON := Lib.hid hone
  have HIN := Lib.hid hint
  have HR := Lib.hid hr
  have HX := Lib.hid hn
  clear hrow hone hint hr hn
  go_wp2_with (at_builtin; refine wpList_append_grows _ rfl _ _ 24 rfl 2 i0 (.int .i64 0) 1 8 Try.underlying24 hi hz0 hz1 hz2 rfl (by decide) _ 0 0 [] rfl (by simp) rfl (by simp) ⟨b, o, none⟩ n cap (ints xs) rfl HIN.out (HRW.out _ (HR.out.alloc _)) HON.out (by omega) (by unfold maxLen; omega) (by omega) ?_)
  intro v' w' hown hgrow
  obtain ⟨g, k, rfl⟩ := Joins.ownsRow_form hown (by omega)
  obtain ⟨hR, hg⟩ := Row.of_owns hown
  go_wp2
  go_ret
  exact ⟨g, k, by simp [HX.out], by omega, hR, from_alloc ⟨hgrow.os, hgrow.tape, hgrow.output, hgrow.size, fun k hk => hgrow.block k hk (by simp)⟩⟩
theorem heldBB {w W w2 : World} {v0 v1 : Value} (hS : W.cell? ⟨w.heap.size, 0, none⟩ = some (v0) ∧ W.cell? ⟨w.heap.size, 1, none⟩ = some (v1) ∧ Below w.heap.size w W ∧ ∃ u0 u1, Blk W (w.heap.size + 1) #[u0, u1] 34) (hb : Below W.heap.size W w2) : w2.cell? ⟨w.heap.size, 0, none⟩ = some (v0) ∧ w2.cell? ⟨w.heap.size, 1, none⟩ = some (v1) ∧ Below w.heap.size w w2 ∧ ∃ u0 u1, Blk w2 (w.heap.size + 1) #[u0, u1] 34 := by
  obtain ⟨h0, h1, h3, u0, u1, h4⟩ := hS
  obtain ⟨hc, _⟩ := bcell hb
  have hl : w.heap.size < W.heap.size := by have := h4.lt; omega
  exact ⟨by rw [hc _ _ hl]; exact h0, by rw [hc _ _ hl]; exact h1, chain h3 hb, u0, u1, h4.below hb⟩
theorem storeBB {w W : World} {v0 v1 : Value} (hS : W.cell? ⟨w.heap.size, 0, none⟩ = some (v0) ∧ W.cell? ⟨w.heap.size, 1, none⟩ = some (v1) ∧ Below w.heap.size w W ∧ ∃ u0 u1, Blk W (w.heap.size + 1) #[u0, u1] 34) (q0 q1 : Value) : ((W.setCell ⟨w.heap.size + 1, 0, none⟩ q0).setCell ⟨w.heap.size + 1, 1, none⟩ q1).cell? ⟨w.heap.size, 0, none⟩ = some (v0) ∧ ((W.setCell ⟨w.heap.size + 1, 0, none⟩ q0).setCell ⟨w.heap.size + 1, 1, none⟩ q1).cell? ⟨w.heap.size, 1, none⟩ = some (v1) ∧ Below w.heap.size w ((W.setCell ⟨w.heap.size + 1, 0, none⟩ q0).setCell ⟨w.heap.size + 1, 1, none⟩ q1) ∧ ∃ u0 u1, Blk ((W.setCell ⟨w.heap.size + 1, 0, none⟩ q0).setCell ⟨w.heap.size + 1, 1, none⟩ q1) (w.heap.size + 1) #[u0, u1] 34 := by
  obtain ⟨h0, h1, h3, u0, u1, h4⟩ := hS
  refine ⟨?_, ?_, (h3.setCell (by simp) _).setCell (by simp) _, q0, q1, (h4.set q0).set q1⟩ <;> (rw [World.cell?_setCell_far _ _ _ _ (by simp), World.cell?_setCell_far _ _ _ _ (by simp)]; assumption)
set_option maxRecDepth 8000 in
set_option maxHeartbeats 1000000 in
theorem l02Swap_any (a1 a2 : Option Addr) (n1 n2 c1 c2 : Nat) (xs ys : List Int) (w : World) (h1 : xs.length = n1) (h2 : ys.length = n2) (m1 : 0 < n1) (m2 : 0 < n2) (l1 : n1 ≤ 1048576) (l2 : n2 ≤ 1048576) (r1 : IRow w a1 xs) (r2 : IRow w a2 ys) :
    Calls Try.prog 140 #[.agg #[.slice a1 n1 c1, .slice a2 n2 c2]] w (BoardGot ys xs w) := by
  obtain ⟨BT, BR, hb, hz⟩ := two_new w #[.slice a1 n1 c1, .slice a2 n2 c2] #[.slice none 0 0, .slice none 0 0] 34 34
  obtain ⟨x0, x1, xf, xl⟩ := BT.two
  have hK1 := fun W (hW : Below w.heap.size w W) => l02Own_any a2 n2 c2 ys W h2 m2 l2 (r2.below hW)
  have hK2 := fun W (hW : Below w.heap.size w W) => l02Own_any a1 n1 c1 xs W h1 m1 l1 (r1.below hW)
  have HK1 := Lib.hid hK1
  have HK2 := Lib.hid hK2
  clear hK1 hK2
  go_enter Try.func140, Try.ntmps140
  go_wp2_with fail
  generalize ((w.alloc (.cells #[.slice a1 n1 c1, .slice a2 n2 c2] 34)).alloc (.cells #[.slice none 0 0, .slice none 0 0] 34)) = v0 at *
  refine wp_region_held_drew (S := fun w' => w'.cell? ⟨w.heap.size, 0, none⟩ = some (.slice a1 n1 c1) ∧ w'.cell? ⟨w.heap.size, 1, none⟩ = some (.slice a2 n2 c2) ∧ Below w.heap.size w w' ∧ ∃ u0 u1, Blk w' (w.heap.size + 1) #[u0, u1] 34) (by kernel_rfl) ⟨x0, x1, hb.drew, _, _, BR.drew⟩ (fun hHeld => ?_)
  refine wpAnyH_take (i := 0) (oi := { dst := some 3, op := _, type := _, pos := _, after := _, guard := _ }) (v := ?_) rfl (by kernel_rfl) (by kernel_rfl) (by kernel_rfl) (fun _ _ _ h => h) (Or.inl ⟨by rfl, ?_⟩) (by assumption) ?_
  rotate_left
  · intro w hSw
    (try dsimp only at hSw)
    go_simp
    (try (with_reducible rfl))
  try simp only [Act.put, List.setIfInBounds_toArray, List.set_cons_zero, List.set_cons_succ]
  refine wpAnyH_take (i := 1) (oi := { dst := some 4, op := _, type := _, pos := _, after := _, guard := _ }) (v := ?_) rfl (by kernel_rfl) (by kernel_rfl) (by kernel_rfl) (fun _ _ _ h => h) (Or.inl ⟨by rfl, ?_⟩) (by assumption) ?_
  rotate_left
  · intro w hSw
    (try dsimp only at hSw)
    go_simp
    (try (with_reducible rfl))
  try simp only [Act.put, List.setIfInBounds_toArray, List.set_cons_zero, List.set_cons_succ]
  refine wpAnyH_take (i := 3) (oi := { dst := some 6, op := _, type := _, pos := _, after := _, guard := _ }) (v := ?_) rfl (by kernel_rfl) (by kernel_rfl) (by kernel_rfl) (fun _ _ _ h => h) (Or.inl ⟨by rfl, ?_⟩) (by assumption) ?_
  rotate_left
  · intro w hSw
    (try dsimp only at hSw)
    go_simp
    (try (with_reducible rfl))
  try simp only [Act.put, List.setIfInBounds_toArray, List.set_cons_zero, List.set_cons_succ]
  refine wpAnyH_take (i := 4) (oi := { dst := some 7, op := _, type := _, pos := _, after := _, guard := _ }) (v := ?_) rfl (by kernel_rfl) (by kernel_rfl) (by kernel_rfl) (fun _ _ _ h => h) (Or.inl ⟨by rfl, ?_⟩) (by assumption) ?_
  rotate_left
  · intro w hSw
    (try dsimp only at hSw)
    go_simp
    (try (with_reducible rfl))
  try simp only [Act.put, List.setIfInBounds_toArray, List.set_cons_zero, List.set_cons_succ]
  refine wpAnyH_ready (rs := [2]) (by kernel_rfl) (by simp) ?_
  refine AllReadyH.cons (o := { dst := some 5, op := _, type := _, pos := _, after := _, guard := _ }) rfl (fun K hK => ?_) AllReadyH.nil
  go_simp
  refine (HK1.out _ hHeld.2.2.1).mono ?_
  rintro e w5 ⟨g1, k1, rfl, hg1, R1, hb1⟩
  have hS := heldBB hHeld hb1
  (try go_wp2_with fail)
  refine hK.out _ _ hS (fun hHeld => ?_)
  clear hK K
  try simp only [Act.put, List.setIfInBounds_toArray, List.set_cons_zero, List.set_cons_succ]
  refine wpAnyH_ready (rs := [5]) (by kernel_rfl) (by simp) ?_
  refine AllReadyH.cons (o := { dst := some 8, op := _, type := _, pos := _, after := _, guard := _ }) rfl (fun K hK => ?_) AllReadyH.nil
  go_simp
  refine (HK2.out _ hHeld.2.2.1).mono ?_
  rintro e w6 ⟨g2, k2, rfl, hg2, R2, hb2⟩
  have R1b := R1.below hb2
  have hl0 := R1.lt
  have hS := heldBB hHeld hb2
  (try go_wp2_with fail)
  refine hK.out _ _ hS (fun hHeld => ?_)
  clear hK K
  try simp only [Act.put, List.setIfInBounds_toArray, List.set_cons_zero, List.set_cons_succ]
  refine wpAnyH_take (i := 6) (oi := { dst := some 9, op := _, type := _, pos := _, after := _, guard := _ }) (v := ?_) rfl (by kernel_rfl) (by kernel_rfl) (by kernel_rfl) (fun _ _ _ h => h) (Or.inl ⟨by rfl, ?_⟩) (by assumption) ?_
  rotate_left
  · intro w hSw
    (try dsimp only at hSw)
    go_simp
    (try (with_reducible rfl))
  try simp only [Act.put, List.setIfInBounds_toArray, List.set_cons_zero, List.set_cons_succ]
  refine wpAnyH_ready (rs := [7]) (by kernel_rfl) (by simp) ?_
  refine AllReadyH.cons (o := { dst := none, op := _, type := _, pos := _, after := _, guard := _ }) rfl (fun K hK => ?_) AllReadyH.nil
  obtain ⟨u0, u1, BU⟩ := hHeld.2.2.2
  have y0 := BU.two.1
  have y1 := BU.two.2.1
  have yf := BU.two.2.2.1
  have yl := BU.two.2.2.2
  go_simp
  (try go_wp2_with fail)
  refine hK.out _ _ (storeBB hHeld _ _) (fun hHeld => ?_)
  clear hK K
  try simp only [Act.put, List.setIfInBounds_toArray, List.set_cons_zero, List.set_cons_succ]
  refine wpAnyH_done (by kernel_rfl) ?_ _
  go_wp2
  have hl1 := R1.lt
  have hl2 := R2.lt
  have hd : v0.drew.heap.size = w.heap.size + 1 + 1 := hz
  have hb56 := hHeld.2.2.1
  refine bodyPost_ret (v := .agg #[.slice (some ⟨g1, 0, none⟩) n2 k1, .slice (some ⟨g2, 0, none⟩) n1 k2]) (by simp [results, Try.results140, go_sem, y0, y1]) rfl ?_
  exact ⟨some ⟨g1, 0, none⟩, some ⟨g2, 0, none⟩, k1, k2, by rw [h1, h2], .inr ⟨g1, g2, rfl, rfl, by omega, by omega, by have := R1b.lt; simpa using this, by omega, by simpa using hl2, (R1b.other (by omega)).other (by omega), (R2.other (by omega)).other (by omega)⟩, hb56⟩
end Go.Proofs.Ytokjkcnjmfbfiaa
