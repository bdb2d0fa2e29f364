/- Texts of a proof, laid together. -/
import Derived.Test.YtnlclmlnpkncoaaGreatRows
import Derived.WalkKit
import Derived.Deep.RegionHeld
import Derived.ProofKit
import Derived.OpenShut
import Derived.Below
import Derived.Lib.SmallJoins
import Derived.Lib.Hide
import Derived.BigQuiet
import Derived.Deep.LoopGhost
import Derived.Deep.OwnRows
import Derived.Deep.QuietTactic
import Derived.Laws.OwnMore
import Derived.OwnWalk
import Derived.Outline
namespace Go.Proofs.YtnlclmlnpkncoaaGreat

section
variable {P : Program} {ops : Array Oper} {Q : Exit → Act → World → Prop} {md : Region.Mode} {S : World → Prop} {fuel : Nat} {listed l' : Array Bool} {a a' : Act} {w : World} {v : Value} {op : Op} {ty : TypeId} {ps : String} {af : Array Edge} {gd : Option (Nat × Bool)}
theorem tk (i d : Nat) (h : wpAnyH P md ops Q S fuel l' a' w)
    (hi : ops[i]? = some ⟨some d, op, ty, ps, af, gd⟩ := by rfl) (hs : Region.noSelect ops = true := by kernel_rfl) (hf : Region.free md ops listed i = true := by kernel_rfl) (hr : (Region.ready md ops listed).contains i = true := by kernel_rfl)
    (hw : Region.wanted ⟨some d, op, ty, ps, af, gd⟩ (yielded ops a.tmps) = true := by rfl)
    (hy : ∀ w, S w → (execOp a.eval ⟨some d, op, ty, ps, af, gd⟩).run P w = .ok (.value v) w := by intro w hSw; (try dsimp only at hSw); go_simp; (try (with_reducible rfl)))
    (ha : a.put (some d) v = a' := by first | (simp only [Act.put, List.setIfInBounds_toArray, List.set_cons_zero, List.set_cons_succ]; done) | (simp only [Act.put, List.setIfInBounds_toArray, List.set_cons_zero, List.set_cons_succ]; rfl) | rfl)
    (hl : listed.setIfInBounds i true = l' := by first | (simp only [List.setIfInBounds_toArray, List.set_cons_zero, List.set_cons_succ]; done) | (simp only [List.setIfInBounds_toArray, List.set_cons_zero, List.set_cons_succ]; rfl) | rfl)
    (hQ : ∀ c a w, Q (.panic c) (a.put (some d) v) w → Q (.panic c) a w := by first | exact fun _ _ _ h => h | exact fun _ _ _ h => absurd h.1 (by simp)) (hS : S w := by assumption) : wpAnyH P md ops Q S (fuel + 1) listed a w :=
  wpAnyH_take hi hs hf hr hQ (Or.inl ⟨hw, hy⟩) hS (by rw [hl]; exact ha ▸ h)
theorem tkv (i d : Nat) (h : wpAnyH P md ops Q S fuel l' a' w)
    (hi : ops[i]? = some ⟨some d, op, ty, ps, af, gd⟩ := by rfl) (hs : Region.noSelect ops = true := by kernel_rfl) (hf : Region.free md ops listed i = true := by kernel_rfl) (hr : (Region.ready md ops listed).contains i = true := by kernel_rfl)
    (hw : Region.wanted ⟨some d, op, ty, ps, af, gd⟩ (yielded ops a.tmps) = false := by rfl)
    (ha : a.put (some d) undef = a' := by first | (simp only [Act.put, List.setIfInBounds_toArray, List.set_cons_zero, List.set_cons_succ]; done) | (simp only [Act.put, List.setIfInBounds_toArray, List.set_cons_zero, List.set_cons_succ]; rfl) | rfl)
    (hl : listed.setIfInBounds i true = l' := by first | (simp only [List.setIfInBounds_toArray, List.set_cons_zero, List.set_cons_succ]; done) | (simp only [List.setIfInBounds_toArray, List.set_cons_zero, List.set_cons_succ]; rfl) | rfl)
    (hQ : ∀ c a w, Q (.panic c) (a.put (some d) undef) w → Q (.panic c) a w := by first | exact fun _ _ _ h => h | exact fun _ _ _ h => absurd h.1 (by simp)) (hS : S w := by assumption) : wpAnyH P md ops Q S (fuel + 1) listed a w :=
  wpAnyH_take hi hs hf hr hQ (Or.inr ⟨hw, rfl⟩) hS (by rw [hl]; exact ha ▸ h)
theorem rdk (i d : Nat) (h : ∀ K' : Act → World → Prop, Shut (∀ a w, S w → (S w → wpAnyH P md ops Q S fuel l' a w) → K' a w) → if Region.wanted ⟨some d, op, ty, ps, af, gd⟩ (yielded ops a.tmps) = true then Oper.wp P ⟨some d, op, ty, ps, af, gd⟩ a w K' Q else K' (a.put (some d) undef) w)
    (hi : ops[i]? = some ⟨some d, op, ty, ps, af, gd⟩ := by rfl) (hr : Region.ready md ops listed = [i] := by kernel_rfl) (hl : listed.setIfInBounds i true = l' := by first | (simp only [List.setIfInBounds_toArray, List.set_cons_zero, List.set_cons_succ]; done) | (simp only [List.setIfInBounds_toArray, List.set_cons_zero, List.set_cons_succ]; rfl) | rfl) : wpAnyH P md ops Q S (fuel + 1) listed a w := by
  subst hl
  exact wpAnyH_ready hr (by simp) (AllReadyH.cons hi h AllReadyH.nil)
theorem rdn (i : Nat) (h : ∀ K' : Act → World → Prop, Shut (∀ a w, S w → (S w → wpAnyH P md ops Q S fuel l' a w) → K' a w) → if Region.wanted ⟨none, op, ty, ps, af, gd⟩ (yielded ops a.tmps) = true then Oper.wp P ⟨none, op, ty, ps, af, gd⟩ a w K' Q else K' (a.put none undef) w)
    (hi : ops[i]? = some ⟨none, op, ty, ps, af, gd⟩ := by rfl) (hr : Region.ready md ops listed = [i] := by kernel_rfl) (hl : listed.setIfInBounds i true = l' := by first | (simp only [List.setIfInBounds_toArray, List.set_cons_zero, List.set_cons_succ]; done) | (simp only [List.setIfInBounds_toArray, List.set_cons_zero, List.set_cons_succ]; rfl) | rfl) : wpAnyH P md ops Q S (fuel + 1) listed a w := by
  subst hl
  exact wpAnyH_ready hr (by simp) (AllReadyH.cons hi h AllReadyH.nil)
theorem hko {K : Act → World → Prop} (hK : Shut (∀ a w, S w → (S w → wpAnyH P md ops Q S fuel listed a w) → K a w)) (hS : S w) (h : S w → wpAnyH P md ops Q S fuel listed a' w)
    (ha : a = a' := by first | (simp only [Act.put, List.setIfInBounds_toArray, List.set_cons_zero, List.set_cons_succ]; done) | (simp only [Act.put, List.setIfInBounds_toArray, List.set_cons_zero, List.set_cons_succ]; rfl) | rfl) : K a w := hK.out a w hS (ha ▸ h)
end
end Go.Proofs.YtnlclmlnpkncoaaGreat
namespace Go.Proofs.YtnlclmlnpkncoaaGreat
open Go.ChangeShapes Go.WideShapes Go.ChangeAt Go.RowKit
theorem own : ownKnob Tryz.prog.godebug = none := by kernel_rfl
theorem laidOut : laidOutB Tryz.prog = true := by kernel_rfl
theorem chain {W w1 w2 : World} (h1 : Below W.heap.size W w1) (h2 : Below w1.heap.size w1 w2) : Below W.heap.size W w2 :=
  h1.trans (h2.mono h1.size)
theorem chain_alloc {W w1 : World} (h1 : Below W.heap.size W w1) (o : Obj) : Below W.heap.size W (w1.alloc o) :=
  h1.alloc h1.size o
theorem from_alloc {w w1 : World} {o : Obj} (h : Below (w.alloc o).heap.size (w.alloc o) w1) : Below w.heap.size w w1 :=
  ((Below.refl _ _).alloc (Nat.le_refl _) _).trans (h.mono (by simp))
def Blk (w : World) (g : Nat) (vs : Array Value) (t : TypeId) : Prop := w.heap[g]? = some (.cells vs t (0, 0))
theorem Blk.lt {w : World} {g : Nat} {vs : Array Value} {t : TypeId} (h : Blk w g vs t) : g < w.heap.size := (Array.getElem?_eq_some_iff.1 h).1
theorem Blk.new (w : World) (vs : Array Value) (t : TypeId) : Blk (w.alloc (.cells vs t)) w.heap.size vs t := by
  show (w.heap.push (.cells vs t (0, 0)))[w.heap.size]? = _
  simp
theorem Blk.below {w w' : World} {g : Nat} {vs : Array Value} {t : TypeId} (h : Blk w g vs t) (hb : Below w.heap.size w w') : Blk w' g vs t := (hb.block g h.lt).trans h
theorem Blk.alloc {w : World} {g : Nat} {vs : Array Value} {t : TypeId} (h : Blk w g vs t) (o : Obj) : Blk (w.alloc o) g vs t := (Below.heap_alloc w o g h.lt).trans h
theorem Blk.drew {w : World} {g : Nat} {vs : Array Value} {t : TypeId} (h : Blk w g vs t) : Blk w.drew g vs t := h
theorem Blk.cell {w : World} {g : Nat} {vs : Array Value} {t : TypeId} (h : Blk w g vs t) (i : Nat) : w.cell? ⟨g, i, none⟩ = vs[i]? := Joins.cell_of_block h i
theorem Blk.free {w : World} {g : Nat} {vs : Array Value} {t : TypeId} (h : Blk w g vs t) (i : Nat) : w.frozen? ⟨g, i, none⟩ = false := Joins.unfrozen_of_block h i
theorem Blk.f1 {w : World} {g : Nat} {v0 : Value} {t : TypeId} {R : Prop} (h : Blk w g #[v0] t) (r : R) : w.cell? ⟨g, 0, none⟩ = some v0 ∧ R := ⟨h.cell 0, r⟩
theorem Blk.l1 {w : World} {g : Nat} {v0 : Value} {t : TypeId} (h : Blk w g #[v0] t) : w.cell? ⟨g, 0, none⟩ = some v0 := h.cell 0
theorem Blk.f2 {w : World} {g : Nat} {v0 v1 : Value} {t : TypeId} {R : Prop} (h : Blk w g #[v0, v1] t) (r : R) : w.cell? ⟨g, 0, none⟩ = some v0 ∧ w.cell? ⟨g, 1, none⟩ = some v1 ∧ R := ⟨h.cell 0, h.cell 1, r⟩
theorem Blk.l2 {w : World} {g : Nat} {v0 v1 : Value} {t : TypeId} (h : Blk w g #[v0, v1] t) : w.cell? ⟨g, 0, none⟩ = some v0 ∧ w.cell? ⟨g, 1, none⟩ = some v1 := ⟨h.cell 0, h.cell 1⟩
theorem Blk.f3 {w : World} {g : Nat} {v0 v1 v2 : Value} {t : TypeId} {R : Prop} (h : Blk w g #[v0, v1, v2] t) (r : R) : w.cell? ⟨g, 0, none⟩ = some v0 ∧ w.cell? ⟨g, 1, none⟩ = some v1 ∧ w.cell? ⟨g, 2, none⟩ = some v2 ∧ R := ⟨h.cell 0, h.cell 1, h.cell 2, r⟩
theorem Blk.l3 {w : World} {g : Nat} {v0 v1 v2 : Value} {t : TypeId} (h : Blk w g #[v0, v1, v2] t) : w.cell? ⟨g, 0, none⟩ = some v0 ∧ w.cell? ⟨g, 1, none⟩ = some v1 ∧ w.cell? ⟨g, 2, none⟩ = some v2 := ⟨h.cell 0, h.cell 1, h.cell 2⟩
theorem Blk.f4 {w : World} {g : Nat} {v0 v1 v2 v3 : Value} {t : TypeId} {R : Prop} (h : Blk w g #[v0, v1, v2, v3] t) (r : R) : w.cell? ⟨g, 0, none⟩ = some v0 ∧ w.cell? ⟨g, 1, none⟩ = some v1 ∧ w.cell? ⟨g, 2, none⟩ = some v2 ∧ w.cell? ⟨g, 3, none⟩ = some v3 ∧ R := ⟨h.cell 0, h.cell 1, h.cell 2, h.cell 3, r⟩
theorem Blk.l4 {w : World} {g : Nat} {v0 v1 v2 v3 : Value} {t : TypeId} (h : Blk w g #[v0, v1, v2, v3] t) : w.cell? ⟨g, 0, none⟩ = some v0 ∧ w.cell? ⟨g, 1, none⟩ = some v1 ∧ w.cell? ⟨g, 2, none⟩ = some v2 ∧ w.cell? ⟨g, 3, none⟩ = some v3 := ⟨h.cell 0, h.cell 1, h.cell 2, h.cell 3⟩
theorem Blk.four {w : World} {g : Nat} {v0 v1 v2 v3 : Value} {t : TypeId} (h : Blk w g #[v0, v1, v2, v3] t) :
    w.cell? ⟨g, 0, none⟩ = some v0 ∧ w.cell? ⟨g, 1, none⟩ = some v1 ∧ w.cell? ⟨g, 2, none⟩ = some v2 ∧ w.cell? ⟨g, 3, none⟩ = some v3 ∧ (∀ i, w.frozen? ⟨g, i, none⟩ = false) ∧ g < w.heap.size :=
  ⟨by simpa using h.cell 0, by simpa using h.cell 1, by simpa using h.cell 2, by simpa using h.cell 3, fun i => h.free i, h.lt⟩
theorem Blk.one {w : World} {g : Nat} {v0 : Value} {t : TypeId} (h : Blk w g #[v0] t) : w.cell? ⟨g, 0, none⟩ = some v0 ∧ (∀ i, w.frozen? ⟨g, i, none⟩ = false) ∧ g < w.heap.size :=
  ⟨by simpa using h.cell 0, fun i => h.free i, h.lt⟩
end Go.Proofs.YtnlclmlnpkncoaaGreat
namespace Go.Proofs.YtnlclmlnpkncoaaGreat
set_option maxRecDepth 20000
set_option linter.unusedVariables false
set_option linter.unusedSimpArgs false
/-! Division of two words by one. -/
theorem kd_init (u a b c : Nat) (ha : 0 < a) (hc : c < 4294967296) : (u * 4294967296 + c) / (a * 4294967296 + b) ≤ u / a := by
  rw [Nat.le_div_iff_mul_le ha]
  have h1 : (u * 4294967296 + c) / (a * 4294967296 + b) * (a * 4294967296 + b) ≤ u * 4294967296 + c := Nat.div_mul_le_self _ _
  generalize (u * 4294967296 + c) / (a * 4294967296 + b) = t at *
  rw [Nat.mul_add, ← Nat.mul_assoc] at h1
  omega
theorem kd_le (q a b c r u : Nat) (he : q * a + r = u) (h : q * b ≤ 4294967296 * r + c) : q * (a * 4294967296 + b) ≤ u * 4294967296 + c := by
  subst he
  rw [Nat.mul_add, ← Nat.mul_assoc, Nat.add_mul]
  omega
theorem kd_lt (q a b c r u : Nat) (he : q * a + r = u) (h : 4294967296 * r + c < q * b) : u * 4294967296 + c < q * (a * 4294967296 + b) := by
  subst he
  rw [Nat.mul_add, ← Nat.mul_assoc, Nat.add_mul]
  omega
theorem kd_exit (q a b c r u : Nat) (ha : 0 < a) (he : q * a + r = u) (hq : (u * 4294967296 + c) / (a * 4294967296 + b) ≤ q) (h : q * b ≤ 4294967296 * r + c) :
    (u * 4294967296 + c) / (a * 4294967296 + b) = q := by
  refine Nat.le_antisymm hq ?_
  rw [Nat.le_div_iff_mul_le (by omega)]
  exact kd_le q a b c r u he h
theorem kd_dec (q a b c r u : Nat) (ha : 0 < a) (he : q * a + r = u) (hq : (u * 4294967296 + c) / (a * 4294967296 + b) ≤ q) (h : 4294967296 * r + c < q * b) :
    (u * 4294967296 + c) / (a * 4294967296 + b) < q := by
  rw [Nat.div_lt_iff_lt_mul (by omega)]
  exact kd_lt q a b c r u he h
theorem kd_small (a b c u : Nat) (hc : c < 4294967296) (hu : u < a * 4294967296 + b) : (u * 4294967296 + c) / (a * 4294967296 + b) < 4294967296 := by
  rw [Nat.div_lt_iff_lt_mul (by omega)]
  omega
theorem kd_word (q a b r u : Nat) (hb : b < 4294967296) (he : q * a + r = u) (hu : u < a * 4294967296 + b) (hr : 4294967296 ≤ r) : q < 4294967296 := by
  rcases Nat.lt_or_ge q 4294967296 with h | h
  · exact h
  · have := Nat.mul_le_mul_right a h
    omega
theorem kd_break (q a b c r u : Nat) (ha : 0 < a) (hb : b < 4294967296) (he : q * a + r = u) (hq : (u * 4294967296 + c) / (a * 4294967296 + b) ≤ q) (hu : u < a * 4294967296 + b) (hr : 4294967296 ≤ r) :
    (u * 4294967296 + c) / (a * 4294967296 + b) = q := by
  refine kd_exit q a b c r u ha he hq ?_
  have h1 := kd_word q a b r u hb he hu hr
  have h2 : q * b ≤ 4294967295 * 4294967295 := Nat.mul_le_mul (by omega) (by omega)
  omega
theorem kd_rest (U V : Nat) : U - U / V * V = U % V := by
  have := Nat.mod_add_div U V
  rw [Nat.mul_comm] at this
  omega
theorem kd_two (A c V : Nat) (hV : 0 < V) : A / V * 4294967296 + (A % V * 4294967296 + c) / V = (A * 4294967296 + c) / V ∧ (A % V * 4294967296 + c) % V = (A * 4294967296 + c) % V := by
  have h : A * 4294967296 + c = A % V * 4294967296 + c + V * (A / V * 4294967296) := by
    have := Nat.mod_add_div A V
    have h2 : V * (A / V * 4294967296) = V * (A / V) * 4294967296 := by rw [Nat.mul_assoc]
    rw [h2]
    omega
  rw [h]
  refine ⟨?_, ?_⟩
  · rw [Nat.add_mul_div_left _ _ hV, Nat.add_comm]
  · rw [Nat.add_mul_mod_self_left]
theorem kd_all (N y s : Nat) (hs : 0 < s) : N * s / (y * s) = N / y ∧ N * s % (y * s) / s = N % y := by
  refine ⟨Nat.mul_div_mul_right _ _ hs, ?_⟩
  rw [Nat.mul_mod_mul_right, Nat.mul_div_cancel _ hs]
/-! Reduction of a number. -/
def rdN (B : Nat) : Nat → Nat → Nat × Nat
  | m, 0 => (m, 0)
  | m, D + 1 => if m % B = 0 then rdN B (m / B) D else (m, D + 1)
theorem rdN_stop {B m D : Nat} (h : m % B ≠ 0) : rdN B m D = (m, D) := by
  cases D with
  | zero => rfl
  | succ D => rw [rdN, if_neg h]
theorem rdN_go {B m D : Nat} (h : m % B = 0) : rdN B m (D + 1) = rdN B (m / B) D := by
  rw [rdN, if_pos h]
theorem rdN_le (B : Nat) : ∀ D m : Nat, (rdN B m D).2 ≤ D ∧ (rdN B m D).1 ≤ m
  | 0, m => ⟨Nat.le_refl _, Nat.le_refl _⟩
  | D + 1, m => by
    by_cases h : m % B = 0
    · rw [rdN_go h]
      have := rdN_le B D (m / B)
      have h2 := Nat.div_le_self m B
      omega
    · rw [rdN_stop h]
      exact ⟨Nat.le_refl _, Nat.le_refl _⟩
theorem rdN_spec (B : Nat) : ∀ D m : Nat, m = (rdN B m D).1 * B ^ (D - (rdN B m D).2) ∧ ((rdN B m D).2 = 0 ∨ (rdN B m D).1 % B ≠ 0)
  | 0, m => ⟨by simp [rdN], .inl rfl⟩
  | D + 1, m => by
    by_cases h : m % B = 0
    · rw [rdN_go h]
      have hl := (rdN_le B D (m / B)).1
      obtain ⟨h1, h2⟩ := rdN_spec B D (m / B)
      refine ⟨?_, h2⟩
      rw [show D + 1 - (rdN B (m / B) D).2 = D - (rdN B (m / B) D).2 + 1 by omega, Nat.pow_succ, ← Nat.mul_assoc, ← h1]
      exact (Nat.div_mul_cancel (Nat.dvd_of_mod_eq_zero h)).symm
    · rw [rdN_stop h]
      exact ⟨by simp, .inr h⟩
theorem rdN_uniq {B : Nat} (hB : 0 < B) : ∀ {D m q k : Nat}, k ≤ D → m = q * B ^ (D - k) → (k = 0 ∨ q % B ≠ 0) → rdN B m D = (q, k)
  | 0, m, q, k, h1, h2, h3 => by
    obtain rfl : k = 0 := by omega
    rw [rdN, h2]
    simp
  | D + 1, m, q, k, h1, h2, h3 => by
    by_cases hk : k = D + 1
    · subst hk
      rw [Nat.sub_self, Nat.pow_zero, Nat.mul_one] at h2
      subst h2
      exact rdN_stop (by omega)
    · have e : D + 1 - k = D - k + 1 := by omega
      rw [e, Nat.pow_succ, ← Nat.mul_assoc] at h2
      have hd : m % B = 0 := by rw [h2]; exact Nat.mul_mod_left _ _
      rw [rdN_go hd]
      refine rdN_uniq hB (by omega) ?_ h3
      rw [h2, Nat.mul_div_cancel _ hB]
theorem fit_iff {B a b N D k : Nat} (hB : 0 < B) (hb : 0 < b) (hco : Nat.Coprime a b) (h : a * B ^ D = N * b) (hk : k ≤ D) : B ^ k % b = 0 ↔ N % B ^ (D - k) = 0 := by
  have e : B ^ D = B ^ k * B ^ (D - k) := by rw [← Nat.pow_add]; congr 1; omega
  have hp : 0 < B ^ (D - k) := Nat.pow_pos hB
  constructor
  · intro h1
    obtain ⟨t, ht⟩ := Nat.dvd_of_mod_eq_zero h1
    have h2 : N * b = (a * t * B ^ (D - k)) * b := by
      rw [← h, e, ht]
      simp only [Nat.mul_assoc, Nat.mul_comm, Nat.mul_left_comm]
    have h3 := Nat.eq_of_mul_eq_mul_right hb h2
    rw [h3]
    exact Nat.mul_mod_left _ _
  · intro h1
    obtain ⟨q, hq⟩ := Nat.dvd_of_mod_eq_zero h1
    have h2 : (a * B ^ k) * B ^ (D - k) = (q * b) * B ^ (D - k) := by
      rw [Nat.mul_assoc, ← e, h, hq]
      simp only [Nat.mul_assoc, Nat.mul_comm, Nat.mul_left_comm]
    have h3 := Nat.eq_of_mul_eq_mul_right hp h2
    have h4 : b ∣ a * B ^ k := ⟨q, by rw [h3, Nat.mul_comm]⟩
    exact Nat.mod_eq_zero_of_dvd (hco.symm.dvd_of_dvd_mul_left h4)
theorem fit_end {B a b N D k : Nat} (hB : 0 < B) (hb : 0 < b) (hco : Nat.Coprime a b) (h : a * B ^ D = N * b) (hk : k ≤ D) (h1 : B ^ k % b = 0) (h0 : ∀ j, j < k → B ^ j % b ≠ 0) :
    rdN B N D = (a * (B ^ k / b), k) := by
  have e : B ^ D = B ^ k * B ^ (D - k) := by rw [← Nat.pow_add]; congr 1; omega
  have hN : N = a * (B ^ k / b) * B ^ (D - k) := by
    obtain ⟨t, ht⟩ := Nat.dvd_of_mod_eq_zero h1
    rw [ht, Nat.mul_div_cancel_left _ hb]
    refine Nat.eq_of_mul_eq_mul_right hb ?_
    rw [← h, e, ht]
    simp only [Nat.mul_assoc, Nat.mul_comm, Nat.mul_left_comm]
  refine rdN_uniq hB hk hN ?_
  rcases Nat.eq_zero_or_pos k with hk0 | hk0
  · exact .inl hk0
  · refine .inr fun hz => ?_
    refine h0 (k - 1) (by omega) ?_
    rw [fit_iff hB hb hco h (by omega)]
    obtain ⟨q, hq⟩ := Nat.dvd_of_mod_eq_zero hz
    rw [hN, hq, show D - (k - 1) = D - k + 1 by omega, Nat.pow_succ]
    refine Nat.mod_eq_zero_of_dvd ⟨q, ?_⟩
    simp only [Nat.mul_assoc, Nat.mul_comm, Nat.mul_left_comm]
/-! Numbers of a variant of S sides: the base is S * S. -/
def nn : Nat → Nat
  | 1 => 61
  | 2 => 25
  | 3 => 16
  | 4 => 13
  | 5 => 11
  | 6 => 10
  | _ => 0
def scN (S k : Nat) : Nat := (S * S) ^ k
theorem scN_zero (S : Nat) : scN S 0 = 1 := rfl
theorem scN_succ (S k : Nat) : scN S (k + 1) = scN S k * (S * S) := Nat.pow_succ ..
theorem scN_add (S j k : Nat) : scN S (j + k) = scN S j * scN S k := Nat.pow_add ..
theorem scN_pos {S : Nat} (hS : 1 ≤ S) (k : Nat) : 1 ≤ scN S k := Nat.pow_pos (Nat.mul_pos hS hS)
theorem nn_range {S : Nat} (hS : 1 ≤ S ∧ S ≤ 6) : 10 ≤ nn S ∧ nn S ≤ 61 := by
  have h : S = 1 ∨ S = 2 ∨ S = 3 ∨ S = 4 ∨ S = 5 ∨ S = 6 := by omega
  rcases h with rfl | rfl | rfl | rfl | rfl | rfl <;> decide
theorem base_range {S : Nat} (hS : 1 ≤ S ∧ S ≤ 6) : 1 ≤ S * S ∧ S * S ≤ 36 := by
  have h : S = 1 ∨ S = 2 ∨ S = 3 ∨ S = 4 ∨ S = 5 ∨ S = 6 := by omega
  rcases h with rfl | rfl | rfl | rfl | rfl | rfl <;> decide
theorem scN_top {S : Nat} (hS : 1 ≤ S ∧ S ≤ 6) : scN S (nn S - 1) ≤ 1000000000000000 ∧ (2 ≤ S → 1000000000000000 < scN S (nn S)) := by
  have h : S = 1 ∨ S = 2 ∨ S = 3 ∨ S = 4 ∨ S = 5 ∨ S = 6 := by omega
  rcases h with rfl | rfl | rfl | rfl | rfl | rfl <;> decide
theorem scN_mono {S j k : Nat} (hS : 1 ≤ S) (h : j ≤ k) : scN S j ≤ scN S k := Nat.pow_le_pow_right (Nat.mul_pos hS hS) h
theorem scN_in {S k : Nat} (hS : 1 ≤ S ∧ S ≤ 6) (h : k < nn S) : scN S k ≤ 1000000000000000 :=
  Nat.le_trans (scN_mono hS.1 (by omega)) (scN_top hS).1
theorem scN_dvd (S : Nat) {j k : Nat} (h : j ≤ k) : scN S k = scN S j * scN S (k - j) := by
  rw [← scN_add]; congr 1; omega
def xvB (S : Nat) (n d : Int) : Bool := decide (0 ≤ d ∧ d < nn S ∧ -1000000000000000000 ≤ n ∧ n ≤ 1000000000000000000 ∧ (d = 0 ∨ n % ((S * S : Nat) : Int) ≠ 0))
def sgI (n : Int) (m : Nat) : Int := if n < 0 then -(m : Int) else m
def rdX (S : Nat) (N : Int) (D : Nat) : Option (Int × Int) :=
  if (rdN (S * S) N.natAbs D).2 < nn S ∧ (rdN (S * S) N.natAbs D).1 ≤ 1000000000000000000 then some (sgI N (rdN (S * S) N.natAbs D).1, ((rdN (S * S) N.natAbs D).2 : Int)) else none
def xoN (o : Option (Int × Int)) : Int := match o with | some r => r.1 | none => 0
def xoD (o : Option (Int × Int)) : Int := match o with | some r => r.2 | none => 0
def xoE (o : Option (Int × Int)) (c : Int) : Int := match o with | some _ => 0 | none => c
def adX (S : Nat) (a : Int) (i : Nat) (b : Int) (j : Nat) : Option (Int × Int) :=
  if i ≤ j then (if 2000000000000000000 < (a * (scN S (j - i) : Int)).natAbs then none else rdX S (a * (scN S (j - i) : Int) + b) j)
  else (if 2000000000000000000 < (b * (scN S (i - j) : Int)).natAbs then none else rdX S (b * (scN S (i - j) : Int) + a) i)
end Go.Proofs.YtnlclmlnpkncoaaGreat
namespace Go.Proofs.YtnlclmlnpkncoaaGreat
open Go.ChangeShapes Go.WideShapes Go.ChangeAt Go.RowKit
set_option linter.unusedVariables false
theorem below_of_grown {B g : Nat} {w w' : World} (h : w.grownBy w' (some g)) (hB : B ≤ w.heap.size) (hg : B ≤ g) : Below B w w' :=
  (Below.refl B w).grown h hB (fun k hk => by cases hk; exact hg)
theorem grown_refl (w : World) (r : Option Nat) : w.grownBy w r := ⟨rfl, rfl, rfl, Nat.le_refl _, fun _ _ _ => rfl⟩
theorem grown_trans {w w1 w2 : World} {r : Option Nat} (h : w.grownBy w1 r) (k : w1.grownBy w2 r) : w.grownBy w2 r :=
  ⟨k.os.trans h.os, k.tape.trans h.tape, k.output.trans h.output, Nat.le_trans h.size k.size, fun i hi hr => (k.block i (Nat.lt_of_lt_of_le hi h.size) hr).trans (h.block i hi hr)⟩
theorem grown_set {w w1 : World} {g o : Nat} {v : Value} (h : w.grownBy w1 (some g)) : w.grownBy (w1.setCell ⟨g, o, none⟩ v) (some g) := by
  have hb := Below.setCell (Below.refl g w1) (p := ⟨g, o, none⟩) (Nat.le_refl _) v
  refine ⟨hb.os.trans h.os, hb.tape.trans h.tape, hb.output.trans h.output, Nat.le_trans h.size hb.size, fun i hi hr => ?_⟩
  rw [Below.heap_setCell w1 ⟨g, o, none⟩ v i (fun e => hr (by rw [e]))]
  exact h.block i hi hr
theorem grown_drew {w w1 : World} {r : Option Nat} (h : w.grownBy w1 r) : w.grownBy w1.drew r := ⟨h.os, h.tape, h.output, h.size, h.block⟩
theorem grown_drewN {w w1 : World} {r : Option Nat} (h : w.grownBy w1 r) (n : Nat) : w.grownBy (w1.drewN n) r := by
  induction n with
  | zero => exact h
  | succ n ih => exact grown_drew ih
theorem below_drewN {B : Nat} {w w1 : World} (h : Below B w w1) (n : Nat) : Below B w (w1.drewN n) := by
  induction n with
  | zero => exact h
  | succ n ih => exact ih.drew
theorem grown_alloc {w w1 : World} {r : Option Nat} (h : w.grownBy w1 r) (o : Obj) : w.grownBy (w1.alloc o) r := grown_trans h (World.grownBy_alloc w1 o r)
theorem grown_of_below {w w' : World} (h : Below w.heap.size w w') (r : Option Nat) : w.grownBy w' r := ⟨h.os, h.tape, h.output, h.size, fun i hi _ => h.block i hi⟩
theorem chain_grown {w w1 w2 : World} {g : Nat} (h : Below w.heap.size w w1) (k : w1.grownBy w2 (some g)) (hg : w.heap.size ≤ g) : Below w.heap.size w w2 :=
  h.grown k h.size (fun i hi => by cases hi; exact hg)
theorem Blk.set {w : World} {g i : Nat} {vs : Array Value} {t : TypeId} (h : Blk w g vs t) (v : Value) : Blk (w.setCell ⟨g, i, none⟩ v) g (vs.setIfInBounds i v) t := Joins.block_setCell h v
theorem Blk.other {w : World} {g g' o : Nat} {vs : Array Value} {t : TypeId} {v : Value} (h : Blk w g' vs t) (hne : g' ≠ g) : Blk (w.setCell ⟨g, o, none⟩ v) g' vs t :=
  (Below.heap_setCell w ⟨g, o, none⟩ v g' hne).trans h
theorem Blk.drewN {w : World} {g : Nat} {vs : Array Value} {t : TypeId} (h : Blk w g vs t) (n : Nat) : Blk (w.drewN n) g vs t := by
  induction n with
  | zero => exact h
  | succ n ih => exact ih
theorem Blk.grown {w w' : World} {g g' : Nat} {vs : Array Value} {t : TypeId} (h : Blk w g' vs t) (hg : w.grownBy w' (some g)) (hne : g' ≠ g) : Blk w' g' vs t :=
  (hg.block g' h.lt (fun e => hne (by cases e; rfl))).trans h
theorem Blk.two {w : World} {g : Nat} {v0 v1 : Value} {t : TypeId} (h : Blk w g #[v0, v1] t) :
    w.cell? ⟨g, 0, none⟩ = some v0 ∧ w.cell? ⟨g, 1, none⟩ = some v1 ∧ (∀ i, w.frozen? ⟨g, i, none⟩ = false) ∧ g < w.heap.size :=
  ⟨by simpa using h.cell 0, by simpa using h.cell 1, fun i => h.free i, h.lt⟩
def ints (xs : List Int) : List Value := xs.map (Value.int .i64)
theorem ints_length (xs : List Int) : (ints xs).length = xs.length := by simp [ints]
theorem ints_set (xs : List Int) (i : Nat) (v : Int) : ints (xs.set i v) = (ints xs).set i (.int .i64 v) := by simp [ints, List.map_set]
def IRow (w : World) (a : Option Addr) (xs : List Int) : Prop :=
  ∀ i, i < xs.length → ∃ b o, a = some ⟨b, o, none⟩ ∧ w.cell? ⟨b, o + i, none⟩ = some (.int .i64 (xs.getD i 0))
theorem IRow.below {w w' : World} {a : Option Addr} {xs : List Int} (h : IRow w a xs) (hb : Below w.heap.size w w') : IRow w' a xs := fun i hi => by
  obtain ⟨b, o, e, hc⟩ := h i hi
  exact ⟨b, o, e, by rw [hb.cell (p := ⟨b, o + i, none⟩) (World.block_lt_of_cell? w _ hc)]; exact hc⟩
theorem IRow.drew {w : World} {a : Option Addr} {xs : List Int} (h : IRow w a xs) : IRow w.drew a xs := h
theorem IRow.alloc {w : World} {a : Option Addr} {xs : List Int} (h : IRow w a xs) (o : Obj) : IRow (w.alloc o) a xs := h.below ((Below.refl _ _).alloc (Nat.le_refl _) o)
theorem IRow.nil (w : World) (a : Option Addr) : IRow w a [] := fun i hi => by simp at hi
def Row (w : World) (g : Nat) (xs : List Int) : Prop := ∃ cur : Array Value, Blk w g cur 2 ∧ xs.length ≤ cur.size ∧ cur.toList.take xs.length = ints xs
theorem Row.lt {w : World} {g : Nat} {xs : List Int} (h : Row w g xs) : g < w.heap.size := by obtain ⟨c, hB, _⟩ := h; exact hB.lt
theorem Row.below {w w' : World} {g : Nat} {xs : List Int} (h : Row w g xs) (hb : Below w.heap.size w w') : Row w' g xs := by
  obtain ⟨c, hB, h1, h2⟩ := h; exact ⟨c, hB.below hb, h1, h2⟩
theorem Row.alloc {w : World} {g : Nat} {xs : List Int} (h : Row w g xs) (o : Obj) : Row (w.alloc o) g xs := by
  obtain ⟨c, hB, h1, h2⟩ := h; exact ⟨c, hB.alloc o, h1, h2⟩
theorem Row.drew {w : World} {g : Nat} {xs : List Int} (h : Row w g xs) : Row w.drew g xs := h
theorem Row.drewN {w : World} {g : Nat} {xs : List Int} (h : Row w g xs) (n : Nat) : Row (w.drewN n) g xs := by
  obtain ⟨c, hB, h1, h2⟩ := h; exact ⟨c, hB.drewN n, h1, h2⟩
theorem Row.grown {w w' : World} {g g' : Nat} {xs : List Int} (h : Row w g' xs) (hg : w.grownBy w' (some g)) (hne : g' ≠ g) : Row w' g' xs := by
  obtain ⟨c, hB, h1, h2⟩ := h; exact ⟨c, hB.grown hg hne, h1, h2⟩
theorem Row.other {w : World} {g g' o : Nat} {xs : List Int} {v : Value} (h : Row w g' xs) (hne : g' ≠ g) : Row (w.setCell ⟨g, o, none⟩ v) g' xs := by
  obtain ⟨c, hB, h1, h2⟩ := h
  exact ⟨c, (Below.heap_setCell w ⟨g, o, none⟩ v g' hne).trans hB, h1, h2⟩
theorem Row.cell {w : World} {g : Nat} {xs : List Int} (h : Row w g xs) (i : Nat) (hi : i < xs.length) : w.cell? ⟨g, i, none⟩ = some (.int .i64 (xs.getD i 0)) := by
  obtain ⟨c, hB, h1, h2⟩ := h
  rw [hB.cell i]
  have : (cur_take : List Value) → True := fun _ => trivial
  have h3 : (c.toList.take xs.length)[i]? = c[i]? := by rw [List.getElem?_take_of_lt hi]; simp
  rw [← h3, h2]
  simp [ints, hi]
theorem Row.free {w : World} {g : Nat} {xs : List Int} (h : Row w g xs) (i : Nat) : w.frozen? ⟨g, i, none⟩ = false := by
  obtain ⟨c, hB, _, _⟩ := h; exact hB.free i
theorem Row.irow {w : World} {g : Nat} {xs : List Int} (h : Row w g xs) : IRow w (some ⟨g, 0, none⟩) xs := fun i hi => ⟨g, 0, rfl, by rw [Nat.zero_add]; exact h.cell i hi⟩
theorem Row.set {w : World} {g : Nat} {xs : List Int} (h : Row w g xs) (i : Nat) (v : Int) : Row (w.setCell ⟨g, i, none⟩ (.int .i64 v)) g (xs.set i v) := by
  obtain ⟨c, hB, h1, h2⟩ := h
  refine ⟨_, hB.set (i := i) (.int .i64 v), by simpa using h1, ?_⟩
  rw [List.length_set, ints_set, ← h2, Array.toList_setIfInBounds, List.take_set]
theorem Row.new (w : World) (xs : List Int) : Row (w.alloc (.cells (ints xs).toArray 2)) w.heap.size xs :=
  ⟨_, Blk.new w _ _, by simp [ints_length], by simp [List.take_of_length_le, ints_length]⟩
theorem Row.wf {w : World} {g : Nat} {xs ys : List Int} (h : Row w g xs) (e : xs = ys) : Row w g ys := e ▸ h
theorem infoI64 : (Tryz.prog.info? 2).map (fun i => (i.zero, i.size, i.bytes)) = some (some (.int .i64 0), 1, 8) := by kernel_rfl
theorem made_row (w : World) (n : Nat) : Row (w.alloc (.cells (madeCells #[.int .i64 0] n) 2)) w.heap.size (List.replicate n 0) :=
  ⟨_, Blk.new w _ _, by
    have := congrArg List.length (toList_madeCells_one (.int .i64 0) n)
    simp at this ⊢
    omega, by
    rw [toList_madeCells_one]
    simp [ints]⟩
theorem two_new (w : World) (v1 v2 : Array Value) (t1 t2 : TypeId) : Blk ((w.alloc (.cells v1 t1)).alloc (.cells v2 t2)) w.heap.size v1 t1 ∧ Blk ((w.alloc (.cells v1 t1)).alloc (.cells v2 t2)) (w.heap.size + 1) v2 t2 ∧
    Below w.heap.size w ((w.alloc (.cells v1 t1)).alloc (.cells v2 t2)) ∧ ((w.alloc (.cells v1 t1)).alloc (.cells v2 t2)).heap.size = w.heap.size + 1 + 1 := by
  refine ⟨(Blk.new w _ _).alloc _, ?_, ((Below.refl _ _).alloc (Nat.le_refl _) _).alloc (by simp) _, by simp⟩
  have := Blk.new (w.alloc (.cells v1 t1)) v2 t2
  simpa using this
theorem three_new (w : World) (v1 v2 v3 : Array Value) (t1 t2 t3 : TypeId) : Blk (((w.alloc (.cells v1 t1)).alloc (.cells v2 t2)).alloc (.cells v3 t3)) w.heap.size v1 t1 ∧ Blk (((w.alloc (.cells v1 t1)).alloc (.cells v2 t2)).alloc (.cells v3 t3)) (w.heap.size + 1) v2 t2 ∧
    Blk (((w.alloc (.cells v1 t1)).alloc (.cells v2 t2)).alloc (.cells v3 t3)) (w.heap.size + 1 + 1) v3 t3 ∧ Below w.heap.size w (((w.alloc (.cells v1 t1)).alloc (.cells v2 t2)).alloc (.cells v3 t3)) ∧ (((w.alloc (.cells v1 t1)).alloc (.cells v2 t2)).alloc (.cells v3 t3)).heap.size = w.heap.size + 1 + 1 + 1 := by
  obtain ⟨h1, h2, h3, h4⟩ := two_new w v1 v2 t1 t2
  refine ⟨h1.alloc _, h2.alloc _, ?_, h3.alloc h3.size _, by simp⟩
  have := Blk.new ((w.alloc (.cells v1 t1)).alloc (.cells v2 t2)) v3 t3
  rw [h4] at this
  exact this
theorem IRow.wf {w : World} {a : Option Addr} {xs ys : List Int} (h : IRow w a xs) (e : xs = ys) : IRow w a ys := e ▸ h
end Go.Proofs.YtnlclmlnpkncoaaGreat
