/- Chapter 13: the runs of a block and their bytes (mathematics), and how bytes are appended. -/
import Derived.Test.Ytgohipfaojiilaa13a
namespace Go.Proofs.Ytgohipfaojiilaa
open Go.ChangeShapes Go.WideShapes Go.ChangeAt Go.RowKit
set_option linter.unusedVariables false
set_option linter.unusedSimpArgs false
set_option maxRecDepth 4000

/-- How many bytes at the beginning are equal: from n on, at most m more. -/
def rnL (ys : List Int) : Nat → Nat → Nat
  | 0, n => n
  | m + 1, n => if n < ys.length ∧ ys.getD n 0 = ys.getD 0 0 then rnL ys m (n + 1) else n
def rnA (ys : List Int) : Nat := rnL ys 254 1
theorem rnL_low (ys : List Int) : ∀ m n, n ≤ rnL ys m n
  | 0, n => Nat.le_refl n
  | m + 1, n => by
    rw [rnL]
    split
    · have := rnL_low ys m (n + 1); omega
    · omega
theorem rnL_high (ys : List Int) : ∀ m n, rnL ys m n ≤ n + m
  | 0, n => Nat.le_refl n
  | m + 1, n => by
    rw [rnL]
    split
    · have := rnL_high ys m (n + 1); omega
    · omega
theorem rnL_len (ys : List Int) : ∀ m n, n ≤ ys.length → rnL ys m n ≤ ys.length
  | 0, n, h => h
  | m + 1, n, h => by
    rw [rnL]
    split
    · rename_i g; exact rnL_len ys m (n + 1) (by omega)
    · exact h
theorem rnA_bnd (ys : List Int) : 1 ≤ rnA ys ∧ rnA ys ≤ 255 := ⟨rnL_low ys 254 1, rnL_high ys 254 1⟩
theorem rnA_len (ys : List Int) (h : ys ≠ []) : rnA ys ≤ ys.length := rnL_len ys 254 1 (by
  have := List.length_pos_iff.2 h
  omega)
def pkF : Nat → List Int → List Int
  | 0, _ => []
  | f + 1, ys => if ys = [] then [] else (rnA ys : Int) :: ys.getD 0 0 :: pkF f (ys.drop (rnA ys))
/-- The compressed block. -/
def pk (ys : List Int) : List Int := pkF ys.length ys
theorem pkF_more : ∀ (f f' : Nat) (ys : List Int), ys.length ≤ f → ys.length ≤ f' → pkF f ys = pkF f' ys
  | 0, 0, _, _, _ => rfl
  | 0, f' + 1, ys, h, _ => by
    obtain rfl : ys = [] := List.eq_nil_of_length_eq_zero (by omega)
    rfl
  | f + 1, 0, ys, _, h => by
    obtain rfl : ys = [] := List.eq_nil_of_length_eq_zero (by omega)
    rfl
  | f + 1, f' + 1, ys, h, h' => by
    rw [pkF, pkF]
    by_cases g : ys = []
    · rw [if_pos g, if_pos g]
    · rw [if_neg g, if_neg g]
      have h1 := rnA_bnd ys
      have hp := List.length_pos_iff.2 g
      rw [pkF_more f f' (ys.drop (rnA ys)) (by rw [List.length_drop]; omega) (by rw [List.length_drop]; omega)]
theorem pk_nil : pk [] = [] := rfl
theorem pk_step (ys : List Int) (h : ys ≠ []) : pk ys = (rnA ys : Int) :: ys.getD 0 0 :: pk (ys.drop (rnA ys)) := by
  have hp := List.length_pos_iff.2 h
  have h1 := rnA_bnd ys
  unfold pk
  obtain ⟨n, hn⟩ : ∃ n, ys.length = n + 1 := ⟨ys.length - 1, by omega⟩
  rw [hn, pkF, if_neg h, pkF_more n (ys.drop (rnA ys)).length _ (by rw [List.length_drop]; omega) (Nat.le_refl _)]
theorem pk_len : ∀ (n : Nat) (ys : List Int), ys.length = n → (pk ys).length ≤ 2 * ys.length := by
  intro n
  induction n using Nat.strongRecOn with
  | _ n ih =>
    intro ys hn
    by_cases g : ys = []
    · subst g; simp [pk_nil]
    · have h1 := rnA_bnd ys
      have hp := List.length_pos_iff.2 g
      have := ih (ys.drop (rnA ys)).length (by rw [List.length_drop]; omega) _ rfl
      rw [pk_step ys g]
      simp only [List.length_cons, List.length_drop] at this ⊢
      omega
theorem pk_even : ∀ (n : Nat) (ys : List Int), ys.length = n → (pk ys).length % 2 = 0 := by
  intro n
  induction n using Nat.strongRecOn with
  | _ n ih =>
    intro ys hn
    by_cases g : ys = []
    · subst g; simp [pk_nil]
    · have h1 := rnA_bnd ys
      have hp := List.length_pos_iff.2 g
      have := ih (ys.drop (rnA ys)).length (by rw [List.length_drop]; omega) _ rfl
      rw [pk_step ys g]
      simp only [List.length_cons] at this ⊢
      omega
theorem bys_drop {ys : List Int} (h : Bys ys) (k : Nat) : Bys (ys.drop k) := fun i hi => by
  have hi2 : k + i < ys.length := by rw [List.length_drop] at hi; omega
  have e : (ys.drop k).getD i 0 = ys.getD (k + i) 0 := by simp [List.getElem?_drop]
  rw [e]
  exact h _ hi2
theorem bys_cons {x : Int} {ys : List Int} (hx : 0 ≤ x ∧ x ≤ 255) (h : Bys ys) : Bys (x :: ys) := fun i hi => by
  cases i with
  | zero => simpa using hx
  | succ j => simpa using h j (by simpa using hi)
theorem bys_pk : ∀ (n : Nat) (ys : List Int), ys.length = n → Bys ys → Bys (pk ys) := by
  intro n
  induction n using Nat.strongRecOn with
  | _ n ih =>
    intro ys hn hb
    by_cases g : ys = []
    · subst g; intro i hi; simp [pk_nil] at hi
    · have h1 := rnA_bnd ys
      have hp := List.length_pos_iff.2 g
      rw [pk_step ys g]
      exact bys_cons (by omega) (bys_cons (hb 0 (by omega)) (ih (ys.drop (rnA ys)).length (by rw [List.length_drop]; omega) _ rfl (bys_drop hb _)))
theorem getD_drop0 (ys : List Int) (i n : Nat) : (ys.drop i).getD n 0 = ys.getD (i + n) 0 := by simp [List.getElem?_drop]
theorem B8.IRow.low {w w' : World} {a : Option Addr} {xs : List Int} {E : Nat} (h : B8.IRow w a xs) (hE : ∀ b o, a = some ⟨b, o, none⟩ → 0 < xs.length → b < E) (hb : Below E w w') : B8.IRow w' a xs := fun i hi => by
  obtain ⟨b, o, e, hc⟩ := h i hi
  have hlt := hE b o e (by omega)
  refine ⟨b, o, e, ?_⟩
  rw [World.cell?_of_block (w := w) (hb.block b hlt)]
  exact hc
theorem B8.irow_lt {w : World} {a : Option Addr} {xs : List Int} (h : B8.IRow w a xs) : ∀ b o, a = some ⟨b, o, none⟩ → 0 < xs.length → b < w.heap.size := fun b o e hl => by
  obtain ⟨b', o', e', hc⟩ := h 0 hl
  rw [e] at e'
  cases e'
  exact World.block_lt_of_cell? w _ hc
theorem B8.ints_app (xs ys : List Int) : B8.ints (xs ++ ys) = B8.ints xs ++ B8.ints ys := by simp [B8.ints]
theorem B8.ints_one (l : List Int) : ∀ y ∈ B8.ints l, y.oneCell' = true := by
  intro y hy
  simp [B8.ints] at hy
  obtain ⟨x, _, rfl⟩ := hy
  rfl
/-- Several bytes appended: 'out = append(out, list...)'. -/
theorem wp_pushAll8 {ops : Array Oper} {rest : List Oper} {o : Oper} {a : Act} {Q : Exit → Act → World → Prop} (hgd : o.guard = none) (s x : Operand)
    (ho : o.op = .call { callee := .builtin .append, args := #[s, x], argTypes := #[28, 28] })
    (base : Nat) (v : Value) (D : List Int) (hs : a.eval s = v) {w0 : World} (hown : B8.Own w0 base v D) (g f : Nat) (ys : List Int) (m cap : Nat)
    (hx : a.eval x = .slice (some ⟨g, f, none⟩) m cap) (hm : ys.length = m) (hr : B8.IRow w0 (some ⟨g, f, none⟩) ys) (hl : D.length + m ≤ 100000000) (hbase : base ≤ w0.heap.size)
    (h : ∀ v' w', B8.Own w' base v' (D ++ ys) → Below base w0 w' → (∀ k, k < w0.heap.size → v.ownBlock ≠ some k → w'.heap[k]? = w0.heap[k]?) → wpList Try.prog ops Q rest (a.put o.dst v') w') : wpList Try.prog ops Q (o :: rest) a w0 := by
  obtain ⟨i0, hi, hz0, hz1, hz2⟩ := info_parts B8.infoU8
  subst hm
  have hown0 : w0.ownsRow base 5 1 v D.length (B8.ints D) := hown
  refine wpList_append_own _ hgd s x 28 ho base 5 i0 _ 1 1 Try.underlying28 hi hz0 hz1 hz2 rfl (by decide) v D.length (B8.ints D) hs hown0 ⟨g, f, none⟩ ys.length cap (B8.ints ys) hx (by simp [B8.ints]) ?_ (B8.ints_one ys) (by unfold maxLen; omega) (by omega) hbase ?_
  · intro j u hj
    have hj2 : j < ys.length := by
      have := (List.getElem?_eq_some_iff.1 hj).1
      simpa [B8.ints] using this
    obtain ⟨b, o, e, hc⟩ := hr j hj2
    cases e
    rw [show (⟨g, f, none⟩ : Addr).add j = ⟨g, f + j, none⟩ from by unfold Addr.add; split <;> simp_all, hc]
    simp [B8.ints, hj2] at hj
    simp [hj2, hj]
  · intro v' w' hown' hgrow hk
    refine h v' w' ?_ ((Below.refl base w0).grown hgrow hbase (fun k hk => (hown0.lt k hk).1)) (fun k hk1 hne => hgrow.block k (by omega) (fun hh => hne hh.symm))
    show w'.ownsRow base 5 1 _ (D ++ ys).length (B8.ints (D ++ ys))
    rw [List.length_append, B8.ints_app]
    exact hown'
theorem B8.two_row (w : World) (x y : Int) : B8.IRow (w.alloc (.cells #[.int .u8 x, .int .u8 y] 5)) (some ⟨w.heap.size, 0, none⟩) [x, y] := fun i hi => by
  refine ⟨_, _, rfl, ?_⟩
  have hB := Blk.new w #[.int .u8 x, .int .u8 y] 5
  rw [Nat.zero_add, hB.cell i]
  have hi2 : i < 2 := by simpa using hi
  match i, hi2 with
  | 0, _ => rfl
  | 1, _ => rfl
/-- The bytes of an encoder in block E: they are its own, from block B on. -/
def EncB (w : World) (E B : Nat) (out : List Int) : Prop := ∃ v, E < B ∧ B ≤ w.heap.size ∧ Blk w E #[v] 76 ∧ B8.Own w B v out
/-- Below B all is kept but block E. -/
structure KeepE (E B : Nat) (w w' : World) : Prop where
  os : w'.os = w.os
  tape : w'.tape = w.tape
  output : w'.output = w.output
  size : w.heap.size ≤ w'.heap.size
  block : ∀ k, k < w.heap.size → k < B → k ≠ E → w'.heap[k]? = w.heap[k]?
theorem KeepE.refl (E B : Nat) (w : World) : KeepE E B w w := ⟨rfl, rfl, rfl, Nat.le_refl _, fun _ _ _ _ => rfl⟩
theorem KeepE.trans {E B : Nat} {w1 w2 w3 : World} (h1 : KeepE E B w1 w2) (h2 : KeepE E B w2 w3) : KeepE E B w1 w3 :=
  ⟨h2.os.trans h1.os, h2.tape.trans h1.tape, h2.output.trans h1.output, Nat.le_trans h1.size h2.size, fun k a b c => (h2.block k (Nat.lt_of_lt_of_le a h1.size) b c).trans (h1.block k a b c)⟩
theorem KeepE.of {E B : Nat} {w w' : World} (h : Below w.heap.size w w') : KeepE E B w w' := ⟨h.os, h.tape, h.output, h.size, fun k a _ _ => h.block k a⟩
theorem KeepE.ofB {E B : Nat} {w w' : World} (h : Below B w w') : KeepE E B w w' := ⟨h.os, h.tape, h.output, h.size, fun k _ b _ => h.block k b⟩
theorem KeepE.grown {E B : Nat} {w w2 w3 : World} (h : KeepE E B w w2) (hg : w2.grownBy w3 (some E)) : KeepE E B w w3 :=
  h.trans ⟨hg.os, hg.tape, hg.output, hg.size, fun k a _ c => hg.block k a (fun e => c (by cases e; rfl))⟩
theorem B8.IRow.keep {w w' : World} {a : Option Addr} {xs : List Int} {E B : Nat} (h : B8.IRow w a xs) (hE : ∀ b o, a = some ⟨b, o, none⟩ → 0 < xs.length → b < B ∧ b ≠ E) (hk : KeepE E B w w') : B8.IRow w' a xs := fun i hi => by
  obtain ⟨b, o, e, hc⟩ := h i hi
  have hlt := hE b o e (by omega)
  refine ⟨b, o, e, ?_⟩
  rw [World.cell?_of_block (w := w) (hk.block b (World.block_lt_of_cell? w _ hc) hlt.1 hlt.2)]
  exact hc
end Go.Proofs.Ytgohipfaojiilaa
