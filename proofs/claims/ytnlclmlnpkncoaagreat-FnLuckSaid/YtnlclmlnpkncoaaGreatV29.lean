/- Texts of a proof, laid together. -/
import Derived.Test.YtnlclmlnpkncoaaGreatV28
import Derived.Test.YtnlclmlnpkncoaaGreatV23
import Derived.Deep.LoopGhost
import Derived.Test.YtnlclmlnpkncoaaGreatV01
import Derived.BigQuiet
import Derived.Test.YtnlclmlnpkncoaaGreatV07
import Derived.Deep.Slices
import Derived.Deep.Fields
import Derived.ChangeSame
import Derived.OpenShut
import Derived.Lib.SmallJoins
import Derived.Test.YtnlclmlnpkncoaaGreatV02
namespace Go.Proofs.YtnlclmlnpkncoaaGreat
open Go.ChangeShapes Go.WideShapes Go.ChangeAt Go.RowKit
set_option linter.unusedVariables false
set_option linter.unusedSimpArgs false
set_option maxRecDepth 4000
def XIn (w : World) (a : Option Addr) (l : List Rl) : Prop :=
  ∀ (i : Nat) (s : Rl), l[i]? = some s → ∃ b o, a = some ⟨b, o, none⟩ ∧ w.cell? ⟨b, o + i * 2, none⟩ = some (.int .i64 s.1) ∧ w.cell? ⟨b, o + i * 2 + 1, none⟩ = some (.int .i64 s.2)
theorem XIn.below {w w' : World} {a : Option Addr} {l : List Rl} (h : XIn w a l) (hb : Below w.heap.size w w') : XIn w' a l := fun i s hs => by
  obtain ⟨b, o, e, c0, c1⟩ := h i s hs
  have hl := World.block_lt_of_cell? w _ c0
  exact ⟨b, o, e, by rw [hb.cell (p := ⟨b, o + i * 2, none⟩) hl]; exact c0, by rw [hb.cell (p := ⟨b, o + i * 2 + 1, none⟩) hl]; exact c1⟩
theorem infoEx : (Tryz.prog.info? 35).map (fun i => (i.zero, i.size, i.bytes)) = some (some (.agg #[.int .i64 0, .int .i64 0]), 2, 16) := by kernel_rfl
theorem rlsC_zeros : ∀ n : Nat, rlsC (List.replicate n ((0, 0) : Rl)) = (List.replicate n [Value.int .i64 0, .int .i64 0]).flatten
  | 0 => rfl
  | n + 1 => by rw [List.replicate_succ, rlsC, rlsC_zeros n, List.replicate_succ, List.flatten_cons]; rfl
theorem flat_at2 : ∀ (n i : Nat), i < n * 2 → ((List.replicate n [Value.int .i64 0, .int .i64 0]).flatten)[i]? = some (#[Value.int .i64 0, .int .i64 0][i % 2]!)
  | 0, i, h => by omega
  | n + 1, i, h => by
    rw [List.replicate_succ, List.flatten_cons]
    by_cases hi : i < 2
    · rw [List.getElem?_append_left (by simpa using hi), Nat.mod_eq_of_lt hi]
      have h4 : i = 0 ∨ i = 1 := by omega
      rcases h4 with rfl | rfl <;> rfl
    · rw [List.getElem?_append_right (by simp; omega), show [Value.int .i64 0, .int .i64 0].length = 2 from rfl, flat_at2 n (i - 2) (by omega), show i % 2 = (i - 2) % 2 by omega]
theorem made_exs (n : Nat) : (madeCells #[.int .i64 0, .int .i64 0] (n * 2)).toList = rlsC (List.replicate n ((0, 0) : Rl)) := by
  rw [rlsC_zeros]
  apply List.ext_getElem?
  intro i
  by_cases h : i < n * 2
  · rw [flat_at2 n i h]
    have hz : i < (madeCells #[.int .i64 0, .int .i64 0] (n * 2)).toList.length := by simp [madeCells]; omega
    rw [List.getElem?_eq_getElem hz]
    simp [madeCells]
  · rw [List.getElem?_eq_none (by simp [madeCells]; omega), List.getElem?_eq_none (by rw [← rlsC_zeros, rlsC_length, List.length_replicate]; omega)]
theorem rlsC_set2 : ∀ (l : List Rl) (k : Nat) (s : Rl), k < l.length → rlsC (l.set k s) = ((rlsC l).set (k * 2) (.int .i64 s.1)).set (k * 2 + 1) (.int .i64 s.2)
  | [], k, s, h => by simp at h
  | x :: l, 0, s, h => by simp [rlsC, rlC]
  | x :: l, k + 1, s, h => by
    rw [List.set_cons_succ, rlsC, rlsC_set2 l k s (by simpa using h), show (k + 1) * 2 = k * 2 + 2 by omega]
    simp [rlsC, rlC]
theorem copyX_step (l : List Rl) (k : Nat) (s : Rl) (hs : l[k]? = some s) : (l.take k ++ List.replicate (l.length - k) ((0, 0) : Rl)).set k s = l.take (k + 1) ++ List.replicate (l.length - (k + 1)) (0, 0) := by
  obtain ⟨hk, he⟩ := List.getElem?_eq_some_iff.1 hs
  have hlen : (l.take k).length = k := by simp; omega
  obtain ⟨m, hm⟩ : ∃ m, l.length - k = m + 1 := ⟨l.length - k - 1, by omega⟩
  rw [hm, List.replicate_succ, List.set_append_right _ _ (by omega), hlen, Nat.sub_self, List.set_cons_zero, List.take_succ_eq_append_getElem hk, he, show l.length - (k + 1) = m by omega, List.append_assoc]
  rfl
def OXl (lo hi : Nat) (w : World) (a : Option Addr) (l : List Rl) : Prop := (a = none ∧ l = []) ∨ ∃ g, a = some ⟨g, 0, none⟩ ∧ lo ≤ g ∧ g < hi ∧ XRow w g l
theorem OXl.below {lo hi : Nat} {w w' : World} {a : Option Addr} {l : List Rl} (h : OXl lo hi w a l) (hb : Below w.heap.size w w') : OXl lo hi w' a l := by
  rcases h with h | ⟨g, e, h1, h2, r⟩
  · exact .inl h
  · exact .inr ⟨g, e, h1, h2, r.below hb⟩
theorem OXl.drew {lo hi : Nat} {w : World} {a : Option Addr} {l : List Rl} (h : OXl lo hi w a l) : OXl lo hi w.drew a l := h
theorem OXl.alloc {lo hi : Nat} {w : World} {a : Option Addr} {l : List Rl} (h : OXl lo hi w a l) (o : Obj) : OXl lo hi (w.alloc o) a l := h.below ((Below.refl _ _).alloc (Nat.le_refl _) o)
theorem OXl.mono {lo hi lo' hi' : Nat} {w : World} {a : Option Addr} {l : List Rl} (h : OXl lo hi w a l) (h1 : lo' ≤ lo) (h2 : hi ≤ hi') : OXl lo' hi' w a l := by
  rcases h with h | ⟨g, e, q1, q2, r⟩
  · exact .inl h
  · exact .inr ⟨g, e, by omega, by omega, r⟩
theorem OXl.same {lo hi lo2 hi2 : Nat} {w w' : World} {a : Option Addr} {l : List Rl} (h : OXl lo2 hi2 w a l) (hs : Same lo hi w w') (hd : hi2 ≤ lo ∨ hi ≤ lo2) : OXl lo2 hi2 w' a l := by
  rcases h with h | ⟨g, e, q1, q2, r⟩
  · exact .inl h
  · exact .inr ⟨g, e, q1, q2, r.same hs (by omega)⟩
theorem OXl.row {lo hi : Nat} {w : World} {a : Option Addr} {l : List Rl} (h : OXl lo hi w a l) {k : Nat} (hk : k < l.length) : ∃ g, a = some ⟨g, 0, none⟩ ∧ XRow w g l := by
  rcases h with ⟨_, rfl⟩ | ⟨g, e, q1, q2, r⟩
  · simp at hk
  · exact ⟨g, e, r⟩
end Go.Proofs.YtnlclmlnpkncoaaGreat
