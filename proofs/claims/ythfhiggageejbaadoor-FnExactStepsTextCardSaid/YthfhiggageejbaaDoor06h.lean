/- Slices of texts that a call makes itself: how they lie, how they grow. -/
import Derived.Test.YthfhiggageejbaaDoor06f
import Derived.Test.YthfhiggageejbaaDoorStp
import Derived.Test.YthfhiggageejbaaDoorOwn
namespace Go.Proofs.YthfhiggageejbaaDoor
open Go.ChangeShapes Go.WideShapes Go.ChangeAt Go.RowKit
set_option linter.unusedVariables false
set_option linter.unusedSimpArgs false

/-- Texts as values. -/
def strC (l : List ByteArray) : List Value := l.map Value.string
theorem infoTx : (Tryd.prog.info? 9).map (fun i => (i.zero, i.size, i.bytes)) = some (some (.string ⟨#[]⟩), 1, 16) := by kernel_rfl
/-- A slice of texts of the call's own. -/
def OwnStr (w : World) (base : Nat) (v : Value) (l : List ByteArray) : Prop := w.ownsRow base 9 1 v l.length (strC l)
theorem OwnStr.form {w : World} {base : Nat} {v : Value} {l : List ByteArray} (h : OwnStr w base v l) : ∃ a k, v = .slice a l.length k := by
  rcases h.2 with ⟨h1, h2⟩ | ⟨g, cap, cur, h1, _⟩
  · exact ⟨none, 0, by rw [h1, h2]⟩
  · exact ⟨some ⟨g, 0, none⟩, cap, h1⟩
theorem OwnStr.nil (w : World) (base : Nat) : OwnStr w base (.slice none 0 0) [] := World.ownsRow_nil w base _ _
theorem OwnStr.alloc {w : World} {base : Nat} {v : Value} {l : List ByteArray} (h : OwnStr w base v l) (o : Obj) : OwnStr (w.alloc o) base v l := World.ownsRow.alloc h o
theorem OwnStr.drew {w : World} {base : Nat} {v : Value} {l : List ByteArray} (h : OwnStr w base v l) : OwnStr w.drew base v l := h
theorem OwnStr.below {w w' : World} {base : Nat} {v : Value} {l : List ByteArray} (h : OwnStr w base v l) (hb : Below w.heap.size w w') : OwnStr w' base v l :=
  World.ownsRow.kept (row := none) h ⟨hb.os, hb.tape, hb.output, hb.size, fun k hk _ => hb.block k hk⟩ (by
    cases hv : v.ownBlock with
    | none => exact .inl rfl
    | some g => exact .inr (by simp))
/-- What is needed to join the texts of such a slice. -/
theorem OwnStr.cells {w : World} {base : Nat} {v : Value} {l : List ByteArray} (h : OwnStr w base v l) (hl : 0 < l.length) : ∃ g k, v = .slice (some ⟨g, 0, none⟩) l.length k ∧ g < w.heap.size ∧ l.length ≤ k ∧ ∀ (j : Nat) x, l[j]? = some x → w.cell? ⟨g, 0 + j, none⟩ = some (.string x) := by
  obtain ⟨hlen, h1 | ⟨g, cap, cur, hv, hb, hh, hc, hm, hs, ht⟩⟩ := h
  · omega
  · refine ⟨g, cap, hv, (Array.getElem?_eq_some_iff.1 hh).1, hc, fun j x hj => ?_⟩
    have hj2 := (List.getElem?_eq_some_iff.1 hj).1
    rw [(show Blk w g cur 9 from hh).cell (0 + j), Nat.zero_add]
    have hst : (strC l)[j]? = some (.string x) := by rw [strC, List.getElem?_map, hj]; rfl
    rw [← hst, ← ht, List.getElem?_take_of_lt (by omega)]
    simp
theorem wp_pushStr {ops : Array Oper} {rest : List Oper} {o : Oper} {a : Act} {Q : Exit → Act → World → Prop} (hgd : o.guard = none) (s x : Operand)
    (ho : o.op = .call { callee := .builtin .append, args := #[s, x], argTypes := #[85, 85] })
    (base : Nat) (v : Value) (l : List ByteArray) (hs : a.eval s = v) {w0 : World} (hown : OwnStr w0 base v l) (u : ByteArray)
    {zz : Nat} (hx : a.eval x = .slice (some ⟨zz, 0, none⟩) 1 1) (hzz : w0.heap.size = zz) (hl : l.length ≤ 1048576) (hbase : base ≤ w0.heap.size)
    (h : ∀ v' w', OwnStr w' base v' (l ++ [u]) → Below base w0 w' → (∀ k, k < w0.heap.size → v.ownBlock ≠ some k → w'.heap[k]? = w0.heap[k]?) → wpList Tryd.prog ops Q rest (a.put o.dst v') w') : wpList Tryd.prog ops Q (o :: rest) a (w0.alloc (.cells #[.string u] 9)) := by
  subst hzz
  obtain ⟨i0, hi, hz0, hz1, hz2⟩ := info_parts infoTx
  refine wpList_append1 hgd s x 85 ho base 9 i0 (.string ⟨#[]⟩) 16 Tryd.underlying85 hi hz0 hz1 hz2 rfl v l.length (strC l) hs hown (.string u) hx rfl (by unfold maxLen; omega) (by omega) hbase ?_
  intro g cap w' hown' hb hk
  refine h _ w' ?_ hb hk
  show w'.ownsRow base 9 1 _ (l ++ [u]).length (strC (l ++ [u]))
  rw [List.length_append, strC, List.map_append]
  exact hown'
end Go.Proofs.YthfhiggageejbaaDoor
