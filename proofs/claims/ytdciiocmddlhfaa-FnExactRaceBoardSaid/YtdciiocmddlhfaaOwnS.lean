/- Slices of int64 that a call has made itself (or nil ones): how they lie, how they grow, how they are handed back. -/
import Derived.Test.YtdciiocmddlhfaaOwnB
import Derived.Test.YtdciiocmddlhfaaOwn
import Derived.ArgAppend
namespace Go.Proofs.Ytdciiocmddlhfaa
open Go.ChangeShapes Go.WideShapes Go.ChangeAt Go.RowKit
set_option linter.unusedVariables false
set_option linter.unusedSimpArgs false

/-- A slice made between two marks of the heap's size: a row of its own, or nil. -/
def OSl (lo hi : Nat) (w : World) (a : Option Addr) (xs : List Int) : Prop :=
  (a = none ∧ xs = []) ∨ ∃ g, a = some ⟨g, 0, none⟩ ∧ lo ≤ g ∧ g < hi ∧ Row w g xs
theorem OSl.irow {lo hi : Nat} {w : World} {a : Option Addr} {xs : List Int} (h : OSl lo hi w a xs) : IRow w a xs := by
  rcases h with ⟨rfl, rfl⟩ | ⟨g, rfl, _, _, r⟩
  · exact IRow.nil _ _
  · exact r.irow
theorem OSl.below {lo hi : Nat} {w w' : World} {a : Option Addr} {xs : List Int} (h : OSl lo hi w a xs) (hb : Below w.heap.size w w') : OSl lo hi w' a xs := by
  rcases h with h | ⟨g, e, h1, h2, r⟩
  · exact .inl h
  · exact .inr ⟨g, e, h1, h2, r.below hb⟩
theorem OSl.drew {lo hi : Nat} {w : World} {a : Option Addr} {xs : List Int} (h : OSl lo hi w a xs) : OSl lo hi w.drew a xs := h
theorem OSl.alloc {lo hi : Nat} {w : World} {a : Option Addr} {xs : List Int} (h : OSl lo hi w a xs) (o : Obj) : OSl lo hi (w.alloc o) a xs := h.below ((Below.refl _ _).alloc (Nat.le_refl _) o)
theorem OBd.drew {lo hi : Nat} {w : World} {a1 a2 : Option Addr} {xs ys : List Int} (h : OBd lo hi w a1 a2 xs ys) : OBd lo hi w.drew a1 a2 xs ys := h
theorem OSl.mono {lo hi lo' hi' : Nat} {w : World} {a : Option Addr} {xs : List Int} (h : OSl lo hi w a xs) (h1 : lo' ≤ lo) (h2 : hi ≤ hi') : OSl lo' hi' w a xs := by
  rcases h with h | ⟨g, e, q1, q2, r⟩
  · exact .inl h
  · exact .inr ⟨g, e, by omega, by omega, r⟩
theorem OSl.same {lo hi lo2 hi2 : Nat} {w w' : World} {a : Option Addr} {xs : List Int} (h : OSl lo2 hi2 w a xs) (hs : Same lo hi w w') (hd : hi2 ≤ lo ∨ hi ≤ lo2) : OSl lo2 hi2 w' a xs := by
  rcases h with h | ⟨g, e, q1, q2, r⟩
  · exact .inl h
  · exact .inr ⟨g, e, q1, q2, r.same hs (by omega)⟩
/-- A slice has been made and is handed back. -/
def SliceGot (xs : List Int) (w : World) (e : Ending) (w' : World) : Prop :=
  ∃ a k, e = .returned (.slice a xs.length k) ∧ OSl w.heap.size w'.heap.size w' a xs ∧ Below w.heap.size w w'
/-- A slice has been made and is handed back, beside a number. -/
def SliceGot2 (xs : List Int) (r : Int) (w : World) (e : Ending) (w' : World) : Prop :=
  ∃ a k, e = .returned (.tuple #[.slice a xs.length k, .int .i64 r]) ∧ OSl w.heap.size w'.heap.size w' a xs ∧ Below w.heap.size w w'

/-- A slice of the call's own that grows. -/
def Own (w : World) (base : Nat) (v : Value) (xs : List Int) : Prop := w.ownsRow base 2 1 v xs.length (ints xs)
theorem Own.form {w : World} {base : Nat} {v : Value} {xs : List Int} (h : Own w base v xs) : ∃ a k, v = .slice a xs.length k := by
  rcases h.2 with ⟨h1, h2⟩ | ⟨g, cap, cur, h1, _⟩
  · exact ⟨none, 0, by rw [h1, h2]⟩
  · exact ⟨some ⟨g, 0, none⟩, cap, h1⟩
theorem Own.osl {w : World} {base : Nat} {a : Option Addr} {n k : Nat} {xs : List Int} (h : Own w base (.slice a n k) xs) : OSl base w.heap.size w a xs := by
  obtain ⟨hl, h1 | ⟨g, cap, cur, hv, hb, hh, hc, hm, hs, ht⟩⟩ := h
  · obtain ⟨h1, h2⟩ := h1
    simp at h1
    exact .inl ⟨h1.1, List.eq_nil_of_length_eq_zero h2⟩
  · simp at hv
    obtain ⟨rfl, _, rfl⟩ := hv
    exact .inr ⟨g, rfl, hb, (Array.getElem?_eq_some_iff.1 hh).1, cur, hh, by omega, by simpa using ht⟩
theorem Own.alloc {w : World} {base : Nat} {v : Value} {xs : List Int} (h : Own w base v xs) (o : Obj) : Own (w.alloc o) base v xs := World.ownsRow.alloc h o
theorem Own.drew {w : World} {base : Nat} {v : Value} {xs : List Int} (h : Own w base v xs) : Own w.drew base v xs := h
theorem Own.kept {w w' : World} {base : Nat} {v : Value} {xs : List Int} (h : Own w base v xs) (hb : Below w.heap.size w w') : Own w' base v xs :=
  World.ownsRow.kept (row := none) h ⟨hb.os, hb.tape, hb.output, hb.size, fun k hk _ => hb.block k hk⟩ (by
    cases hv : v.ownBlock with
    | none => exact .inl rfl
    | some g => exact .inr (by simp))
theorem Own.start (w : World) : Own (w.alloc (.cells #[] 2)) w.heap.size (.slice (some ⟨w.heap.size, 0, none⟩) 0 0) [] :=
  ⟨rfl, .inr ⟨w.heap.size, 0, #[], rfl, Nat.le_refl _, Blk.new w #[] _, Nat.le_refl _, by unfold maxLen; omega, rfl, rfl⟩⟩
theorem Own.nil (w : World) (base : Nat) : Own w base (.slice none 0 0) [] := World.ownsRow_nil w base _ _
theorem Own.mono {w : World} {base base' : Nat} {v : Value} {xs : List Int} (h : Own w base v xs) (hb : base' ≤ base) : Own w base' v xs := by
  obtain ⟨h1, h2 | ⟨g, cap, cur, q1, q2, q3⟩⟩ := h
  · exact ⟨h1, .inl h2⟩
  · exact ⟨h1, .inr ⟨g, cap, cur, q1, by omega, q3⟩⟩
/-- One number appended: 'out = append(out, x)'. -/
theorem wp_push {ops : Array Oper} {rest : List Oper} {o : Oper} {a : Act} {Q : Exit → Act → World → Prop} (hgd : o.guard = none) (s x : Operand)
    (ho : o.op = .call { callee := .builtin .append, args := #[s, x], argTypes := #[24, 24] })
    (base : Nat) (v : Value) (xs : List Int) (hs : a.eval s = v) {w0 : World} (hown : Own w0 base v xs) (u : Int)
    (hx : a.eval x = .slice (some ⟨w0.heap.size, 0, none⟩) 1 1) (hl : xs.length ≤ 1048576) (hbase : base ≤ w0.heap.size)
    (h : ∀ v' w', Own w' base v' (xs ++ [u]) → Below base w0 w' → wpList Try.prog ops Q rest (a.put o.dst v') w') : wpList Try.prog ops Q (o :: rest) a (w0.alloc (.cells #[.int .i64 u] 2)) := by
  obtain ⟨i0, hi, hz0, hz1, hz2⟩ := info_parts infoI64
  refine wpList_append1 hgd s x 24 ho base 2 i0 (.int .i64 0) 8 Try.underlying24 hi hz0 hz1 hz2 rfl v xs.length (ints xs) hs hown (.int .i64 u) hx rfl (by unfold maxLen; omega) (by omega) hbase ?_
  intro g cap w' ho' hb' _
  refine h _ w' ?_ hb'
  show w'.ownsRow base 2 1 _ (xs ++ [u]).length (ints (xs ++ [u]))
  rw [show (xs ++ [u]).length = xs.length + 1 by simp, show ints (xs ++ [u]) = ints xs ++ [.int .i64 u] by simp [ints]]
  exact ho'
/-- Marking such a slice: it alone changes. -/
theorem markS_own (lo hi : Nat) (a : Option Addr) (n cap : Nat) (xs : List Int) (k : Int) (w : World) (hn : xs.length = n) (hle : n ≤ 1048576) (k0 : 0 ≤ k) (k1 : k ≤ 1000000000) (h : OSl lo hi w a xs) :
    Calls Try.prog 10 #[.slice a n cap, .int .i64 k] w fun e w' => e = .returned (.int .i64 (k + n)) ∧ OSl lo hi w' a (marks k n) ∧ Same lo hi w w' := by
  rcases h with ⟨rfl, rfl⟩ | ⟨g, rfl, h1, h2, r⟩
  · obtain rfl : 0 = n := hn
    refine (markInt64S_nil cap k w).mono ?_
    rintro e w' ⟨rfl, rfl⟩
    exact ⟨by simp, .inl ⟨rfl, rfl⟩, rfl, rfl, rfl, Nat.le_refl _, fun i hi _ => rfl⟩
  · refine (markInt64S_any g n cap xs k w hn hle k0 k1 r).mono ?_
    rintro e w' ⟨rfl, q, hg⟩
    exact ⟨rfl, .inr ⟨g, rfl, h1, h2, q⟩, hg.os, hg.tape, hg.output, hg.size, fun i hi ho => hg.block i hi (fun e => by cases e; omega)⟩
end Go.Proofs.Ytdciiocmddlhfaa
