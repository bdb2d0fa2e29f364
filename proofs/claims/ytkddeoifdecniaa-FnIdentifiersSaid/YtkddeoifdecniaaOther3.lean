/- The law's own code of a draw: three bytes and the code that came in. -/
import Derived.Test.YtkddeoifdecniaaSrc4
import Derived.Test.YtkddeoifdecniaaL03g
import Derived.OwnWalk
namespace Go.Proofs.Ytkddeoifdecniaa
open Go.ChangeShapes Go.WideShapes Go.ChangeAt Go.RowKit
set_option linter.unusedVariables false
set_option linter.unusedSimpArgs false

theorem CodeIn.list {B : Nat} {w : World} {a : Option Addr} {len : Nat} (h : CodeIn B w a len) : ∃ f : Nat → Int, ∀ i, i < len → ∃ b o, a = some ⟨b, o, none⟩ ∧ b < B ∧ w.cell? ⟨b, o + i, none⟩ = some (.int .u8 (f i)) ∧ 0 ≤ f i ∧ f i ≤ 255 := by
  have h' : ∀ i : Nat, ∃ z : Int, i < len → ∃ b o, a = some ⟨b, o, none⟩ ∧ b < B ∧ w.cell? ⟨b, o + i, none⟩ = some (.int .u8 z) ∧ 0 ≤ z ∧ z ≤ 255 := fun i => by
    by_cases hi : i < len
    · obtain ⟨b, o, n, e, hb, hc, h1, h2⟩ := h i hi
      exact ⟨n, fun _ => ⟨b, o, e, hb, hc, h1, h2⟩⟩
    · exact ⟨0, fun k => absurd k hi⟩
  exact Classical.axiomOfChoice h'
/-- A code has been made. -/
def OtherPost (len : Nat) (w : World) (e : Ending) (w' : World) : Prop :=
  ∃ g cap, e = .returned (.slice (some ⟨g, 0, none⟩) (3 + len) cap) ∧ g < w'.heap.size ∧ CodeIn w'.heap.size w' (some ⟨g, 0, none⟩) (3 + len) ∧ Below w.heap.size w w'
theorem other_close {base len : Nat} {w' : World} {v : Value} {f : Nat → Int} (hf : ∀ i, i < len → 0 ≤ f i ∧ f i ≤ 255)
    (h : w'.ownsRow base 5 1 v (3 + len) ([.int .u8 3, .int .u8 10, .int .u8 9] ++ (List.range len).map fun i => .int .u8 (f i))) :
    ∃ g cap, v = .slice (some ⟨g, 0, none⟩) (3 + len) cap ∧ g < w'.heap.size ∧ CodeIn w'.heap.size w' (some ⟨g, 0, none⟩) (3 + len) := by
  obtain ⟨g, cap, rfl⟩ := Joins.ownsRow_form h (by omega)
  have hl := (h.lt g rfl).2
  refine ⟨g, cap, rfl, hl, fun i hi => ?_⟩
  have hc := h.cellAt i (by omega)
  rcases (by omega : i = 0 ∨ i = 1 ∨ i = 2 ∨ 3 ≤ i) with rfl | rfl | rfl | h3
  · exact ⟨g, 0, 3, rfl, hl, by simpa using hc, by omega, by omega⟩
  · exact ⟨g, 0, 10, rfl, hl, by simpa using hc, by omega, by omega⟩
  · exact ⟨g, 0, 9, rfl, hl, by simpa using hc, by omega, by omega⟩
  · obtain ⟨j, rfl⟩ : ∃ j, i = 3 + j := ⟨i - 3, by omega⟩
    refine ⟨g, 0, f j, rfl, hl, ?_, (hf j (by omega)).1, (hf j (by omega)).2⟩
    rw [Nat.zero_add, hc, List.getElem?_append_right (by simp)]
    have : j < len := by omega
    simp [this]

set_option maxHeartbeats 1000000 in
theorem other_any (B : Nat) (a : Option Addr) (len cap : Nat) (w : World) (hB : B ≤ w.heap.size) (hlen : len ≤ 4096) (hcode : CodeIn B w a len) :
    Calls Try.prog 40 #[.slice a len cap, .int .u8 3] w (OtherPost len w) := by
  obtain ⟨i0, hi, hz0, hz1, hz2⟩ := info_parts infoU8
  have hcode1 := hcode.below ((Below.refl B w).alloc hB (.cells #[.int .u8 3, .int .u8 10, .int .u8 9] 5))
  obtain ⟨f, hf⟩ := hcode1.list
  have hf2 : ∀ i, i < len → 0 ≤ f i ∧ f i ≤ 255 := fun i h => by obtain ⟨_, _, _, _, _, h1, h2⟩ := hf i h; exact ⟨h1, h2⟩
  have HF := Lib.hid hf
  have HF2 := Lib.hid hf2
  clear hf hf2 hcode hcode1
  have hown : (w.alloc (.cells #[.int .u8 3, .int .u8 10, .int .u8 9] 5)).ownsRow w.heap.size 5 1 (.slice (some ⟨w.heap.size, 0, none⟩) 3 3) 3 [.int .u8 3, .int .u8 10, .int .u8 9] :=
    ⟨rfl, .inr ⟨w.heap.size, 3, #[.int .u8 3, .int .u8 10, .int .u8 9], rfl, Nat.le_refl _, Blk.new w _ _, Nat.le_refl _, by unfold maxLen; omega, rfl, rfl⟩⟩
  have hb : Below w.heap.size w (w.alloc (.cells #[.int .u8 3, .int .u8 10, .int .u8 9] 5)) := (Below.refl _ _).alloc (Nat.le_refl _) _
  have hz := hb.size
  by_cases h0 : len = 0
  · subst h0
    cases a with
    | none =>
      go_enter Try.func40, Try.ntmps40
      go_wp2_with fail
      go_ret
      obtain ⟨g, cap2, he, hl, hc⟩ := other_close (len := 0) (f := fun _ => 0) (fun i h => by omega) (by simpa using hown)
      exact ⟨g, cap2, congrArg Ending.returned he, hl, hc, hb⟩
    | some x =>
      go_enter Try.func40, Try.ntmps40
      go_wp2_with (first | (at_builtin; refine wpList_append_own _ rfl _ _ 22 rfl w.heap.size 5 i0 (.int .u8 0) 1 1 Try.underlying22 hi hz0 hz1 hz2 rfl (by decide) _ _ _ rfl hown x 0 cap [] rfl rfl (fun j u h => by simp at h) (fun u h => by simp at h) (by unfold maxLen; omega) (by omega) hz ?_; intro v' w1 hown1 hgrow _))
      go_ret
      obtain ⟨g, cap2, he, hl, hc⟩ := other_close (len := 0) (f := fun _ => 0) (fun i h => by omega) (by simpa using hown1)
      exact ⟨g, cap2, congrArg Ending.returned he, hl, hc, hb.grown hgrow hz (fun k hk => by cases hk; exact Nat.le_refl _)⟩
  · obtain ⟨b, o, rfl, _⟩ := HF.out 0 (by omega)
    have hn : ∀ j u, ((List.range len).map fun i => Value.int .u8 (f i))[j]? = some u → (w.alloc (.cells #[.int .u8 3, .int .u8 10, .int .u8 9] 5)).cell? ((⟨b, o, none⟩ : Addr).add j) = some u := by
      intro j u h
      have hj : j < len := by
        have := (List.getElem?_eq_some_iff.1 h).1
        simpa using this
      obtain ⟨b2, o2, e2, _, hc2, _⟩ := HF.out j hj
      cases e2
      rw [show (⟨b, o, none⟩ : Addr).add j = ⟨b, o + j, none⟩ from by unfold Addr.add; split <;> simp_all, hc2]
      simp [hj] at h
      rw [h]
    have HN := Lib.hid hn
    clear hn
    go_enter Try.func40, Try.ntmps40
    go_wp2_with (first | (at_builtin; refine wpList_append_own _ rfl _ _ 22 rfl w.heap.size 5 i0 (.int .u8 0) 1 1 Try.underlying22 hi hz0 hz1 hz2 rfl (by decide) _ _ _ rfl hown ⟨b, o, none⟩ len cap ((List.range len).map fun i => .int .u8 (f i)) rfl (by simp) HN.out (fun u h => by simp at h; obtain ⟨_, _, rfl⟩ := h; rfl) (by unfold maxLen; omega) (by omega) hz ?_; intro v' w1 hown1 hgrow _))
    go_ret
    obtain ⟨g, cap2, he, hl, hc⟩ := other_close (len := len) (f := f) HF2.out hown1
    exact ⟨g, cap2, congrArg Ending.returned he, hl, hc, hb.grown hgrow hz (fun k hk => by cases hk; exact Nat.le_refl _)⟩
end Go.Proofs.Ytkddeoifdecniaa
