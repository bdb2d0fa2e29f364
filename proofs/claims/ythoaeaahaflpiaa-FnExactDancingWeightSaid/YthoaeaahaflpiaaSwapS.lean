/- Contracts of the model's exchange of sides. -/
import Derived.Test.YthoaeaahaflpiaaSwapI
import Derived.Test.YthoaeaahaflpiaaL02d
import Derived.ArgAppend
namespace Go.Proofs.Ythoaeaahaflpiaa
open Go.ChangeShapes Go.WideShapes Go.ChangeAt Go.RowKit
set_option linter.unusedVariables false
set_option linter.unusedSimpArgs false

/-- A copy of the call's own, whatever its capacity. -/
def OwnCopied (xs : List Int) (w : World) (e : Ending) (w' : World) : Prop :=
  ∃ g k, e = .returned (.slice (some ⟨g, 0, none⟩) xs.length k) ∧ w.heap.size ≤ g ∧ Row w' g xs ∧ Below w.heap.size w w'
theorem Row.of_owns {w : World} {base g n k : Nat} {xs : List Int} (h : w.ownsRow base 2 1 (.slice (some ⟨g, 0, none⟩) n k) n (ints xs)) : Row w g xs ∧ base ≤ g := by
  obtain ⟨hl, h | ⟨g', cap, cur, hv, hb, hh, hc, hm, hs, ht⟩⟩ := h
  · exact absurd h.1 (by simp)
  · simp at hv
    obtain ⟨rfl, rfl⟩ := hv
    rw [ints_length] at hl
    exact ⟨⟨cur, hh, by omega, by rw [hl]; exact ht⟩, hb⟩
set_option maxRecDepth 8000 in
set_option maxHeartbeats 1000000 in
theorem l02Own_any (a : Option Addr) (n cap : Nat) (xs : List Int) (w : World) (hn : xs.length = n) (h0 : 0 < n) (hle : n ≤ 1048576) (hr : IRow w a xs) :
    Calls Try.prog 64 #[.slice a n cap] w (OwnCopied xs w) := by
  obtain ⟨i0, hi, hz0, hz1, hz2⟩ := info_parts infoI64
  obtain ⟨b, o, rfl, -⟩ := hr 0 (by omega)
  go_enter Try.func64, Try.ntmps64
  have hrow : ∀ (W : World), IRow W (some ⟨b, o, none⟩) xs → ∀ (j : Nat) (u : Value), (ints xs)[j]? = some u → W.cell? ((⟨b, o, none⟩ : Addr).add j) = some u := by
    intro W hW j u hj
    obtain ⟨hlt, rfl⟩ := List.getElem?_eq_some_iff.1 hj
    have hlt2 : j < xs.length := by simpa [ints] using hlt
    obtain ⟨b', o', e, hc⟩ := hW j hlt2
    simp at e
    obtain ⟨rfl, rfl⟩ := e
    rw [show (⟨b, o, none⟩ : Addr).add j = ⟨b, o + j, none⟩ from by unfold Addr.add; split <;> simp_all, hc]
    simp [ints, hlt2]
  have hone : ∀ u ∈ ints xs, u.oneCell' = true := fun u hu => by
    simp [ints] at hu
    obtain ⟨x, _, rfl⟩ := hu
    rfl
  have hint : (ints xs).length = n * 1 := by simp [ints, hn]
  have HRW := Lib.hid hrow
  have HON := Lib.hid hone
  have HIN := Lib.hid hint
  have HR := Lib.hid hr
  have HX := Lib.hid hn
  clear hrow hone hint hr hn
  go_wp2_with (at_builtin; refine wpList_append_grows _ rfl _ _ 24 rfl 2 i0 (.int .i64 0) 1 8 Try.underlying24 hi hz0 hz1 hz2 rfl (by decide) _ 0 0 [] rfl (by simp) rfl (by simp) ⟨b, o, none⟩ n cap (ints xs) rfl HIN.out (HRW.out _ (HR.out.alloc _)) HON.out (by omega) (by unfold maxLen; omega) (by omega) ?_)
  intro v' w' hown hgrow
  obtain ⟨g, k, rfl⟩ := Joins.ownsRow_form hown (by omega)
  obtain ⟨hR, hg⟩ := Row.of_owns hown
  go_wp2
  go_ret
  exact ⟨g, k, by simp [HX.out], by omega, hR, from_alloc ⟨hgrow.os, hgrow.tape, hgrow.output, hgrow.size, fun k hk => hgrow.block k hk (by simp)⟩⟩
end Go.Proofs.Ythoaeaahaflpiaa
