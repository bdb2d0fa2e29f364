/- Texts of a proof, laid together. -/
import Derived.Test.YtnlclmlnpkncoaaGreatW26
import Derived.Test.YtnlclmlnpkncoaaGreatW27
import Derived.Deep.Cut
namespace Go.Proofs.YtnlclmlnpkncoaaGreat
open Go.ChangeShapes Go.WideShapes Go.ChangeAt Go.RowKit
set_option linter.unusedVariables false
set_option linter.unusedSimpArgs false
set_option maxRecDepth 4000
theorem lk_ex {S : Nat} {ob ow : Option Int} {yb cb yw cw : Int} (h1 : PV S ob yb cb) (h2 : PV S ow yw cw) : exV S (yb - yw) (if cb ≠ 0 then cb else cw) = exO S (ob.bind fun q => ow.map fun x => q - x) := by
  unfold PV at h1 h2
  unfold exV exO
  cases ob with
  | none =>
    dsimp only [Option.bind] at h1 ⊢
    rw [h1.1]
    rfl
  | some b =>
    dsimp only [Option.bind] at h1 ⊢
    obtain ⟨rfl, rfl⟩ := h1
    cases ow with
    | none =>
      dsimp only [Option.map] at h2 ⊢
      rw [h2.1]
      rfl
    | some x =>
      dsimp only [Option.map] at h2 ⊢
      obtain ⟨rfl, rfl⟩ := h2
      rfl
theorem tnE_zero {p c h s : Int} {xs ys : List Int} {ra rb : Int} (e : tnE p c h s xs ys ra rb = 0) : ocE p c h s xs ys = 0 ∧ rlB s ra rb = true := by
  unfold tnE at e
  split at e
  · omega
  · rename_i q
    refine ⟨e, ?_⟩
    have hv := (okP_v (rcB_zero (rcE_zero (ocE_zero e).1).1).1).1
    cases hr : rlB s ra rb with
    | true => rfl
    | false => exact absurd ⟨hv, hr⟩ q
theorem res_ready {t : Tb} {xs ys : List Int} (hS : 1 ≤ t.S ∧ t.S ≤ 6) (hx : t.In xs) {ra rb : Int} (hr : rlB (t.S : Int) ra rb = true) : (1 ≤ rb ∧ rb ≤ ra ∧ ra ≤ 6) ∧ 0 < (resI xs (ordersP ra rb)).length ∧ (resI xs (ordersP ra rb)).length ≤ 1048576 ∧
    (∀ z ∈ resI xs (ordersP ra rb), Ps t.p t.c t.h (t.S : Int) z) ∧ ∀ z ∈ resI xs (ordersP ra rb), t.In z ∧ pwT ys + pwT z < pwT xs + pwT ys + 1 := by
  have h1 : 1 ≤ rb ∧ rb ≤ ra ∧ ra ≤ 6 := by
    simp only [rlB, inB, Bool.and_eq_true, decide_eq_true_eq] at hr
    omega
  obtain ⟨r1, r2, r3⟩ := h1
  obtain ⟨a1, a2, a3, -⟩ := hx.1.po
  refine ⟨⟨r1, r2, r3⟩, resI_ne a2 a3 a1 r1 r2 r3, by have := resI_len a2 a3 a1 r1 r2 r3; omega, fun z hz => (hx.1.res (r := (ra, rb)) r1 r2 r3 z hz).1, fun z hz => ?_⟩
  obtain ⟨b1, b2, b3, -⟩ := hx.1.res (r := (ra, rb)) r1 r2 r3 z hz
  exact ⟨⟨b1, by have := hx.2; omega⟩, by omega⟩
def QR (w : World) (g : Nat) (l : List PQ) : Prop := QRow w g l ∧ ∀ x ∈ l, Row w x.1 x.2.2
theorem QR.below {w w' : World} {g : Nat} {l : List PQ} (h : QR w g l) (hb : Below w.heap.size w w') : QR w' g l := ⟨VRow.below h.1 hb, fun x hx => (h.2 x hx).below hb⟩
theorem bst_map_in {S : Nat} (hS : 1 ≤ S ∧ S ≤ 6) {p c h : Int} {ys : List Int} (hy : Ps p c h (S : Int) ys) {L : List (List Int)} (hL : 0 < L.length) (hz : ∀ z ∈ L, Ps p c h (S : Int) z) : ∀ x, ((bst (tp S) (wc S ys) L).map fun q => q.2) = some x → 0 ≤ x ∧ x ≤ tp S := fun x e => by
  rw [Option.map_eq_some_iff] at e
  obtain ⟨q, hq, rfl⟩ := e
  have hc : bst (tp S) (fun z => if z ∈ L then wc S ys z else none) L = some q := by
    rw [← hq]
    exact bst_congr fun z m => by simp [m]
  obtain ⟨a1, a2, a3, -⟩ := hy.po
  have := bst_in (T := tp S) (fun z x k => by
    split at k
    · rename_i m
      exact wc_in hS a2 a3 a1 (hz z m).po.1 k
    · cases k) hL hc
  exact ⟨this.1, this.2.1⟩
end Go.Proofs.YtnlclmlnpkncoaaGreat
