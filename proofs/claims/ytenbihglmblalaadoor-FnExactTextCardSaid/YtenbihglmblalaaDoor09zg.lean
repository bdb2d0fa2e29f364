/- Contract of chapter 9: the model's reading of an exact number. -/
import Derived.Test.YtenbihglmblalaaDoor09zf
import Derived.Test.YtenbihglmblalaaDoor10n
namespace Go.Proofs.YtenbihglmblalaaDoor
open Go.ChangeShapes Go.WideShapes Go.ChangeAt Go.RowKit
set_option linter.unusedVariables false
set_option linter.unusedSimpArgs false
set_option maxRecDepth 4000

/-- The number that has a text, and whether there is one. -/
noncomputable def rxV (p c h s : Int) (t : List UInt8) : (Int × Int) × Bool :=
  open Classical in if q : ∃ r : Int × Int, exB p c h s r.1 r.2 = true ∧ xtL s.toNat r.1 r.2 = t then (Classical.choose q, true) else ((0, 0), false)
theorem rx_yes {p c h s n d : Int} {t : List UInt8} (g : exB p c h s n d = true) (e : xtL s.toNat n d = t) : rxV p c h s t = ((n, d), true) := by
  have q : ∃ r : Int × Int, exB p c h s r.1 r.2 = true ∧ xtL s.toNat r.1 r.2 = t := ⟨(n, d), g, e⟩
  unfold rxV
  rw [dif_pos q]
  have hc := Classical.choose_spec q
  obtain ⟨h1, h2⟩ := xt_inj hc.1 g (hc.2.trans e.symm)
  exact congrArg (fun z => (z, true)) (Prod.ext h1 h2)
theorem rx_no {p c h s : Int} {t : List UInt8} (hn : ∀ n d, exB p c h s n d = true → xtL s.toNat n d ≠ t) : rxV p c h s t = ((0, 0), false) := by
  unfold rxV
  rw [dif_neg]
  rintro ⟨r, g, e⟩
  exact hn _ _ g e
theorem itoa_ne (n : Int) : Lib.itoa n ≠ [] := by
  unfold Lib.itoa
  split
  · simp
  · exact dec_ne _
theorem xt_facts {p c h s n d : Int} (g : exB p c h s n d = true) : 0 < (xtL s.toNat n d).length ∧ (xtL s.toNat n d).length ≤ 50 := by
  obtain ⟨-, q1, q2, q3, q4, -, q6, q7⟩ := ex_range g
  have h1 := itoa_len (n := n) (by omega) (by omega)
  have h3 : 0 < (Lib.itoa n).length := List.length_pos_iff.2 (itoa_ne n)
  unfold xtL
  split
  · omega
  · have k := scN_in (S := s.toNat) (k := d.toNat) ⟨q6, q7⟩ (by omega)
    have h2 := itoa_len (n := ((scN s.toNat d.toNat : Nat) : Int)) (by omega) (by omega)
    simp only [List.length_append, List.length_cons, List.length_nil]
    omega
theorem ex_v {p c h s n d : Int} (g : exB p c h s n d = true) : vB p c h s = true := (ex_range g).1
theorem byte_at (t : ByteArray) (k : Nat) (h : k < t.size) : t.data.toList[k]? = some t[k] := by
  rw [List.getElem?_eq_getElem (by simpa using h)]; rfl
end Go.Proofs.YtenbihglmblalaaDoor
