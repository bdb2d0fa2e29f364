/- The model's draw of a text: a text that is changed slightly, sometimes. -/
import Derived.Test.YtlbmknmihofloaaDoorSrc4
import Derived.Test.YtlbmknmihofloaaDoorL01t
import Derived.RegionTactic
namespace Go.Proofs.YtlbmknmihofloaaDoor
open Go.ChangeShapes Go.WideShapes Go.ChangeAt Go.RowKit
set_option linter.unusedVariables false
set_option linter.unusedSimpArgs false

/-- A text has been drawn. -/
def TextPost (B g : Nat) (a : Option Addr) (len cap : Nat) (w : World) (e : Ending) (w' : World) : Prop :=
  ∃ u : ByteArray, e = .returned (.string u) ∧ u.size ≤ 5000 ∧ Src B w' g a len cap ∧ w.grownBy w' (some g)
def oddTexts : Array Value := #[.string ⟨#[48]⟩, .string ⟨#[47]⟩, .string ⟨#[32]⟩, .string ⟨#[120]⟩, .string ⟨#[49]⟩, .string ⟨#[45]⟩]
theorem oddTexts_get (k : Nat) (h : k < 6) : ∃ X : ByteArray, (#[.string ⟨#[48]⟩, .string ⟨#[47]⟩, .string ⟨#[32]⟩, .string ⟨#[120]⟩, .string ⟨#[49]⟩, .string ⟨#[45]⟩] : Array Value)[k]? = some (.string X) ∧ X.size ≤ 1 := by
  rcases (by omega : k = 0 ∨ k = 1 ∨ k = 2 ∨ k = 3 ∨ k = 4 ∨ k = 5) with rfl | rfl | rfl | rfl | rfl | rfl <;> exact ⟨_, rfl, by decide⟩
theorem Src.drewN {B g : Nat} {a : Option Addr} {len cap : Nat} {w : World} (h : Src B w g a len cap) (n : Nat) : Src B (w.drewN n) g a len cap := by
  induction n with
  | zero => exact h
  | succ n ih => exact ih.drew
theorem extract_size (t : ByteArray) (i j : Nat) : (t.extract i j).size ≤ t.size := by
  simp [ByteArray.size_extract]; omega

set_option maxHeartbeats 1000000 in
theorem damage_any (B g : Nat) (a : Option Addr) (len cap : Nat) (t : ByteArray) (w : World) (hS : Src B w g a len cap) (ht : t.size ≤ 1000) :
    Calls Tryd.prog 24 #[.pointer (some ⟨g, 0, none⟩), .string t] w (TextPost B g a len cap w) := by
  have hl := hS.lt
  go_enter Tryd.func24, Tryd.ntmps24
  go_wp2_with fail
  refine (next_any B g a len cap ((t.size : Int) + 1) _ hS (by omega)).mono ?_
  rintro e w1 ⟨r1, rfl, q1, u1, hS1, hG1⟩
  go_wp2_with fail
  refine (next_any B g a len cap 8 _ hS1 (by omega)).mono ?_
  rintro e w2 ⟨r2, rfl, q2, u2, hS2, hG2⟩
  replace hG2 := grown_trans hG1 hG2
  clear hS hS1 hG1
  have hl2 := hS2.lt
  obtain ⟨k, rfl⟩ := Int.eq_ofNat_of_zero_le q1
  have hk : (k : Int) ≤ (t.size : Int) := by omega
  have hk0 : (0 : Int) ≤ (k : Int) := by omega
  rcases (by omega : r2 = 0 ∨ r2 = 1 ∨ r2 = 2 ∨ 3 ≤ r2) with rfl | rfl | rfl | hr
  · go_wp2
    go_ret
    refine ⟨_, rfl, ?_, hS2, hG2⟩
    have := extract_size t 0 k
    omega
  · have z1 : (t.extract 0 k).size ≤ 1000 := Nat.le_trans (extract_size _ _ _) ht
    have z2 : (t.extract k t.size).size ≤ 1000 := Nat.le_trans (extract_size _ _ _) ht
    go_wp2_with fail
    go_region_with (go_at_call 28; refine (next_any B g a len cap 6 _ (by first | exact hS2.drew | exact (hS2.alloc _).drew | exact hS2.drew.alloc _) (by omega)).mono ?_; rintro e w3 ⟨r3, rfl, q3, u3, hS3, hg⟩; obtain ⟨j, rfl⟩ := Int.eq_ofNat_of_zero_le q3; obtain ⟨X, hX, hXs⟩ := oddTexts_get j (by omega); obtain ⟨T1, _, y1, k1⟩ := cat_run z1 hXs (by omega); obtain ⟨T2, _, y2, k2⟩ := cat_run y1 z2 (by omega); try have hc : w3.cell? ⟨w2.heap.size, j, none⟩ = some (.string X) := by rw [((Blk.new w2 _ _).drew.grown hg (by omega)).cell j]; exact hX)
    all_goals go_wp2
    all_goals go_ret
    all_goals refine ⟨_, rfl, by rw [ByteArray.size_append, ByteArray.size_append]; omega, ?_, ?_⟩
    all_goals first
      | exact hS3
      | exact hS3.alloc _
      | exact grown_trans hG2 (grown_trans (grown_drew (World.grownBy_alloc w2 _ _)) hg)
      | exact grown_alloc (grown_trans hG2 (grown_trans (grown_drew (grown_refl _ _)) hg)) _
  · by_cases hlt : k < t.size
    · have f1 : decide ((k : Int) < (t.size : Int)) = true := by simp; omega
      have hlt' : (k : Int) + 1 ≤ (t.size : Int) := by omega
      have z1 : (t.extract 0 k).size ≤ 1000 := Nat.le_trans (extract_size _ _ _) ht
      have z2 : (t.extract (k + 1) t.size).size ≤ 1000 := Nat.le_trans (extract_size _ _ _) ht
      go_wp2_with fail
      go_quiet (fail)
      go_wp2
      go_ret
      exact ⟨_, rfl, by rw [ByteArray.size_append]; omega, Src.drewN hS2 _, grown_drewN hG2 _⟩
    · have f1 : decide ((k : Int) < (t.size : Int)) = false := by simp; omega
      go_wp2
      go_ret
      exact ⟨_, rfl, by omega, hS2, hG2⟩
  · have f0 : (r2 == 0) = false := by rw [beq_eq_false_iff_ne]; omega
    have f1 : (r2 == 1) = false := by rw [beq_eq_false_iff_ne]; omega
    have f2 : (r2 == 2) = false := by rw [beq_eq_false_iff_ne]; omega
    go_wp2
    go_ret
    exact ⟨_, rfl, by omega, hS2, hG2⟩
end Go.Proofs.YtlbmknmihofloaaDoor
