/- Contract of the program's function that makes the map of scales. -/
import Derived.Test.Ytgohipfaojiilaa09a
import Derived.Test.YtgohipfaojiilaaBoardLaws
import Derived.Deep.LoopGhost
import Derived.IntWalk
namespace Go.Proofs.Ytgohipfaojiilaa
open Go.ChangeShapes Go.WideShapes Go.ChangeAt Go.RowKit
set_option linter.unusedVariables false
set_option linter.unusedSimpArgs false
set_option maxRecDepth 4000

set_option maxRecDepth 8000 in
set_option maxHeartbeats 2000000 in
theorem scales_any (p c h : Int) (S : Nat) (hS : 1 ≤ S ∧ S ≤ 6) (w : World) :
    Calls Try.prog 62 #[.agg #[.int .i64 p, .int .i64 c, .int .i64 h, .int .i64 (S : Int)]] w fun e w' => ∃ b, e = .returned (.map (some b)) ∧ ScM w' b S (nn S) ∧ w.heap.size ≤ b ∧ Below w.heap.size w w' := by
  have hn := nn_range hS
  have hbase := base_range hS
  have BV := Blk.new w #[.int .i64 p, .int .i64 c, .int .i64 h, .int .i64 (S : Int)] 31
  have hb : Below w.heap.size w (w.alloc (.cells #[.int .i64 p, .int .i64 c, .int .i64 h, .int .i64 (S : Int)] 31)) := (Below.refl _ _).alloc (Nat.le_refl _) _
  have hz : (w.alloc (.cells #[.int .i64 p, .int .i64 c, .int .i64 h, .int .i64 (S : Int)] 31)).heap.size = w.heap.size + 1 := by simp
  obtain ⟨x0, x1, x2, x3, xf, xl⟩ := BV.four
  have hmm : (Instr.makeMap 72 none).run Try.prog (w.alloc (.cells #[.int .i64 p, .int .i64 c, .int .i64 h, .int .i64 (S : Int)] 31)) = .ok (.map (some (w.heap.size + 1))) ((w.alloc (.cells #[.int .i64 p, .int .i64 c, .int .i64 h, .int .i64 (S : Int)] 31)).alloc (.map #[] 0)) := by
    rw [← hz]
    rfl
  go_enter Try.func62, Try.ntmps62
  go_wp2_with fail
  clear x0 x1 x2 x3 xf xl
  have HM := ScM.made (w.alloc (.cells #[.int .i64 p, .int .i64 c, .int .i64 h, .int .i64 (S : Int)] 31)) S
  replace BV := BV.alloc (.map #[] 0)
  replace hb := hb.alloc (by omega) (.map #[] 0)
  rw [hz] at HM
  clear hmm hz
  generalize ((w.alloc (.cells #[.int .i64 p, .int .i64 c, .int .i64 h, .int .i64 (S : Int)] 31)).alloc (.map #[] 0)) = v0 at *
  go_loopg [4, 5] (nn S) (fun m sc d wr => ∃ (k : Nat) (C : Int), k ≤ nn S ∧ m = nn S - k ∧ sc = .int .i64 C ∧ d = .int .i64 (k : Int) ∧ Hid (C = ((scN S k : Nat) : Int)) ∧ ScM wr (w.heap.size + 1) S k ∧ Blk wr w.heap.size #[.int .i64 p, .int .i64 c, .int .i64 h, .int .i64 (S : Int)] 31 ∧ Below w.heap.size w wr)
  case atStart => exact ⟨0, 1, by omega, by omega, rfl, rfl, Lib.hid (by rw [scN_zero]; rfl), HM, BV, hb⟩
  case round =>
    clear HM BV hb
    obtain ⟨k, C, hk, hm, rfl, rfl, HC, HM, BV, hbel⟩ := hrel
    by_cases hlt : k < nn S
    · have hC := scN_in hS hlt
      have hC1 := scN_pos hS.1 k
      obtain ⟨w2, r1, HM2, g1⟩ := HM.put (by omega) hC
      have C0 : 1 ≤ C ∧ C ≤ 1000000000000000 := by have := HC.out; omega
      obtain ⟨C1, C2⟩ := C0
      rw [← HC.out] at r1
      obtain ⟨B, wB, hB0, hB1, HB⟩ : ∃ B : Int, IntKind.i64.wrap ((S : Int) * (S : Int)) = B ∧ 1 ≤ B ∧ B ≤ 36 ∧ Hid (B = ((S * S : Nat) : Int)) := by
        refine ⟨((S * S : Nat) : Int), ?_, by omega, by omega, Lib.hid rfl⟩
        rw [← Int.natCast_mul]
        exact IntWalk.i64_in _ (by omega)
      obtain ⟨D, wD, HD⟩ : ∃ D : Int, IntKind.i64.wrap (C * B) = D ∧ Hid (D = ((scN S (k + 1) : Nat) : Int)) := by
        refine ⟨C * B, ?_, Lib.hid (by rw [HC.out, HB.out, scN_succ]; rfl)⟩
        have h1 : 0 ≤ C * B := Int.mul_nonneg (by omega) (by omega)
        have h2 : C * B ≤ 1000000000000000 * 36 := Int.mul_le_mul C2 hB1 (by omega) (by omega)
        exact IntWalk.i64_in _ (by omega)
      have BV2 := BV.grown g1 (by omega)
      have hbel2 := hbel.grown g1 hbel.size (fun k hk => by cases hk; omega)
      have k60 : (k : Int) ≤ 60 := by omega
      obtain ⟨x0, x1, x2, x3, xf, xl⟩ := BV2.four
      clear hC hC1 HM BV hbel
      go_wp2
      go_roundg (nn S - (k + 1))
      case measure => omega
      case rel => exact ⟨k + 1, D, by omega, rfl, rfl, by go_num, HD, HM2, BV2, hbel2⟩
    · obtain rfl : k = nn S := by omega
      by_cases hS1 : S = 1
      · subst hS1
        have e : ((nn 1 : Nat) : Int) ≤ 60 ↔ False := by simp [nn]
        have e2 : ((nn 1 : Nat) : Int) = 61 := rfl
        rw [e2]
        go_wp2
        go_ret
        exact ⟨_, rfl, HM, by omega, hbel⟩
      · have ho := (scN_top hS).2 (by omega)
        have C1 : 1000000000000000 < C := by have := HC.out; omega
        have k60 : ((nn S : Nat) : Int) ≤ 60 := by
          have : S = 2 ∨ S = 3 ∨ S = 4 ∨ S = 5 ∨ S = 6 := by omega
          rcases this with rfl | rfl | rfl | rfl | rfl <;> decide
        clear ho hlt
        go_wp2
        go_ret
        exact ⟨_, rfl, HM, by omega, hbel⟩
end Go.Proofs.Ytgohipfaojiilaa
