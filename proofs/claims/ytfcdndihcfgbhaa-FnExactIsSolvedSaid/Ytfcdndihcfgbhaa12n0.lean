/- The code of a position whose variant wants a table. -/
import Derived.Test.Ytfcdndihcfgbhaa10d
import Derived.Test.Ytfcdndihcfgbhaa10a
namespace Go.Proofs.Ytfcdndihcfgbhaa
open Go.ChangeShapes Go.WideShapes Go.ChangeAt Go.RowKit
set_option linter.unusedVariables false
set_option linter.unusedSimpArgs false
set_option maxRecDepth 4000

def tcE (p c h s : Int) (xs : List Int) : Int := if bcE p c h s xs = 0 then (if cnt h.toNat c.toNat ≤ 500 then 0 else 3) else bcE p c h s xs
theorem tcE_zero {p c h s : Int} {xs : List Int} (e : tcE p c h s xs = 0) : bcE p c h s xs = 0 ∧ cnt h.toNat c.toNat ≤ 500 := by
  unfold tcE at e
  split at e
  · rename_i q
    split at e
    · rename_i r
      exact ⟨q, r⟩
    · omega
  · rename_i q
    exact absurd e q
set_option maxHeartbeats 1000000 in
theorem tableCode_any (p c h s : Int) (a : Option Addr) (n cap : Nat) (xs : List Int) (w : World) (hn : xs.length = n) (hle : n ≤ 1048576) (hr : IRow w a xs) :
    Calls Try.prog 24 #[.agg #[.int .i64 p, .int .i64 c, .int .i64 h, .int .i64 s], .slice a n cap] w fun e w' => e = .returned (.int .i64 (tcE p c h s xs)) ∧ Below w.heap.size w w' := by
  have BV := Blk.new w #[.int .i64 p, .int .i64 c, .int .i64 h, .int .i64 s] 29
  have hb : Below w.heap.size w (w.alloc (.cells #[.int .i64 p, .int .i64 c, .int .i64 h, .int .i64 s] 29)) := (Below.refl _ _).alloc (Nat.le_refl _) _
  replace hr := hr.below hb
  obtain ⟨x0, x1, x2, x3, xf, xl⟩ := BV.four
  have hC := fun W (r : IRow W a xs) => bearoffCode_any p c h s a n cap xs W hn hle r
  by_cases g : bcE p c h s xs = 0
  · have hv := (okP_parts (okP_of g))
    have hS := fun W gg (q : WaysAt W gg) => bearoffCountM_any p s c.toNat h.toNat gg W (by omega) (by omega) q
    rw [show ((h.toNat : Nat) : Int) = h by omega, show ((c.toNat : Nat) : Int) = c by omega] at hS
    rw [tcE, if_pos g]
    rw [g] at hC
    have HC := Lib.hid hC
    obtain ⟨R, hR⟩ : ∃ R, wyI h.toNat c.toNat = R := ⟨_, rfl⟩
    rw [hR] at hS
    rw [wyI] at hR
    obtain ⟨N, hN⟩ : ∃ N, cnt h.toNat c.toNat = N := ⟨_, rfl⟩
    rw [hN] at hR ⊢
    have HS := Lib.hid hS
    obtain ⟨U, hU⟩ : ∃ U : Int, (if N ≤ 500 then 0 else 3) = U := ⟨_, rfl⟩
    rw [hU]
    have hcases : (U = 0 ∧ 0 ≤ R ∧ R ≤ 500) ∨ (U = 3 ∧ 501 ≤ R) ∨ (U = 3 ∧ R = -1) := by
      split at hR <;> split at hU <;> omega
    clear hC hS g hv hR hN hU
    go_enter Try.func24, Try.ntmps24
    go_wp2_with fail
    refine (HC.out _ hr).mono ?_
    rintro e w1 ⟨rfl, hb1⟩
    replace BV := BV.below hb1
    replace hb := chain hb hb1
    clear x0 x1 x2 x3 xf xl hb1 hr
    go_wp2_with fail
    have hd_ : w1.drew.heap.size = w1.heap.size := rfl
    replace BV := BV.drew
    replace hb := hb.drew
    refine wp_region_held_drew (S := fun w' => w'.cell? ⟨w.heap.size, 0, none⟩ = some (.int .i64 p) ∧ w'.cell? ⟨w.heap.size, 1, none⟩ = some (.int .i64 c) ∧ w'.cell? ⟨w.heap.size, 2, none⟩ = some (.int .i64 h) ∧ w'.cell? ⟨w.heap.size, 3, none⟩ = some (.int .i64 s)) (by kernel_rfl) ⟨BV.four.1, BV.four.2.1, BV.four.2.2.1, BV.four.2.2.2.1⟩ (fun hHeld => ?_)
    clear hHeld
    generalize w1.drew = vd at *
    have hHeld : vd.cell? ⟨w.heap.size, 0, none⟩ = some (.int .i64 p) ∧ vd.cell? ⟨w.heap.size, 1, none⟩ = some (.int .i64 c) ∧ vd.cell? ⟨w.heap.size, 2, none⟩ = some (.int .i64 h) ∧ vd.cell? ⟨w.heap.size, 3, none⟩ = some (.int .i64 s) := ⟨BV.four.1, BV.four.2.1, BV.four.2.2.1, BV.four.2.2.2.1⟩
    refine tk 1 14 ?_
    refine rdk 0 13 fun K hK => ?_
    go_simp
    refine (countWays_any _).mono ?_
    rintro e w2 ⟨g, rfl, hg, HW, hq⟩
    replace BV := BV.below hq
    replace hb := chain hb hq
    clear hq
    (try go_wp2_with fail)
    refine hko hK (Blk.l4 BV) fun hHeld => ?_
    clear hK K
    refine rdk 2 15 fun K hK => ?_
    go_simp
    refine (HS.out _ g HW).mono ?_
    rintro e w3 ⟨rfl, hq⟩
    replace BV := BV.below hq
    replace hb := chain hb hq
    clear hq
    (try go_wp2_with fail)
    refine hko hK (Blk.l4 BV) fun hHeld => ?_
    clear hK K
    refine tk 3 6 ?_
    refine wpAnyH_done (by kernel_rfl) ?_ _
    clear hHeld
    rcases hcases with ⟨rfl, k2, k3⟩ | ⟨rfl, k2⟩ | ⟨rfl, rfl⟩
    · have f0 : (decide (R < 0)) = false := by rw [decide_eq_false_iff_not]; omega
      have f1 : (decide (500 < R)) = false := by rw [decide_eq_false_iff_not]; omega
      go_wp2
      go_ret
      exact ⟨rfl, hb⟩
    · have f0 : (decide (R < 0)) = false := by rw [decide_eq_false_iff_not]; omega
      have f1 : (decide (500 < R)) = true := by rw [decide_eq_true_iff]; omega
      have f2 : ¬ R < 0 := by omega
      have f3 : 500 < R := by omega
      go_wp2
      go_ret
      exact ⟨rfl, hb⟩
    · go_wp2
      go_ret
      exact ⟨rfl, hb⟩
  · rw [tcE, if_neg g]
    obtain ⟨K, hK⟩ : ∃ K, bcE p c h s xs = K := ⟨_, rfl⟩
    rw [hK] at hC g ⊢
    have HC := Lib.hid hC
    have f0 : (K != 0) = true := by rw [bne_iff_ne]; exact g
    clear hC hK
    go_enter Try.func24, Try.ntmps24
    go_wp2_with fail
    refine (HC.out _ hr).mono ?_
    rintro e w1 ⟨rfl, hb1⟩
    go_wp2
    go_ret
    exact ⟨rfl, chain hb hb1⟩
end Go.Proofs.Ytfcdndihcfgbhaa
