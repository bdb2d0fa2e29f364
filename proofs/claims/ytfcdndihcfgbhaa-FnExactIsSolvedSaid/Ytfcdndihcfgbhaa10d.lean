/- Contracts of chapter 10: how many bear-off positions there are, of the program and of its model. -/
import Derived.Test.Ytfcdndihcfgbhaa10c
import Derived.Test.YtfcdndihcfgbhaaL03a
namespace Go.Proofs.Ytfcdndihcfgbhaa
open Go.ChangeShapes Go.WideShapes Go.ChangeAt Go.RowKit
set_option linter.unusedVariables false
set_option linter.unusedSimpArgs false
set_option maxRecDepth 4000

theorem cnt_mono (n : Nat) : ∀ {i j : Nat}, i ≤ j → cnt i n ≤ cnt j n := by
  intro i j h
  induction j with
  | zero => rw [show i = 0 by omega]; exact Nat.le_refl _
  | succ j ih =>
    by_cases e : i = j + 1
    · rw [e]; exact Nat.le_refl _
    · refine Nat.le_trans (ih (by omega)) ?_
      cases n with
      | zero => rw [cnt_base, cnt_base]; exact Nat.le_refl _
      | succ n => rw [cnt_step]; omega
/-- The number of lists, if it is not too great. -/
def wyI (k n : Nat) : Int := if cnt k n ≤ 1000000 then (cnt k n : Int) else -1
def bcI (p c h s : Int) : Int := if vB p c h s = true then wyI h.toNat c.toNat else -1
set_option maxHeartbeats 1000000 in
theorem l10Ways_any (k n : Nat) (w : World) (hn : k ≤ 25) (hm : n ≤ 15) :
    Calls Try.prog 53 #[.int .i64 n, .int .i64 k] w fun e w' => e = .returned (.int .i64 (wyI k n)) ∧ w = w' := by
  obtain ⟨R, hR⟩ : ∃ R, wyI k n = R := ⟨_, rfl⟩
  rw [hR]
  have HR := Lib.hid hR
  clear hR
  have hn2 : (n : Int) ≤ 15 := by omega
  go_enter Try.func53, Try.ntmps53
  go_wp2
  go_loopg [5, 6] k (fun z q i wr => w = wr ∧ ∃ j : Nat, j ≤ k ∧ z = k - j ∧ i = .int .i64 ((j : Int) + 1) ∧ q = .int .i64 (cnt j n) ∧ cnt j n ≤ 1000000)
  case atStart => exact ⟨rfl, 0, by omega, by omega, rfl, by rw [cnt_zero]; rfl, by rw [cnt_zero]; omega⟩
  case round =>
    obtain ⟨rfl, j, hk, hz, rfl, rfl, hc6⟩ := hrel
    by_cases hlt : j < k
    · have hlt' : (j : Int) + 1 ≤ (k : Int) := by omega
      have hc := cnt_bnd j n (by omega) hm
      have hd := cnt_bnd (j + 1) n (by omega) hm
      have hq := cnt_nextI j n
      have hmo := cnt_mono n (show j + 1 ≤ k by omega)
      obtain ⟨u, hu⟩ : ∃ u, (cnt (j + 1) n : Int) = u := ⟨_, rfl⟩
      obtain ⟨v, hv⟩ : ∃ v, (cnt j n : Int) = v := ⟨_, rfl⟩
      have hv6 : v ≤ 1000000 := by omega
      have hun : (cnt (j + 1) n : Int) = u := hu
      rw [hv] at hc hq ⊢
      rw [hu] at hd hq
      have e1 : (n : Int) + (j : Int) + 1 = (n : Int) + ((j : Int) + 1) := by omega
      rw [e1] at hq
      have hp := mul_bnd hc.1 hc.2 (b := (n : Int) + ((j : Int) + 1)) (by omega) (by omega)
      obtain ⟨y, hy⟩ : ∃ y, v * ((n : Int) + ((j : Int) + 1)) = y := ⟨_, rfl⟩
      rw [hy] at hq hp
      have hp0 := hp.1
      have hp1 := hp.2
      have hd0 := hd.1
      have hd1 := hd.2
      have HU := Lib.hid hun
      have HM := Lib.hid hmo
      clear hv hu hun hp hd hc e1 hmo hc6
      by_cases hg : u ≤ 1000000
      · go_wp2
        go_roundg (k - (j + 1))
        case measure => omega
        case rel => exact ⟨rfl, j + 1, by omega, rfl, by go_num, by rw [HU.out], by have := HU.out; omega⟩
      · have hR2 : R = -1 := by
          rw [← HR.out, wyI, if_neg]
          have := HU.out
          have := HM.out
          omega
        subst hR2
        go_wp2
        go_ret
        exact ⟨rfl, rfl⟩
    · obtain rfl : j = k := by omega
      have hlt' : ¬ ((j : Int) + 1 ≤ (j : Int)) := by omega
      have hR2 : (cnt j n : Int) = R := by rw [← HR.out, wyI, if_pos hc6]
      rw [hR2]
      go_wp2
      go_ret
      exact ⟨rfl, rfl⟩
set_option maxHeartbeats 1000000 in
theorem specBearoffCount_any (p c h s : Int) (w : World) :
    Calls Try.prog 40 #[.agg #[.int .i64 p, .int .i64 c, .int .i64 h, .int .i64 s]] w fun e w' => e = .returned (.int .i64 (bcI p c h s)) ∧ Below w.heap.size w w' := by
  have BV := Blk.new w #[.int .i64 p, .int .i64 c, .int .i64 h, .int .i64 s] 29
  have hb : Below w.heap.size w (w.alloc (.cells #[.int .i64 p, .int .i64 c, .int .i64 h, .int .i64 s] 29)) := (Below.refl _ _).alloc (Nat.le_refl _) _
  obtain ⟨x0, x1, x2, x3, xf, xl⟩ := BV.four
  have hB := fun W => specIsVariant_any p c h s W
  by_cases g : vB p c h s = true
  · have hv := vB_iff.1 g
    have hS := fun W => l10Ways_any h.toNat c.toNat W (by omega) (by omega)
    rw [show ((h.toNat : Nat) : Int) = h by omega, show ((c.toNat : Nat) : Int) = c by omega] at hS
    rw [bcI, if_pos g]
    rw [g] at hB
    have HB := Lib.hid hB
    have HS := Lib.hid hS
    clear hB hS g hv
    go_enter Try.func40, Try.ntmps40
    go_wp2_with (first | (go_at_call 26; refine (HB.out _).mono ?_; rintro e w1 ⟨rfl, hb1⟩; obtain ⟨x0, x1, x2, x3, xf, xl⟩ := (BV.below hb1).four) | (go_at_call 53; refine (HS.out _).mono ?_; rintro e w2 ⟨rfl, rfl⟩))
    go_ret
    exact ⟨rfl, chain hb hb1⟩
  · rw [bcI, if_neg g]
    replace g : vB p c h s = false := by simpa using g
    rw [g] at hB
    have HB := Lib.hid hB
    clear hB
    go_enter Try.func40, Try.ntmps40
    go_wp2_with (go_at_call 26; refine (HB.out _).mono ?_; rintro e w1 ⟨rfl, hb1⟩)
    go_ret
    exact ⟨rfl, chain hb hb1⟩
set_option maxHeartbeats 1000000 in
theorem bearoffCountM_any (p s : Int) (C H g : Nat) (w : World) (hH : H ≤ 24) (hC : C ≤ 15) (hw : WaysAt w g) :
    Calls Try.prog 50 #[.pointer (some ⟨g, 0, none⟩), .agg #[.int .i64 p, .int .i64 (C : Int), .int .i64 (H : Int), .int .i64 s]] w fun e w' => e = .returned (.int .i64 (wyI H C)) ∧ Below w.heap.size w w' := by
  have BV := Blk.new w #[.int .i64 p, .int .i64 (C : Int), .int .i64 (H : Int), .int .i64 s] 29
  have hb : Below w.heap.size w (w.alloc (.cells #[.int .i64 p, .int .i64 (C : Int), .int .i64 (H : Int), .int .i64 s] 29)) := (Below.refl _ _).alloc (Nat.le_refl _) _
  have hW := (hw.below hb).cell H C (by omega) hC
  obtain ⟨x0, x1, x2, x3, xf, xl⟩ := BV.four
  have f1 : (0 : Int) ≤ (H : Int) := by omega
  have f2 : (H : Int) < 26 := by omega
  have f3 : (0 : Int) ≤ (C : Int) := by omega
  have f4 : (C : Int) < 16 := by omega
  obtain ⟨R, hR⟩ : ∃ R, wyI H C = R := ⟨_, rfl⟩
  rw [hR]
  rw [wyI] at hR
  obtain ⟨x, hx⟩ : ∃ x : Nat, cnt H C = x := ⟨_, rfl⟩
  rw [hx] at hW hR
  have HR := Lib.hid hR
  clear hR hx
  by_cases hg : (x : Int) ≤ 1000000
  · have hR2 : (x : Int) = R := by have := HR.out; rw [if_pos (by omega)] at this; exact this
    go_enter Try.func50, Try.ntmps50
    go_wp2_with fail
    generalize (w.alloc (.cells #[.int .i64 p, .int .i64 (C : Int), .int .i64 (H : Int), .int .i64 s] 29)) = v0 at *
    have hd_ : v0.drew.heap.size = v0.heap.size := rfl
    replace BV := BV.drew
    replace hb := hb.drew
    replace hW : v0.drew.cell? ⟨g, H * 16 + C, none⟩ = some (.int .i64 (x : Int)) := hW
    refine wp_region_held_drew (S := fun w' => w'.cell? ⟨w.heap.size, 0, none⟩ = some (.int .i64 p) ∧ w'.cell? ⟨w.heap.size, 1, none⟩ = some (.int .i64 (C : Int)) ∧ w'.cell? ⟨w.heap.size, 2, none⟩ = some (.int .i64 (H : Int)) ∧ w'.cell? ⟨w.heap.size, 3, none⟩ = some (.int .i64 s) ∧ w'.cell? ⟨g, H * 16 + C, none⟩ = some (.int .i64 (x : Int))) (by kernel_rfl) ⟨BV.four.1, BV.four.2.1, BV.four.2.2.1, BV.four.2.2.2.1, hW⟩ (fun hHeld => ?_)
    clear hHeld
    generalize v0.drew = vd at *
    have hHeld : vd.cell? ⟨w.heap.size, 0, none⟩ = some (.int .i64 p) ∧ vd.cell? ⟨w.heap.size, 1, none⟩ = some (.int .i64 (C : Int)) ∧ vd.cell? ⟨w.heap.size, 2, none⟩ = some (.int .i64 (H : Int)) ∧ vd.cell? ⟨w.heap.size, 3, none⟩ = some (.int .i64 s) ∧ vd.cell? ⟨g, H * 16 + C, none⟩ = some (.int .i64 (x : Int)) := ⟨BV.four.1, BV.four.2.1, BV.four.2.2.1, BV.four.2.2.2.1, hW⟩
    refine tk 0 6 ?_
    refine tk 1 7 ?_
    refine tk 2 8 ?_
    refine tk 3 9 ?_
    refine tk 4 10 ?_
    refine tk 5 11 ?_
    refine tk 6 12 ?_
    refine tk 7 13 ?_
    refine tk 8 14 ?_
    refine tk 9 5 ?_
    refine wpAnyH_done (by kernel_rfl) ?_ _
    clear hHeld
    clear hW
    go_wp2
    go_ret
    exact ⟨rfl, hb⟩
  · have hR2 : R = -1 := by have := HR.out; rw [if_neg (by omega)] at this; exact this.symm
    subst hR2
    go_enter Try.func50, Try.ntmps50
    go_wp2_with fail
    generalize (w.alloc (.cells #[.int .i64 p, .int .i64 (C : Int), .int .i64 (H : Int), .int .i64 s] 29)) = v0 at *
    have hd_ : v0.drew.heap.size = v0.heap.size := rfl
    replace BV := BV.drew
    replace hb := hb.drew
    replace hW : v0.drew.cell? ⟨g, H * 16 + C, none⟩ = some (.int .i64 (x : Int)) := hW
    refine wp_region_held_drew (S := fun w' => w'.cell? ⟨w.heap.size, 0, none⟩ = some (.int .i64 p) ∧ w'.cell? ⟨w.heap.size, 1, none⟩ = some (.int .i64 (C : Int)) ∧ w'.cell? ⟨w.heap.size, 2, none⟩ = some (.int .i64 (H : Int)) ∧ w'.cell? ⟨w.heap.size, 3, none⟩ = some (.int .i64 s) ∧ w'.cell? ⟨g, H * 16 + C, none⟩ = some (.int .i64 (x : Int))) (by kernel_rfl) ⟨BV.four.1, BV.four.2.1, BV.four.2.2.1, BV.four.2.2.2.1, hW⟩ (fun hHeld => ?_)
    clear hHeld
    generalize v0.drew = vd at *
    have hHeld : vd.cell? ⟨w.heap.size, 0, none⟩ = some (.int .i64 p) ∧ vd.cell? ⟨w.heap.size, 1, none⟩ = some (.int .i64 (C : Int)) ∧ vd.cell? ⟨w.heap.size, 2, none⟩ = some (.int .i64 (H : Int)) ∧ vd.cell? ⟨w.heap.size, 3, none⟩ = some (.int .i64 s) ∧ vd.cell? ⟨g, H * 16 + C, none⟩ = some (.int .i64 (x : Int)) := ⟨BV.four.1, BV.four.2.1, BV.four.2.2.1, BV.four.2.2.2.1, hW⟩
    refine tk 0 6 ?_
    refine tk 1 7 ?_
    refine tk 2 8 ?_
    refine tk 3 9 ?_
    refine tk 4 10 ?_
    refine tk 5 11 ?_
    refine tk 6 12 ?_
    refine tk 7 13 ?_
    refine tk 8 14 ?_
    refine tk 9 5 ?_
    refine wpAnyH_done (by kernel_rfl) ?_ _
    clear hHeld
    clear hW
    go_wp2
    go_ret
    exact ⟨rfl, hb⟩
end Go.Proofs.Ytfcdndihcfgbhaa
