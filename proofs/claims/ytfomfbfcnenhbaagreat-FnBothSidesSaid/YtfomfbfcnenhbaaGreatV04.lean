/- Texts of a proof, laid together. -/
import Derived.Test.YtfomfbfcnenhbaaGreatV03
import Derived.Test.YtfomfbfcnenhbaaGreatV02
import Derived.BigQuiet
import Derived.Deep.QuietTactic
import Derived.Test.YtfomfbfcnenhbaaGreatV01
import Derived.OwnWalk
import Derived.Deep.AppendLies
import Derived.ArgAppend
import Derived.Deep.RegionHeld3
namespace Go.Proofs.YtfomfbfcnenhbaaGreat
open Go.ChangeShapes Go.WideShapes Go.ChangeAt Go.RowKit
set_option linter.unusedVariables false
set_option linter.unusedSimpArgs false
set_option maxRecDepth 4000
theorem cnt_mono (n : Nat) : ∀ {i j : Nat}, i ≤ j → cnt i n ≤ cnt j n := by
  intro i j h
  induction j with
  | zero => rw [show i = 0 by omega]; exact Nat.le_refl _
  | succ j ih =>
    by_cases e : i = j + 1
    · rw [e]; exact Nat.le_refl _
    · refine Nat.le_trans (ih (by omega)) ?_
      cases n with
      | zero => rw [cnt_base, cnt_base]; exact Nat.le_refl _
      | succ n => rw [cnt_step]; omega
def wyI (k n : Nat) : Int := if cnt k n ≤ 1000000 then (cnt k n : Int) else -1
def bcI (p c h s : Int) : Int := if vB p c h s = true then wyI h.toNat c.toNat else -1
set_option maxHeartbeats 1000000 in
theorem l10Ways_any (k n : Nat) (w : World) (hn : k ≤ 25) (hm : n ≤ 15) :
    Calls Tryz.prog 102 #[.int .i64 n, .int .i64 k] w fun e w' => e = .returned (.int .i64 (wyI k n)) ∧ w = w' := by
  obtain ⟨R, hR⟩ : ∃ R, wyI k n = R := ⟨_, rfl⟩
  rw [hR]
  have HR := Lib.hid hR
  clear hR
  have hn2 : (n : Int) ≤ 15 := by omega
  go_enter Tryz.func102, Tryz.ntmps102
  go_wp2
  go_loopg [5, 6] k (fun z q i wr => w = wr ∧ ∃ j : Nat, j ≤ k ∧ z = k - j ∧ i = .int .i64 ((j : Int) + 1) ∧ q = .int .i64 (cnt j n) ∧ cnt j n ≤ 1000000)
  case atStart => exact ⟨rfl, 0, by omega, by omega, rfl, by rw [cnt_zero]; rfl, by rw [cnt_zero]; omega⟩
  case round =>
    obtain ⟨rfl, j, hk, hz, rfl, rfl, hc6⟩ := hrel
    by_cases hlt : j < k
    · have hlt' : (j : Int) + 1 ≤ (k : Int) := by omega
      have hc := cnt_bnd j n (by omega) hm
      have hd := cnt_bnd (j + 1) n (by omega) hm
      have hq := cnt_nextI j n
      have hmo := cnt_mono n (show j + 1 ≤ k by omega)
      obtain ⟨u, hu⟩ : ∃ u, (cnt (j + 1) n : Int) = u := ⟨_, rfl⟩
      obtain ⟨v, hv⟩ : ∃ v, (cnt j n : Int) = v := ⟨_, rfl⟩
      have hv6 : v ≤ 1000000 := by omega
      have hun : (cnt (j + 1) n : Int) = u := hu
      rw [hv] at hc hq ⊢
      rw [hu] at hd hq
      have e1 : (n : Int) + (j : Int) + 1 = (n : Int) + ((j : Int) + 1) := by omega
      rw [e1] at hq
      have hp := mul_bnd hc.1 hc.2 (b := (n : Int) + ((j : Int) + 1)) (by omega) (by omega)
      obtain ⟨y, hy⟩ : ∃ y, v * ((n : Int) + ((j : Int) + 1)) = y := ⟨_, rfl⟩
      rw [hy] at hq hp
      have hp0 := hp.1
      have hp1 := hp.2
      have hd0 := hd.1
      have hd1 := hd.2
      have HU := Lib.hid hun
      have HM := Lib.hid hmo
      clear hv hu hun hp hd hc e1 hmo hc6
      by_cases hg : u ≤ 1000000
      · go_wp2
        go_roundg (k - (j + 1))
        case measure => omega
        case rel => exact ⟨rfl, j + 1, by omega, rfl, by go_num, by rw [HU.out], by have := HU.out; omega⟩
      · have hR2 : R = -1 := by
          rw [← HR.out, wyI, if_neg]
          have := HU.out
          have := HM.out
          omega
        subst hR2
        go_wp2
        go_ret
        exact ⟨rfl, rfl⟩
    · obtain rfl : j = k := by omega
      have hlt' : ¬ ((j : Int) + 1 ≤ (j : Int)) := by omega
      have hR2 : (cnt j n : Int) = R := by rw [← HR.out, wyI, if_pos hc6]
      rw [hR2]
      go_wp2
      go_ret
      exact ⟨rfl, rfl⟩
set_option maxHeartbeats 1000000 in
theorem specBearoffCount_any (p c h s : Int) (w : World) :
    Calls Tryz.prog 99 #[.agg #[.int .i64 p, .int .i64 c, .int .i64 h, .int .i64 s]] w fun e w' => e = .returned (.int .i64 (bcI p c h s)) ∧ Below w.heap.size w w' := by
  have BV := Blk.new w #[.int .i64 p, .int .i64 c, .int .i64 h, .int .i64 s] 25
  have hb : Below w.heap.size w (w.alloc (.cells #[.int .i64 p, .int .i64 c, .int .i64 h, .int .i64 s] 25)) := (Below.refl _ _).alloc (Nat.le_refl _) _
  obtain ⟨x0, x1, x2, x3, xf, xl⟩ := BV.four
  have hB := fun W => specIsVariant_any p c h s W
  by_cases g : vB p c h s = true
  · have hv := vB_iff.1 g
    have hS := fun W => l10Ways_any h.toNat c.toNat W (by omega) (by omega)
    rw [show ((h.toNat : Nat) : Int) = h by omega, show ((c.toNat : Nat) : Int) = c by omega] at hS
    rw [bcI, if_pos g]
    rw [g] at hB
    have HB := Lib.hid hB
    have HS := Lib.hid hS
    clear hB hS g hv
    go_enter Tryz.func99, Tryz.ntmps99
    go_wp2_with (first | (go_at_call 73; refine (HB.out _).mono ?_; rintro e w1 ⟨rfl, hb1⟩; obtain ⟨x0, x1, x2, x3, xf, xl⟩ := (BV.below hb1).four) | (go_at_call 102; refine (HS.out _).mono ?_; rintro e w2 ⟨rfl, rfl⟩))
    go_ret
    exact ⟨rfl, chain hb hb1⟩
  · rw [bcI, if_neg g]
    replace g : vB p c h s = false := by simpa using g
    rw [g] at hB
    have HB := Lib.hid hB
    clear hB
    go_enter Tryz.func99, Tryz.ntmps99
    go_wp2_with (go_at_call 73; refine (HB.out _).mono ?_; rintro e w1 ⟨rfl, hb1⟩)
    go_ret
    exact ⟨rfl, chain hb hb1⟩
set_option maxHeartbeats 1000000 in
theorem bearoffCountM_any (p s : Int) (C H g : Nat) (w : World) (hH : H ≤ 24) (hC : C ≤ 15) (hw : WaysAt w g) :
    Calls Tryz.prog 121 #[.pointer (some ⟨g, 0, none⟩), .agg #[.int .i64 p, .int .i64 (C : Int), .int .i64 (H : Int), .int .i64 s]] w fun e w' => e = .returned (.int .i64 (wyI H C)) ∧ Below w.heap.size w w' := by
  have BV := Blk.new w #[.int .i64 p, .int .i64 (C : Int), .int .i64 (H : Int), .int .i64 s] 25
  have hb : Below w.heap.size w (w.alloc (.cells #[.int .i64 p, .int .i64 (C : Int), .int .i64 (H : Int), .int .i64 s] 25)) := (Below.refl _ _).alloc (Nat.le_refl _) _
  have hW := (hw.below hb).cell H C (by omega) hC
  obtain ⟨x0, x1, x2, x3, xf, xl⟩ := BV.four
  have f1 : (0 : Int) ≤ (H : Int) := by omega
  have f2 : (H : Int) < 26 := by omega
  have f3 : (0 : Int) ≤ (C : Int) := by omega
  have f4 : (C : Int) < 16 := by omega
  obtain ⟨R, hR⟩ : ∃ R, wyI H C = R := ⟨_, rfl⟩
  rw [hR]
  rw [wyI] at hR
  obtain ⟨x, hx⟩ : ∃ x : Nat, cnt H C = x := ⟨_, rfl⟩
  rw [hx] at hW hR
  have HR := Lib.hid hR
  clear hR hx
  by_cases hg : (x : Int) ≤ 1000000
  · have hR2 : (x : Int) = R := by have := HR.out; rw [if_pos (by omega)] at this; exact this
    go_enter Tryz.func121, Tryz.ntmps121
    go_wp2_with fail
    generalize (w.alloc (.cells #[.int .i64 p, .int .i64 (C : Int), .int .i64 (H : Int), .int .i64 s] 25)) = v0 at *
    have hd_ : v0.drew.heap.size = v0.heap.size := rfl
    replace BV := BV.drew
    replace hb := hb.drew
    replace hW : v0.drew.cell? ⟨g, H * 16 + C, none⟩ = some (.int .i64 (x : Int)) := hW
    refine wp_region_held_drew (S := fun w' => w'.cell? ⟨w.heap.size, 0, none⟩ = some (.int .i64 p) ∧ w'.cell? ⟨w.heap.size, 1, none⟩ = some (.int .i64 (C : Int)) ∧ w'.cell? ⟨w.heap.size, 2, none⟩ = some (.int .i64 (H : Int)) ∧ w'.cell? ⟨w.heap.size, 3, none⟩ = some (.int .i64 s) ∧ w'.cell? ⟨g, H * 16 + C, none⟩ = some (.int .i64 (x : Int))) (by kernel_rfl) ⟨BV.four.1, BV.four.2.1, BV.four.2.2.1, BV.four.2.2.2.1, hW⟩ (fun hHeld => ?_)
    clear hHeld
    generalize v0.drew = vd at *
    have hHeld : vd.cell? ⟨w.heap.size, 0, none⟩ = some (.int .i64 p) ∧ vd.cell? ⟨w.heap.size, 1, none⟩ = some (.int .i64 (C : Int)) ∧ vd.cell? ⟨w.heap.size, 2, none⟩ = some (.int .i64 (H : Int)) ∧ vd.cell? ⟨w.heap.size, 3, none⟩ = some (.int .i64 s) ∧ vd.cell? ⟨g, H * 16 + C, none⟩ = some (.int .i64 (x : Int)) := ⟨BV.four.1, BV.four.2.1, BV.four.2.2.1, BV.four.2.2.2.1, hW⟩
    refine wpAnyH_take (i := 0) (oi := ⟨some 6, _, _, _, _, _⟩) (v := ?_) rfl (by kernel_rfl) (by kernel_rfl) (by kernel_rfl) (fun _ _ _ h => h) (Or.inl ⟨by rfl, ?_⟩) (by assumption) ?_
    rotate_left
    · intro w hSw; (try dsimp only at hSw); go_simp; (try (with_reducible rfl))
    try simp only [Act.put, List.setIfInBounds_toArray, List.set_cons_zero, List.set_cons_succ]
    refine wpAnyH_take (i := 1) (oi := ⟨some 7, _, _, _, _, _⟩) (v := ?_) rfl (by kernel_rfl) (by kernel_rfl) (by kernel_rfl) (fun _ _ _ h => h) (Or.inl ⟨by rfl, ?_⟩) (by assumption) ?_
    rotate_left
    · intro w hSw; (try dsimp only at hSw); go_simp; (try (with_reducible rfl))
    try simp only [Act.put, List.setIfInBounds_toArray, List.set_cons_zero, List.set_cons_succ]
    refine wpAnyH_take (i := 2) (oi := ⟨some 8, _, _, _, _, _⟩) (v := ?_) rfl (by kernel_rfl) (by kernel_rfl) (by kernel_rfl) (fun _ _ _ h => h) (Or.inl ⟨by rfl, ?_⟩) (by assumption) ?_
    rotate_left
    · intro w hSw; (try dsimp only at hSw); go_simp; (try (with_reducible rfl))
    try simp only [Act.put, List.setIfInBounds_toArray, List.set_cons_zero, List.set_cons_succ]
    refine wpAnyH_take (i := 3) (oi := ⟨some 9, _, _, _, _, _⟩) (v := ?_) rfl (by kernel_rfl) (by kernel_rfl) (by kernel_rfl) (fun _ _ _ h => h) (Or.inl ⟨by rfl, ?_⟩) (by assumption) ?_
    rotate_left
    · intro w hSw; (try dsimp only at hSw); go_simp; (try (with_reducible rfl))
    try simp only [Act.put, List.setIfInBounds_toArray, List.set_cons_zero, List.set_cons_succ]
    refine wpAnyH_take (i := 4) (oi := ⟨some 10, _, _, _, _, _⟩) (v := ?_) rfl (by kernel_rfl) (by kernel_rfl) (by kernel_rfl) (fun _ _ _ h => h) (Or.inl ⟨by rfl, ?_⟩) (by assumption) ?_
    rotate_left
    · intro w hSw; (try dsimp only at hSw); go_simp; (try (with_reducible rfl))
    try simp only [Act.put, List.setIfInBounds_toArray, List.set_cons_zero, List.set_cons_succ]
    refine wpAnyH_take (i := 5) (oi := ⟨some 11, _, _, _, _, _⟩) (v := ?_) rfl (by kernel_rfl) (by kernel_rfl) (by kernel_rfl) (fun _ _ _ h => h) (Or.inl ⟨by rfl, ?_⟩) (by assumption) ?_
    rotate_left
    · intro w hSw; (try dsimp only at hSw); go_simp; (try (with_reducible rfl))
    try simp only [Act.put, List.setIfInBounds_toArray, List.set_cons_zero, List.set_cons_succ]
    refine wpAnyH_take (i := 6) (oi := ⟨some 12, _, _, _, _, _⟩) (v := ?_) rfl (by kernel_rfl) (by kernel_rfl) (by kernel_rfl) (fun _ _ _ h => h) (Or.inl ⟨by rfl, ?_⟩) (by assumption) ?_
    rotate_left
    · intro w hSw; (try dsimp only at hSw); go_simp; (try (with_reducible rfl))
    try simp only [Act.put, List.setIfInBounds_toArray, List.set_cons_zero, List.set_cons_succ]
    refine wpAnyH_take (i := 7) (oi := ⟨some 13, _, _, _, _, _⟩) (v := ?_) rfl (by kernel_rfl) (by kernel_rfl) (by kernel_rfl) (fun _ _ _ h => h) (Or.inl ⟨by rfl, ?_⟩) (by assumption) ?_
    rotate_left
    · intro w hSw; (try dsimp only at hSw); go_simp; (try (with_reducible rfl))
    try simp only [Act.put, List.setIfInBounds_toArray, List.set_cons_zero, List.set_cons_succ]
    refine wpAnyH_take (i := 8) (oi := ⟨some 14, _, _, _, _, _⟩) (v := ?_) rfl (by kernel_rfl) (by kernel_rfl) (by kernel_rfl) (fun _ _ _ h => h) (Or.inl ⟨by rfl, ?_⟩) (by assumption) ?_
    rotate_left
    · intro w hSw; (try dsimp only at hSw); go_simp; (try (with_reducible rfl))
    try simp only [Act.put, List.setIfInBounds_toArray, List.set_cons_zero, List.set_cons_succ]
    refine wpAnyH_take (i := 9) (oi := ⟨some 5, _, _, _, _, _⟩) (v := ?_) rfl (by kernel_rfl) (by kernel_rfl) (by kernel_rfl) (fun _ _ _ h => h) (Or.inl ⟨by rfl, ?_⟩) (by assumption) ?_
    rotate_left
    · intro w hSw; (try dsimp only at hSw); go_simp; (try (with_reducible rfl))
    try simp only [Act.put, List.setIfInBounds_toArray, List.set_cons_zero, List.set_cons_succ]
    refine wpAnyH_done (by kernel_rfl) ?_ _
    clear hHeld
    clear hW
    go_wp2
    go_ret
    exact ⟨rfl, hb⟩
  · have hR2 : R = -1 := by have := HR.out; rw [if_neg (by omega)] at this; exact this.symm
    subst hR2
    go_enter Tryz.func121, Tryz.ntmps121
    go_wp2_with fail
    generalize (w.alloc (.cells #[.int .i64 p, .int .i64 (C : Int), .int .i64 (H : Int), .int .i64 s] 25)) = v0 at *
    have hd_ : v0.drew.heap.size = v0.heap.size := rfl
    replace BV := BV.drew
    replace hb := hb.drew
    replace hW : v0.drew.cell? ⟨g, H * 16 + C, none⟩ = some (.int .i64 (x : Int)) := hW
    refine wp_region_held_drew (S := fun w' => w'.cell? ⟨w.heap.size, 0, none⟩ = some (.int .i64 p) ∧ w'.cell? ⟨w.heap.size, 1, none⟩ = some (.int .i64 (C : Int)) ∧ w'.cell? ⟨w.heap.size, 2, none⟩ = some (.int .i64 (H : Int)) ∧ w'.cell? ⟨w.heap.size, 3, none⟩ = some (.int .i64 s) ∧ w'.cell? ⟨g, H * 16 + C, none⟩ = some (.int .i64 (x : Int))) (by kernel_rfl) ⟨BV.four.1, BV.four.2.1, BV.four.2.2.1, BV.four.2.2.2.1, hW⟩ (fun hHeld => ?_)
    clear hHeld
    generalize v0.drew = vd at *
    have hHeld : vd.cell? ⟨w.heap.size, 0, none⟩ = some (.int .i64 p) ∧ vd.cell? ⟨w.heap.size, 1, none⟩ = some (.int .i64 (C : Int)) ∧ vd.cell? ⟨w.heap.size, 2, none⟩ = some (.int .i64 (H : Int)) ∧ vd.cell? ⟨w.heap.size, 3, none⟩ = some (.int .i64 s) ∧ vd.cell? ⟨g, H * 16 + C, none⟩ = some (.int .i64 (x : Int)) := ⟨BV.four.1, BV.four.2.1, BV.four.2.2.1, BV.four.2.2.2.1, hW⟩
    refine wpAnyH_take (i := 0) (oi := ⟨some 6, _, _, _, _, _⟩) (v := ?_) rfl (by kernel_rfl) (by kernel_rfl) (by kernel_rfl) (fun _ _ _ h => h) (Or.inl ⟨by rfl, ?_⟩) (by assumption) ?_
    rotate_left
    · intro w hSw; (try dsimp only at hSw); go_simp; (try (with_reducible rfl))
    try simp only [Act.put, List.setIfInBounds_toArray, List.set_cons_zero, List.set_cons_succ]
    refine wpAnyH_take (i := 1) (oi := ⟨some 7, _, _, _, _, _⟩) (v := ?_) rfl (by kernel_rfl) (by kernel_rfl) (by kernel_rfl) (fun _ _ _ h => h) (Or.inl ⟨by rfl, ?_⟩) (by assumption) ?_
    rotate_left
    · intro w hSw; (try dsimp only at hSw); go_simp; (try (with_reducible rfl))
    try simp only [Act.put, List.setIfInBounds_toArray, List.set_cons_zero, List.set_cons_succ]
    refine wpAnyH_take (i := 2) (oi := ⟨some 8, _, _, _, _, _⟩) (v := ?_) rfl (by kernel_rfl) (by kernel_rfl) (by kernel_rfl) (fun _ _ _ h => h) (Or.inl ⟨by rfl, ?_⟩) (by assumption) ?_
    rotate_left
    · intro w hSw; (try dsimp only at hSw); go_simp; (try (with_reducible rfl))
    try simp only [Act.put, List.setIfInBounds_toArray, List.set_cons_zero, List.set_cons_succ]
    refine wpAnyH_take (i := 3) (oi := ⟨some 9, _, _, _, _, _⟩) (v := ?_) rfl (by kernel_rfl) (by kernel_rfl) (by kernel_rfl) (fun _ _ _ h => h) (Or.inl ⟨by rfl, ?_⟩) (by assumption) ?_
    rotate_left
    · intro w hSw; (try dsimp only at hSw); go_simp; (try (with_reducible rfl))
    try simp only [Act.put, List.setIfInBounds_toArray, List.set_cons_zero, List.set_cons_succ]
    refine wpAnyH_take (i := 4) (oi := ⟨some 10, _, _, _, _, _⟩) (v := ?_) rfl (by kernel_rfl) (by kernel_rfl) (by kernel_rfl) (fun _ _ _ h => h) (Or.inl ⟨by rfl, ?_⟩) (by assumption) ?_
    rotate_left
    · intro w hSw; (try dsimp only at hSw); go_simp; (try (with_reducible rfl))
    try simp only [Act.put, List.setIfInBounds_toArray, List.set_cons_zero, List.set_cons_succ]
    refine wpAnyH_take (i := 5) (oi := ⟨some 11, _, _, _, _, _⟩) (v := ?_) rfl (by kernel_rfl) (by kernel_rfl) (by kernel_rfl) (fun _ _ _ h => h) (Or.inl ⟨by rfl, ?_⟩) (by assumption) ?_
    rotate_left
    · intro w hSw; (try dsimp only at hSw); go_simp; (try (with_reducible rfl))
    try simp only [Act.put, List.setIfInBounds_toArray, List.set_cons_zero, List.set_cons_succ]
    refine wpAnyH_take (i := 6) (oi := ⟨some 12, _, _, _, _, _⟩) (v := ?_) rfl (by kernel_rfl) (by kernel_rfl) (by kernel_rfl) (fun _ _ _ h => h) (Or.inl ⟨by rfl, ?_⟩) (by assumption) ?_
    rotate_left
    · intro w hSw; (try dsimp only at hSw); go_simp; (try (with_reducible rfl))
    try simp only [Act.put, List.setIfInBounds_toArray, List.set_cons_zero, List.set_cons_succ]
    refine wpAnyH_take (i := 7) (oi := ⟨some 13, _, _, _, _, _⟩) (v := ?_) rfl (by kernel_rfl) (by kernel_rfl) (by kernel_rfl) (fun _ _ _ h => h) (Or.inl ⟨by rfl, ?_⟩) (by assumption) ?_
    rotate_left
    · intro w hSw; (try dsimp only at hSw); go_simp; (try (with_reducible rfl))
    try simp only [Act.put, List.setIfInBounds_toArray, List.set_cons_zero, List.set_cons_succ]
    refine wpAnyH_take (i := 8) (oi := ⟨some 14, _, _, _, _, _⟩) (v := ?_) rfl (by kernel_rfl) (by kernel_rfl) (by kernel_rfl) (fun _ _ _ h => h) (Or.inl ⟨by rfl, ?_⟩) (by assumption) ?_
    rotate_left
    · intro w hSw; (try dsimp only at hSw); go_simp; (try (with_reducible rfl))
    try simp only [Act.put, List.setIfInBounds_toArray, List.set_cons_zero, List.set_cons_succ]
    refine wpAnyH_take (i := 9) (oi := ⟨some 5, _, _, _, _, _⟩) (v := ?_) rfl (by kernel_rfl) (by kernel_rfl) (by kernel_rfl) (fun _ _ _ h => h) (Or.inl ⟨by rfl, ?_⟩) (by assumption) ?_
    rotate_left
    · intro w hSw; (try dsimp only at hSw); go_simp; (try (with_reducible rfl))
    try simp only [Act.put, List.setIfInBounds_toArray, List.set_cons_zero, List.set_cons_succ]
    refine wpAnyH_done (by kernel_rfl) ?_ _
    clear hHeld
    clear hW
    go_wp2
    go_ret
    exact ⟨rfl, hb⟩
theorem drop_cons (ns : List Nat) (k : Nat) (h : k < ns.length) : ns.drop k = ns.getD k 0 :: ns.drop (k + 1) := by
  rw [List.drop_eq_getElem_cons h]; simp [h]
theorem num_step (ns : List Nat) (k L N T n : Nat) (hn : ns.length = n) (h : k < n) (hT : N + numL (ns.drop k) L = T) (hs : (ns.drop k).sum ≤ L) :
    ∃ x, ns.getD k 0 = x ∧ x ≤ L ∧ N + blk (n - 1 - k) L x + numL (ns.drop (k + 1)) (L - x) = T ∧ (ns.drop (k + 1)).sum ≤ L - x := by
  subst hn
  rw [drop_cons ns k h] at hT hs
  simp only [List.sum_cons] at hs
  refine ⟨ns.getD k 0, rfl, by omega, ?_, by omega⟩
  rw [numL, List.length_drop] at hT
  rw [show ns.length - 1 - k = ns.length - (k + 1) by omega]
  omega
theorem blk_upto (b l : Nat) {i j : Nat} (h : i ≤ j) : blk b l i ≤ blk b l j := by
  by_cases e : i = j
  · subst e; omega
  · have := blk_mono b l (show i < j by omega); omega
def nats (xs : List Int) : List Nat := xs.map Int.toNat
theorem nats_length (xs : List Int) : (nats xs).length = xs.length := by simp [nats]
theorem nats_getD (xs : List Int) (k : Nat) (h : k < xs.length) : (nats xs).getD k 0 = (xs.getD k 0).toNat := by simp [nats, h]
theorem nats_sum : ∀ (xs : List Int), (∀ x ∈ xs, 0 ≤ x) → ((nats xs).sum : Int) = xs.sum
  | [], _ => rfl
  | x :: xs, h => by
    have h1 := h x (by simp)
    have h2 := nats_sum xs (fun y hy => h y (by simp [hy]))
    simp only [nats, List.map_cons, List.sum_cons] at h2 ⊢
    omega
theorem side_nats {p c : Int} {xs : List Int} (g : sideB p c xs = true) (c0 : 0 ≤ c) : (nats xs).length = xs.length ∧ (nats xs).sum ≤ c.toNat ∧ ∀ k, k < xs.length → xs.getD k 0 = ((nats xs).getD k 0 : Int) := by
  obtain ⟨h1, h2, h3⟩ := sideB_iff.1 g
  have hs := nats_sum xs (fun x hx => (h2 x hx).1)
  refine ⟨nats_length xs, by omega, fun k hk => ?_⟩
  rw [nats_getD xs k hk]
  have := (h2 _ (getD_mem hk)).1
  omega
end Go.Proofs.YtfomfbfcnenhbaaGreat
namespace Go.Proofs.YtfomfbfcnenhbaaGreat
open Go.ChangeShapes Go.WideShapes Go.ChangeAt Go.RowKit
set_option linter.unusedVariables false
set_option linter.unusedSimpArgs false
def OBd (lo hi : Nat) (w : World) (a1 a2 : Option Addr) (xs ys : List Int) : Prop :=
  (a1 = none ∧ a2 = none ∧ xs = [] ∧ ys = []) ∨
  ∃ g1 g2, a1 = some ⟨g1, 0, none⟩ ∧ a2 = some ⟨g2, 0, none⟩ ∧ g1 ≠ g2 ∧ lo ≤ g1 ∧ g1 < hi ∧ lo ≤ g2 ∧ g2 < hi ∧ Row w g1 xs ∧ Row w g2 ys
structure Same (lo hi : Nat) (w w' : World) : Prop where
  os : w'.os = w.os
  tape : w'.tape = w.tape
  output : w'.output = w.output
  size : w.heap.size ≤ w'.heap.size
  block : ∀ i, i < w.heap.size → (i < lo ∨ hi ≤ i) → w'.heap[i]? = w.heap[i]?
theorem Blk.same {lo hi g : Nat} {w w' : World} {vs : Array Value} {t : TypeId} (h : Blk w g vs t) (hs : Same lo hi w w') (hg : g < lo ∨ hi ≤ g) : Blk w' g vs t := (hs.block g h.lt hg).trans h
theorem Row.same {lo hi g : Nat} {w w' : World} {xs : List Int} (h : Row w g xs) (hs : Same lo hi w w') (hg : g < lo ∨ hi ≤ g) : Row w' g xs := by
  obtain ⟨cur, hB, h1, h2⟩ := h
  exact ⟨cur, hB.same hs hg, h1, h2⟩
theorem OBd.below {lo hi : Nat} {w w' : World} {a1 a2 : Option Addr} {xs ys : List Int} (h : OBd lo hi w a1 a2 xs ys) (hb : Below w.heap.size w w') : OBd lo hi w' a1 a2 xs ys := by
  rcases h with h | ⟨g1, g2, e1, e2, hne, b1, b2, b3, b4, r1, r2⟩
  · exact .inl h
  · exact .inr ⟨g1, g2, e1, e2, hne, b1, b2, b3, b4, r1.below hb, r2.below hb⟩
theorem OBd.same {lo hi lo2 hi2 : Nat} {w w' : World} {a1 a2 : Option Addr} {xs ys : List Int} (h : OBd lo2 hi2 w a1 a2 xs ys) (hs : Same lo hi w w') (hd : hi2 ≤ lo ∨ hi ≤ lo2) : OBd lo2 hi2 w' a1 a2 xs ys := by
  rcases h with h | ⟨g1, g2, e1, e2, hne, b1, b2, b3, b4, r1, r2⟩
  · exact .inl h
  · exact .inr ⟨g1, g2, e1, e2, hne, b1, b2, b3, b4, r1.same hs (by omega), r2.same hs (by omega)⟩
theorem wpList_append1 {P : Program} {ops : Array Oper} {rest : List Oper} {o : Oper} {a : Act} {Q : Exit → Act → World → Prop} (hgd : o.guard = none) (s x : Operand) (t : TypeId)
    (ho : o.op = .call { callee := .builtin .append, args := #[s, x], argTypes := #[t, t] })
    (base : Nat) (e : TypeId) (i : TypeInfo) (z : Value) (bytes : Nat) (ht : P.underlying t = some (.slice e)) (hi : P.info? e = some i) (hz : i.zero = some z)
    (hsize : i.size = 1) (hby : i.bytes = bytes) (hzs : z.cells.size = 1)
    (v : Value) (n : Nat) (xs : List Value) (hs : a.eval s = v) {w0 : World} (hown : w0.ownsRow base e 1 v n xs) (u : Value)
    (hx : a.eval x = .slice (some ⟨w0.heap.size, 0, none⟩) 1 1) (h1 : u.oneCell' = true)
    (h63 : n + 1 ≤ maxLen) (hbytes : (n + 1) * bytes ≤ 140737488355328) (hbase : base ≤ w0.heap.size)
    (h : ∀ g cap w', w'.ownsRow base e 1 (.slice (some ⟨g, 0, none⟩) (n + 1) cap) (n + 1) (xs ++ [u]) → Below base w0 w' → (∀ k, k < w0.heap.size → v.ownBlock ≠ some k → w'.heap[k]? = w0.heap[k]?) →
      wpList P ops Q rest (a.put o.dst (.slice (some ⟨g, 0, none⟩) (n + 1) cap)) w') : wpList P ops Q (o :: rest) a (w0.alloc (.cells #[u] e)) := by
  refine wpList_append_own _ hgd s x t ho base e i z 1 bytes ht hi hz hsize hby hzs (by decide) v n xs hs (hown.alloc _) ⟨w0.heap.size, 0, none⟩ 1 1 [u] hx rfl
    (World.news_of_block (cs := #[u]) (Blk.new w0 #[u] e)) (fun y hy => by simp at hy; subst hy; exact h1) h63 hbytes (by simp; omega) ?_
  intro v' w' hown' hgrow _
  obtain ⟨g, cap, rfl⟩ := Joins.ownsRow_form hown' (by omega)
  refine h g cap w' hown' (((Below.refl base w0).alloc hbase _).grown hgrow (by simp; omega) (fun k hk => (hown.lt k hk).1)) (fun k hk hne => ?_)
  rw [hgrow.block k (by simp; omega) (fun hh => hne hh.symm), Below.heap_alloc _ _ _ hk]
def OSl (lo hi : Nat) (w : World) (a : Option Addr) (xs : List Int) : Prop :=
  (a = none ∧ xs = []) ∨ ∃ g, a = some ⟨g, 0, none⟩ ∧ lo ≤ g ∧ g < hi ∧ Row w g xs
theorem OSl.irow {lo hi : Nat} {w : World} {a : Option Addr} {xs : List Int} (h : OSl lo hi w a xs) : IRow w a xs := by
  rcases h with ⟨rfl, rfl⟩ | ⟨g, rfl, _, _, r⟩
  · exact IRow.nil _ _
  · exact r.irow
theorem OSl.below {lo hi : Nat} {w w' : World} {a : Option Addr} {xs : List Int} (h : OSl lo hi w a xs) (hb : Below w.heap.size w w') : OSl lo hi w' a xs := by
  rcases h with h | ⟨g, e, h1, h2, r⟩
  · exact .inl h
  · exact .inr ⟨g, e, h1, h2, r.below hb⟩
theorem OSl.drew {lo hi : Nat} {w : World} {a : Option Addr} {xs : List Int} (h : OSl lo hi w a xs) : OSl lo hi w.drew a xs := h
theorem OSl.alloc {lo hi : Nat} {w : World} {a : Option Addr} {xs : List Int} (h : OSl lo hi w a xs) (o : Obj) : OSl lo hi (w.alloc o) a xs := h.below ((Below.refl _ _).alloc (Nat.le_refl _) o)
theorem OBd.drew {lo hi : Nat} {w : World} {a1 a2 : Option Addr} {xs ys : List Int} (h : OBd lo hi w a1 a2 xs ys) : OBd lo hi w.drew a1 a2 xs ys := h
theorem OSl.mono {lo hi lo' hi' : Nat} {w : World} {a : Option Addr} {xs : List Int} (h : OSl lo hi w a xs) (h1 : lo' ≤ lo) (h2 : hi ≤ hi') : OSl lo' hi' w a xs := by
  rcases h with h | ⟨g, e, q1, q2, r⟩
  · exact .inl h
  · exact .inr ⟨g, e, by omega, by omega, r⟩
theorem OSl.same {lo hi lo2 hi2 : Nat} {w w' : World} {a : Option Addr} {xs : List Int} (h : OSl lo2 hi2 w a xs) (hs : Same lo hi w w') (hd : hi2 ≤ lo ∨ hi ≤ lo2) : OSl lo2 hi2 w' a xs := by
  rcases h with h | ⟨g, e, q1, q2, r⟩
  · exact .inl h
  · exact .inr ⟨g, e, q1, q2, r.same hs (by omega)⟩
def SliceGot (xs : List Int) (w : World) (e : Ending) (w' : World) : Prop :=
  ∃ a k, e = .returned (.slice a xs.length k) ∧ OSl w.heap.size w'.heap.size w' a xs ∧ Below w.heap.size w w'
def Own (w : World) (base : Nat) (v : Value) (xs : List Int) : Prop := w.ownsRow base 2 1 v xs.length (ints xs)
theorem Own.form {w : World} {base : Nat} {v : Value} {xs : List Int} (h : Own w base v xs) : ∃ a k, v = .slice a xs.length k := by
  rcases h.2 with ⟨h1, h2⟩ | ⟨g, cap, cur, h1, _⟩
  · exact ⟨none, 0, by rw [h1, h2]⟩
  · exact ⟨some ⟨g, 0, none⟩, cap, h1⟩
theorem Own.osl {w : World} {base : Nat} {a : Option Addr} {n k : Nat} {xs : List Int} (h : Own w base (.slice a n k) xs) : OSl base w.heap.size w a xs := by
  obtain ⟨hl, h1 | ⟨g, cap, cur, hv, hb, hh, hc, hm, hs, ht⟩⟩ := h
  · obtain ⟨h1, h2⟩ := h1
    simp at h1
    exact .inl ⟨h1.1, List.eq_nil_of_length_eq_zero h2⟩
  · simp at hv
    obtain ⟨rfl, _, rfl⟩ := hv
    exact .inr ⟨g, rfl, hb, (Array.getElem?_eq_some_iff.1 hh).1, cur, hh, by omega, by simpa using ht⟩
theorem Own.alloc {w : World} {base : Nat} {v : Value} {xs : List Int} (h : Own w base v xs) (o : Obj) : Own (w.alloc o) base v xs := World.ownsRow.alloc h o
theorem Own.drew {w : World} {base : Nat} {v : Value} {xs : List Int} (h : Own w base v xs) : Own w.drew base v xs := h
theorem Own.kept {w w' : World} {base : Nat} {v : Value} {xs : List Int} (h : Own w base v xs) (hb : Below w.heap.size w w') : Own w' base v xs :=
  World.ownsRow.kept (row := none) h ⟨hb.os, hb.tape, hb.output, hb.size, fun k hk _ => hb.block k hk⟩ (by
    cases hv : v.ownBlock with
    | none => exact .inl rfl
    | some g => exact .inr (by simp))
theorem Own.start (w : World) : Own (w.alloc (.cells #[] 2)) w.heap.size (.slice (some ⟨w.heap.size, 0, none⟩) 0 0) [] :=
  ⟨rfl, .inr ⟨w.heap.size, 0, #[], rfl, Nat.le_refl _, Blk.new w #[] _, Nat.le_refl _, by unfold maxLen; omega, rfl, rfl⟩⟩
theorem Own.nil (w : World) (base : Nat) : Own w base (.slice none 0 0) [] := World.ownsRow_nil w base _ _
theorem Own.mono {w : World} {base base' : Nat} {v : Value} {xs : List Int} (h : Own w base v xs) (hb : base' ≤ base) : Own w base' v xs := by
  obtain ⟨h1, h2 | ⟨g, cap, cur, q1, q2, q3⟩⟩ := h
  · exact ⟨h1, .inl h2⟩
  · exact ⟨h1, .inr ⟨g, cap, cur, q1, by omega, q3⟩⟩
theorem wp_push {ops : Array Oper} {rest : List Oper} {o : Oper} {a : Act} {Q : Exit → Act → World → Prop} (hgd : o.guard = none) (s x : Operand)
    (ho : o.op = .call { callee := .builtin .append, args := #[s, x], argTypes := #[26, 26] })
    (base : Nat) (v : Value) (xs : List Int) (hs : a.eval s = v) {w0 : World} (hown : Own w0 base v xs) (u : Int)
    (hx : a.eval x = .slice (some ⟨w0.heap.size, 0, none⟩) 1 1) (hl : xs.length ≤ 1048576) (hbase : base ≤ w0.heap.size)
    (h : ∀ v' w', Own w' base v' (xs ++ [u]) → Below base w0 w' → wpList Tryz.prog ops Q rest (a.put o.dst v') w') : wpList Tryz.prog ops Q (o :: rest) a (w0.alloc (.cells #[.int .i64 u] 2)) := by
  obtain ⟨i0, hi, hz0, hz1, hz2⟩ := info_parts infoI64
  refine wpList_append1 hgd s x 26 ho base 2 i0 (.int .i64 0) 8 Tryz.underlying26 hi hz0 hz1 hz2 rfl v xs.length (ints xs) hs hown (.int .i64 u) hx rfl (by unfold maxLen; omega) (by omega) hbase ?_
  intro g cap w' ho' hb' _
  refine h _ w' ?_ hb'
  show w'.ownsRow base 2 1 _ (xs ++ [u]).length (ints (xs ++ [u]))
  rw [show (xs ++ [u]).length = xs.length + 1 by simp, show ints (xs ++ [u]) = ints xs ++ [.int .i64 u] by simp [ints]]
  exact ho'
end Go.Proofs.YtfomfbfcnenhbaaGreat
namespace Go.Proofs.YtfomfbfcnenhbaaGreat
open Go.ChangeShapes Go.WideShapes Go.ChangeAt Go.RowKit
set_option linter.unusedVariables false
set_option linter.unusedSimpArgs false
set_option maxRecDepth 4000
def unrI (n k l : Nat) : List Int := (unr n k l).map fun (x : Nat) => (x : Int)
theorem unrI_length (n k l : Nat) (hk : k < cnt n l) : (unrI n k l).length = n := by rw [unrI, List.length_map, (unr_ok n k l hk).1]
end Go.Proofs.YtfomfbfcnenhbaaGreat
