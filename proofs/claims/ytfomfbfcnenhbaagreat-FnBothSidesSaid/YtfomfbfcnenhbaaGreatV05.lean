/- Texts of a proof, laid together. -/
import Derived.Test.YtfomfbfcnenhbaaGreatV03
import Derived.Test.YtfomfbfcnenhbaaGreatV04
import Derived.WalkMore
import Derived.Test.YtfomfbfcnenhbaaGreatV02
import Derived.Lib.SliceRun
import Derived.BigQuiet
import Derived.Deep.QuietTactic
import Derived.Test.YtfomfbfcnenhbaaGreatV01
import Derived.Deep.RegionHeld3
import Derived.Outline
import Derived.IntWalk
namespace Go.Proofs.YtfomfbfcnenhbaaGreat
open Go.ChangeShapes Go.WideShapes Go.ChangeAt Go.RowKit
set_option linter.unusedVariables false
set_option linter.unusedSimpArgs false
set_option maxRecDepth 4000
set_option maxHeartbeats 1000000 in
theorem numberOf_any (g C : Nat) (a : Option Addr) (n cap : Nat) (ns : List Nat) (xs : List Int) (w : World) (hn : n ≤ 25) (c1 : C ≤ 15) (hl : xs.length = n) (hln : ns.length = n) (hs : ns.sum ≤ C)
    (hx : ∀ k, k < xs.length → xs.getD k 0 = (ns.getD k 0 : Int)) (hr : IRow w a xs) (hw : WaysAt w g) :
    Calls Tryz.prog 131 #[.pointer (some ⟨g, 0, none⟩), .slice a n cap, .int .i64 C] w fun e w' => e = .returned (.int .i64 (numL ns C)) ∧ Below w.heap.size w w' := by
  have hT := numL_lt ns C hs
  have hcb := cnt_bound (n := ns.length) (m := C) (by omega) c1
  obtain ⟨T, hTe⟩ : ∃ T, numL ns C = T := ⟨_, rfl⟩
  rw [hTe] at hT ⊢
  have hTb : T < 1099511627776 := by omega
  have HL := Lib.hid hl
  have HLN := Lib.hid hln
  have HX := Lib.hid hx
  have HT := Lib.hid hTe
  clear hl hln hx hTe hT hcb
  go_enter Tryz.func131, Tryz.ntmps131
  go_wp2_with fail
  go_loopg [2, 7, 13] n (fun m l q i wr => ∃ (W : World) (k N L : Nat), W = wr ∧ k ≤ n ∧ m = n - k ∧ i = .int .i64 k ∧ q = .int .i64 N ∧ l = .int .i64 L ∧ L ≤ 15 ∧ (ns.drop k).sum ≤ L ∧ N + numL (ns.drop k) L = T ∧ Below w.heap.size w W)
  case atStart => exact ⟨_, 0, 0, C, rfl, by omega, by omega, rfl, rfl, rfl, c1, by simpa using hs, by simpa using HT.out, Below.refl _ _⟩
  case round =>
    clear hs
    obtain ⟨W, k, N, L, hW, hk, hm, rfl, rfl, rfl, hL, hsum, hN, hbel⟩ := hrel
    subst hW
    by_cases hlt : k < n
    · have hlt' : (k : Int) < (n : Int) := by omega
      have hk0 : (0 : Int) ≤ (k : Int) := by omega
      obtain ⟨b, o, rfl, hc⟩ := hr.below hbel k (by rw [HL.out]; exact hlt)
      obtain ⟨x, hx, hxL, hst, hsum2⟩ := num_step ns k L N T n HLN.out hlt hN hsum
      rw [HX.out k (by rw [HL.out]; exact hlt), hx] at hc
      have hal := blk_all (n - 1 - k) L x hxL
      obtain ⟨bb, hbb⟩ : ∃ bb, n - 1 - k = bb := ⟨_, rfl⟩
      obtain ⟨ln, hln⟩ : ∃ ln, n - k = ln := ⟨_, rfl⟩
      obtain ⟨lx, hlx⟩ : ∃ lx, L - x = lx := ⟨_, rfl⟩
      have e1 : (n : Int) - (k : Int) = (ln : Int) := by omega
      have e2 : (L : Int) - (x : Int) = (lx : Int) := by omega
      rw [hbb, show bb + 1 = ln by omega, hlx] at hal
      rw [hbb, hlx] at hst
      rw [hlx] at hsum2
      have hU := (hw.below hbel).cell ln L (by omega) hL
      have hZ := (hw.below hbel).cell ln lx (by omega) (by omega)
      have hub := cnt_bound (n := ln) (m := L) (by omega) hL
      obtain ⟨U, hUe⟩ : ∃ U, cnt ln L = U := ⟨_, rfl⟩
      obtain ⟨Z, hZe⟩ : ∃ Z, cnt ln lx = Z := ⟨_, rfl⟩
      rw [hUe] at hU hal hub
      rw [hZe] at hZ hal
      have hNb : N + (U - Z) ≤ T := by omega
      have hst2 : N + (U - Z) + numL (ns.drop (k + 1)) lx = T := by omega
      have d1 : (U : Int) ≤ 1099511627776 := by omega
      have d2 : (Z : Int) ≤ (U : Int) := by omega
      have d3 : (N : Int) ≤ 1099511627776 := by omega
      have f1 : (0 : Int) ≤ (ln : Int) := by omega
      have f2 : (ln : Int) < 26 := by omega
      have f3 : (0 : Int) ≤ (L : Int) := by omega
      have f4 : (L : Int) < 16 := by omega
      have f5 : (0 : Int) ≤ (lx : Int) := by omega
      have f6 : (lx : Int) < 16 := by omega
      have f7 : 0 ≤ (x : Int) := by omega
      have f8 : (x : Int) ≤ (L : Int) := by omega
      have f9 : (n : Int) ≤ 25 := by omega
      have w0 : IntKind.i64.wrap ((n : Int) - (k : Int)) = (ln : Int) := by rw [e1]; exact IntWalk.i64_in _ (by omega)
      have w1 : IntKind.i64.wrap (lx : Int) = (lx : Int) := IntWalk.i64_in _ (by omega)
      have w2 : IntKind.i64.wrap ((U : Int) - (Z : Int)) = (U : Int) - (Z : Int) := IntWalk.i64_in _ (by omega)
      have w3 : IntKind.i64.wrap ((N : Int) + ((U : Int) - (Z : Int))) = (N : Int) + ((U : Int) - (Z : Int)) := IntWalk.i64_in _ (by omega)
      have HS := Lib.hid hst2
      have HS2 := Lib.hid hsum2
      have HM := Lib.hid hm
      clear hst hst2 hsum2 hsum hN hm hx hbb hln hal hUe hZe
      go_wp2_with fail
      replace hbel := hbel.drew
      refine wp_region_held_drew (S := fun w' => w'.cell? ⟨g, ln * 16 + L, none⟩ = some (.int .i64 (U : Int)) ∧ w'.cell? ⟨g, ln * 16 + lx, none⟩ = some (.int .i64 (Z : Int))) (by kernel_rfl) ⟨hU, hZ⟩ (fun hHeld => ?_)
      refine wpAnyH_take (i := 0) (oi := ⟨some 22, _, _, _, _, _⟩) (v := ?_) rfl (by kernel_rfl) (by kernel_rfl) (by kernel_rfl) (fun _ _ _ h => h) (Or.inl ⟨by rfl, ?_⟩) (by assumption) ?_
      rotate_left
      · intro w hSw; (try dsimp only at hSw); go_simp; (try (with_reducible rfl))
      try simp only [Act.put, List.setIfInBounds_toArray, List.set_cons_zero, List.set_cons_succ]
      refine wpAnyH_take (i := 1) (oi := ⟨some 23, _, _, _, _, _⟩) (v := ?_) rfl (by kernel_rfl) (by kernel_rfl) (by kernel_rfl) (fun _ _ _ h => h) (Or.inl ⟨by rfl, ?_⟩) (by assumption) ?_
      rotate_left
      · intro w hSw; (try dsimp only at hSw); go_simp; (try (with_reducible rfl))
      try simp only [Act.put, List.setIfInBounds_toArray, List.set_cons_zero, List.set_cons_succ]
      refine wpAnyH_take (i := 2) (oi := ⟨some 24, _, _, _, _, _⟩) (v := ?_) rfl (by kernel_rfl) (by kernel_rfl) (by kernel_rfl) (fun _ _ _ h => h) (Or.inl ⟨by rfl, ?_⟩) (by assumption) ?_
      rotate_left
      · intro w hSw; (try dsimp only at hSw); go_simp; (try (with_reducible rfl))
      try simp only [Act.put, List.setIfInBounds_toArray, List.set_cons_zero, List.set_cons_succ]
      refine wpAnyH_take (i := 3) (oi := ⟨some 25, _, _, _, _, _⟩) (v := ?_) rfl (by kernel_rfl) (by kernel_rfl) (by kernel_rfl) (fun _ _ _ h => h) (Or.inl ⟨by rfl, ?_⟩) (by assumption) ?_
      rotate_left
      · intro w hSw; (try dsimp only at hSw); go_simp; (try (with_reducible rfl))
      try simp only [Act.put, List.setIfInBounds_toArray, List.set_cons_zero, List.set_cons_succ]
      refine wpAnyH_take (i := 4) (oi := ⟨some 26, _, _, _, _, _⟩) (v := ?_) rfl (by kernel_rfl) (by kernel_rfl) (by kernel_rfl) (fun _ _ _ h => h) (Or.inl ⟨by rfl, ?_⟩) (by assumption) ?_
      rotate_left
      · intro w hSw; (try dsimp only at hSw); go_simp; (try (with_reducible rfl))
      try simp only [Act.put, List.setIfInBounds_toArray, List.set_cons_zero, List.set_cons_succ]
      refine wpAnyH_take (i := 5) (oi := ⟨some 27, _, _, _, _, _⟩) (v := ?_) rfl (by kernel_rfl) (by kernel_rfl) (by kernel_rfl) (fun _ _ _ h => h) (Or.inl ⟨by rfl, ?_⟩) (by assumption) ?_
      rotate_left
      · intro w hSw; (try dsimp only at hSw); go_simp; (try (with_reducible rfl))
      try simp only [Act.put, List.setIfInBounds_toArray, List.set_cons_zero, List.set_cons_succ]
      refine wpAnyH_take (i := 6) (oi := ⟨some 28, _, _, _, _, _⟩) (v := ?_) rfl (by kernel_rfl) (by kernel_rfl) (by kernel_rfl) (fun _ _ _ h => h) (Or.inl ⟨by rfl, ?_⟩) (by assumption) ?_
      rotate_left
      · intro w hSw; (try dsimp only at hSw); go_simp; (try (with_reducible rfl))
      try simp only [Act.put, List.setIfInBounds_toArray, List.set_cons_zero, List.set_cons_succ]
      refine wpAnyH_take (i := 7) (oi := ⟨some 29, _, _, _, _, _⟩) (v := ?_) rfl (by kernel_rfl) (by kernel_rfl) (by kernel_rfl) (fun _ _ _ h => h) (Or.inl ⟨by rfl, ?_⟩) (by assumption) ?_
      rotate_left
      · intro w hSw; (try dsimp only at hSw); go_simp; (try (with_reducible rfl))
      try simp only [Act.put, List.setIfInBounds_toArray, List.set_cons_zero, List.set_cons_succ]
      refine wpAnyH_take (i := 8) (oi := ⟨some 30, _, _, _, _, _⟩) (v := ?_) rfl (by kernel_rfl) (by kernel_rfl) (by kernel_rfl) (fun _ _ _ h => h) (Or.inl ⟨by rfl, ?_⟩) (by assumption) ?_
      rotate_left
      · intro w hSw; (try dsimp only at hSw); go_simp; (try (with_reducible rfl))
      try simp only [Act.put, List.setIfInBounds_toArray, List.set_cons_zero, List.set_cons_succ]
      refine wpAnyH_take (i := 9) (oi := ⟨some 31, _, _, _, _, _⟩) (v := ?_) rfl (by kernel_rfl) (by kernel_rfl) (by kernel_rfl) (fun _ _ _ h => h) (Or.inl ⟨by rfl, ?_⟩) (by assumption) ?_
      rotate_left
      · intro w hSw; (try dsimp only at hSw); go_simp; (try (with_reducible rfl))
      try simp only [Act.put, List.setIfInBounds_toArray, List.set_cons_zero, List.set_cons_succ]
      refine wpAnyH_take (i := 10) (oi := ⟨some 32, _, _, _, _, _⟩) (v := ?_) rfl (by kernel_rfl) (by kernel_rfl) (by kernel_rfl) (fun _ _ _ h => h) (Or.inl ⟨by rfl, ?_⟩) (by assumption) ?_
      rotate_left
      · intro w hSw; (try dsimp only at hSw); go_simp; (try (with_reducible rfl))
      try simp only [Act.put, List.setIfInBounds_toArray, List.set_cons_zero, List.set_cons_succ]
      refine wpAnyH_take (i := 11) (oi := ⟨some 33, _, _, _, _, _⟩) (v := ?_) rfl (by kernel_rfl) (by kernel_rfl) (by kernel_rfl) (fun _ _ _ h => h) (Or.inl ⟨by rfl, ?_⟩) (by assumption) ?_
      rotate_left
      · intro w hSw; (try dsimp only at hSw); go_simp; (try (with_reducible rfl))
      try simp only [Act.put, List.setIfInBounds_toArray, List.set_cons_zero, List.set_cons_succ]
      refine wpAnyH_take (i := 12) (oi := ⟨some 34, _, _, _, _, _⟩) (v := ?_) rfl (by kernel_rfl) (by kernel_rfl) (by kernel_rfl) (fun _ _ _ h => h) (Or.inl ⟨by rfl, ?_⟩) (by assumption) ?_
      rotate_left
      · intro w hSw; (try dsimp only at hSw); go_simp; (try (with_reducible rfl))
      try simp only [Act.put, List.setIfInBounds_toArray, List.set_cons_zero, List.set_cons_succ]
      refine wpAnyH_take (i := 13) (oi := ⟨some 35, _, _, _, _, _⟩) (v := ?_) rfl (by kernel_rfl) (by kernel_rfl) (by kernel_rfl) (fun _ _ _ h => h) (Or.inl ⟨by rfl, ?_⟩) (by assumption) ?_
      rotate_left
      · intro w hSw; (try dsimp only at hSw); go_simp; (try (with_reducible rfl))
      try simp only [Act.put, List.setIfInBounds_toArray, List.set_cons_zero, List.set_cons_succ]
      refine wpAnyH_take (i := 14) (oi := ⟨some 36, _, _, _, _, _⟩) (v := ?_) rfl (by kernel_rfl) (by kernel_rfl) (by kernel_rfl) (fun _ _ _ h => h) (Or.inl ⟨by rfl, ?_⟩) (by assumption) ?_
      rotate_left
      · intro w hSw; (try dsimp only at hSw); go_simp; (try (with_reducible rfl))
      try simp only [Act.put, List.setIfInBounds_toArray, List.set_cons_zero, List.set_cons_succ]
      refine wpAnyH_take (i := 15) (oi := ⟨some 37, _, _, _, _, _⟩) (v := ?_) rfl (by kernel_rfl) (by kernel_rfl) (by kernel_rfl) (fun _ _ _ h => h) (Or.inl ⟨by rfl, ?_⟩) (by assumption) ?_
      rotate_left
      · intro w hSw; (try dsimp only at hSw); go_simp; (try (with_reducible rfl))
      try simp only [Act.put, List.setIfInBounds_toArray, List.set_cons_zero, List.set_cons_succ]
      refine wpAnyH_take (i := 16) (oi := ⟨some 38, _, _, _, _, _⟩) (v := ?_) rfl (by kernel_rfl) (by kernel_rfl) (by kernel_rfl) (fun _ _ _ h => h) (Or.inl ⟨by rfl, ?_⟩) (by assumption) ?_
      rotate_left
      · intro w hSw; (try dsimp only at hSw); go_simp; (try (with_reducible rfl))
      try simp only [Act.put, List.setIfInBounds_toArray, List.set_cons_zero, List.set_cons_succ]
      refine wpAnyH_take (i := 17) (oi := ⟨some 39, _, _, _, _, _⟩) (v := ?_) rfl (by kernel_rfl) (by kernel_rfl) (by kernel_rfl) (fun _ _ _ h => h) (Or.inl ⟨by rfl, ?_⟩) (by assumption) ?_
      rotate_left
      · intro w hSw; (try dsimp only at hSw); go_simp; (try (with_reducible rfl))
      try simp only [Act.put, List.setIfInBounds_toArray, List.set_cons_zero, List.set_cons_succ]
      refine wpAnyH_take (i := 18) (oi := ⟨some 40, _, _, _, _, _⟩) (v := ?_) rfl (by kernel_rfl) (by kernel_rfl) (by kernel_rfl) (fun _ _ _ h => h) (Or.inl ⟨by rfl, ?_⟩) (by assumption) ?_
      rotate_left
      · intro w hSw; (try dsimp only at hSw); go_simp; (try (with_reducible rfl))
      try simp only [Act.put, List.setIfInBounds_toArray, List.set_cons_zero, List.set_cons_succ]
      refine wpAnyH_take (i := 19) (oi := ⟨some 7, _, _, _, _, _⟩) (v := ?_) rfl (by kernel_rfl) (by kernel_rfl) (by kernel_rfl) (fun _ _ _ h => h) (Or.inl ⟨by rfl, ?_⟩) (by assumption) ?_
      rotate_left
      · intro w hSw; (try dsimp only at hSw); go_simp; (try (with_reducible rfl))
      try simp only [Act.put, List.setIfInBounds_toArray, List.set_cons_zero, List.set_cons_succ]
      refine wpAnyH_done (by kernel_rfl) ?_ _
      clear hHeld hU hZ
      go_wp2
      go_roundg (n - (k + 1))
      case measure => have := HM.out; omega
      case rel => exact ⟨_, k + 1, N + (U - Z), lx, rfl, by omega, rfl, by go_num, by go_num, by go_num, by omega, HS2.out, HS.out, hbel⟩
    · obtain rfl : k = n := by omega
      have hN2 : N = T := by
        have : ns.drop k = [] := List.drop_eq_nil_of_le (by have := HLN.out; omega)
        rw [this, numL] at hN
        omega
      subst hN2
      have hlt' : ¬ (k : Int) < (k : Int) := by omega
      go_wp2
      go_ret
      exact ⟨rfl, hbel⟩
def intsN (xs : List Nat) : List Int := xs.map fun (x : Nat) => (x : Int)
theorem intsN_length (xs : List Nat) : (intsN xs).length = xs.length := by simp [intsN]
theorem intsN_getD (xs : List Nat) (k : Nat) (h : k < xs.length) : (intsN xs).getD k 0 = (xs.getD k 0 : Int) := by simp [intsN, h]
theorem intsN_set (xs : List Nat) (k v : Nat) : (intsN xs).set k (v : Int) = intsN (xs.set k v) := by simp [intsN, List.map_set]
theorem zeros_getD (n q : Nat) : (List.replicate n 0).getD q 0 = 0 := by simp [List.getD_eq_getElem?_getD, List.getElem?_replicate]; split <;> rfl
theorem intsN_zeros (n : Nat) : intsN (List.replicate n 0) = List.replicate n 0 := by simp [intsN]
set_option maxRecDepth 4000 in
set_option maxHeartbeats 1000000 in
theorem listAt_any (g K n C : Nat) (w : World) (hn1 : 1 ≤ n) (hn : n ≤ 25) (c1 : C ≤ 15) (hK : K < cnt n C) (hw : WaysAt w g) :
    Calls Tryz.prog 145 #[.pointer (some ⟨g, 0, none⟩), .int .i64 K, .int .i64 n, .int .i64 C] w fun e w' => ∃ gL, e = .returned (.slice (some ⟨gL, 0, none⟩) n n) ∧ w.heap.size ≤ gL ∧ Row w' gL (unrI n K C) ∧ Below w.heap.size w w' := by
  have hmk := run_make_row' (P := Tryz.prog) 26 2 (.int .i64 0) 8 Tryz.underlying26 infoI64 rfl .i64 .i64 n (by omega) (by omega)
  have hn25 : (n : Int) ≤ 25 := by omega
  have hW0 := onWay_start n K C hK
  have hkb := cnt_bound (n := n) (m := C) hn c1
  have hKb : K ≤ 1099511627776 := by omega
  unfold unrI
  obtain ⟨T, hT⟩ : ∃ T, unr n K C = T := ⟨_, rfl⟩
  rw [hT] at hW0 ⊢
  show Calls _ _ _ _ fun e w' => ∃ gL, e = .returned (.slice (some ⟨gL, 0, none⟩) n n) ∧ w.heap.size ≤ gL ∧ Row w' gL (intsN T) ∧ Below w.heap.size w w'
  have hb : Below w.heap.size w (w.alloc (.cells (madeCells #[.int .i64 0] n) 2)) := (Below.refl _ _).alloc (Nat.le_refl _) _
  have R0 := made_row w n
  clear hT hK hkb
  go_enter Tryz.func145, Tryz.ntmps145
  go_wp2
  go_step3
  go_wp2
  go_step3
  go_wp2
  generalize (w.alloc (.cells (madeCells #[.int .i64 0] n) 2)) = v0 at *
  rw [← intsN_zeros] at R0
  have hw0 := hw
  go_loopg [1, 3, 10] (K + n) (fun m a1 a3 a10 wr => ∃ (W : World) (k L q : Nat) (xs : List Nat), W = wr ∧ m = k + (n - q) ∧ a1 = .int .i64 k ∧ a3 = .int .i64 L ∧ a10 = .int .i64 q ∧ xs.getD q 0 + L ≤ 15 ∧ q < n ∧ k ≤ 1099511627776 ∧ onWay T n q k L xs ∧ Row W w.heap.size (intsN xs) ∧ Below w.heap.size w W)
  case atStart => exact ⟨_, K, C, 0, _, rfl, by omega, rfl, rfl, rfl, by rw [zeros_getD]; omega, by omega, hKb, hW0, R0, hb⟩
  case round =>
    clear hW0 R0 hb hKb hmk
    obtain ⟨W, k, L, q, xs, hW, hm, rfl, rfl, rfl, hxL, hq, hkb, hon, RL, hbel⟩ := hrel
    have hL : L ≤ 15 := by omega
    have hz1 := hon.2.2.1 (q + 1) (by omega)
    subst hW
    obtain ⟨bb, hbb⟩ : ∃ bb, n - 1 - q = bb := ⟨_, rfl⟩
    have e1 : (n : Int) - 1 - (q : Int) = (bb : Int) := by omega
    have hB := (hw.below hbel).cell bb L (by omega) hL
    have f1 : (0 : Int) ≤ (bb : Int) := by omega
    have f2 : (bb : Int) < 26 := by omega
    have f3 : (0 : Int) ≤ (L : Int) := by omega
    have f4 : (L : Int) < 16 := by omega
    have hlen := hon.1
    have hnx := onWay_next hon hq
    have hmo := onWay_more hon hq
    rw [hbb] at hnx hmo
    have hvb := cnt_bound (n := bb) (m := L) (by omega) hL
    have hvp := cnt_pos bb L
    obtain ⟨v, hv⟩ : ∃ v, cnt bb L = v := ⟨_, rfl⟩
    rw [hv] at hB hnx hmo hvb hvp
    have d1 : (v : Int) ≤ 1099511627776 := by omega
    have HM := Lib.hid hm
    by_cases hk0 : k = 0
    · subst hk0
      have hfin := onWay_stop hon (by omega)
      subst hfin
      clear hon hnx hmo hm hv hbb
      go_wp2
      (try rw [Exit.noGoto_ret])
      go_ret
      exact ⟨_, rfl, Nat.le_refl _, RL, hbel⟩
    · have k0 : ¬ (k : Int) = 0 := by omega
      have hqn : (q : Int) ≤ 25 := by omega
      by_cases hkv : k < v
      · have h1 : (k : Int) < (v : Int) := by omega
        have hon2 := hnx hkv
        have hq2 := onWay_in hon2 (by omega) hk0
        have HON := Lib.hid hon2
        clear hon hnx hmo hm hv hbb hon2 hkv
        go_wp2
        go_roundg (k + (n - (q + 1)))
        case measure => have := HM.out; omega
        case rel => exact ⟨_, k, L, q + 1, xs, rfl, rfl, rfl, rfl, by go_num, by omega, hq2, hkb, HON.out, RL, hbel⟩
      · have h1 : ¬ (k : Int) < (v : Int) := by omega
        obtain ⟨hL0, hon2⟩ := hmo (by omega)
        have hL1 : (1 : Int) ≤ (L : Int) := by omega
        have hcell := RL.cell q (by rw [intsN_length]; omega)
        have hfree := RL.free q
        rw [intsN_getD xs q (by omega)] at hcell
        have hxb : xs.getD q 0 ≤ 15 := by omega
        have hxs : (xs.set q (xs.getD q 0 + 1)).getD q 0 = xs.getD q 0 + 1 := by simp [List.getD_eq_getElem?_getD, List.getElem?_set_self, show q < xs.length by omega]
        have HXS := Lib.hid hxs
        have RL2 := RL.set q ((xs.getD q 0 : Int) + 1)
        rw [show ((xs.getD q 0 : Int) + 1) = ((xs.getD q 0 + 1 : Nat) : Int) by omega, intsN_set] at RL2
        obtain ⟨x, hx⟩ : ∃ x, xs.getD q 0 = x := ⟨_, rfl⟩
        rw [hx] at hcell hxb hxL hon2 RL2 HXS
        have hxb2 : (x : Int) ≤ 15 := by omega
        have HON := Lib.hid hon2
        have HR2 := Lib.hid RL2
        have e3 : ((x + 1 : Nat) : Int) = (x : Int) + 1 := by omega
        rw [e3] at HR2
        clear hon hnx hmo hm hv hbb hon2 RL2 hx e3 hxs hz1
        go_wp2
        go_roundg (k - v + (n - q))
        case measure => have := HM.out; omega
        case rel => exact ⟨_, k - v, L - 1, q, _, rfl, rfl, by go_num, by go_num, rfl, by rw [HXS.out]; omega, hq, by omega, HON.out, HR2.out, hbel.setCell (p := ⟨w.heap.size, q, none⟩) (by simp) _⟩
theorem ints_one {xs : List Int} : ∀ v ∈ ints xs, v.oneCell' = true := fun v hv => by
  obtain ⟨x, _, rfl⟩ := List.mem_map.1 hv
  rfl
def RowGot (xs : List Int) (w : World) (e : Ending) (w' : World) : Prop :=
  ∃ g k, e = .returned (.slice (some ⟨g, 0, none⟩) xs.length k) ∧ w.heap.size ≤ g ∧ Row w' g xs ∧ Below w.heap.size w w'
theorem Own.row {w : World} {base : Nat} {v : Value} {xs : List Int} (h : Own w base v xs) (h0 : 0 < xs.length) : ∃ g k, v = .slice (some ⟨g, 0, none⟩) xs.length k ∧ base ≤ g ∧ Row w g xs := by
  obtain ⟨a, k, rfl⟩ := h.form
  rcases h.osl with ⟨rfl, rfl⟩ | ⟨g, rfl, h1, h2, r⟩
  · simp at h0
  · exact ⟨g, k, rfl, h1, r⟩
set_option maxRecDepth 8000 in
set_option maxHeartbeats 1000000 in
theorem clone_any (b o n cap : Nat) (xs : List Int) (w : World) (hn : xs.length = n) (h0 : 0 < n) (hle : n ≤ 1048576) (hr : IRow w (some ⟨b, o, none⟩) xs) :
    Calls Tryz.prog 129 #[.slice (some ⟨b, o, none⟩) n cap] w (RowGot xs w) := by
  obtain ⟨i0, hi, hz0, hz1, hz2⟩ := info_parts infoI64
  have hrow : ∀ (W : World), IRow W (some ⟨b, o, none⟩) xs → ∀ (j : Nat) (u : Value), (ints xs)[j]? = some u → W.cell? ((⟨b, o, none⟩ : Addr).add j) = some u := by
    intro W hW j u hj
    obtain ⟨hlt, rfl⟩ := List.getElem?_eq_some_iff.1 hj
    have hlt2 : j < xs.length := by simpa [ints] using hlt
    obtain ⟨b', o', e, hc⟩ := hW j hlt2
    simp at e
    obtain ⟨rfl, rfl⟩ := e
    rw [show (⟨b, o, none⟩ : Addr).add j = ⟨b, o + j, none⟩ from by unfold Addr.add; split <;> simp_all, hc]
    simp [ints, hlt2]
  have hint : (ints xs).length = n * 1 := by simp [ints, hn]
  have HRW := Lib.hid hrow
  have HIN := Lib.hid hint
  have HR := Lib.hid hr
  have HX := Lib.hid hn
  clear hrow hint hr hn
  have hnil : ∀ W : World, (binOp .eql 26 (.slice (some ⟨b, o, none⟩) n cap) (.slice none 0 0)).run Tryz.prog W = .ok (.bool false) W := fun W => Lib.run_eql_slice_nil W _ _ _ _ _ _ _ Tryz.underlying26
  go_enter Tryz.func129, Tryz.ntmps129
  go_wp2_with (at_builtin; (refine wpList_append_grows _ rfl (.tmp 5) (.tmp 6) 26 rfl 2 i0 (.int .i64 0) 1 8 Tryz.underlying26 hi hz0 hz1 hz2 rfl (by decide) _ 0 0 [] rfl (by simp) rfl (by simp) ⟨b, o, none⟩ n cap (ints xs) rfl HIN.out (HRW.out _ (HR.out.alloc _)) ints_one (by omega) (by unfold maxLen; omega) (by omega) ?_))
  intro v' w' hown hgrow
  have ho : Own w' (w.alloc (.cells #[] 2)).heap.size v' xs := by
    show w'.ownsRow _ _ 1 v' xs.length (ints xs)
    rw [HX.out]
    simpa using hown
  obtain ⟨g, k, rfl, hg, r⟩ := (ho.mono (show w.heap.size ≤ _ by simp)).row (by have := HX.out; omega)
  have hb : Below w.heap.size w w' := from_alloc ⟨hgrow.os, hgrow.tape, hgrow.output, hgrow.size, fun k hk => hgrow.block k hk (by simp)⟩
  clear hown hgrow ho
  go_wp2
  go_ret
  exact ⟨g, k, rfl, hg, r, hb⟩
set_option maxHeartbeats 1000000 in
theorem equal_any (a b : Option Addr) (n m c1 c2 : Nat) (xs ys : List Int) (w : World) (hn : xs.length = n) (hm : ys.length = m) (hle : n ≤ 1048576) (hle2 : m ≤ 1048576) (ha : IRow w a xs) (hb : IRow w b ys) :
    Calls Tryz.prog 144 #[.slice a n c1, .slice b m c2] w fun e w' => e = .returned (.bool (decide (xs = ys))) ∧ Below w.heap.size w w' := by
  subst hn hm
  obtain ⟨R, hR⟩ : ∃ R, decide (xs = ys) = R := ⟨_, rfl⟩
  rw [hR]
  have HR := Lib.hid hR
  clear hR
  by_cases hl : xs.length = ys.length
  · have hln : ((xs.length : Int) != (ys.length : Int)) = false := by rw [bne_eq_false_iff_eq]; omega
    have HLN := Lib.hid hl
    clear hl
    go_enter Tryz.func144, Tryz.ntmps144
    go_wp2_with fail
    go_loopg [13] xs.length (fun m i wr => ∃ k : Nat, k ≤ xs.length ∧ m = xs.length - k ∧ i = .int .i64 k ∧ (∀ j, j < k → xs.getD j 0 = ys.getD j 0) ∧ Below w.heap.size w wr)
    case atStart => exact ⟨0, by omega, by omega, rfl, fun j hj => by omega, Below.refl _ _⟩
    case round =>
      obtain ⟨k, hk, hm, rfl, hall, hbel⟩ := hrel
      have HA := Lib.hid hall
      have HM := Lib.hid hm
      clear hall hm
      by_cases hlt : k < xs.length
      · have hlt' : (k : Int) < (xs.length : Int) := by omega
        have hlt2 : (k : Int) < (ys.length : Int) := by have := HLN.out; omega
        have hk0 : (0 : Int) ≤ (k : Int) := by omega
        obtain ⟨b1, o1, rfl, hc1⟩ := ha.below hbel k hlt
        obtain ⟨b2, o2, rfl, hc2⟩ := hb.below hbel k (by omega)
        obtain ⟨u, hu⟩ : ∃ u, xs.getD k 0 = u := ⟨_, rfl⟩
        obtain ⟨v, hv⟩ : ∃ v, ys.getD k 0 = v := ⟨_, rfl⟩
        rw [hu] at hc1
        rw [hv] at hc2
        have HU := Lib.hid hu
        have HV := Lib.hid hv
        clear hu hv
        by_cases huv : u = v
        · subst huv
          go_wp2_with fail
          go_quiet (fail)
          go_wp2
          go_roundg (xs.length - (k + 1))
          case measure => have := HM.out; omega
          case rel =>
            refine ⟨k + 1, by omega, rfl, by go_num, fun j hj => ?_, below_drewN hbel _⟩
            by_cases e : j = k
            · subst e; rw [HU.out, HV.out]
            · exact HA.out j (by omega)
        · have hne : (u != v) = true := by rw [bne_iff_ne]; exact huv
          have hno : R = false := by
            rw [← HR.out, decide_eq_false_iff_not]
            intro e
            subst e
            exact huv (HU.out.symm.trans HV.out)
          subst hno
          clear huv
          go_wp2_with fail
          go_quiet (fail)
          go_wp2
          go_ret
          exact ⟨rfl, below_drewN hbel _⟩
      · obtain rfl : k = xs.length := by omega
        have hlt' : ¬ ((xs.length : Int) < (xs.length : Int)) := by omega
        have hyes : R = true := by
          rw [← HR.out, decide_eq_true_iff]
          apply List.ext_getElem HLN.out
          intro j h1 h2
          have := HA.out j h1
          rwa [show xs.getD j 0 = xs[j] by simp [h1], show ys.getD j 0 = ys[j] by simp [h2]] at this
        subst hyes
        go_wp2
        go_ret
        exact ⟨rfl, hbel⟩
  · have hln : ((xs.length : Int) != (ys.length : Int)) = true := by rw [bne_iff_ne]; omega
    have hno : R = false := by
      rw [← HR.out, decide_eq_false_iff_not]
      intro e
      exact hl (by rw [e])
    subst hno
    clear hl
    go_enter Tryz.func144, Tryz.ntmps144
    go_wp2_with fail
    go_ret
    exact ⟨rfl, Below.refl _ _⟩
end Go.Proofs.YtfomfbfcnenhbaaGreat
namespace Go.Proofs.YtfomfbfcnenhbaaGreat
open Go.ChangeShapes Go.WideShapes Go.ChangeAt Go.RowKit
set_option linter.unusedVariables false
set_option linter.unusedSimpArgs false
def CodeIn (B : Nat) (w : World) (a : Option Addr) (len : Nat) : Prop :=
  ∀ i, i < len → ∃ b o n, a = some ⟨b, o, none⟩ ∧ b < B ∧ w.cell? ⟨b, o + i, none⟩ = some (.int .u8 n) ∧ 0 ≤ n ∧ n ≤ 255
theorem CodeIn.below {B : Nat} {w w' : World} {a : Option Addr} {len : Nat} (h : CodeIn B w a len) (hb : Below B w w') : CodeIn B w' a len := fun i hi => by
  obtain ⟨b, o, n, e, hl, hc, h1, h2⟩ := h i hi
  exact ⟨b, o, n, e, hl, by rw [hb.cell (p := ⟨b, o + i, none⟩) hl]; exact hc, h1, h2⟩
theorem Blk.three {w : World} {g : Nat} {v0 v1 v2 : Value} {t : TypeId} (h : Blk w g #[v0, v1, v2] t) :
    w.cell? ⟨g, 0, none⟩ = some v0 ∧ w.cell? ⟨g, 1, none⟩ = some v1 ∧ w.cell? ⟨g, 2, none⟩ = some v2 ∧ (∀ i, w.frozen? ⟨g, i, none⟩ = false) ∧ g < w.heap.size :=
  ⟨by simpa using h.cell 0, by simpa using h.cell 1, by simpa using h.cell 2, fun i => h.free i, h.lt⟩
end Go.Proofs.YtfomfbfcnenhbaaGreat
