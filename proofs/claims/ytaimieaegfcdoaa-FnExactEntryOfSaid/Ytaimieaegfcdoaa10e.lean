/- Contracts of chapter 10: the number of a list, and the list with a number, by the table of the program. -/
import Derived.Test.Ytaimieaegfcdoaa10c
import Derived.Test.YtaimieaegfcdoaaL03c
import Derived.WalkMore
namespace Go.Proofs.Ytaimieaegfcdoaa
open Go.ChangeShapes Go.WideShapes Go.ChangeAt Go.RowKit
set_option linter.unusedVariables false
set_option linter.unusedSimpArgs false
set_option maxRecDepth 4000

set_option maxHeartbeats 1000000 in
theorem numberOf_any (g C : Nat) (a : Option Addr) (n cap : Nat) (ns : List Nat) (xs : List Int) (w : World) (hn : n ≤ 25) (c1 : C ≤ 15) (hl : xs.length = n) (hln : ns.length = n) (hs : ns.sum ≤ C)
    (hx : ∀ k, k < xs.length → xs.getD k 0 = (ns.getD k 0 : Int)) (hr : IRow w a xs) (hw : WaysAt w g) :
    Calls Try.prog 78 #[.pointer (some ⟨g, 0, none⟩), .slice a n cap, .int .i64 C] w fun e w' => e = .returned (.int .i64 (numL ns C)) ∧ Below w.heap.size w w' := by
  have hT := numL_lt ns C hs
  have hcb := cnt_bound (n := ns.length) (m := C) (by omega) c1
  obtain ⟨T, hTe⟩ : ∃ T, numL ns C = T := ⟨_, rfl⟩
  rw [hTe] at hT ⊢
  have hTb : T < 1099511627776 := by omega
  have HL := Lib.hid hl
  have HLN := Lib.hid hln
  have HX := Lib.hid hx
  have HT := Lib.hid hTe
  clear hl hln hx hTe hT hcb
  go_enter Try.func78, Try.ntmps78
  go_wp2_with fail
  go_loopg [2, 7, 13] n (fun m l q i wr => ∃ (W : World) (k N L : Nat), W = wr ∧ k ≤ n ∧ m = n - k ∧ i = .int .i64 k ∧ q = .int .i64 N ∧ l = .int .i64 L ∧ L ≤ 15 ∧ (ns.drop k).sum ≤ L ∧ N + numL (ns.drop k) L = T ∧ Below w.heap.size w W)
  case atStart => exact ⟨_, 0, 0, C, rfl, by omega, by omega, rfl, rfl, rfl, c1, by simpa using hs, by simpa using HT.out, Below.refl _ _⟩
  case round =>
    clear hs
    obtain ⟨W, k, N, L, hW, hk, hm, rfl, rfl, rfl, hL, hsum, hN, hbel⟩ := hrel
    subst hW
    by_cases hlt : k < n
    · have hlt' : (k : Int) < (n : Int) := by omega
      have hk0 : (0 : Int) ≤ (k : Int) := by omega
      obtain ⟨b, o, rfl, hc⟩ := hr.below hbel k (by rw [HL.out]; exact hlt)
      obtain ⟨x, hx, hxL, hst, hsum2⟩ := num_step ns k L N T n HLN.out hlt hN hsum
      rw [HX.out k (by rw [HL.out]; exact hlt), hx] at hc
      have hal := blk_all (n - 1 - k) L x hxL
      obtain ⟨bb, hbb⟩ : ∃ bb, n - 1 - k = bb := ⟨_, rfl⟩
      obtain ⟨ln, hln⟩ : ∃ ln, n - k = ln := ⟨_, rfl⟩
      obtain ⟨lx, hlx⟩ : ∃ lx, L - x = lx := ⟨_, rfl⟩
      have e1 : (n : Int) - (k : Int) = (ln : Int) := by omega
      have e2 : (L : Int) - (x : Int) = (lx : Int) := by omega
      rw [hbb, show bb + 1 = ln by omega, hlx] at hal
      rw [hbb, hlx] at hst
      rw [hlx] at hsum2
      have hU := (hw.below hbel).cell ln L (by omega) hL
      have hZ := (hw.below hbel).cell ln lx (by omega) (by omega)
      have hub := cnt_bound (n := ln) (m := L) (by omega) hL
      obtain ⟨U, hUe⟩ : ∃ U, cnt ln L = U := ⟨_, rfl⟩
      obtain ⟨Z, hZe⟩ : ∃ Z, cnt ln lx = Z := ⟨_, rfl⟩
      rw [hUe] at hU hal hub
      rw [hZe] at hZ hal
      have hNb : N + (U - Z) ≤ T := by omega
      have hst2 : N + (U - Z) + numL (ns.drop (k + 1)) lx = T := by omega
      have d1 : (U : Int) ≤ 1099511627776 := by omega
      have d2 : (Z : Int) ≤ (U : Int) := by omega
      have d3 : (N : Int) ≤ 1099511627776 := by omega
      have f1 : (0 : Int) ≤ (ln : Int) := by omega
      have f2 : (ln : Int) < 26 := by omega
      have f3 : (0 : Int) ≤ (L : Int) := by omega
      have f4 : (L : Int) < 16 := by omega
      have f5 : (0 : Int) ≤ (lx : Int) := by omega
      have f6 : (lx : Int) < 16 := by omega
      have f7 : 0 ≤ (x : Int) := by omega
      have f8 : (x : Int) ≤ (L : Int) := by omega
      have f9 : (n : Int) ≤ 25 := by omega
      have w0 : IntKind.i64.wrap ((n : Int) - (k : Int)) = (ln : Int) := by rw [e1]; exact IntWalk.i64_in _ (by omega)
      have w1 : IntKind.i64.wrap (lx : Int) = (lx : Int) := IntWalk.i64_in _ (by omega)
      have w2 : IntKind.i64.wrap ((U : Int) - (Z : Int)) = (U : Int) - (Z : Int) := IntWalk.i64_in _ (by omega)
      have w3 : IntKind.i64.wrap ((N : Int) + ((U : Int) - (Z : Int))) = (N : Int) + ((U : Int) - (Z : Int)) := IntWalk.i64_in _ (by omega)
      have HS := Lib.hid hst2
      have HS2 := Lib.hid hsum2
      have HM := Lib.hid hm
      clear hst hst2 hsum2 hsum hN hm hx hbb hln hal hUe hZe
      go_wp2_with fail
      replace hbel := hbel.drew
      refine wp_region_held_drew (S := fun w' => w'.cell? ⟨g, ln * 16 + L, none⟩ = some (.int .i64 (U : Int)) ∧ w'.cell? ⟨g, ln * 16 + lx, none⟩ = some (.int .i64 (Z : Int))) (by kernel_rfl) ⟨hU, hZ⟩ (fun hHeld => ?_)
      refine wpAnyH_take (i := 0) (oi := { dst := some 22, op := _, type := _, pos := _, after := _, guard := _ }) (v := ?_) rfl (by kernel_rfl) (by kernel_rfl) (by kernel_rfl) (fun _ _ _ h => h) (Or.inl ⟨by rfl, ?_⟩) (by assumption) ?_
      rotate_left
      · intro w hSw
        (try dsimp only at hSw)
        go_simp
        (try (with_reducible rfl))
      try simp only [Act.put, List.setIfInBounds_toArray, List.set_cons_zero, List.set_cons_succ]
      refine wpAnyH_take (i := 1) (oi := { dst := some 23, op := _, type := _, pos := _, after := _, guard := _ }) (v := ?_) rfl (by kernel_rfl) (by kernel_rfl) (by kernel_rfl) (fun _ _ _ h => h) (Or.inl ⟨by rfl, ?_⟩) (by assumption) ?_
      rotate_left
      · intro w hSw
        (try dsimp only at hSw)
        go_simp
        (try (with_reducible rfl))
      try simp only [Act.put, List.setIfInBounds_toArray, List.set_cons_zero, List.set_cons_succ]
      refine wpAnyH_take (i := 2) (oi := { dst := some 24, op := _, type := _, pos := _, after := _, guard := _ }) (v := ?_) rfl (by kernel_rfl) (by kernel_rfl) (by kernel_rfl) (fun _ _ _ h => h) (Or.inl ⟨by rfl, ?_⟩) (by assumption) ?_
      rotate_left
      · intro w hSw
        (try dsimp only at hSw)
        go_simp
        (try (with_reducible rfl))
      try simp only [Act.put, List.setIfInBounds_toArray, List.set_cons_zero, List.set_cons_succ]
      refine wpAnyH_take (i := 3) (oi := { dst := some 25, op := _, type := _, pos := _, after := _, guard := _ }) (v := ?_) rfl (by kernel_rfl) (by kernel_rfl) (by kernel_rfl) (fun _ _ _ h => h) (Or.inl ⟨by rfl, ?_⟩) (by assumption) ?_
      rotate_left
      · intro w hSw
        (try dsimp only at hSw)
        go_simp
        (try (with_reducible rfl))
      try simp only [Act.put, List.setIfInBounds_toArray, List.set_cons_zero, List.set_cons_succ]
      refine wpAnyH_take (i := 4) (oi := { dst := some 26, op := _, type := _, pos := _, after := _, guard := _ }) (v := ?_) rfl (by kernel_rfl) (by kernel_rfl) (by kernel_rfl) (fun _ _ _ h => h) (Or.inl ⟨by rfl, ?_⟩) (by assumption) ?_
      rotate_left
      · intro w hSw
        (try dsimp only at hSw)
        go_simp
        (try (with_reducible rfl))
      try simp only [Act.put, List.setIfInBounds_toArray, List.set_cons_zero, List.set_cons_succ]
      refine wpAnyH_take (i := 5) (oi := { dst := some 27, op := _, type := _, pos := _, after := _, guard := _ }) (v := ?_) rfl (by kernel_rfl) (by kernel_rfl) (by kernel_rfl) (fun _ _ _ h => h) (Or.inl ⟨by rfl, ?_⟩) (by assumption) ?_
      rotate_left
      · intro w hSw
        (try dsimp only at hSw)
        go_simp
        (try (with_reducible rfl))
      try simp only [Act.put, List.setIfInBounds_toArray, List.set_cons_zero, List.set_cons_succ]
      refine wpAnyH_take (i := 6) (oi := { dst := some 28, op := _, type := _, pos := _, after := _, guard := _ }) (v := ?_) rfl (by kernel_rfl) (by kernel_rfl) (by kernel_rfl) (fun _ _ _ h => h) (Or.inl ⟨by rfl, ?_⟩) (by assumption) ?_
      rotate_left
      · intro w hSw
        (try dsimp only at hSw)
        go_simp
        (try (with_reducible rfl))
      try simp only [Act.put, List.setIfInBounds_toArray, List.set_cons_zero, List.set_cons_succ]
      refine wpAnyH_take (i := 7) (oi := { dst := some 29, op := _, type := _, pos := _, after := _, guard := _ }) (v := ?_) rfl (by kernel_rfl) (by kernel_rfl) (by kernel_rfl) (fun _ _ _ h => h) (Or.inl ⟨by rfl, ?_⟩) (by assumption) ?_
      rotate_left
      · intro w hSw
        (try dsimp only at hSw)
        go_simp
        (try (with_reducible rfl))
      try simp only [Act.put, List.setIfInBounds_toArray, List.set_cons_zero, List.set_cons_succ]
      refine wpAnyH_take (i := 8) (oi := { dst := some 30, op := _, type := _, pos := _, after := _, guard := _ }) (v := ?_) rfl (by kernel_rfl) (by kernel_rfl) (by kernel_rfl) (fun _ _ _ h => h) (Or.inl ⟨by rfl, ?_⟩) (by assumption) ?_
      rotate_left
      · intro w hSw
        (try dsimp only at hSw)
        go_simp
        (try (with_reducible rfl))
      try simp only [Act.put, List.setIfInBounds_toArray, List.set_cons_zero, List.set_cons_succ]
      refine wpAnyH_take (i := 9) (oi := { dst := some 31, op := _, type := _, pos := _, after := _, guard := _ }) (v := ?_) rfl (by kernel_rfl) (by kernel_rfl) (by kernel_rfl) (fun _ _ _ h => h) (Or.inl ⟨by rfl, ?_⟩) (by assumption) ?_
      rotate_left
      · intro w hSw
        (try dsimp only at hSw)
        go_simp
        (try (with_reducible rfl))
      try simp only [Act.put, List.setIfInBounds_toArray, List.set_cons_zero, List.set_cons_succ]
      refine wpAnyH_take (i := 10) (oi := { dst := some 32, op := _, type := _, pos := _, after := _, guard := _ }) (v := ?_) rfl (by kernel_rfl) (by kernel_rfl) (by kernel_rfl) (fun _ _ _ h => h) (Or.inl ⟨by rfl, ?_⟩) (by assumption) ?_
      rotate_left
      · intro w hSw
        (try dsimp only at hSw)
        go_simp
        (try (with_reducible rfl))
      try simp only [Act.put, List.setIfInBounds_toArray, List.set_cons_zero, List.set_cons_succ]
      refine wpAnyH_take (i := 11) (oi := { dst := some 33, op := _, type := _, pos := _, after := _, guard := _ }) (v := ?_) rfl (by kernel_rfl) (by kernel_rfl) (by kernel_rfl) (fun _ _ _ h => h) (Or.inl ⟨by rfl, ?_⟩) (by assumption) ?_
      rotate_left
      · intro w hSw
        (try dsimp only at hSw)
        go_simp
        (try (with_reducible rfl))
      try simp only [Act.put, List.setIfInBounds_toArray, List.set_cons_zero, List.set_cons_succ]
      refine wpAnyH_take (i := 12) (oi := { dst := some 34, op := _, type := _, pos := _, after := _, guard := _ }) (v := ?_) rfl (by kernel_rfl) (by kernel_rfl) (by kernel_rfl) (fun _ _ _ h => h) (Or.inl ⟨by rfl, ?_⟩) (by assumption) ?_
      rotate_left
      · intro w hSw
        (try dsimp only at hSw)
        go_simp
        (try (with_reducible rfl))
      try simp only [Act.put, List.setIfInBounds_toArray, List.set_cons_zero, List.set_cons_succ]
      refine wpAnyH_take (i := 13) (oi := { dst := some 35, op := _, type := _, pos := _, after := _, guard := _ }) (v := ?_) rfl (by kernel_rfl) (by kernel_rfl) (by kernel_rfl) (fun _ _ _ h => h) (Or.inl ⟨by rfl, ?_⟩) (by assumption) ?_
      rotate_left
      · intro w hSw
        (try dsimp only at hSw)
        go_simp
        (try (with_reducible rfl))
      try simp only [Act.put, List.setIfInBounds_toArray, List.set_cons_zero, List.set_cons_succ]
      refine wpAnyH_take (i := 14) (oi := { dst := some 36, op := _, type := _, pos := _, after := _, guard := _ }) (v := ?_) rfl (by kernel_rfl) (by kernel_rfl) (by kernel_rfl) (fun _ _ _ h => h) (Or.inl ⟨by rfl, ?_⟩) (by assumption) ?_
      rotate_left
      · intro w hSw
        (try dsimp only at hSw)
        go_simp
        (try (with_reducible rfl))
      try simp only [Act.put, List.setIfInBounds_toArray, List.set_cons_zero, List.set_cons_succ]
      refine wpAnyH_take (i := 15) (oi := { dst := some 37, op := _, type := _, pos := _, after := _, guard := _ }) (v := ?_) rfl (by kernel_rfl) (by kernel_rfl) (by kernel_rfl) (fun _ _ _ h => h) (Or.inl ⟨by rfl, ?_⟩) (by assumption) ?_
      rotate_left
      · intro w hSw
        (try dsimp only at hSw)
        go_simp
        (try (with_reducible rfl))
      try simp only [Act.put, List.setIfInBounds_toArray, List.set_cons_zero, List.set_cons_succ]
      refine wpAnyH_take (i := 16) (oi := { dst := some 38, op := _, type := _, pos := _, after := _, guard := _ }) (v := ?_) rfl (by kernel_rfl) (by kernel_rfl) (by kernel_rfl) (fun _ _ _ h => h) (Or.inl ⟨by rfl, ?_⟩) (by assumption) ?_
      rotate_left
      · intro w hSw
        (try dsimp only at hSw)
        go_simp
        (try (with_reducible rfl))
      try simp only [Act.put, List.setIfInBounds_toArray, List.set_cons_zero, List.set_cons_succ]
      refine wpAnyH_take (i := 17) (oi := { dst := some 39, op := _, type := _, pos := _, after := _, guard := _ }) (v := ?_) rfl (by kernel_rfl) (by kernel_rfl) (by kernel_rfl) (fun _ _ _ h => h) (Or.inl ⟨by rfl, ?_⟩) (by assumption) ?_
      rotate_left
      · intro w hSw
        (try dsimp only at hSw)
        go_simp
        (try (with_reducible rfl))
      try simp only [Act.put, List.setIfInBounds_toArray, List.set_cons_zero, List.set_cons_succ]
      refine wpAnyH_take (i := 18) (oi := { dst := some 40, op := _, type := _, pos := _, after := _, guard := _ }) (v := ?_) rfl (by kernel_rfl) (by kernel_rfl) (by kernel_rfl) (fun _ _ _ h => h) (Or.inl ⟨by rfl, ?_⟩) (by assumption) ?_
      rotate_left
      · intro w hSw
        (try dsimp only at hSw)
        go_simp
        (try (with_reducible rfl))
      try simp only [Act.put, List.setIfInBounds_toArray, List.set_cons_zero, List.set_cons_succ]
      refine wpAnyH_take (i := 19) (oi := { dst := some 7, op := _, type := _, pos := _, after := _, guard := _ }) (v := ?_) rfl (by kernel_rfl) (by kernel_rfl) (by kernel_rfl) (fun _ _ _ h => h) (Or.inl ⟨by rfl, ?_⟩) (by assumption) ?_
      rotate_left
      · intro w hSw
        (try dsimp only at hSw)
        go_simp
        (try (with_reducible rfl))
      try simp only [Act.put, List.setIfInBounds_toArray, List.set_cons_zero, List.set_cons_succ]
      refine wpAnyH_done (by kernel_rfl) ?_ _
      clear hHeld hU hZ
      go_wp2
      go_roundg (n - (k + 1))
      case measure => have := HM.out; omega
      case rel => exact ⟨_, k + 1, N + (U - Z), lx, rfl, by omega, rfl, by go_num, by go_num, by go_num, by omega, HS2.out, HS.out, hbel⟩
    · obtain rfl : k = n := by omega
      have hN2 : N = T := by
        have : ns.drop k = [] := List.drop_eq_nil_of_le (by have := HLN.out; omega)
        rw [this, numL] at hN
        omega
      subst hN2
      have hlt' : ¬ (k : Int) < (k : Int) := by omega
      go_wp2
      go_ret
      exact ⟨rfl, hbel⟩
end Go.Proofs.Ytaimieaegfcdoaa
