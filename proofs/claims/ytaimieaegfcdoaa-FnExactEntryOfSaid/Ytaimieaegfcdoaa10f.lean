/- Contract of the library's reversal of a row of numbers. -/
import Derived.Test.YtaimieaegfcdoaaCln
import Derived.Test.YtaimieaegfcdoaaSrc
import Derived.StillTailTactics
namespace Go.Proofs.Ytaimieaegfcdoaa
open Go.ChangeShapes Go.WideShapes Go.ChangeAt Go.RowKit
set_option linter.unusedVariables false
set_option linter.unusedSimpArgs false
set_option maxRecDepth 4000

/-- What stands at a place of a row that has been reversed from both ends, k places each. -/
def rvA (xs : List Int) (n k p : Nat) : Int := if p < k ∨ n - k ≤ p then xs.getD (n - 1 - p) 0 else xs.getD p 0
theorem rvA_step {xs L : List Int} {n k : Nat} (hl : L.length = n) (h : ∀ p, p < n → L.getD p 0 = rvA xs n k p) (hk : k < n - 1 - k) :
    L.getD k 0 = xs.getD k 0 ∧ L.getD (n - 1 - k) 0 = xs.getD (n - 1 - k) 0 ∧ ∀ p, p < n → ((L.set k (xs.getD (n - 1 - k) 0)).set (n - 1 - k) (xs.getD k 0)).getD p 0 = rvA xs n (k + 1) p := by
  have a1 := h k (by omega)
  have a2 := h (n - 1 - k) (by omega)
  rw [rvA, if_neg (by omega)] at a1 a2
  refine ⟨a1, a2, fun p hp => ?_⟩
  have hp2 := h p hp
  simp only [List.getD_eq_getElem?_getD] at hp2 ⊢
  by_cases e1 : p = n - 1 - k
  · subst e1
    rw [List.getElem?_set_self (by simp; omega), rvA, if_pos (by omega), show n - 1 - (n - 1 - k) = k by omega]
    rfl
  · rw [List.getElem?_set_ne (by omega)]
    by_cases e2 : p = k
    · subst e2
      rw [List.getElem?_set_self (by omega), rvA, if_pos (by omega)]
      rfl
    · rw [List.getElem?_set_ne (by omega), hp2, rvA, rvA]
      by_cases e3 : p < k ∨ n - k ≤ p
      · rw [if_pos e3, if_pos (by omega)]
      · rw [if_neg e3, if_neg (by omega)]
theorem rvA_end {xs L : List Int} {n k : Nat} (hx : xs.length = n) (hl : L.length = n) (h : ∀ p, p < n → L.getD p 0 = rvA xs n k p) (hk : n ≤ 2 * k + 1) : L = xs.reverse := by
  refine ext_getD (by simp; omega) fun p => ?_
  by_cases hp : p < n
  · rw [h p hp]
    have : xs.reverse.getD p 0 = xs.getD (n - 1 - p) 0 := by
      simp only [List.getD_eq_getElem?_getD]
      rw [List.getElem?_reverse (by omega), hx]
    rw [this, rvA]
    by_cases e3 : p < k ∨ n - k ≤ p
    · rw [if_pos e3]
    · rw [if_neg e3, show n - 1 - p = p by omega]
  · rw [getD_out (by omega), getD_out (by simp; omega)]
set_option maxHeartbeats 1000000 in
theorem reverse_any (g n cap : Nat) (xs : List Int) (w : World) (hn : xs.length = n) (hle : n ≤ 1048576) (hr : Row w g xs) :
    Calls Try.prog 77 #[.slice (some ⟨g, 0, none⟩) n cap] w fun e w' => e = .returned (.tuple #[]) ∧ Row w' g xs.reverse ∧ w.grownBy w' (some g) := by
  have h0 : ∀ p, p < n → xs.getD p 0 = rvA xs n 0 p := fun p hp => by rw [rvA, if_neg (by omega)]
  have HN := Lib.hid hn
  clear hn
  go_enter Try.func77, Try.ntmps77
  go_wp2_with fail
  go_loopg [2, 3] n (fun m i j wr => ∃ (W : World) (k : Nat) (L : List Int), W = wr ∧ m = n - k ∧ i = .int .i64 k ∧ j = .int .i64 ((n : Int) - 1 - k) ∧ k ≤ n ∧ L.length = n ∧ (∀ p, p < n → L.getD p 0 = rvA xs n k p) ∧ Row W g L ∧ w.grownBy W (some g))
  case atStart => exact ⟨_, 0, xs, rfl, rfl, rfl, by go_num, by omega, HN.out, h0, hr, grown_refl _ _⟩
  case round =>
    clear h0 hr
    obtain ⟨W, k, L, hW, hm, rfl, rfl, hk, hL, hS, RL, hG⟩ := hrel
    subst hW
    by_cases hlt : k < n - 1 - k
    · obtain ⟨a1, a2, a3⟩ := rvA_step hL hS hlt
      obtain ⟨jn, hjn⟩ : ∃ jn, n - 1 - k = jn := ⟨_, rfl⟩
      have e1 : (n : Int) - 1 - (k : Int) = (jn : Int) := by omega
      rw [hjn] at a2 a3
      obtain ⟨vi, hvi⟩ : ∃ v, L.getD k 0 = v := ⟨_, rfl⟩
      obtain ⟨vj, hvj⟩ : ∃ v, L.getD jn 0 = v := ⟨_, rfl⟩
      rw [← a1, hvi, ← a2, hvj] at a3
      have hlt' : (k : Int) < (jn : Int) := by omega
      have f1 : (0 : Int) ≤ (k : Int) := by omega
      have f2 : (k : Int) < (n : Int) := by omega
      have f3 : (0 : Int) ≤ (jn : Int) := by omega
      have f4 : (jn : Int) < (n : Int) := by omega
      have f5 : (n : Int) ≤ 1048576 := by omega
      have HJ := Lib.hid e1
      have HS := Lib.hid a3
      have HL := Lib.hid hL
      rw [e1]
      have hkn : k < L.length := by omega
      have hjl : jn < L.length := by omega
      clear a1 a2 a3 hS hL hjn hlt
      go_wp2_with fail
      refine wp_region_held_drew (S := fun _ => True) (by kernel_rfl) trivial (fun hHeld => ?_)
      clear hHeld
      replace RL := RL.drew
      replace hG := grown_drew hG
      have c1 := RL.cell k (by omega)
      have c2 := RL.cell jn (by omega)
      have f0 := fun q => RL.free q
      rw [hvi] at c1
      rw [hvj] at c2
      generalize W.drew = vd at *
      have hHeld : True := trivial
      refine wpAnyH_take (i := 0) (oi := { dst := some 14, op := _, type := _, pos := _, after := _, guard := _ }) (v := ?_) rfl (by kernel_rfl) (by kernel_rfl) (by kernel_rfl) (fun _ _ _ h => h) (Or.inl ⟨by rfl, ?_⟩) (by assumption) ?_
      rotate_left
      · intro w hSw
        (try dsimp only at hSw)
        go_simp
        (try (with_reducible rfl))
      try simp only [Act.put, List.setIfInBounds_toArray, List.set_cons_zero, List.set_cons_succ]
      refine wpAnyH_take (i := 1) (oi := { dst := some 15, op := _, type := _, pos := _, after := _, guard := _ }) (v := ?_) rfl (by kernel_rfl) (by kernel_rfl) (by kernel_rfl) (fun _ _ _ h => h) (Or.inl ⟨by rfl, ?_⟩) (by assumption) ?_
      rotate_left
      · intro w hSw
        (try dsimp only at hSw)
        go_simp
        (try (with_reducible rfl))
      try simp only [Act.put, List.setIfInBounds_toArray, List.set_cons_zero, List.set_cons_succ]
      refine wpAnyH_take (i := 2) (oi := { dst := some 16, op := _, type := _, pos := _, after := _, guard := _ }) (v := ?_) rfl (by kernel_rfl) (by kernel_rfl) (by kernel_rfl) (fun _ _ _ h => h) (Or.inl ⟨by rfl, ?_⟩) (by assumption) ?_
      rotate_left
      · intro w hSw
        (try dsimp only at hSw)
        go_simp
        (try (with_reducible rfl))
      try simp only [Act.put, List.setIfInBounds_toArray, List.set_cons_zero, List.set_cons_succ]
      refine wpAnyH_take (i := 3) (oi := { dst := some 17, op := _, type := _, pos := _, after := _, guard := _ }) (v := ?_) rfl (by kernel_rfl) (by kernel_rfl) (by kernel_rfl) (fun _ _ _ h => h) (Or.inl ⟨by rfl, ?_⟩) (by assumption) ?_
      rotate_left
      · intro w hSw
        (try dsimp only at hSw)
        go_simp
        (try (with_reducible rfl))
      try simp only [Act.put, List.setIfInBounds_toArray, List.set_cons_zero, List.set_cons_succ]
      refine wpAnyH_take (i := 4) (oi := { dst := some 18, op := _, type := _, pos := _, after := _, guard := _ }) (v := ?_) rfl (by kernel_rfl) (by kernel_rfl) (by kernel_rfl) (fun _ _ _ h => h) (Or.inl ⟨by rfl, ?_⟩) (by assumption) ?_
      rotate_left
      · intro w hSw
        (try dsimp only at hSw)
        go_simp
        (try (with_reducible rfl))
      try simp only [Act.put, List.setIfInBounds_toArray, List.set_cons_zero, List.set_cons_succ]
      refine wpAnyH_take (i := 5) (oi := { dst := some 19, op := _, type := _, pos := _, after := _, guard := _ }) (v := ?_) rfl (by kernel_rfl) (by kernel_rfl) (by kernel_rfl) (fun _ _ _ h => h) (Or.inl ⟨by rfl, ?_⟩) (by assumption) ?_
      rotate_left
      · intro w hSw
        (try dsimp only at hSw)
        go_simp
        (try (with_reducible rfl))
      try simp only [Act.put, List.setIfInBounds_toArray, List.set_cons_zero, List.set_cons_succ]
      refine wpAnyH_take (i := 6) (oi := { dst := some 20, op := _, type := _, pos := _, after := _, guard := _ }) (v := ?_) rfl (by kernel_rfl) (by kernel_rfl) (by kernel_rfl) (fun _ _ _ h => h) (Or.inl ⟨by rfl, ?_⟩) (by assumption) ?_
      rotate_left
      · intro w hSw
        (try dsimp only at hSw)
        go_simp
        (try (with_reducible rfl))
      try simp only [Act.put, List.setIfInBounds_toArray, List.set_cons_zero, List.set_cons_succ]
      refine wpAnyH_take (i := 8) (oi := { dst := some 22, op := _, type := _, pos := _, after := _, guard := _ }) (v := ?_) rfl (by kernel_rfl) (by kernel_rfl) (by kernel_rfl) (fun _ _ _ h => h) (Or.inl ⟨by rfl, ?_⟩) (by assumption) ?_
      rotate_left
      · intro w hSw
        (try dsimp only at hSw)
        go_simp
        (try (with_reducible rfl))
      try simp only [Act.put, List.setIfInBounds_toArray, List.set_cons_zero, List.set_cons_succ]
      refine wpAnyH_take (i := 9) (oi := { dst := some 23, op := _, type := _, pos := _, after := _, guard := _ }) (v := ?_) rfl (by kernel_rfl) (by kernel_rfl) (by kernel_rfl) (fun _ _ _ h => h) (Or.inl ⟨by rfl, ?_⟩) (by assumption) ?_
      rotate_left
      · intro w hSw
        (try dsimp only at hSw)
        go_simp
        (try (with_reducible rfl))
      try simp only [Act.put, List.setIfInBounds_toArray, List.set_cons_zero, List.set_cons_succ]
      refine wpAnyH_take (i := 10) (oi := { dst := some 24, op := _, type := _, pos := _, after := _, guard := _ }) (v := ?_) rfl (by kernel_rfl) (by kernel_rfl) (by kernel_rfl) (fun _ _ _ h => h) (Or.inl ⟨by rfl, ?_⟩) (by assumption) ?_
      rotate_left
      · intro w hSw
        (try dsimp only at hSw)
        go_simp
        (try (with_reducible rfl))
      try simp only [Act.put, List.setIfInBounds_toArray, List.set_cons_zero, List.set_cons_succ]
      refine wpAnyH_ready (rs := [7, 11]) (by kernel_rfl) (by simp) ?_
      refine AllReadyH.cons (o := { dst := some 21, op := _, type := _, pos := _, after := _, guard := _ }) rfl (fun K hK => ?_) (AllReadyH.cons (o := { dst := some 25, op := _, type := _, pos := _, after := _, guard := _ }) rfl (fun K hK => ?_) AllReadyH.nil)
      · go_simp
        (try go_wp2_with fail)
        refine hK.out _ _ trivial (fun hHeld => ?_)
        clear hK K
        try simp only [Act.put, List.setIfInBounds_toArray, List.set_cons_zero, List.set_cons_succ]
        refine wpAnyH_ready (rs := [11]) (by kernel_rfl) (by simp) ?_
        refine AllReadyH.cons (o := { dst := some 25, op := _, type := _, pos := _, after := _, guard := _ }) rfl (fun K hK => ?_) AllReadyH.nil
        go_simp
        (try go_wp2_with fail)
        refine hK.out _ _ trivial (fun hHeld => ?_)
        clear hK K
        try simp only [Act.put, List.setIfInBounds_toArray, List.set_cons_zero, List.set_cons_succ]
        refine wpAnyH_take (i := 12) (oi := { dst := some 26, op := _, type := _, pos := _, after := _, guard := _ }) (v := ?_) rfl (by kernel_rfl) (by kernel_rfl) (by kernel_rfl) (fun _ _ _ h => h) (Or.inl ⟨by rfl, ?_⟩) (by assumption) ?_
        rotate_left
        · intro w hSw
          (try dsimp only at hSw)
          go_simp
          (try (with_reducible rfl))
        try simp only [Act.put, List.setIfInBounds_toArray, List.set_cons_zero, List.set_cons_succ]
        refine wpAnyH_ready (rs := [13]) (by kernel_rfl) (by simp) ?_
        refine AllReadyH.cons (o := { dst := none, op := _, type := _, pos := _, after := _, guard := _ }) rfl (fun K hK => ?_) AllReadyH.nil
        go_simp
        (try go_wp2_with fail)
        refine hK.out _ _ trivial (fun hHeld => ?_)
        clear hK K
        try simp only [Act.put, List.setIfInBounds_toArray, List.set_cons_zero, List.set_cons_succ]
        have R1 := RL.set k vj
        have d1 := R1.cell jn (by rw [List.length_set]; omega)
        have f1 := fun q => R1.free q
        have G1 := grown_set (o := k) (v := .int .i64 vj) hG
        refine wpAnyH_take (i := 14) (oi := { dst := some 27, op := _, type := _, pos := _, after := _, guard := _ }) (v := ?_) rfl (by kernel_rfl) (by kernel_rfl) (by kernel_rfl) (fun _ _ _ h => h) (Or.inl ⟨by rfl, ?_⟩) (by assumption) ?_
        rotate_left
        · intro w hSw
          (try dsimp only at hSw)
          go_simp
          (try (with_reducible rfl))
        try simp only [Act.put, List.setIfInBounds_toArray, List.set_cons_zero, List.set_cons_succ]
        refine wpAnyH_ready (rs := [15]) (by kernel_rfl) (by simp) ?_
        refine AllReadyH.cons (o := { dst := none, op := _, type := _, pos := _, after := _, guard := _ }) rfl (fun K hK => ?_) AllReadyH.nil
        go_simp
        (try go_wp2_with fail)
        refine hK.out _ _ trivial (fun hHeld => ?_)
        clear hK K
        try simp only [Act.put, List.setIfInBounds_toArray, List.set_cons_zero, List.set_cons_succ]
        have R2 := R1.set jn vi
        have G2 := grown_set (o := jn) (v := .int .i64 vi) G1
        clear d1 f1 R1 G1
        refine wpAnyH_done (by kernel_rfl) ?_ _
        have HR2 := Lib.hid R2
        have HG2 := Lib.hid G2
        clear R2 G2 hHeld hG RL c1 c2 f0
        go_wp2
        go_roundg (n - (k + 1))
        case measure => omega
        case rel => exact ⟨_, k + 1, _, rfl, rfl, by go_num, by (have := HJ.out); go_num, by omega, by rw [List.length_set, List.length_set]; exact HL.out, fun p hp => HS.out p hp, HR2.out, HG2.out⟩
      · go_simp
        (try go_wp2_with fail)
        refine hK.out _ _ trivial (fun hHeld => ?_)
        clear hK K
        try simp only [Act.put, List.setIfInBounds_toArray, List.set_cons_zero, List.set_cons_succ]
        refine wpAnyH_ready (rs := [7]) (by kernel_rfl) (by simp) ?_
        refine AllReadyH.cons (o := { dst := some 21, op := _, type := _, pos := _, after := _, guard := _ }) rfl (fun K hK => ?_) AllReadyH.nil
        go_simp
        (try go_wp2_with fail)
        refine hK.out _ _ trivial (fun hHeld => ?_)
        clear hK K
        try simp only [Act.put, List.setIfInBounds_toArray, List.set_cons_zero, List.set_cons_succ]
        refine wpAnyH_take (i := 12) (oi := { dst := some 26, op := _, type := _, pos := _, after := _, guard := _ }) (v := ?_) rfl (by kernel_rfl) (by kernel_rfl) (by kernel_rfl) (fun _ _ _ h => h) (Or.inl ⟨by rfl, ?_⟩) (by assumption) ?_
        rotate_left
        · intro w hSw
          (try dsimp only at hSw)
          go_simp
          (try (with_reducible rfl))
        try simp only [Act.put, List.setIfInBounds_toArray, List.set_cons_zero, List.set_cons_succ]
        refine wpAnyH_ready (rs := [13]) (by kernel_rfl) (by simp) ?_
        refine AllReadyH.cons (o := { dst := none, op := _, type := _, pos := _, after := _, guard := _ }) rfl (fun K hK => ?_) AllReadyH.nil
        go_simp
        (try go_wp2_with fail)
        refine hK.out _ _ trivial (fun hHeld => ?_)
        clear hK K
        try simp only [Act.put, List.setIfInBounds_toArray, List.set_cons_zero, List.set_cons_succ]
        have R1 := RL.set k vj
        have d1 := R1.cell jn (by rw [List.length_set]; omega)
        have f1 := fun q => R1.free q
        have G1 := grown_set (o := k) (v := .int .i64 vj) hG
        refine wpAnyH_take (i := 14) (oi := { dst := some 27, op := _, type := _, pos := _, after := _, guard := _ }) (v := ?_) rfl (by kernel_rfl) (by kernel_rfl) (by kernel_rfl) (fun _ _ _ h => h) (Or.inl ⟨by rfl, ?_⟩) (by assumption) ?_
        rotate_left
        · intro w hSw
          (try dsimp only at hSw)
          go_simp
          (try (with_reducible rfl))
        try simp only [Act.put, List.setIfInBounds_toArray, List.set_cons_zero, List.set_cons_succ]
        refine wpAnyH_ready (rs := [15]) (by kernel_rfl) (by simp) ?_
        refine AllReadyH.cons (o := { dst := none, op := _, type := _, pos := _, after := _, guard := _ }) rfl (fun K hK => ?_) AllReadyH.nil
        go_simp
        (try go_wp2_with fail)
        refine hK.out _ _ trivial (fun hHeld => ?_)
        clear hK K
        try simp only [Act.put, List.setIfInBounds_toArray, List.set_cons_zero, List.set_cons_succ]
        have R2 := R1.set jn vi
        have G2 := grown_set (o := jn) (v := .int .i64 vi) G1
        clear d1 f1 R1 G1
        refine wpAnyH_done (by kernel_rfl) ?_ _
        have HR2 := Lib.hid R2
        have HG2 := Lib.hid G2
        clear R2 G2 hHeld hG RL c1 c2 f0
        go_wp2
        go_roundg (n - (k + 1))
        case measure => omega
        case rel => exact ⟨_, k + 1, _, rfl, rfl, by go_num, by (have := HJ.out); go_num, by omega, by rw [List.length_set, List.length_set]; exact HL.out, fun p hp => HS.out p hp, HR2.out, HG2.out⟩
    · have hlt' : ¬ (k : Int) < (n : Int) - 1 - (k : Int) := by omega
      have hfin := rvA_end HN.out hL hS (by omega)
      subst hfin
      clear hS
      go_wp2
      exact ⟨rfl, .tuple #[], by simp [results, Try.results77, go_sem], rfl, RL, hG⟩
end Go.Proofs.Ytaimieaegfcdoaa
