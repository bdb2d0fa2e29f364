/- Texts of a proof, laid together. -/
import Derived.Test.YtfomfbfcnenhbaaGreatV05
import Derived.StillTailTactics
import Derived.Test.YtfomfbfcnenhbaaGreatV04
import Derived.Test.YtfomfbfcnenhbaaGreatV02
import Derived.Test.YtfomfbfcnenhbaaGreatV03
namespace Go.Proofs.YtfomfbfcnenhbaaGreat
open Go.ChangeShapes Go.WideShapes Go.ChangeAt Go.RowKit
set_option linter.unusedVariables false
set_option linter.unusedSimpArgs false
set_option maxRecDepth 4000
def rvA (xs : List Int) (n k p : Nat) : Int := if p < k ∨ n - k ≤ p then xs.getD (n - 1 - p) 0 else xs.getD p 0
theorem rvA_step {xs L : List Int} {n k : Nat} (hl : L.length = n) (h : ∀ p, p < n → L.getD p 0 = rvA xs n k p) (hk : k < n - 1 - k) :
    L.getD k 0 = xs.getD k 0 ∧ L.getD (n - 1 - k) 0 = xs.getD (n - 1 - k) 0 ∧ ∀ p, p < n → ((L.set k (xs.getD (n - 1 - k) 0)).set (n - 1 - k) (xs.getD k 0)).getD p 0 = rvA xs n (k + 1) p := by
  have a1 := h k (by omega)
  have a2 := h (n - 1 - k) (by omega)
  rw [rvA, if_neg (by omega)] at a1 a2
  refine ⟨a1, a2, fun p hp => ?_⟩
  have hp2 := h p hp
  simp only [List.getD_eq_getElem?_getD] at hp2 ⊢
  by_cases e1 : p = n - 1 - k
  · subst e1
    rw [List.getElem?_set_self (by simp; omega), rvA, if_pos (by omega), show n - 1 - (n - 1 - k) = k by omega]
    rfl
  · rw [List.getElem?_set_ne (by omega)]
    by_cases e2 : p = k
    · subst e2
      rw [List.getElem?_set_self (by omega), rvA, if_pos (by omega)]
      rfl
    · rw [List.getElem?_set_ne (by omega), hp2, rvA, rvA]
      by_cases e3 : p < k ∨ n - k ≤ p
      · rw [if_pos e3, if_pos (by omega)]
      · rw [if_neg e3, if_neg (by omega)]
theorem rvA_end {xs L : List Int} {n k : Nat} (hx : xs.length = n) (hl : L.length = n) (h : ∀ p, p < n → L.getD p 0 = rvA xs n k p) (hk : n ≤ 2 * k + 1) : L = xs.reverse := by
  refine ext_getD (by simp; omega) fun p => ?_
  by_cases hp : p < n
  · rw [h p hp]
    have : xs.reverse.getD p 0 = xs.getD (n - 1 - p) 0 := by
      simp only [List.getD_eq_getElem?_getD]
      rw [List.getElem?_reverse (by omega), hx]
    rw [this, rvA]
    by_cases e3 : p < k ∨ n - k ≤ p
    · rw [if_pos e3]
    · rw [if_neg e3, show n - 1 - p = p by omega]
  · rw [getD_out (by omega), getD_out (by simp; omega)]
set_option maxHeartbeats 1000000 in
theorem reverse_any (g n cap : Nat) (xs : List Int) (w : World) (hn : xs.length = n) (hle : n ≤ 1048576) (hr : Row w g xs) :
    Calls Tryz.prog 130 #[.slice (some ⟨g, 0, none⟩) n cap] w fun e w' => e = .returned (.tuple #[]) ∧ Row w' g xs.reverse ∧ w.grownBy w' (some g) := by
  have h0 : ∀ p, p < n → xs.getD p 0 = rvA xs n 0 p := fun p hp => by rw [rvA, if_neg (by omega)]
  have HN := Lib.hid hn
  clear hn
  go_enter Tryz.func130, Tryz.ntmps130
  go_wp2_with fail
  go_loopg [2, 3] n (fun m i j wr => ∃ (W : World) (k : Nat) (L : List Int), W = wr ∧ m = n - k ∧ i = .int .i64 k ∧ j = .int .i64 ((n : Int) - 1 - k) ∧ k ≤ n ∧ L.length = n ∧ (∀ p, p < n → L.getD p 0 = rvA xs n k p) ∧ Row W g L ∧ w.grownBy W (some g))
  case atStart => exact ⟨_, 0, xs, rfl, rfl, rfl, by go_num, by omega, HN.out, h0, hr, grown_refl _ _⟩
  case round =>
    clear h0 hr
    obtain ⟨W, k, L, hW, hm, rfl, rfl, hk, hL, hS, RL, hG⟩ := hrel
    subst hW
    by_cases hlt : k < n - 1 - k
    · obtain ⟨a1, a2, a3⟩ := rvA_step hL hS hlt
      obtain ⟨jn, hjn⟩ : ∃ jn, n - 1 - k = jn := ⟨_, rfl⟩
      have e1 : (n : Int) - 1 - (k : Int) = (jn : Int) := by omega
      rw [hjn] at a2 a3
      obtain ⟨vi, hvi⟩ : ∃ v, L.getD k 0 = v := ⟨_, rfl⟩
      obtain ⟨vj, hvj⟩ : ∃ v, L.getD jn 0 = v := ⟨_, rfl⟩
      rw [← a1, hvi, ← a2, hvj] at a3
      have hlt' : (k : Int) < (jn : Int) := by omega
      have f1 : (0 : Int) ≤ (k : Int) := by omega
      have f2 : (k : Int) < (n : Int) := by omega
      have f3 : (0 : Int) ≤ (jn : Int) := by omega
      have f4 : (jn : Int) < (n : Int) := by omega
      have f5 : (n : Int) ≤ 1048576 := by omega
      have HJ := Lib.hid e1
      have HS := Lib.hid a3
      have HL := Lib.hid hL
      rw [e1]
      have hkn : k < L.length := by omega
      have hjl : jn < L.length := by omega
      clear a1 a2 a3 hS hL hjn hlt
      go_wp2_with fail
      refine wp_region_held_drew (S := fun _ => True) (by kernel_rfl) trivial (fun hHeld => ?_)
      clear hHeld
      replace RL := RL.drew
      replace hG := grown_drew hG
      have c1 := RL.cell k (by omega)
      have c2 := RL.cell jn (by omega)
      have f0 := fun q => RL.free q
      rw [hvi] at c1
      rw [hvj] at c2
      generalize W.drew = vd at *
      have hHeld : True := trivial
      refine wpAnyH_take (i := 0) (oi := ⟨some 14, _, _, _, _, _⟩) (v := ?_) rfl (by kernel_rfl) (by kernel_rfl) (by kernel_rfl) (fun _ _ _ h => h) (Or.inl ⟨by rfl, ?_⟩) (by assumption) ?_
      rotate_left
      · intro w hSw; (try dsimp only at hSw); go_simp; (try (with_reducible rfl))
      try simp only [Act.put, List.setIfInBounds_toArray, List.set_cons_zero, List.set_cons_succ]
      refine wpAnyH_take (i := 1) (oi := ⟨some 15, _, _, _, _, _⟩) (v := ?_) rfl (by kernel_rfl) (by kernel_rfl) (by kernel_rfl) (fun _ _ _ h => h) (Or.inl ⟨by rfl, ?_⟩) (by assumption) ?_
      rotate_left
      · intro w hSw; (try dsimp only at hSw); go_simp; (try (with_reducible rfl))
      try simp only [Act.put, List.setIfInBounds_toArray, List.set_cons_zero, List.set_cons_succ]
      refine wpAnyH_take (i := 2) (oi := ⟨some 16, _, _, _, _, _⟩) (v := ?_) rfl (by kernel_rfl) (by kernel_rfl) (by kernel_rfl) (fun _ _ _ h => h) (Or.inl ⟨by rfl, ?_⟩) (by assumption) ?_
      rotate_left
      · intro w hSw; (try dsimp only at hSw); go_simp; (try (with_reducible rfl))
      try simp only [Act.put, List.setIfInBounds_toArray, List.set_cons_zero, List.set_cons_succ]
      refine wpAnyH_take (i := 3) (oi := ⟨some 17, _, _, _, _, _⟩) (v := ?_) rfl (by kernel_rfl) (by kernel_rfl) (by kernel_rfl) (fun _ _ _ h => h) (Or.inl ⟨by rfl, ?_⟩) (by assumption) ?_
      rotate_left
      · intro w hSw; (try dsimp only at hSw); go_simp; (try (with_reducible rfl))
      try simp only [Act.put, List.setIfInBounds_toArray, List.set_cons_zero, List.set_cons_succ]
      refine wpAnyH_take (i := 4) (oi := ⟨some 18, _, _, _, _, _⟩) (v := ?_) rfl (by kernel_rfl) (by kernel_rfl) (by kernel_rfl) (fun _ _ _ h => h) (Or.inl ⟨by rfl, ?_⟩) (by assumption) ?_
      rotate_left
      · intro w hSw; (try dsimp only at hSw); go_simp; (try (with_reducible rfl))
      try simp only [Act.put, List.setIfInBounds_toArray, List.set_cons_zero, List.set_cons_succ]
      refine wpAnyH_take (i := 5) (oi := ⟨some 19, _, _, _, _, _⟩) (v := ?_) rfl (by kernel_rfl) (by kernel_rfl) (by kernel_rfl) (fun _ _ _ h => h) (Or.inl ⟨by rfl, ?_⟩) (by assumption) ?_
      rotate_left
      · intro w hSw; (try dsimp only at hSw); go_simp; (try (with_reducible rfl))
      try simp only [Act.put, List.setIfInBounds_toArray, List.set_cons_zero, List.set_cons_succ]
      refine wpAnyH_take (i := 6) (oi := ⟨some 20, _, _, _, _, _⟩) (v := ?_) rfl (by kernel_rfl) (by kernel_rfl) (by kernel_rfl) (fun _ _ _ h => h) (Or.inl ⟨by rfl, ?_⟩) (by assumption) ?_
      rotate_left
      · intro w hSw; (try dsimp only at hSw); go_simp; (try (with_reducible rfl))
      try simp only [Act.put, List.setIfInBounds_toArray, List.set_cons_zero, List.set_cons_succ]
      refine wpAnyH_take (i := 8) (oi := ⟨some 22, _, _, _, _, _⟩) (v := ?_) rfl (by kernel_rfl) (by kernel_rfl) (by kernel_rfl) (fun _ _ _ h => h) (Or.inl ⟨by rfl, ?_⟩) (by assumption) ?_
      rotate_left
      · intro w hSw; (try dsimp only at hSw); go_simp; (try (with_reducible rfl))
      try simp only [Act.put, List.setIfInBounds_toArray, List.set_cons_zero, List.set_cons_succ]
      refine wpAnyH_take (i := 9) (oi := ⟨some 23, _, _, _, _, _⟩) (v := ?_) rfl (by kernel_rfl) (by kernel_rfl) (by kernel_rfl) (fun _ _ _ h => h) (Or.inl ⟨by rfl, ?_⟩) (by assumption) ?_
      rotate_left
      · intro w hSw; (try dsimp only at hSw); go_simp; (try (with_reducible rfl))
      try simp only [Act.put, List.setIfInBounds_toArray, List.set_cons_zero, List.set_cons_succ]
      refine wpAnyH_take (i := 10) (oi := ⟨some 24, _, _, _, _, _⟩) (v := ?_) rfl (by kernel_rfl) (by kernel_rfl) (by kernel_rfl) (fun _ _ _ h => h) (Or.inl ⟨by rfl, ?_⟩) (by assumption) ?_
      rotate_left
      · intro w hSw; (try dsimp only at hSw); go_simp; (try (with_reducible rfl))
      try simp only [Act.put, List.setIfInBounds_toArray, List.set_cons_zero, List.set_cons_succ]
      refine wpAnyH_ready (rs := [7, 11]) (by kernel_rfl) (by simp) ?_
      refine AllReadyH.cons (o := ⟨some 21, _, _, _, _, _⟩) rfl (fun K hK => ?_) (AllReadyH.cons (o := ⟨some 25, _, _, _, _, _⟩) rfl (fun K hK => ?_) AllReadyH.nil)
      · go_simp
        (try go_wp2_with fail)
        refine hK.out _ _ trivial (fun hHeld => ?_)
        clear hK K
        try simp only [Act.put, List.setIfInBounds_toArray, List.set_cons_zero, List.set_cons_succ]
        refine wpAnyH_ready (rs := [11]) (by kernel_rfl) (by simp) ?_
        refine AllReadyH.cons (o := ⟨some 25, _, _, _, _, _⟩) rfl (fun K hK => ?_) AllReadyH.nil
        go_simp
        (try go_wp2_with fail)
        refine hK.out _ _ trivial (fun hHeld => ?_)
        clear hK K
        try simp only [Act.put, List.setIfInBounds_toArray, List.set_cons_zero, List.set_cons_succ]
        refine wpAnyH_take (i := 12) (oi := ⟨some 26, _, _, _, _, _⟩) (v := ?_) rfl (by kernel_rfl) (by kernel_rfl) (by kernel_rfl) (fun _ _ _ h => h) (Or.inl ⟨by rfl, ?_⟩) (by assumption) ?_
        rotate_left
        · intro w hSw; (try dsimp only at hSw); go_simp; (try (with_reducible rfl))
        try simp only [Act.put, List.setIfInBounds_toArray, List.set_cons_zero, List.set_cons_succ]
        refine wpAnyH_ready (rs := [13]) (by kernel_rfl) (by simp) ?_
        refine AllReadyH.cons (o := ⟨none, _, _, _, _, _⟩) rfl (fun K hK => ?_) AllReadyH.nil
        go_simp
        (try go_wp2_with fail)
        refine hK.out _ _ trivial (fun hHeld => ?_)
        clear hK K
        try simp only [Act.put, List.setIfInBounds_toArray, List.set_cons_zero, List.set_cons_succ]
        have R1 := RL.set k vj
        have d1 := R1.cell jn (by rw [List.length_set]; omega)
        have f1 := fun q => R1.free q
        have G1 := grown_set (o := k) (v := .int .i64 vj) hG
        refine wpAnyH_take (i := 14) (oi := ⟨some 27, _, _, _, _, _⟩) (v := ?_) rfl (by kernel_rfl) (by kernel_rfl) (by kernel_rfl) (fun _ _ _ h => h) (Or.inl ⟨by rfl, ?_⟩) (by assumption) ?_
        rotate_left
        · intro w hSw; (try dsimp only at hSw); go_simp; (try (with_reducible rfl))
        try simp only [Act.put, List.setIfInBounds_toArray, List.set_cons_zero, List.set_cons_succ]
        refine wpAnyH_ready (rs := [15]) (by kernel_rfl) (by simp) ?_
        refine AllReadyH.cons (o := ⟨none, _, _, _, _, _⟩) rfl (fun K hK => ?_) AllReadyH.nil
        go_simp
        (try go_wp2_with fail)
        refine hK.out _ _ trivial (fun hHeld => ?_)
        clear hK K
        try simp only [Act.put, List.setIfInBounds_toArray, List.set_cons_zero, List.set_cons_succ]
        have R2 := R1.set jn vi
        have G2 := grown_set (o := jn) (v := .int .i64 vi) G1
        clear d1 f1 R1 G1
        refine wpAnyH_done (by kernel_rfl) ?_ _
        have HR2 := Lib.hid R2
        have HG2 := Lib.hid G2
        clear R2 G2 hHeld hG RL c1 c2 f0
        go_wp2
        go_roundg (n - (k + 1))
        case measure => omega
        case rel => exact ⟨_, k + 1, _, rfl, rfl, by go_num, by (have := HJ.out); go_num, by omega, by rw [List.length_set, List.length_set]; exact HL.out, fun p hp => HS.out p hp, HR2.out, HG2.out⟩
      · go_simp
        (try go_wp2_with fail)
        refine hK.out _ _ trivial (fun hHeld => ?_)
        clear hK K
        try simp only [Act.put, List.setIfInBounds_toArray, List.set_cons_zero, List.set_cons_succ]
        refine wpAnyH_ready (rs := [7]) (by kernel_rfl) (by simp) ?_
        refine AllReadyH.cons (o := ⟨some 21, _, _, _, _, _⟩) rfl (fun K hK => ?_) AllReadyH.nil
        go_simp
        (try go_wp2_with fail)
        refine hK.out _ _ trivial (fun hHeld => ?_)
        clear hK K
        try simp only [Act.put, List.setIfInBounds_toArray, List.set_cons_zero, List.set_cons_succ]
        refine wpAnyH_take (i := 12) (oi := ⟨some 26, _, _, _, _, _⟩) (v := ?_) rfl (by kernel_rfl) (by kernel_rfl) (by kernel_rfl) (fun _ _ _ h => h) (Or.inl ⟨by rfl, ?_⟩) (by assumption) ?_
        rotate_left
        · intro w hSw; (try dsimp only at hSw); go_simp; (try (with_reducible rfl))
        try simp only [Act.put, List.setIfInBounds_toArray, List.set_cons_zero, List.set_cons_succ]
        refine wpAnyH_ready (rs := [13]) (by kernel_rfl) (by simp) ?_
        refine AllReadyH.cons (o := ⟨none, _, _, _, _, _⟩) rfl (fun K hK => ?_) AllReadyH.nil
        go_simp
        (try go_wp2_with fail)
        refine hK.out _ _ trivial (fun hHeld => ?_)
        clear hK K
        try simp only [Act.put, List.setIfInBounds_toArray, List.set_cons_zero, List.set_cons_succ]
        have R1 := RL.set k vj
        have d1 := R1.cell jn (by rw [List.length_set]; omega)
        have f1 := fun q => R1.free q
        have G1 := grown_set (o := k) (v := .int .i64 vj) hG
        refine wpAnyH_take (i := 14) (oi := ⟨some 27, _, _, _, _, _⟩) (v := ?_) rfl (by kernel_rfl) (by kernel_rfl) (by kernel_rfl) (fun _ _ _ h => h) (Or.inl ⟨by rfl, ?_⟩) (by assumption) ?_
        rotate_left
        · intro w hSw; (try dsimp only at hSw); go_simp; (try (with_reducible rfl))
        try simp only [Act.put, List.setIfInBounds_toArray, List.set_cons_zero, List.set_cons_succ]
        refine wpAnyH_ready (rs := [15]) (by kernel_rfl) (by simp) ?_
        refine AllReadyH.cons (o := ⟨none, _, _, _, _, _⟩) rfl (fun K hK => ?_) AllReadyH.nil
        go_simp
        (try go_wp2_with fail)
        refine hK.out _ _ trivial (fun hHeld => ?_)
        clear hK K
        try simp only [Act.put, List.setIfInBounds_toArray, List.set_cons_zero, List.set_cons_succ]
        have R2 := R1.set jn vi
        have G2 := grown_set (o := jn) (v := .int .i64 vi) G1
        clear d1 f1 R1 G1
        refine wpAnyH_done (by kernel_rfl) ?_ _
        have HR2 := Lib.hid R2
        have HG2 := Lib.hid G2
        clear R2 G2 hHeld hG RL c1 c2 f0
        go_wp2
        go_roundg (n - (k + 1))
        case measure => omega
        case rel => exact ⟨_, k + 1, _, rfl, rfl, by go_num, by (have := HJ.out); go_num, by omega, by rw [List.length_set, List.length_set]; exact HL.out, fun p hp => HS.out p hp, HR2.out, HG2.out⟩
    · have hlt' : ¬ (k : Int) < (n : Int) - 1 - (k : Int) := by omega
      have hfin := rvA_end HN.out hL hS (by omega)
      subst hfin
      clear hS
      go_wp2
      exact ⟨rfl, .tuple #[], by simp [results, Tryz.results130, go_sem], rfl, RL, hG⟩
theorem cnt_mono2 (k : Nat) {i j : Nat} (h : i ≤ j) : cnt k i ≤ cnt k j := by rw [cnt_symm k i, cnt_symm k j]; exact cnt_mono k h
theorem wyI_small {k n h c : Nat} (hs : cnt h c ≤ 1000000) (hk : k ≤ h) (hn : n ≤ c) : wyI k n = (cnt k n : Int) := by
  have h1 := cnt_mono n hk
  have h2 := cnt_mono2 h hn
  rw [wyI, if_pos (by omega)]
theorem rest_cons (ns : List Nat) (k : Nat) (h : k < ns.length) : (ns.take (k + 1)).reverse = ns.getD k 0 :: (ns.take k).reverse := by
  rw [List.take_succ_eq_append_getElem h, List.reverse_append]
  simp [h]
set_option maxHeartbeats 1000000 in
theorem l10Number_any (p h s : Int) (C : Nat) (a : Option Addr) (n cap : Nat) (ns : List Nat) (xs : List Int) (w : World) (hn1 : n ≤ 24) (c1 : C ≤ 15) (hl : xs.length = n) (hln : ns.length = n) (hs : ns.sum ≤ C) (hsm : cnt n C ≤ 1000000)
    (hx : ∀ k, k < xs.length → xs.getD k 0 = (ns.getD k 0 : Int)) (hr : IRow w a xs) :
    Calls Tryz.prog 101 #[.agg #[.int .i64 p, .int .i64 (C : Int), .int .i64 h, .int .i64 s], .slice a n cap] w fun e w' => e = .returned (.int .i64 (bnN ns C)) ∧ Below w.heap.size w w' := by
  have BV := Blk.new w #[.int .i64 p, .int .i64 (C : Int), .int .i64 h, .int .i64 s] 25
  have hb : Below w.heap.size w (w.alloc (.cells #[.int .i64 p, .int .i64 (C : Int), .int .i64 h, .int .i64 s] 25)) := (Below.refl _ _).alloc (Nat.le_refl _) _
  obtain ⟨x0, x1, x2, x3, xf, xl⟩ := BV.four
  have hT := bnN_lt ns C hs
  rw [hln] at hT
  have hT2 : numL (ns.take n).reverse C = bnN ns C := by rw [← hln, List.take_length]; rfl
  obtain ⟨T, hTe⟩ : ∃ T, bnN ns C = T := ⟨_, rfl⟩
  rw [hTe] at hT hT2 ⊢
  have hTb : T < 1000000 := by omega
  have hs2 : (ns.take n).sum ≤ C := by rw [← hln, List.take_length]; exact hs
  have hn24 : (n : Int) ≤ 24 := by omega
  have HL := Lib.hid hl
  have HLN := Lib.hid hln
  have HX := Lib.hid hx
  have HSM := Lib.hid hsm
  have HT2 := Lib.hid hT2
  replace hr := hr.below hb
  clear hl hln hx hTe hT hsm hT2 hs
  go_enter Tryz.func101, Tryz.ntmps101
  go_wp2_with fail
  clear x0 x1 x2 x3 xf xl BV
  generalize (w.alloc (.cells #[.int .i64 p, .int .i64 (C : Int), .int .i64 h, .int .i64 s] 25)) = v0 at *
  go_loopg [5, 6, 7] n (fun m q l i wr => v0 = wr ∧ ∃ (N L : Nat), m ≤ n ∧ i = .int .i64 ((m : Int) - 1) ∧ q = .int .i64 N ∧ l = .int .i64 L ∧ L ≤ C ∧ (ns.take m).sum ≤ L ∧ N + numL (ns.take m).reverse L = T)
  case atStart => exact ⟨rfl, 0, C, Nat.le_refl _, rfl, rfl, rfl, Nat.le_refl _, hs2, by rw [Nat.zero_add]; exact HT2.out⟩
  case round =>
    clear hs2
    obtain ⟨rfl, N, L, hm, rfl, rfl, rfl, hL, hsum, hN⟩ := hrel
    cases gk with
    | zero =>
      have hN2 : N = T := by simpa [numL] using hN
      subst hN2
      clear hN hsum
      go_wp2
      go_ret
      exact ⟨rfl, hb⟩
    | succ bb =>
      obtain ⟨b, o, rfl, hc⟩ := hr bb (by rw [HL.out]; omega)
      rw [rest_cons ns bb (by rw [HLN.out]; omega)] at hN
      have hsb : (ns.take (bb + 1)).sum = ns.getD bb 0 + (ns.take bb).sum := by
        have := congrArg List.sum (rest_cons ns bb (by rw [HLN.out]; omega))
        rw [List.sum_reverse, List.sum_cons, List.sum_reverse] at this
        exact this
      rw [HX.out bb (by rw [HL.out]; omega)] at hc
      obtain ⟨x, hxe⟩ : ∃ x, ns.getD bb 0 = x := ⟨_, rfl⟩
      rw [hxe] at hc hN hsb
      rw [numL, List.length_reverse, List.length_take, show min bb ns.length = bb by (have := HLN.out; omega)] at hN
      have e1 : (((bb + 1 : Nat) : Int) - 1) = (bb : Int) := by omega
      rw [e1]
      have hbb3 : (bb : Int) ≤ 24 := by omega
      have hbn : (bb : Int) < (n : Int) := by omega
      have hxL : x ≤ L := by omega
      have hNb : N + blk bb L x ≤ T := by omega
      have hbx : 0 ≤ (x : Int) := by omega
      have hbL : (x : Int) ≤ (L : Int) := by omega
      have hbL2 : (L : Int) ≤ 15 := by omega
      have hst : N + blk bb L x + numL (ns.take bb).reverse (L - x) = T := by omega
      have hsum2 : (ns.take bb).sum ≤ L - x := by omega
      have HS := Lib.hid hst
      have HS2 := Lib.hid hsum2
      clear hst hsum2 hsum hN hsb hxe e1
      go_wp2_with fail
      go_loopg [5, 8] x (fun m2 q i wi => v0 = wi ∧ ∃ j : Nat, j ≤ x ∧ m2 = x - j ∧ i = .int .i64 j ∧ q = .int .i64 ((N + blk bb L j : Nat) : Int))
      case atStart => exact ⟨rfl, 0, by omega, by omega, rfl, by simp [blk]⟩
      case round =>
        obtain ⟨rfl, j, hj, hm2, rfl, rfl⟩ := hrel
        by_cases hjx : j < x
        · have hjx' : (j : Int) < (x : Int) := by omega
          have e3 : (L : Int) - (j : Int) = ((L - j : Nat) : Int) := by omega
          have hC := fun W => l10Ways_any bb (L - j) W (by omega) (by omega)
          rw [wyI_small HSM.out (by omega) (by omega)] at hC
          have hst : N + blk bb L j + cnt bb (L - j) = N + blk bb L (j + 1) := by rw [blk]; omega
          have hup := blk_upto bb L (show j + 1 ≤ x by omega)
          obtain ⟨u, hu⟩ : ∃ u, N + blk bb L j = u := ⟨_, rfl⟩
          obtain ⟨v, hv⟩ : ∃ v, cnt bb (L - j) = v := ⟨_, rfl⟩
          rw [hv] at hC hst
          rw [hu] at hst ⊢
          have hub : (u : Int) + (v : Int) < 1000000 := by omega
          have HC := Lib.hid hC
          have HJ := Lib.hid hst
          clear hC hst hu hv hup
          go_wp2_with (go_at_call 102; refine (HC.out _).mono ?_; rintro e w1 ⟨rfl, rfl⟩)
          go_roundg (x - (j + 1))
          case measure => omega
          case rel => exact ⟨rfl, j + 1, by omega, rfl, by go_num, by rw [← HJ.out]; go_num⟩
        · obtain rfl : j = x := by omega
          have hjx' : ¬ (j : Int) < (j : Int) := by omega
          obtain ⟨u, hu⟩ : ∃ u, N + blk bb L j = u := ⟨_, rfl⟩
          rw [hu] at HS hNb ⊢
          have HU := Lib.hid hu
          clear hu
          go_wp2
          go_roundg bb
          case measure => omega
          case rel => exact ⟨rfl, u, L - j, by omega, by go_num, rfl, by go_num, by omega, HS2.out, HS.out⟩
theorem WaysAt.grown {w w' : World} {g g' : Nat} (h : WaysAt w g) (hg : w.grownBy w' (some g')) (hne : g ≠ g') : WaysAt w' g := by
  obtain ⟨cur, hB, h1, h2⟩ := h
  exact ⟨cur, hB.grown hg hne, h1, h2⟩
theorem nats_reverse (ns : List Nat) (xs : List Int) (hl : ns.length = xs.length) (hx : ∀ k, k < xs.length → xs.getD k 0 = (ns.getD k 0 : Int)) : ∀ k, k < xs.reverse.length → xs.reverse.getD k 0 = (ns.reverse.getD k 0 : Int) := by
  intro k hk
  rw [List.length_reverse] at hk
  have h := hx (xs.length - 1 - k) (by omega)
  simp only [List.getD_eq_getElem?_getD] at h ⊢
  rw [List.getElem?_reverse hk, List.getElem?_reverse (by omega), hl]
  exact h
set_option maxHeartbeats 1000000 in
theorem bearoffNumberM_any (p h s : Int) (C g : Nat) (a : Option Addr) (n cap : Nat) (ns : List Nat) (xs : List Int) (w : World) (n1 : 1 ≤ n) (hn : n ≤ 24) (c1 : C ≤ 15) (hl : xs.length = n) (hln : ns.length = n) (hs : ns.sum ≤ C)
    (hx : ∀ k, k < xs.length → xs.getD k 0 = (ns.getD k 0 : Int)) (hr : IRow w a xs) (hw : WaysAt w g) :
    Calls Tryz.prog 97 #[.pointer (some ⟨g, 0, none⟩), .agg #[.int .i64 p, .int .i64 (C : Int), .int .i64 h, .int .i64 s], .slice a n cap] w fun e w' => e = .returned (.int .i64 (bnN ns C)) ∧ Below w.heap.size w w' := by
  obtain ⟨b, o, rfl, _⟩ := hr 0 (by omega)
  have BV := Blk.new w #[.int .i64 p, .int .i64 (C : Int), .int .i64 h, .int .i64 s] 25
  have hb : Below w.heap.size w (w.alloc (.cells #[.int .i64 p, .int .i64 (C : Int), .int .i64 h, .int .i64 s] 25)) := (Below.refl _ _).alloc (Nat.le_refl _) _
  have hgl := hw.lt
  have hbl := BV.lt
  have hC := fun W (r : IRow W (some ⟨b, o, none⟩) xs) => clone_any b o n cap xs W hl n1 (by omega) r
  have hR := fun W gg k (r : Row W gg xs) => reverse_any gg xs.length k xs W rfl (by omega) r
  have hN := fun W gg k (r : Row W gg xs.reverse) (q : WaysAt W g) => numberOf_any g C (some ⟨gg, 0, none⟩) xs.length k ns.reverse xs.reverse W (by omega) c1 (by simp) (by simp; omega) (by simpa using hs) (nats_reverse ns xs (by omega) hx) r.irow q
  have HC := Lib.hid hC
  have HR := Lib.hid hR
  have HN := Lib.hid hN
  replace hr := hr.below hb
  replace hw := hw.below hb
  clear hC hR hN hl hln hx
  obtain ⟨x0, x1, x2, x3, xf, xl⟩ := BV.four
  go_enter Tryz.func97, Tryz.ntmps97
  go_wp2_with (first
    | (go_at_call 129; refine (HC.out _ hr).mono ?_; rintro e w1 ⟨g1, k1, rfl, hg1, R1, hb1⟩; clear x0 x1 x2 x3 xf xl; replace BV := BV.below hb1; replace hw := hw.below hb1; replace hb := chain hb hb1; have hgg : w.heap.size < g1 := Nat.lt_of_lt_of_le hbl hg1; clear hb1 hg1; obtain ⟨x0, x1, x2, x3, xf, xl⟩ := BV.four)
    | (go_at_call 130; refine (HR.out _ _ _ R1).mono ?_; rintro e w2 ⟨rfl, R2, hG⟩; clear x0 x1 x2 x3 xf xl R1; replace BV := BV.grown hG (by omega); replace hw := hw.grown hG (by omega); replace hb := hb.grown hG hb.size (fun k hk => by simp at hk; omega); obtain ⟨x0, x1, x2, x3, xf, xl⟩ := BV.four)
    | (go_at_call 131; refine (HN.out _ _ _ R2 hw).mono ?_; rintro e w3 ⟨rfl, hb3⟩; replace hb := chain hb hb3))
  go_ret
  exact ⟨rfl, hb⟩
set_option maxHeartbeats 1000000 in
theorem bearoffAtM_any (p s : Int) (C H K g : Nat) (w : World) (h1 : 1 ≤ H) (hH : H ≤ 24) (c1 : C ≤ 15) (hK : K < cnt H C) (hw : WaysAt w g) :
    Calls Tryz.prog 114 #[.pointer (some ⟨g, 0, none⟩), .agg #[.int .i64 p, .int .i64 (C : Int), .int .i64 (H : Int), .int .i64 s], .int .i64 K] w fun e w' => ∃ gL, e = .returned (.slice (some ⟨gL, 0, none⟩) H H) ∧ w.heap.size ≤ gL ∧ Row w' gL (unrI H K C).reverse ∧ Below w.heap.size w w' := by
  have BV := Blk.new w #[.int .i64 p, .int .i64 (C : Int), .int .i64 (H : Int), .int .i64 s] 25
  have hb : Below w.heap.size w (w.alloc (.cells #[.int .i64 p, .int .i64 (C : Int), .int .i64 (H : Int), .int .i64 s] 25)) := (Below.refl _ _).alloc (Nat.le_refl _) _
  have hbl := BV.lt
  have hlen := unrI_length H K C hK
  have hA := fun W (q : WaysAt W g) => listAt_any g K H C W h1 (by omega) c1 hK q
  have hR := fun W gg (r : Row W gg (unrI H K C)) => reverse_any gg H H _ W hlen (by omega) r
  have HA := Lib.hid hA
  have HR := Lib.hid hR
  replace hw := hw.below hb
  clear hA hR hlen hK
  obtain ⟨x0, x1, x2, x3, xf, xl⟩ := BV.four
  go_enter Tryz.func114, Tryz.ntmps114
  go_wp2_with (first
    | (go_at_call 145; refine (HA.out _ hw).mono ?_; rintro e w1 ⟨g1, rfl, hg1, R1, hb1⟩; clear x0 x1 x2 x3 xf xl; replace BV := BV.below hb1; replace hb := chain hb hb1; have hgg : w.heap.size < g1 := Nat.lt_of_lt_of_le hbl hg1; clear hb1 hg1 hw; obtain ⟨x0, x1, x2, x3, xf, xl⟩ := BV.four)
    | (go_at_call 130; refine (HR.out _ _ R1).mono ?_; rintro e w2 ⟨rfl, R2, hG⟩; clear x0 x1 x2 x3 xf xl R1; replace hb := hb.grown hG hb.size (fun k hk => by simp at hk; omega)))
  go_ret
  exact ⟨_, rfl, by omega, R2, hb⟩
def fewB (c h : Int) : Bool := decide (cnt h.toNat c.toNat ≤ 1000000)
def bnI (p c h s : Int) (xs : List Int) : Int := if okP p c h s xs = true ∧ fewB c h = true then (bnN (nats xs) c.toNat : Int) else 0
def bnE (p c h s : Int) (xs : List Int) : Int := if okP p c h s xs = true then (if fewB c h = true then 0 else 3) else bcE p c h s xs
def okK (c h k : Int) : Bool := decide (0 ≤ k ∧ k < (cnt h.toNat c.toNat : Int))
def baL (p c h s k : Int) : List Int := if vB p c h s = true ∧ fewB c h = true ∧ okK c h k = true then (unrI h.toNat k.toNat c.toNat).reverse else []
def baE (p c h s k : Int) : Int := if vB p c h s = true then (if fewB c h = true then (if okK c h k = true then 0 else 4) else 3) else 1
theorem wyI_few {c h : Int} (e : fewB c h = true) : wyI h.toNat c.toNat = (cnt h.toNat c.toNat : Int) := by
  simp only [fewB, decide_eq_true_eq] at e
  rw [wyI, if_pos e]
theorem okP_v {p c h s : Int} {xs : List Int} (g : okP p c h s xs = true) : vB p c h s = true ∧ sideB (h - 1) c xs = true := by simpa [okP] using g
def fpos : List Int → Nat
  | [] => 0
  | x :: l => if 0 < x then 0 else fpos l + 1
theorem fpos_le : ∀ l : List Int, fpos l ≤ l.length
  | [] => Nat.le_refl _
  | x :: l => by
    have := fpos_le l
    rw [fpos, List.length_cons]
    split <;> omega
theorem fpos_none : ∀ (l : List Int) (j : Nat), j < fpos l → l.getD j 0 ≤ 0
  | [], j, h => by simp [fpos] at h
  | x :: l, j, h => by
    rw [fpos] at h
    split at h
    · omega
    · cases j with
      | zero => simp; omega
      | succ j => simpa using fpos_none l j (by omega)
theorem sum_none : ∀ (l : List Int), (∀ x ∈ l, x ≤ 0) → l.sum ≤ 0
  | [], _ => by simp
  | x :: l, h => by
    have h1 := h x (by simp)
    have h2 := sum_none l (fun y hy => h y (by simp [hy]))
    rw [List.sum_cons]
    omega
theorem fpos_sum (l : List Int) (h : 1 ≤ l.sum) : fpos l < l.length := by
  rcases Nat.lt_or_ge (fpos l) l.length with q | q
  · exact q
  · have hq : fpos l = l.length := by have := fpos_le l; omega
    have := sum_none l (fun x hx => by
      obtain ⟨j, hj, rfl⟩ := List.mem_iff_getElem.1 hx
      have := fpos_none l j (by omega)
      simpa [hj] using this)
    omega
def nxR (c : Int) (xs : List Int) : List Int := if xs.sum < c then xs.set 0 (xs.getD 0 0 + 1) else (xs.set (fpos xs) 0).set (fpos xs + 1) (xs.getD (fpos xs + 1) 0 + 1)
def nxB (c : Int) (xs : List Int) : Bool := decide (xs.sum < c) || decide (fpos xs + 1 < xs.length)
def nxL (p c h s : Int) (xs : List Int) : List Int := if okP p c h s xs = true ∧ nxB c xs = true then nxR c xs else []
def nxE (p c h s : Int) (xs : List Int) : Int := if okP p c h s xs = true then (if nxB c xs = true then 0 else 4) else bcE p c h s xs
end Go.Proofs.YtfomfbfcnenhbaaGreat
