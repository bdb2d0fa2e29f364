/- Contracts of chapter 10: the model's number of a position and position with a number. -/
import Derived.Test.Ythnkckflajkaiaa10d
import Derived.Test.YthnkckflajkaiaaL03c
namespace Go.Proofs.Ythnkckflajkaiaa
open Go.ChangeShapes Go.WideShapes Go.ChangeAt Go.RowKit
set_option linter.unusedVariables false
set_option linter.unusedSimpArgs false

theorem cnt_mono2 (k : Nat) {i j : Nat} (h : i ≤ j) : cnt k i ≤ cnt k j := by rw [cnt_symm k i, cnt_symm k j]; exact cnt_mono k h
theorem wyI_small {k n h c : Nat} (hs : cnt h c ≤ 1000000) (hk : k ≤ h) (hn : n ≤ c) : wyI k n = (cnt k n : Int) := by
  have h1 := cnt_mono n hk
  have h2 := cnt_mono2 h hn
  rw [wyI, if_pos (by omega)]
theorem rest_cons (ns : List Nat) (k : Nat) (h : k < ns.length) : (ns.take (k + 1)).reverse = ns.getD k 0 :: (ns.take k).reverse := by
  rw [List.take_succ_eq_append_getElem h, List.reverse_append]
  simp [h]
theorem place_back (b : Nat) (D : List Int) (x : Int) : (List.replicate (b + 1) 0 ++ D.reverse).set b x = List.replicate b 0 ++ (D ++ [x]).reverse := by
  rw [List.replicate_succ', List.append_assoc, List.set_append]
  simp
set_option maxHeartbeats 1000000 in
theorem l10Number_any (p h s : Int) (C : Nat) (a : Option Addr) (n cap : Nat) (ns : List Nat) (xs : List Int) (w : World) (hn1 : n ≤ 24) (c1 : C ≤ 15) (hl : xs.length = n) (hln : ns.length = n) (hs : ns.sum ≤ C) (hsm : cnt n C ≤ 1000000)
    (hx : ∀ k, k < xs.length → xs.getD k 0 = (ns.getD k 0 : Int)) (hr : IRow w a xs) :
    Calls Try.prog 64 #[.agg #[.int .i64 p, .int .i64 (C : Int), .int .i64 h, .int .i64 s], .slice a n cap] w fun e w' => e = .returned (.int .i64 (bnN ns C)) ∧ Below w.heap.size w w' := by
  have BV := Blk.new w #[.int .i64 p, .int .i64 (C : Int), .int .i64 h, .int .i64 s] 26
  have hb : Below w.heap.size w (w.alloc (.cells #[.int .i64 p, .int .i64 (C : Int), .int .i64 h, .int .i64 s] 26)) := (Below.refl _ _).alloc (Nat.le_refl _) _
  obtain ⟨x0, x1, x2, x3, xf, xl⟩ := BV.four
  have hT := bnN_lt ns C hs
  rw [hln] at hT
  have hT2 : numL (ns.take n).reverse C = bnN ns C := by rw [← hln, List.take_length]; rfl
  obtain ⟨T, hTe⟩ : ∃ T, bnN ns C = T := ⟨_, rfl⟩
  rw [hTe] at hT hT2 ⊢
  have hTb : T < 1000000 := by omega
  have hs2 : (ns.take n).sum ≤ C := by rw [← hln, List.take_length]; exact hs
  have hn24 : (n : Int) ≤ 24 := by omega
  have HL := Lib.hid hl
  have HLN := Lib.hid hln
  have HX := Lib.hid hx
  have HSM := Lib.hid hsm
  have HT2 := Lib.hid hT2
  replace hr := hr.below hb
  clear hl hln hx hTe hT hsm hT2 hs
  go_enter Try.func64, Try.ntmps64
  go_wp2_with fail
  clear x0 x1 x2 x3 xf xl BV
  generalize (w.alloc (.cells #[.int .i64 p, .int .i64 (C : Int), .int .i64 h, .int .i64 s] 26)) = v0 at *
  go_loopg [5, 6, 7] n (fun m q l i wr => v0 = wr ∧ ∃ (N L : Nat), m ≤ n ∧ i = .int .i64 ((m : Int) - 1) ∧ q = .int .i64 N ∧ l = .int .i64 L ∧ L ≤ C ∧ (ns.take m).sum ≤ L ∧ N + numL (ns.take m).reverse L = T)
  case atStart => exact ⟨rfl, 0, C, Nat.le_refl _, rfl, rfl, rfl, Nat.le_refl _, hs2, by rw [Nat.zero_add]; exact HT2.out⟩
  case round =>
    clear hs2
    obtain ⟨rfl, N, L, hm, rfl, rfl, rfl, hL, hsum, hN⟩ := hrel
    cases gk with
    | zero =>
      have hN2 : N = T := by simpa [numL] using hN
      subst hN2
      clear hN hsum
      go_wp2
      go_ret
      exact ⟨rfl, hb⟩
    | succ bb =>
      obtain ⟨b, o, rfl, hc⟩ := hr bb (by rw [HL.out]; omega)
      rw [rest_cons ns bb (by rw [HLN.out]; omega)] at hN
      have hsb : (ns.take (bb + 1)).sum = ns.getD bb 0 + (ns.take bb).sum := by
        have := congrArg List.sum (rest_cons ns bb (by rw [HLN.out]; omega))
        rw [List.sum_reverse, List.sum_cons, List.sum_reverse] at this
        exact this
      rw [HX.out bb (by rw [HL.out]; omega)] at hc
      obtain ⟨x, hxe⟩ : ∃ x, ns.getD bb 0 = x := ⟨_, rfl⟩
      rw [hxe] at hc hN hsb
      rw [numL, List.length_reverse, List.length_take, show min bb ns.length = bb by (have := HLN.out; omega)] at hN
      have e1 : (((bb + 1 : Nat) : Int) - 1) = (bb : Int) := by omega
      rw [e1]
      have hbb3 : (bb : Int) ≤ 24 := by omega
      have hbn : (bb : Int) < (n : Int) := by omega
      have hxL : x ≤ L := by omega
      have hNb : N + blk bb L x ≤ T := by omega
      have hbx : 0 ≤ (x : Int) := by omega
      have hbL : (x : Int) ≤ (L : Int) := by omega
      have hbL2 : (L : Int) ≤ 15 := by omega
      have hst : N + blk bb L x + numL (ns.take bb).reverse (L - x) = T := by omega
      have hsum2 : (ns.take bb).sum ≤ L - x := by omega
      have HS := Lib.hid hst
      have HS2 := Lib.hid hsum2
      clear hst hsum2 hsum hN hsb hxe e1
      go_wp2_with fail
      go_loopg [5, 8] x (fun m2 q i wi => v0 = wi ∧ ∃ j : Nat, j ≤ x ∧ m2 = x - j ∧ i = .int .i64 j ∧ q = .int .i64 ((N + blk bb L j : Nat) : Int))
      case atStart => exact ⟨rfl, 0, by omega, by omega, rfl, by simp [blk]⟩
      case round =>
        obtain ⟨rfl, j, hj, hm2, rfl, rfl⟩ := hrel
        by_cases hjx : j < x
        · have hjx' : (j : Int) < (x : Int) := by omega
          have e3 : (L : Int) - (j : Int) = ((L - j : Nat) : Int) := by omega
          have hC := fun W => l10Ways_any bb (L - j) W (by omega) (by omega)
          rw [wyI_small HSM.out (by omega) (by omega)] at hC
          have hst : N + blk bb L j + cnt bb (L - j) = N + blk bb L (j + 1) := by rw [blk]; omega
          have hup := blk_upto bb L (show j + 1 ≤ x by omega)
          obtain ⟨u, hu⟩ : ∃ u, N + blk bb L j = u := ⟨_, rfl⟩
          obtain ⟨v, hv⟩ : ∃ v, cnt bb (L - j) = v := ⟨_, rfl⟩
          rw [hv] at hC hst
          rw [hu] at hst ⊢
          have hub : (u : Int) + (v : Int) < 1000000 := by omega
          have HC := Lib.hid hC
          have HJ := Lib.hid hst
          clear hC hst hu hv hup
          go_wp2_with (go_at_call 55; refine (HC.out _).mono ?_; rintro e w1 ⟨rfl, rfl⟩)
          go_roundg (x - (j + 1))
          case measure => omega
          case rel => exact ⟨rfl, j + 1, by omega, rfl, by go_num, by rw [← HJ.out]; go_num⟩
        · obtain rfl : j = x := by omega
          have hjx' : ¬ (j : Int) < (j : Int) := by omega
          obtain ⟨u, hu⟩ : ∃ u, N + blk bb L j = u := ⟨_, rfl⟩
          rw [hu] at HS hNb ⊢
          have HU := Lib.hid hu
          clear hu
          go_wp2
          go_roundg bb
          case measure => omega
          case rel => exact ⟨rfl, u, L - j, by omega, by go_num, rfl, by go_num, by omega, HS2.out, HS.out⟩
set_option maxRecDepth 4000 in
set_option maxHeartbeats 1000000 in
theorem l10At_any (p s : Int) (C H K : Nat) (w : World) (h1 : H ≤ 24) (c1 : C ≤ 15) (hsm : cnt H C ≤ 1000000) (hK : K < cnt H C) :
    Calls Try.prog 67 #[.agg #[.int .i64 p, .int .i64 (C : Int), .int .i64 (H : Int), .int .i64 s], .int .i64 K] w fun e w' => ∃ gL, e = .returned (.slice (some ⟨gL, 0, none⟩) H H) ∧ w.heap.size ≤ gL ∧ Row w' gL (unrI H K C).reverse ∧ Below w.heap.size w w' := by
  have B0 := Blk.new w #[.int .i64 p, .int .i64 (C : Int), .int .i64 (H : Int), .int .i64 s] 26
  have hb : Below w.heap.size w (w.alloc (.cells #[.int .i64 p, .int .i64 (C : Int), .int .i64 (H : Int), .int .i64 s] 26)) := (Below.refl _ _).alloc (Nat.le_refl _) _
  have hmk := run_make_row' (P := Try.prog) 24 2 (.int .i64 0) 8 Try.underlying24 infoI64 rfl .i64 .i64 H (by omega) (by omega)
  obtain ⟨x0, x1, x2, x3, xf, xl⟩ := B0.four
  have hlen := unrI_length H K C hK
  obtain ⟨out, hout⟩ : ∃ out, unrI H K C = out := ⟨_, rfl⟩
  rw [hout] at hlen ⊢
  have HO := Lib.hid hout
  have HN := Lib.hid hlen
  have HSM := Lib.hid hsm
  have HK := Lib.hid hK
  have hH24 : (H : Int) ≤ 24 := by omega
  have hR0 : Row ((w.alloc (.cells #[.int .i64 p, .int .i64 (C : Int), .int .i64 (H : Int), .int .i64 s] 26)).alloc (.cells (madeCells #[.int .i64 0] H) 2)) (w.heap.size + 1) (List.replicate H 0) := by
    have := made_row (w.alloc (.cells #[.int .i64 p, .int .i64 (C : Int), .int .i64 (H : Int), .int .i64 s] 26)) H
    simpa using this
  have hb0 : Below w.heap.size w ((w.alloc (.cells #[.int .i64 p, .int .i64 (C : Int), .int .i64 (H : Int), .int .i64 s] 26)).alloc (.cells (madeCells #[.int .i64 0] H) 2)) := hb.alloc hb.size _
  clear hout hlen hsm hK
  have y1 := B0.alloc (.cells (madeCells #[.int .i64 0] H) 2)
  obtain ⟨z0, z1, z2, z3, zf, zl⟩ := y1.four
  go_enter Try.func67, Try.ntmps67
  go_wp2_with fail
  clear x0 x1 x2 x3 xf xl z0 z1 z2 z3 zf zl y1 B0 hb hmk
  generalize ((w.alloc (.cells #[.int .i64 p, .int .i64 (C : Int), .int .i64 (H : Int), .int .i64 s] 26)).alloc (.cells (madeCells #[.int .i64 0] H) 2)) = v0 at *
  obtain ⟨gL, hgL⟩ : ∃ gL, w.heap.size + 1 = gL := ⟨_, rfl⟩
  rw [hgL] at hR0 ⊢
  have hgL2 : w.heap.size ≤ gL := by omega
  clear hgL
  go_loopg [1, 6, 7] H (fun m q l i wr => ∃ (W : World) (r L : Nat) (D : List Int), W = wr ∧ m ≤ H ∧ D.length + m = H ∧ i = .int .i64 ((m : Int) - 1) ∧ q = .int .i64 r ∧ l = .int .i64 L ∧ L ≤ C ∧ r < cnt m L ∧ out = D ++ unrI m r L ∧ Row W gL (List.replicate m 0 ++ D.reverse) ∧ Below w.heap.size w W)
  case atStart => exact ⟨_, K, C, [], rfl, Nat.le_refl _, by simp, rfl, rfl, rfl, Nat.le_refl _, HK.out, by simpa using HO.out.symm, by simpa using hR0, hb0⟩
  case round =>
    clear hR0 hb0
    obtain ⟨W, r, L, D, hW, hm, hD, rfl, rfl, rfl, hL, hr, hout, hO, hbel⟩ := hrel
    subst hW
    cases gk with
    | zero =>
      have ho : out = D := by rw [hout]; simp [unrI, unr]
      subst ho
      have hO2 : Row W gL out.reverse := by simpa using hO
      clear hout hD hO
      go_wp2
      go_ret
      exact ⟨gL, rfl, hgL2, hO2, hbel⟩
    | succ bb =>
      obtain ⟨J, q1, q2, q3, q4⟩ := unrI_cons bb r L hr
      rw [q4] at hout
      have hrb : r ≤ 1000000 := by
        have h1 := cnt_mono L hm
        have h2 := cnt_mono2 H hL
        have := HSM.out
        omega
      have hbb3 : (bb : Int) < 24 := by omega
      have e1 : (((bb + 1 : Nat) : Int) - 1) = (bb : Int) := by omega
      rw [e1]
      have hbH : (bb : Int) < (H : Int) := by omega
      have hcell := hO.cell bb (by simp; omega)
      have hfree := hO.free bb
      have hO2 := hO.set bb (J : Int)
      rw [place_back] at hO2
      have HO2 := Lib.hid hO2
      have HD := Lib.hid hD
      have HT := Lib.hid hout
      clear hD hout q4 e1 hO2 hO
      go_wp2_with fail
      go_loopg [1, 8] J (fun m2 q i wi => W = wi ∧ ∃ j : Nat, j ≤ J ∧ m2 = J - j ∧ q = .int .i64 ((r - blk bb L j : Nat) : Int) ∧ i = .int .i64 j)
      case atStart => exact ⟨rfl, 0, by omega, by omega, by simp [blk], rfl⟩
      case round =>
        obtain ⟨rfl, j, hj, hm2, rfl, rfl⟩ := hrel
        have hC := fun W => l10Ways_any bb (L - j) W (by omega) (by omega)
        rw [wyI_small HSM.out (by omega) (by omega)] at hC
        have e3 : (L : Int) - (j : Int) = ((L - j : Nat) : Int) := by omega
        have hlow := blk_upto bb L hj
        have hcb := cnt_bnd bb (L - j) (by omega) (by omega)
        by_cases hjJ : j < J
        · have hmono := blk_mono bb L hjJ
          have hst : r - blk bb L j - cnt bb (L - j) = r - blk bb L (j + 1) := by rw [blk]; omega
          obtain ⟨u, hu⟩ : ∃ u, r - blk bb L j = u := ⟨_, rfl⟩
          obtain ⟨v, hv⟩ : ∃ v, cnt bb (L - j) = v := ⟨_, rfl⟩
          rw [hv] at hC hst hmono hcb
          rw [hu] at hst ⊢
          have huv : (v : Int) ≤ (u : Int) := by omega
          have hub : (u : Int) ≤ 1000000 := by omega
          have hlj : (j : Int) ≤ (L : Int) := by omega
          have hl15 : (L : Int) ≤ 15 := by omega
          have HC := Lib.hid hC
          have HJ := Lib.hid hst
          clear hC hst hu hv hlow hmono hcb
          go_wp2_with (go_at_call 55; refine (HC.out _).mono ?_; rintro e w3 ⟨rfl, rfl⟩)
          go_roundg (J - (j + 1))
          case measure => omega
          case rel => exact ⟨rfl, j + 1, by omega, rfl, by rw [← HJ.out]; go_num, by go_num⟩
        · obtain rfl : j = J := by omega
          obtain ⟨u, hu⟩ : ∃ u, r - blk bb L j = u := ⟨_, rfl⟩
          obtain ⟨v, hv⟩ : ∃ v, cnt bb (L - j) = v := ⟨_, rfl⟩
          have hult : u < cnt bb (L - j) := by rw [hv]; omega
          rw [hv] at hC hcb
          rw [hu]
          have huv : ¬ (v : Int) ≤ (u : Int) := by omega
          have hlj : (j : Int) ≤ (L : Int) := by omega
          have hl15 : (L : Int) ≤ 15 := by omega
          have HC := Lib.hid hC
          have HU := Lib.hid hu
          have HUL := Lib.hid hult
          clear hC hu hv hult hlow hcb
          go_wp2_with (go_at_call 55; refine (HC.out _).mono ?_; rintro e w3 ⟨rfl, rfl⟩)
          go_roundg bb
          case measure => omega
          case rel =>
            refine ⟨_, u, L - j, D ++ [(j : Int)], rfl, by omega, by have := HD.out; simp; omega, by go_num, rfl, by go_num, by omega, HUL.out, ?_, HO2.out, hbel.setCell (p := ⟨gL, bb, none⟩) hgL2 _⟩
            rw [HT.out, ← HU.out, List.append_assoc]
            rfl
end Go.Proofs.Ythnkckflajkaiaa
