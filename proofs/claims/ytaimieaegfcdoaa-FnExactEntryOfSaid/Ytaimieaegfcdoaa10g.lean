/- Contracts of chapter 10: the model's number of a position and position with a number. -/
import Derived.Test.Ytaimieaegfcdoaa10d
import Derived.Test.YtaimieaegfcdoaaL03c
namespace Go.Proofs.Ytaimieaegfcdoaa
open Go.ChangeShapes Go.WideShapes Go.ChangeAt Go.RowKit
set_option linter.unusedVariables false
set_option linter.unusedSimpArgs false
set_option maxRecDepth 4000

theorem cnt_mono2 (k : Nat) {i j : Nat} (h : i ≤ j) : cnt k i ≤ cnt k j := by rw [cnt_symm k i, cnt_symm k j]; exact cnt_mono k h
theorem wyI_small {k n h c : Nat} (hs : cnt h c ≤ 1000000) (hk : k ≤ h) (hn : n ≤ c) : wyI k n = (cnt k n : Int) := by
  have h1 := cnt_mono n hk
  have h2 := cnt_mono2 h hn
  rw [wyI, if_pos (by omega)]
theorem rest_cons (ns : List Nat) (k : Nat) (h : k < ns.length) : (ns.take (k + 1)).reverse = ns.getD k 0 :: (ns.take k).reverse := by
  rw [List.take_succ_eq_append_getElem h, List.reverse_append]
  simp [h]
theorem place_back (b : Nat) (D : List Int) (x : Int) : (List.replicate (b + 1) 0 ++ D.reverse).set b x = List.replicate b 0 ++ (D ++ [x]).reverse := by
  rw [List.replicate_succ', List.append_assoc, List.set_append]
  simp
set_option maxHeartbeats 1000000 in
theorem l10Number_any (p h s : Int) (C : Nat) (a : Option Addr) (n cap : Nat) (ns : List Nat) (xs : List Int) (w : World) (hn1 : n ≤ 24) (c1 : C ≤ 15) (hl : xs.length = n) (hln : ns.length = n) (hs : ns.sum ≤ C) (hsm : cnt n C ≤ 1000000)
    (hx : ∀ k, k < xs.length → xs.getD k 0 = (ns.getD k 0 : Int)) (hr : IRow w a xs) :
    Calls Try.prog 49 #[.agg #[.int .i64 p, .int .i64 (C : Int), .int .i64 h, .int .i64 s], .slice a n cap] w fun e w' => e = .returned (.int .i64 (bnN ns C)) ∧ Below w.heap.size w w' := by
  have BV := Blk.new w #[.int .i64 p, .int .i64 (C : Int), .int .i64 h, .int .i64 s] 37
  have hb : Below w.heap.size w (w.alloc (.cells #[.int .i64 p, .int .i64 (C : Int), .int .i64 h, .int .i64 s] 37)) := (Below.refl _ _).alloc (Nat.le_refl _) _
  obtain ⟨x0, x1, x2, x3, xf, xl⟩ := BV.four
  have hT := bnN_lt ns C hs
  rw [hln] at hT
  have hT2 : numL (ns.take n).reverse C = bnN ns C := by rw [← hln, List.take_length]; rfl
  obtain ⟨T, hTe⟩ : ∃ T, bnN ns C = T := ⟨_, rfl⟩
  rw [hTe] at hT hT2 ⊢
  have hTb : T < 1000000 := by omega
  have hs2 : (ns.take n).sum ≤ C := by rw [← hln, List.take_length]; exact hs
  have hn24 : (n : Int) ≤ 24 := by omega
  have HL := Lib.hid hl
  have HLN := Lib.hid hln
  have HX := Lib.hid hx
  have HSM := Lib.hid hsm
  have HT2 := Lib.hid hT2
  replace hr := hr.below hb
  clear hl hln hx hTe hT hsm hT2 hs
  go_enter Try.func49, Try.ntmps49
  go_wp2_with fail
  clear x0 x1 x2 x3 xf xl BV
  generalize (w.alloc (.cells #[.int .i64 p, .int .i64 (C : Int), .int .i64 h, .int .i64 s] 37)) = v0 at *
  go_loopg [5, 6, 7] n (fun m q l i wr => v0 = wr ∧ ∃ (N L : Nat), m ≤ n ∧ i = .int .i64 ((m : Int) - 1) ∧ q = .int .i64 N ∧ l = .int .i64 L ∧ L ≤ C ∧ (ns.take m).sum ≤ L ∧ N + numL (ns.take m).reverse L = T)
  case atStart => exact ⟨rfl, 0, C, Nat.le_refl _, rfl, rfl, rfl, Nat.le_refl _, hs2, by rw [Nat.zero_add]; exact HT2.out⟩
  case round =>
    clear hs2
    obtain ⟨rfl, N, L, hm, rfl, rfl, rfl, hL, hsum, hN⟩ := hrel
    cases gk with
    | zero =>
      have hN2 : N = T := by simpa [numL] using hN
      subst hN2
      clear hN hsum
      go_wp2
      go_ret
      exact ⟨rfl, hb⟩
    | succ bb =>
      obtain ⟨b, o, rfl, hc⟩ := hr bb (by rw [HL.out]; omega)
      rw [rest_cons ns bb (by rw [HLN.out]; omega)] at hN
      have hsb : (ns.take (bb + 1)).sum = ns.getD bb 0 + (ns.take bb).sum := by
        have := congrArg List.sum (rest_cons ns bb (by rw [HLN.out]; omega))
        rw [List.sum_reverse, List.sum_cons, List.sum_reverse] at this
        exact this
      rw [HX.out bb (by rw [HL.out]; omega)] at hc
      obtain ⟨x, hxe⟩ : ∃ x, ns.getD bb 0 = x := ⟨_, rfl⟩
      rw [hxe] at hc hN hsb
      rw [numL, List.length_reverse, List.length_take, show min bb ns.length = bb by (have := HLN.out; omega)] at hN
      have e1 : (((bb + 1 : Nat) : Int) - 1) = (bb : Int) := by omega
      rw [e1]
      have hbb3 : (bb : Int) ≤ 24 := by omega
      have hbn : (bb : Int) < (n : Int) := by omega
      have hxL : x ≤ L := by omega
      have hNb : N + blk bb L x ≤ T := by omega
      have hbx : 0 ≤ (x : Int) := by omega
      have hbL : (x : Int) ≤ (L : Int) := by omega
      have hbL2 : (L : Int) ≤ 15 := by omega
      have hst : N + blk bb L x + numL (ns.take bb).reverse (L - x) = T := by omega
      have hsum2 : (ns.take bb).sum ≤ L - x := by omega
      have HS := Lib.hid hst
      have HS2 := Lib.hid hsum2
      clear hst hsum2 hsum hN hsb hxe e1
      go_wp2_with fail
      go_loopg [5, 8] x (fun m2 q i wi => v0 = wi ∧ ∃ j : Nat, j ≤ x ∧ m2 = x - j ∧ i = .int .i64 j ∧ q = .int .i64 ((N + blk bb L j : Nat) : Int))
      case atStart => exact ⟨rfl, 0, by omega, by omega, rfl, by simp [blk]⟩
      case round =>
        obtain ⟨rfl, j, hj, hm2, rfl, rfl⟩ := hrel
        by_cases hjx : j < x
        · have hjx' : (j : Int) < (x : Int) := by omega
          have e3 : (L : Int) - (j : Int) = ((L - j : Nat) : Int) := by omega
          have hC := fun W => l10Ways_any bb (L - j) W (by omega) (by omega)
          rw [wyI_small HSM.out (by omega) (by omega)] at hC
          have hst : N + blk bb L j + cnt bb (L - j) = N + blk bb L (j + 1) := by rw [blk]; omega
          have hup := blk_upto bb L (show j + 1 ≤ x by omega)
          obtain ⟨u, hu⟩ : ∃ u, N + blk bb L j = u := ⟨_, rfl⟩
          obtain ⟨v, hv⟩ : ∃ v, cnt bb (L - j) = v := ⟨_, rfl⟩
          rw [hv] at hC hst
          rw [hu] at hst ⊢
          have hub : (u : Int) + (v : Int) < 1000000 := by omega
          have HC := Lib.hid hC
          have HJ := Lib.hid hst
          clear hC hst hu hv hup
          go_wp2_with (go_at_call 67; refine (HC.out _).mono ?_; rintro e w1 ⟨rfl, rfl⟩)
          go_roundg (x - (j + 1))
          case measure => omega
          case rel => exact ⟨rfl, j + 1, by omega, rfl, by go_num, by rw [← HJ.out]; go_num⟩
        · obtain rfl : j = x := by omega
          have hjx' : ¬ (j : Int) < (j : Int) := by omega
          obtain ⟨u, hu⟩ : ∃ u, N + blk bb L j = u := ⟨_, rfl⟩
          rw [hu] at HS hNb ⊢
          have HU := Lib.hid hu
          clear hu
          go_wp2
          go_roundg bb
          case measure => omega
          case rel => exact ⟨rfl, u, L - j, by omega, by go_num, rfl, by go_num, by omega, HS2.out, HS.out⟩
end Go.Proofs.Ytaimieaegfcdoaa
