/- Contracts of chapter 3: the number of a side, of the program and of its model. -/
import Derived.Test.YthnkckflajkaiaaL03a
import Derived.Test.YthnkckflajkaiaaL02a
import Derived.Test.YthnkckflajkaiaaImpl02c
import Derived.BigQuiet
import Derived.Deep.QuietTactic
namespace Go.Proofs.Ythnkckflajkaiaa
open Go.ChangeShapes Go.WideShapes Go.ChangeAt Go.RowKit
set_option linter.unusedVariables false
set_option linter.unusedSimpArgs false

theorem drop_cons (ns : List Nat) (k : Nat) (h : k < ns.length) : ns.drop k = ns.getD k 0 :: ns.drop (k + 1) := by
  rw [List.drop_eq_getElem_cons h]; simp [h]
/-- One place of a side: its number and what is left. -/
theorem num_step (ns : List Nat) (k L N T n : Nat) (hn : ns.length = n) (h : k < n) (hT : N + numL (ns.drop k) L = T) (hs : (ns.drop k).sum ≤ L) :
    ∃ x, ns.getD k 0 = x ∧ x ≤ L ∧ N + blk (n - 1 - k) L x + numL (ns.drop (k + 1)) (L - x) = T ∧ (ns.drop (k + 1)).sum ≤ L - x := by
  subst hn
  rw [drop_cons ns k h] at hT hs
  simp only [List.sum_cons] at hs
  refine ⟨ns.getD k 0, rfl, by omega, ?_, by omega⟩
  rw [numL, List.length_drop] at hT
  rw [show ns.length - 1 - k = ns.length - (k + 1) by omega]
  omega
theorem blk_upto (b l : Nat) {i j : Nat} (h : i ≤ j) : blk b l i ≤ blk b l j := by
  by_cases e : i = j
  · subst e; omega
  · have := blk_mono b l (show i < j by omega); omega
/-- A side's places as natural numbers. -/
def nats (xs : List Int) : List Nat := xs.map Int.toNat
theorem nats_length (xs : List Int) : (nats xs).length = xs.length := by simp [nats]
theorem nats_getD (xs : List Int) (k : Nat) (h : k < xs.length) : (nats xs).getD k 0 = (xs.getD k 0).toNat := by simp [nats, h]
theorem nats_sum : ∀ (xs : List Int), (∀ x ∈ xs, 0 ≤ x) → ((nats xs).sum : Int) = xs.sum
  | [], _ => rfl
  | x :: xs, h => by
    have h1 := h x (by simp)
    have h2 := nats_sum xs (fun y hy => h y (by simp [hy]))
    simp only [nats, List.map_cons, List.sum_cons] at h2 ⊢
    omega
theorem side_nats {p c : Int} {xs : List Int} (g : sideB p c xs = true) (c0 : 0 ≤ c) : (nats xs).length = xs.length ∧ (nats xs).sum ≤ c.toNat ∧ ∀ k, k < xs.length → xs.getD k 0 = ((nats xs).getD k 0 : Int) := by
  obtain ⟨h1, h2, h3⟩ := sideB_iff.1 g
  have hs := nats_sum xs (fun x hx => (h2 x hx).1)
  refine ⟨nats_length xs, by omega, fun k hk => ?_⟩
  rw [nats_getD xs k hk]
  have := (h2 _ (getD_mem hk)).1
  omega
/-- A side of a variant. -/
def okS (p c h s : Int) (xs : List Int) : Bool := vB p c h s && sideB p c xs
def snI (p c h s : Int) (xs : List Int) : Int := if okS p c h s xs = true then (numL (nats xs) c.toNat : Int) else 0
def seI (p c h s : Int) (xs : List Int) : Int := if okS p c h s xs = true then 0 else 1
set_option maxHeartbeats 1000000 in
theorem specSideNumber_any (p c h s : Int) (a : Option Addr) (n cap : Nat) (xs : List Int) (w : World) (hn : xs.length = n) (hle : n ≤ 1048576) (hr : IRow w a xs) :
    Calls Try.prog 46 #[.agg #[.int .i64 p, .int .i64 c, .int .i64 h, .int .i64 s], .slice a n cap] w fun e w' => e = .returned (.tuple #[.int .i64 (snI p c h s xs), .int .i64 (seI p c h s xs)]) ∧ Below w.heap.size w w' := by
  have BV := Blk.new w #[.int .i64 p, .int .i64 c, .int .i64 h, .int .i64 s] 26
  have hb : Below w.heap.size w (w.alloc (.cells #[.int .i64 p, .int .i64 c, .int .i64 h, .int .i64 s] 26)) := (Below.refl _ _).alloc (Nat.le_refl _) _
  obtain ⟨x0, x1, x2, x3, xf, xl⟩ := BV.four
  have hV := fun W => specIsVariant_any p c h s W
  by_cases g : vB p c h s = true
  rotate_left
  · have e0 : okS p c h s xs = false := by simp [okS, g]
    rw [snI, seI, e0, if_neg (by simp), if_neg (by simp)]
    replace g : vB p c h s = false := by simpa using g
    rw [g] at hV
    have HV := Lib.hid hV
    clear hV e0
    go_enter Try.func46, Try.ntmps46
    go_wp2_with (go_at_call 51; refine (HV.out _).mono ?_; rintro e w1 ⟨rfl, hb1⟩)
    go_ret2
    exact ⟨rfl, chain hb hb1⟩
  have hS := fun W (r : IRow W a xs) => l02Side_any p c h s a n cap xs W g hn hle r
  by_cases sx : sideB p c xs = true
  rotate_left
  · have e0 : okS p c h s xs = false := by simp [okS, sx]
    rw [snI, seI, e0, if_neg (by simp), if_neg (by simp)]
    replace sx : sideB p c xs = false := by simpa using sx
    rw [g] at hV
    rw [sx] at hS
    have HV := Lib.hid hV
    have HS := Lib.hid hS
    clear hV hS e0
    go_enter Try.func46, Try.ntmps46
    go_wp2_with (first | (go_at_call 51; refine (HV.out _).mono ?_; rintro e w1 ⟨rfl, hb1⟩; obtain ⟨x0, x1, x2, x3, xf, xl⟩ := (BV.below hb1).four) | (go_at_call 80; refine (HS.out _ (hr.below (chain hb hb1))).mono ?_; rintro e w2 ⟨rfl, hb2⟩))
    go_ret2
    exact ⟨rfl, chain (chain hb hb1) hb2⟩
  · have e0 : okS p c h s xs = true := by simp [okS, sx, g]
    rw [snI, seI, if_pos e0, if_pos e0]
    have hv := vB_iff.1 g
    obtain ⟨m1, m2, m3⟩ := sideB_iff.1 sx
    obtain ⟨s1, hs, hx⟩ := side_nats sx (by omega)
    obtain ⟨ns, hns⟩ : ∃ ns, nats xs = ns := ⟨_, rfl⟩
    rw [hns] at s1 hs hx ⊢
    rw [g] at hV
    rw [sx] at hS
    obtain ⟨C, rfl⟩ := Int.eq_ofNat_of_zero_le (by omega : 0 ≤ c)
    obtain ⟨P, rfl⟩ := Int.eq_ofNat_of_zero_le (by omega : 0 ≤ p)
    rw [show ((C : Int)).toNat = C by omega] at hs ⊢
    have c1 : C ≤ 15 := by omega
    have hP : n ≤ P + 1 ∧ P + 1 ≤ n ∧ P ≤ 24 := by omega
    have hln : ns.length = n := by omega
    have hT := numL_lt ns C hs
    have hcb := cnt_bound (n := ns.length) (m := C) (by omega) c1
    obtain ⟨T, hTe⟩ : ∃ T, numL ns C = T := ⟨_, rfl⟩
    rw [hTe] at hT ⊢
    have hTb : T < 1099511627776 := by omega
    have HV := Lib.hid hV
    have HS := Lib.hid hS
    have HX := Lib.hid hx
    have HT := Lib.hid hTe
    have HL := Lib.hid hn
    have HLN := Lib.hid hln
    clear hV hS hx hTe hn hln e0 m1 m2 m3 s1 hv g sx hns hT hcb
    go_enter Try.func46, Try.ntmps46
    go_wp2_with (first | (go_at_call 51; refine (HV.out _).mono ?_; rintro e w1 ⟨rfl, hb1⟩; obtain ⟨x0, x1, x2, x3, xf, xl⟩ := (BV.below hb1).four) | (go_at_call 80; refine (HS.out _ (hr.below (chain hb hb1))).mono ?_; rintro e w2 ⟨rfl, hb2⟩; obtain ⟨x0, x1, x2, x3, xf, xl⟩ := (BV.below (chain hb1 hb2)).four))
    have hb12 := chain (chain hb hb1) hb2
    replace hr := hr.below hb12
    clear x0 x1 x2 x3 xf xl BV hb hb1 hb2
    go_loopg [6, 7, 8] n (fun m q l i wr => w2 = wr ∧ ∃ k N L : Nat, k ≤ n ∧ m = n - k ∧ i = .int .i64 k ∧ q = .int .i64 N ∧ l = .int .i64 L ∧ L ≤ 15 ∧ (ns.drop k).sum ≤ L ∧ N + numL (ns.drop k) L = T)
    case atStart => exact ⟨rfl, 0, 0, C, by omega, by omega, rfl, rfl, rfl, c1, by simpa using hs, by simpa using HT.out⟩
    case round =>
      clear hs
      obtain ⟨rfl, k, N, L, hk, hm, rfl, rfl, rfl, hL, hsum, hN⟩ := hrel
      by_cases hlt : k < n
      · have hlt' : (k : Int) < (n : Int) := by omega
        obtain ⟨b, o, rfl, hc⟩ := hr k (by rw [HL.out]; exact hlt)
        obtain ⟨x, hx, hxL, hst, hsum2⟩ := num_step ns k L N T n HLN.out hlt hN hsum
        rw [HX.out k (by rw [HL.out]; exact hlt), hx] at hc
        have e1 : (n : Int) - 1 - (k : Int) = ((n - 1 - k : Nat) : Int) := by omega
        obtain ⟨bb, hbb⟩ : ∃ bb, n - 1 - k = bb := ⟨_, rfl⟩
        rw [hbb] at e1 hst
        have hbb2 : bb ≤ 24 := by omega
        have hNb : N + blk bb L x ≤ T := by omega
        have hbx : 0 ≤ (x : Int) := by omega
        have hbL : (x : Int) ≤ (L : Int) := by omega
        have hbL2 : (L : Int) ≤ 15 := by omega
        have hbb3 : (bb : Int) ≤ 24 := by omega
        have HS := Lib.hid hst
        have HS2 := Lib.hid hsum2
        have HM := Lib.hid hm
        clear hst hsum2 hsum hN hm hx hbb
        go_wp2
        go_loopg [6, 9] x (fun m2 q i wi => w2 = wi ∧ ∃ j : Nat, j ≤ x ∧ m2 = x - j ∧ i = .int .i64 j ∧ q = .int .i64 ((N + blk bb L j : Nat) : Int))
        case atStart => exact ⟨rfl, 0, by omega, by omega, rfl, by simp [blk]⟩
        case round =>
          obtain ⟨rfl, j, hj, hm2, rfl, rfl⟩ := hrel
          by_cases hjx : j < x
          · have hjx' : (j : Int) < (x : Int) := by omega
            have e3 : (L : Int) - (j : Int) = ((L - j : Nat) : Int) := by omega
            have hC := fun W => l03Count_any bb (L - j) W (by omega) (by omega)
            have hst : N + blk bb L j + cnt bb (L - j) = N + blk bb L (j + 1) := by rw [blk]; omega
            have hup := blk_upto bb L (show j + 1 ≤ x by omega)
            obtain ⟨u, hu⟩ : ∃ u, N + blk bb L j = u := ⟨_, rfl⟩
            obtain ⟨v, hv⟩ : ∃ v, cnt bb (L - j) = v := ⟨_, rfl⟩
            rw [hv] at hC hst
            rw [hu] at hst ⊢
            have hub : (u : Int) + (v : Int) < 1099511627776 := by omega
            have HC := Lib.hid hC
            have HJ := Lib.hid hst
            clear hC hst hu hv hup
            go_wp2_with (go_at_call 78; refine (HC.out _).mono ?_; rintro e w3 ⟨rfl, rfl⟩)
            go_roundg (x - (j + 1))
            case measure => omega
            case rel => exact ⟨rfl, j + 1, by omega, rfl, by go_num, by rw [← HJ.out]; go_num⟩
          · obtain rfl : j = x := by omega
            have hjx' : ¬ (j : Int) < (j : Int) := by omega
            obtain ⟨u, hu⟩ : ∃ u, N + blk bb L j = u := ⟨_, rfl⟩
            rw [hu] at HS hNb ⊢
            have HU := Lib.hid hu
            clear hu
            go_wp2
            go_roundg (n - (k + 1))
            case measure => have := HM.out; omega
            case rel => exact ⟨rfl, k + 1, u, L - j, by omega, rfl, by go_num, rfl, by go_num, by omega, HS2.out, HS.out⟩
      · obtain rfl : k = n := by omega
        have hN2 : N = T := by
          have : ns.drop k = [] := List.drop_eq_nil_of_le (by have := HLN.out; omega)
          rw [this, numL] at hN
          omega
        subst hN2
        have hlt' : ¬ (k : Int) < (k : Int) := by omega
        go_wp2
        go_ret2
        exact ⟨rfl, hb12⟩
end Go.Proofs.Ythnkckflajkaiaa
