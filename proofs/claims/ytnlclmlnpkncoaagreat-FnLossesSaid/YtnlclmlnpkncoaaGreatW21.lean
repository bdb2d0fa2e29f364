/- Texts of a proof, laid together. -/
import Derived.Test.YtnlclmlnpkncoaaGreatW20
import Derived.Test.YtnlclmlnpkncoaaGreatW13
import Derived.BigQuiet
import Derived.Deep.QuietTactic
import Derived.Test.YtnlclmlnpkncoaaGreatW02
import Derived.Deep.RegionHeld3
import Derived.WalkMore
import Derived.Test.YtnlclmlnpkncoaaGreatW05
import Derived.StillTailTactics
namespace Go.Proofs.YtnlclmlnpkncoaaGreat
open Go.ChangeShapes Go.WideShapes Go.ChangeAt Go.RowKit
set_option linter.unusedVariables false
set_option linter.unusedSimpArgs false
set_option maxRecDepth 4000
theorem cnt_mono (n : Nat) : ∀ {i j : Nat}, i ≤ j → cnt i n ≤ cnt j n := by
  intro i j h
  induction j with
  | zero => rw [show i = 0 by omega]; exact Nat.le_refl _
  | succ j ih =>
    by_cases e : i = j + 1
    · rw [e]; exact Nat.le_refl _
    · refine Nat.le_trans (ih (by omega)) ?_
      cases n with
      | zero => rw [cnt_base, cnt_base]; exact Nat.le_refl _
      | succ n => rw [cnt_step]; omega
def wyI (k n : Nat) : Int := if cnt k n ≤ 1000000 then (cnt k n : Int) else -1
def bcI (p c h s : Int) : Int := if vB p c h s = true then wyI h.toNat c.toNat else -1
set_option maxHeartbeats 1000000 in
theorem l10Ways_any (k n : Nat) (w : World) (hn : k ≤ 25) (hm : n ≤ 15) :
    Calls Tryz.prog 66 #[.int .i64 n, .int .i64 k] w fun e w' => e = .returned (.int .i64 (wyI k n)) ∧ w = w' := by
  obtain ⟨R, hR⟩ : ∃ R, wyI k n = R := ⟨_, rfl⟩
  rw [hR]
  have HR := Lib.hid hR
  clear hR
  have hn2 : (n : Int) ≤ 15 := by omega
  go_enter Tryz.func66, Tryz.ntmps66
  go_wp2
  go_loopg [5, 6] k (fun z q i wr => w = wr ∧ ∃ j : Nat, j ≤ k ∧ z = k - j ∧ i = .int .i64 ((j : Int) + 1) ∧ q = .int .i64 (cnt j n) ∧ cnt j n ≤ 1000000)
  case atStart => exact ⟨rfl, 0, by omega, by omega, rfl, by rw [cnt_zero]; rfl, by rw [cnt_zero]; omega⟩
  case round =>
    obtain ⟨rfl, j, hk, hz, rfl, rfl, hc6⟩ := hrel
    by_cases hlt : j < k
    · have hlt' : (j : Int) + 1 ≤ (k : Int) := by omega
      have hc := cnt_bnd j n (by omega) hm
      have hd := cnt_bnd (j + 1) n (by omega) hm
      have hq := cnt_nextI j n
      have hmo := cnt_mono n (show j + 1 ≤ k by omega)
      obtain ⟨u, hu⟩ : ∃ u, (cnt (j + 1) n : Int) = u := ⟨_, rfl⟩
      obtain ⟨v, hv⟩ : ∃ v, (cnt j n : Int) = v := ⟨_, rfl⟩
      have hv6 : v ≤ 1000000 := by omega
      have hun : (cnt (j + 1) n : Int) = u := hu
      rw [hv] at hc hq ⊢
      rw [hu] at hd hq
      have e1 : (n : Int) + (j : Int) + 1 = (n : Int) + ((j : Int) + 1) := by omega
      rw [e1] at hq
      have hp := mul_bnd hc.1 hc.2 (b := (n : Int) + ((j : Int) + 1)) (by omega) (by omega)
      obtain ⟨y, hy⟩ : ∃ y, v * ((n : Int) + ((j : Int) + 1)) = y := ⟨_, rfl⟩
      rw [hy] at hq hp
      have hp0 := hp.1
      have hp1 := hp.2
      have hd0 := hd.1
      have hd1 := hd.2
      have HU := Lib.hid hun
      have HM := Lib.hid hmo
      clear hv hu hun hp hd hc e1 hmo hc6
      by_cases hg : u ≤ 1000000
      · go_wp2
        go_roundg (k - (j + 1))
        case measure => omega
        case rel => exact ⟨rfl, j + 1, by omega, rfl, by go_num, by rw [HU.out], by have := HU.out; omega⟩
      · have hR2 : R = -1 := by
          rw [← HR.out, wyI, if_neg]
          have := HU.out
          have := HM.out
          omega
        subst hR2
        go_wp2
        go_ret
        exact ⟨rfl, rfl⟩
    · obtain rfl : j = k := by omega
      have hlt' : ¬ ((j : Int) + 1 ≤ (j : Int)) := by omega
      have hR2 : (cnt j n : Int) = R := by rw [← HR.out, wyI, if_pos hc6]
      rw [hR2]
      go_wp2
      go_ret
      exact ⟨rfl, rfl⟩
set_option maxHeartbeats 1000000 in
theorem specBearoffCount_any (p c h s : Int) (w : World) :
    Calls Tryz.prog 65 #[.agg #[.int .i64 p, .int .i64 c, .int .i64 h, .int .i64 s]] w fun e w' => e = .returned (.int .i64 (bcI p c h s)) ∧ Below w.heap.size w w' := by
  have BV := Blk.new w #[.int .i64 p, .int .i64 c, .int .i64 h, .int .i64 s] 25
  have hb : Below w.heap.size w (w.alloc (.cells #[.int .i64 p, .int .i64 c, .int .i64 h, .int .i64 s] 25)) := (Below.refl _ _).alloc (Nat.le_refl _) _
  obtain ⟨x0, x1, x2, x3, xf, xl⟩ := BV.four
  have hB := fun W => specIsVariant_any p c h s W
  by_cases g : vB p c h s = true
  · have hv := vB_iff.1 g
    have hS := fun W => l10Ways_any h.toNat c.toNat W (by omega) (by omega)
    rw [show ((h.toNat : Nat) : Int) = h by omega, show ((c.toNat : Nat) : Int) = c by omega] at hS
    rw [bcI, if_pos g]
    rw [g] at hB
    have HB := Lib.hid hB
    have HS := Lib.hid hS
    clear hB hS g hv
    go_enter Tryz.func65, Tryz.ntmps65
    go_wp2_with (first | (go_at_call 31; refine (HB.out _).mono ?_; rintro e w1 ⟨rfl, hb1⟩; obtain ⟨x0, x1, x2, x3, xf, xl⟩ := (BV.below hb1).four) | (go_at_call 66; refine (HS.out _).mono ?_; rintro e w2 ⟨rfl, rfl⟩))
    go_ret
    exact ⟨rfl, chain hb hb1⟩
  · rw [bcI, if_neg g]
    replace g : vB p c h s = false := by simpa using g
    rw [g] at hB
    have HB := Lib.hid hB
    clear hB
    go_enter Tryz.func65, Tryz.ntmps65
    go_wp2_with (go_at_call 31; refine (HB.out _).mono ?_; rintro e w1 ⟨rfl, hb1⟩)
    go_ret
    exact ⟨rfl, chain hb hb1⟩
set_option maxHeartbeats 1000000 in
theorem bearoffCountM_any (p s : Int) (C H g : Nat) (w : World) (hH : H ≤ 24) (hC : C ≤ 15) (hw : WaysAt w g) :
    Calls Tryz.prog 110 #[.pointer (some ⟨g, 0, none⟩), .agg #[.int .i64 p, .int .i64 (C : Int), .int .i64 (H : Int), .int .i64 s]] w fun e w' => e = .returned (.int .i64 (wyI H C)) ∧ Below w.heap.size w w' := by
  have BV := Blk.new w #[.int .i64 p, .int .i64 (C : Int), .int .i64 (H : Int), .int .i64 s] 25
  have hb : Below w.heap.size w (w.alloc (.cells #[.int .i64 p, .int .i64 (C : Int), .int .i64 (H : Int), .int .i64 s] 25)) := (Below.refl _ _).alloc (Nat.le_refl _) _
  have hW := (hw.below hb).cell H C (by omega) hC
  obtain ⟨x0, x1, x2, x3, xf, xl⟩ := BV.four
  have f1 : (0 : Int) ≤ (H : Int) := by omega
  have f2 : (H : Int) < 26 := by omega
  have f3 : (0 : Int) ≤ (C : Int) := by omega
  have f4 : (C : Int) < 16 := by omega
  obtain ⟨R, hR⟩ : ∃ R, wyI H C = R := ⟨_, rfl⟩
  rw [hR]
  rw [wyI] at hR
  obtain ⟨x, hx⟩ : ∃ x : Nat, cnt H C = x := ⟨_, rfl⟩
  rw [hx] at hW hR
  have HR := Lib.hid hR
  clear hR hx
  by_cases hg : (x : Int) ≤ 1000000
  · have hR2 : (x : Int) = R := by have := HR.out; rw [if_pos (by omega)] at this; exact this
    go_enter Tryz.func110, Tryz.ntmps110
    go_wp2_with fail
    generalize (w.alloc (.cells #[.int .i64 p, .int .i64 (C : Int), .int .i64 (H : Int), .int .i64 s] 25)) = v0 at *
    have hd_ : v0.drew.heap.size = v0.heap.size := rfl
    replace BV := BV.drew
    replace hb := hb.drew
    replace hW : v0.drew.cell? ⟨g, H * 16 + C, none⟩ = some (.int .i64 (x : Int)) := hW
    refine wp_region_held_drew (S := fun w' => w'.cell? ⟨w.heap.size, 0, none⟩ = some (.int .i64 p) ∧ w'.cell? ⟨w.heap.size, 1, none⟩ = some (.int .i64 (C : Int)) ∧ w'.cell? ⟨w.heap.size, 2, none⟩ = some (.int .i64 (H : Int)) ∧ w'.cell? ⟨w.heap.size, 3, none⟩ = some (.int .i64 s) ∧ w'.cell? ⟨g, H * 16 + C, none⟩ = some (.int .i64 (x : Int))) (by kernel_rfl) ⟨BV.four.1, BV.four.2.1, BV.four.2.2.1, BV.four.2.2.2.1, hW⟩ (fun hHeld => ?_)
    clear hHeld
    generalize v0.drew = vd at *
    have hHeld : vd.cell? ⟨w.heap.size, 0, none⟩ = some (.int .i64 p) ∧ vd.cell? ⟨w.heap.size, 1, none⟩ = some (.int .i64 (C : Int)) ∧ vd.cell? ⟨w.heap.size, 2, none⟩ = some (.int .i64 (H : Int)) ∧ vd.cell? ⟨w.heap.size, 3, none⟩ = some (.int .i64 s) ∧ vd.cell? ⟨g, H * 16 + C, none⟩ = some (.int .i64 (x : Int)) := ⟨BV.four.1, BV.four.2.1, BV.four.2.2.1, BV.four.2.2.2.1, hW⟩
    refine tk 0 6 ?_
    refine tk 1 7 ?_
    refine tk 2 8 ?_
    refine tk 3 9 ?_
    refine tk 4 10 ?_
    refine tk 5 11 ?_
    refine tk 6 12 ?_
    refine tk 7 13 ?_
    refine tk 8 14 ?_
    refine tk 9 5 ?_
    refine wpAnyH_done (by kernel_rfl) ?_ _
    clear hHeld
    clear hW
    go_wp2
    go_ret
    exact ⟨rfl, hb⟩
  · have hR2 : R = -1 := by have := HR.out; rw [if_neg (by omega)] at this; exact this.symm
    subst hR2
    go_enter Tryz.func110, Tryz.ntmps110
    go_wp2_with fail
    generalize (w.alloc (.cells #[.int .i64 p, .int .i64 (C : Int), .int .i64 (H : Int), .int .i64 s] 25)) = v0 at *
    have hd_ : v0.drew.heap.size = v0.heap.size := rfl
    replace BV := BV.drew
    replace hb := hb.drew
    replace hW : v0.drew.cell? ⟨g, H * 16 + C, none⟩ = some (.int .i64 (x : Int)) := hW
    refine wp_region_held_drew (S := fun w' => w'.cell? ⟨w.heap.size, 0, none⟩ = some (.int .i64 p) ∧ w'.cell? ⟨w.heap.size, 1, none⟩ = some (.int .i64 (C : Int)) ∧ w'.cell? ⟨w.heap.size, 2, none⟩ = some (.int .i64 (H : Int)) ∧ w'.cell? ⟨w.heap.size, 3, none⟩ = some (.int .i64 s) ∧ w'.cell? ⟨g, H * 16 + C, none⟩ = some (.int .i64 (x : Int))) (by kernel_rfl) ⟨BV.four.1, BV.four.2.1, BV.four.2.2.1, BV.four.2.2.2.1, hW⟩ (fun hHeld => ?_)
    clear hHeld
    generalize v0.drew = vd at *
    have hHeld : vd.cell? ⟨w.heap.size, 0, none⟩ = some (.int .i64 p) ∧ vd.cell? ⟨w.heap.size, 1, none⟩ = some (.int .i64 (C : Int)) ∧ vd.cell? ⟨w.heap.size, 2, none⟩ = some (.int .i64 (H : Int)) ∧ vd.cell? ⟨w.heap.size, 3, none⟩ = some (.int .i64 s) ∧ vd.cell? ⟨g, H * 16 + C, none⟩ = some (.int .i64 (x : Int)) := ⟨BV.four.1, BV.four.2.1, BV.four.2.2.1, BV.four.2.2.2.1, hW⟩
    refine tk 0 6 ?_
    refine tk 1 7 ?_
    refine tk 2 8 ?_
    refine tk 3 9 ?_
    refine tk 4 10 ?_
    refine tk 5 11 ?_
    refine tk 6 12 ?_
    refine tk 7 13 ?_
    refine tk 8 14 ?_
    refine tk 9 5 ?_
    refine wpAnyH_done (by kernel_rfl) ?_ _
    clear hHeld
    clear hW
    go_wp2
    go_ret
    exact ⟨rfl, hb⟩
theorem drop_cons (ns : List Nat) (k : Nat) (h : k < ns.length) : ns.drop k = ns.getD k 0 :: ns.drop (k + 1) := by
  rw [List.drop_eq_getElem_cons h]; simp [h]
theorem num_step (ns : List Nat) (k L N T n : Nat) (hn : ns.length = n) (h : k < n) (hT : N + numL (ns.drop k) L = T) (hs : (ns.drop k).sum ≤ L) :
    ∃ x, ns.getD k 0 = x ∧ x ≤ L ∧ N + blk (n - 1 - k) L x + numL (ns.drop (k + 1)) (L - x) = T ∧ (ns.drop (k + 1)).sum ≤ L - x := by
  subst hn
  rw [drop_cons ns k h] at hT hs
  simp only [List.sum_cons] at hs
  refine ⟨ns.getD k 0, rfl, by omega, ?_, by omega⟩
  rw [numL, List.length_drop] at hT
  rw [show ns.length - 1 - k = ns.length - (k + 1) by omega]
  omega
theorem blk_upto (b l : Nat) {i j : Nat} (h : i ≤ j) : blk b l i ≤ blk b l j := by
  by_cases e : i = j
  · subst e; omega
  · have := blk_mono b l (show i < j by omega); omega
def nats (xs : List Int) : List Nat := xs.map Int.toNat
theorem nats_length (xs : List Int) : (nats xs).length = xs.length := by simp [nats]
theorem nats_getD (xs : List Int) (k : Nat) (h : k < xs.length) : (nats xs).getD k 0 = (xs.getD k 0).toNat := by simp [nats, h]
theorem nats_sum : ∀ (xs : List Int), (∀ x ∈ xs, 0 ≤ x) → ((nats xs).sum : Int) = xs.sum
  | [], _ => rfl
  | x :: xs, h => by
    have h1 := h x (by simp)
    have h2 := nats_sum xs (fun y hy => h y (by simp [hy]))
    simp only [nats, List.map_cons, List.sum_cons] at h2 ⊢
    omega
theorem side_nats {p c : Int} {xs : List Int} (g : sideB p c xs = true) (c0 : 0 ≤ c) : (nats xs).length = xs.length ∧ (nats xs).sum ≤ c.toNat ∧ ∀ k, k < xs.length → xs.getD k 0 = ((nats xs).getD k 0 : Int) := by
  obtain ⟨h1, h2, h3⟩ := sideB_iff.1 g
  have hs := nats_sum xs (fun x hx => (h2 x hx).1)
  refine ⟨nats_length xs, by omega, fun k hk => ?_⟩
  rw [nats_getD xs k hk]
  have := (h2 _ (getD_mem hk)).1
  omega
def unrI (n k l : Nat) : List Int := (unr n k l).map fun (x : Nat) => (x : Int)
theorem unrI_length (n k l : Nat) (hk : k < cnt n l) : (unrI n k l).length = n := by rw [unrI, List.length_map, (unr_ok n k l hk).1]
set_option maxHeartbeats 1000000 in
theorem numberOf_any (g C : Nat) (a : Option Addr) (n cap : Nat) (ns : List Nat) (xs : List Int) (w : World) (hn : n ≤ 25) (c1 : C ≤ 15) (hl : xs.length = n) (hln : ns.length = n) (hs : ns.sum ≤ C)
    (hx : ∀ k, k < xs.length → xs.getD k 0 = (ns.getD k 0 : Int)) (hr : IRow w a xs) (hw : WaysAt w g) :
    Calls Tryz.prog 90 #[.pointer (some ⟨g, 0, none⟩), .slice a n cap, .int .i64 C] w fun e w' => e = .returned (.int .i64 (numL ns C)) ∧ Below w.heap.size w w' := by
  have hT := numL_lt ns C hs
  have hcb := cnt_bound (n := ns.length) (m := C) (by omega) c1
  obtain ⟨T, hTe⟩ : ∃ T, numL ns C = T := ⟨_, rfl⟩
  rw [hTe] at hT ⊢
  have hTb : T < 1099511627776 := by omega
  have HL := Lib.hid hl
  have HLN := Lib.hid hln
  have HX := Lib.hid hx
  have HT := Lib.hid hTe
  clear hl hln hx hTe hT hcb
  go_enter Tryz.func90, Tryz.ntmps90
  go_wp2_with fail
  go_loopg [2, 7, 13] n (fun m l q i wr => ∃ (W : World) (k N L : Nat), W = wr ∧ k ≤ n ∧ m = n - k ∧ i = .int .i64 k ∧ q = .int .i64 N ∧ l = .int .i64 L ∧ L ≤ 15 ∧ (ns.drop k).sum ≤ L ∧ N + numL (ns.drop k) L = T ∧ Below w.heap.size w W)
  case atStart => exact ⟨_, 0, 0, C, rfl, by omega, by omega, rfl, rfl, rfl, c1, by simpa using hs, by simpa using HT.out, Below.refl _ _⟩
  case round =>
    clear hs
    obtain ⟨W, k, N, L, hW, hk, hm, rfl, rfl, rfl, hL, hsum, hN, hbel⟩ := hrel
    subst hW
    by_cases hlt : k < n
    · have hlt' : (k : Int) < (n : Int) := by omega
      have hk0 : (0 : Int) ≤ (k : Int) := by omega
      obtain ⟨b, o, rfl, hc⟩ := hr.below hbel k (by rw [HL.out]; exact hlt)
      obtain ⟨x, hx, hxL, hst, hsum2⟩ := num_step ns k L N T n HLN.out hlt hN hsum
      rw [HX.out k (by rw [HL.out]; exact hlt), hx] at hc
      have hal := blk_all (n - 1 - k) L x hxL
      obtain ⟨bb, hbb⟩ : ∃ bb, n - 1 - k = bb := ⟨_, rfl⟩
      obtain ⟨ln, hln⟩ : ∃ ln, n - k = ln := ⟨_, rfl⟩
      obtain ⟨lx, hlx⟩ : ∃ lx, L - x = lx := ⟨_, rfl⟩
      have e1 : (n : Int) - (k : Int) = (ln : Int) := by omega
      have e2 : (L : Int) - (x : Int) = (lx : Int) := by omega
      rw [hbb, show bb + 1 = ln by omega, hlx] at hal
      rw [hbb, hlx] at hst
      rw [hlx] at hsum2
      have hU := (hw.below hbel).cell ln L (by omega) hL
      have hZ := (hw.below hbel).cell ln lx (by omega) (by omega)
      have hub := cnt_bound (n := ln) (m := L) (by omega) hL
      obtain ⟨U, hUe⟩ : ∃ U, cnt ln L = U := ⟨_, rfl⟩
      obtain ⟨Z, hZe⟩ : ∃ Z, cnt ln lx = Z := ⟨_, rfl⟩
      rw [hUe] at hU hal hub
      rw [hZe] at hZ hal
      have hNb : N + (U - Z) ≤ T := by omega
      have hst2 : N + (U - Z) + numL (ns.drop (k + 1)) lx = T := by omega
      have d1 : (U : Int) ≤ 1099511627776 := by omega
      have d2 : (Z : Int) ≤ (U : Int) := by omega
      have d3 : (N : Int) ≤ 1099511627776 := by omega
      have f1 : (0 : Int) ≤ (ln : Int) := by omega
      have f2 : (ln : Int) < 26 := by omega
      have f3 : (0 : Int) ≤ (L : Int) := by omega
      have f4 : (L : Int) < 16 := by omega
      have f5 : (0 : Int) ≤ (lx : Int) := by omega
      have f6 : (lx : Int) < 16 := by omega
      have f7 : 0 ≤ (x : Int) := by omega
      have f8 : (x : Int) ≤ (L : Int) := by omega
      have f9 : (n : Int) ≤ 25 := by omega
      have w0 : IntKind.i64.wrap ((n : Int) - (k : Int)) = (ln : Int) := by rw [e1]; exact IntWalk.i64_in _ (by omega)
      have w1 : IntKind.i64.wrap (lx : Int) = (lx : Int) := IntWalk.i64_in _ (by omega)
      have w2 : IntKind.i64.wrap ((U : Int) - (Z : Int)) = (U : Int) - (Z : Int) := IntWalk.i64_in _ (by omega)
      have w3 : IntKind.i64.wrap ((N : Int) + ((U : Int) - (Z : Int))) = (N : Int) + ((U : Int) - (Z : Int)) := IntWalk.i64_in _ (by omega)
      have HS := Lib.hid hst2
      have HS2 := Lib.hid hsum2
      have HM := Lib.hid hm
      clear hst hst2 hsum2 hsum hN hm hx hbb hln hal hUe hZe
      go_wp2_with fail
      replace hbel := hbel.drew
      refine wp_region_held_drew (S := fun w' => w'.cell? ⟨g, ln * 16 + L, none⟩ = some (.int .i64 (U : Int)) ∧ w'.cell? ⟨g, ln * 16 + lx, none⟩ = some (.int .i64 (Z : Int))) (by kernel_rfl) ⟨hU, hZ⟩ (fun hHeld => ?_)
      refine tk 0 22 ?_
      refine tk 1 23 ?_
      refine tk 2 24 ?_
      refine tk 3 25 ?_
      refine tk 4 26 ?_
      refine tk 5 27 ?_
      refine tk 6 28 ?_
      refine tk 7 29 ?_
      refine tk 8 30 ?_
      refine tk 9 31 ?_
      refine tk 10 32 ?_
      refine tk 11 33 ?_
      refine tk 12 34 ?_
      refine tk 13 35 ?_
      refine tk 14 36 ?_
      refine tk 15 37 ?_
      refine tk 16 38 ?_
      refine tk 17 39 ?_
      refine tk 18 40 ?_
      refine tk 19 7 ?_
      refine wpAnyH_done (by kernel_rfl) ?_ _
      clear hHeld hU hZ
      go_wp2
      go_roundg (n - (k + 1))
      case measure => have := HM.out; omega
      case rel => exact ⟨_, k + 1, N + (U - Z), lx, rfl, by omega, rfl, by go_num, by go_num, by go_num, by omega, HS2.out, HS.out, hbel⟩
    · obtain rfl : k = n := by omega
      have hN2 : N = T := by
        have : ns.drop k = [] := List.drop_eq_nil_of_le (by have := HLN.out; omega)
        rw [this, numL] at hN
        omega
      subst hN2
      have hlt' : ¬ (k : Int) < (k : Int) := by omega
      go_wp2
      go_ret
      exact ⟨rfl, hbel⟩
def intsN (xs : List Nat) : List Int := xs.map fun (x : Nat) => (x : Int)
theorem intsN_length (xs : List Nat) : (intsN xs).length = xs.length := by simp [intsN]
theorem intsN_getD (xs : List Nat) (k : Nat) (h : k < xs.length) : (intsN xs).getD k 0 = (xs.getD k 0 : Int) := by simp [intsN, h]
theorem intsN_set (xs : List Nat) (k v : Nat) : (intsN xs).set k (v : Int) = intsN (xs.set k v) := by simp [intsN, List.map_set]
theorem zeros_getD (n q : Nat) : (List.replicate n 0).getD q 0 = 0 := by simp [List.getD_eq_getElem?_getD, List.getElem?_replicate]; split <;> rfl
theorem intsN_zeros (n : Nat) : intsN (List.replicate n 0) = List.replicate n 0 := by simp [intsN]
set_option maxRecDepth 4000 in
set_option maxHeartbeats 1000000 in
theorem listAt_any (g K n C : Nat) (w : World) (hn1 : 1 ≤ n) (hn : n ≤ 25) (c1 : C ≤ 15) (hK : K < cnt n C) (hw : WaysAt w g) :
    Calls Tryz.prog 111 #[.pointer (some ⟨g, 0, none⟩), .int .i64 K, .int .i64 n, .int .i64 C] w fun e w' => ∃ gL, e = .returned (.slice (some ⟨gL, 0, none⟩) n n) ∧ w.heap.size ≤ gL ∧ Row w' gL (unrI n K C) ∧ Below w.heap.size w w' := by
  have hmk := run_make_row' (P := Tryz.prog) 26 2 (.int .i64 0) 8 Tryz.underlying26 infoI64 rfl .i64 .i64 n (by omega) (by omega)
  have hn25 : (n : Int) ≤ 25 := by omega
  have hW0 := onWay_start n K C hK
  have hkb := cnt_bound (n := n) (m := C) hn c1
  have hKb : K ≤ 1099511627776 := by omega
  unfold unrI
  obtain ⟨T, hT⟩ : ∃ T, unr n K C = T := ⟨_, rfl⟩
  rw [hT] at hW0 ⊢
  show Calls _ _ _ _ fun e w' => ∃ gL, e = .returned (.slice (some ⟨gL, 0, none⟩) n n) ∧ w.heap.size ≤ gL ∧ Row w' gL (intsN T) ∧ Below w.heap.size w w'
  have hb : Below w.heap.size w (w.alloc (.cells (madeCells #[.int .i64 0] n) 2)) := (Below.refl _ _).alloc (Nat.le_refl _) _
  have R0 := made_row w n
  clear hT hK hkb
  go_enter Tryz.func111, Tryz.ntmps111
  go_wp2
  go_step3
  go_wp2
  go_step3
  go_wp2
  generalize (w.alloc (.cells (madeCells #[.int .i64 0] n) 2)) = v0 at *
  rw [← intsN_zeros] at R0
  have hw0 := hw
  go_loopg [1, 3, 10] (K + n) (fun m a1 a3 a10 wr => ∃ (W : World) (k L q : Nat) (xs : List Nat), W = wr ∧ m = k + (n - q) ∧ a1 = .int .i64 k ∧ a3 = .int .i64 L ∧ a10 = .int .i64 q ∧ xs.getD q 0 + L ≤ 15 ∧ q < n ∧ k ≤ 1099511627776 ∧ onWay T n q k L xs ∧ Row W w.heap.size (intsN xs) ∧ Below w.heap.size w W)
  case atStart => exact ⟨_, K, C, 0, _, rfl, by omega, rfl, rfl, rfl, by rw [zeros_getD]; omega, by omega, hKb, hW0, R0, hb⟩
  case round =>
    clear hW0 R0 hb hKb hmk
    obtain ⟨W, k, L, q, xs, hW, hm, rfl, rfl, rfl, hxL, hq, hkb, hon, RL, hbel⟩ := hrel
    have hL : L ≤ 15 := by omega
    have hz1 := hon.2.2.1 (q + 1) (by omega)
    subst hW
    obtain ⟨bb, hbb⟩ : ∃ bb, n - 1 - q = bb := ⟨_, rfl⟩
    have e1 : (n : Int) - 1 - (q : Int) = (bb : Int) := by omega
    have hB := (hw.below hbel).cell bb L (by omega) hL
    have f1 : (0 : Int) ≤ (bb : Int) := by omega
    have f2 : (bb : Int) < 26 := by omega
    have f3 : (0 : Int) ≤ (L : Int) := by omega
    have f4 : (L : Int) < 16 := by omega
    have hlen := hon.1
    have hnx := onWay_next hon hq
    have hmo := onWay_more hon hq
    rw [hbb] at hnx hmo
    have hvb := cnt_bound (n := bb) (m := L) (by omega) hL
    have hvp := cnt_pos bb L
    obtain ⟨v, hv⟩ : ∃ v, cnt bb L = v := ⟨_, rfl⟩
    rw [hv] at hB hnx hmo hvb hvp
    have d1 : (v : Int) ≤ 1099511627776 := by omega
    have HM := Lib.hid hm
    by_cases hk0 : k = 0
    · subst hk0
      have hfin := onWay_stop hon (by omega)
      subst hfin
      clear hon hnx hmo hm hv hbb
      go_wp2
      (try rw [Exit.noGoto_ret])
      go_ret
      exact ⟨_, rfl, Nat.le_refl _, RL, hbel⟩
    · have k0 : ¬ (k : Int) = 0 := by omega
      have hqn : (q : Int) ≤ 25 := by omega
      by_cases hkv : k < v
      · have h1 : (k : Int) < (v : Int) := by omega
        have hon2 := hnx hkv
        have hq2 := onWay_in hon2 (by omega) hk0
        have HON := Lib.hid hon2
        clear hon hnx hmo hm hv hbb hon2 hkv
        go_wp2
        go_roundg (k + (n - (q + 1)))
        case measure => have := HM.out; omega
        case rel => exact ⟨_, k, L, q + 1, xs, rfl, rfl, rfl, rfl, by go_num, by omega, hq2, hkb, HON.out, RL, hbel⟩
      · have h1 : ¬ (k : Int) < (v : Int) := by omega
        obtain ⟨hL0, hon2⟩ := hmo (by omega)
        have hL1 : (1 : Int) ≤ (L : Int) := by omega
        have hcell := RL.cell q (by rw [intsN_length]; omega)
        have hfree := RL.free q
        rw [intsN_getD xs q (by omega)] at hcell
        have hxb : xs.getD q 0 ≤ 15 := by omega
        have hxs : (xs.set q (xs.getD q 0 + 1)).getD q 0 = xs.getD q 0 + 1 := by simp [List.getD_eq_getElem?_getD, List.getElem?_set_self, show q < xs.length by omega]
        have HXS := Lib.hid hxs
        have RL2 := RL.set q ((xs.getD q 0 : Int) + 1)
        rw [show ((xs.getD q 0 : Int) + 1) = ((xs.getD q 0 + 1 : Nat) : Int) by omega, intsN_set] at RL2
        obtain ⟨x, hx⟩ : ∃ x, xs.getD q 0 = x := ⟨_, rfl⟩
        rw [hx] at hcell hxb hxL hon2 RL2 HXS
        have hxb2 : (x : Int) ≤ 15 := by omega
        have HON := Lib.hid hon2
        have HR2 := Lib.hid RL2
        have e3 : ((x + 1 : Nat) : Int) = (x : Int) + 1 := by omega
        rw [e3] at HR2
        clear hon hnx hmo hm hv hbb hon2 RL2 hx e3 hxs hz1
        go_wp2
        go_roundg (k - v + (n - q))
        case measure => have := HM.out; omega
        case rel => exact ⟨_, k - v, L - 1, q, _, rfl, rfl, by go_num, by go_num, rfl, by rw [HXS.out]; omega, hq, by omega, HON.out, HR2.out, hbel.setCell (p := ⟨w.heap.size, q, none⟩) (by simp) _⟩
def rvA (xs : List Int) (n k p : Nat) : Int := if p < k ∨ n - k ≤ p then xs.getD (n - 1 - p) 0 else xs.getD p 0
theorem rvA_step {xs L : List Int} {n k : Nat} (hl : L.length = n) (h : ∀ p, p < n → L.getD p 0 = rvA xs n k p) (hk : k < n - 1 - k) :
    L.getD k 0 = xs.getD k 0 ∧ L.getD (n - 1 - k) 0 = xs.getD (n - 1 - k) 0 ∧ ∀ p, p < n → ((L.set k (xs.getD (n - 1 - k) 0)).set (n - 1 - k) (xs.getD k 0)).getD p 0 = rvA xs n (k + 1) p := by
  have a1 := h k (by omega)
  have a2 := h (n - 1 - k) (by omega)
  rw [rvA, if_neg (by omega)] at a1 a2
  refine ⟨a1, a2, fun p hp => ?_⟩
  have hp2 := h p hp
  simp only [List.getD_eq_getElem?_getD] at hp2 ⊢
  by_cases e1 : p = n - 1 - k
  · subst e1
    rw [List.getElem?_set_self (by simp; omega), rvA, if_pos (by omega), show n - 1 - (n - 1 - k) = k by omega]
    rfl
  · rw [List.getElem?_set_ne (by omega)]
    by_cases e2 : p = k
    · subst e2
      rw [List.getElem?_set_self (by omega), rvA, if_pos (by omega)]
      rfl
    · rw [List.getElem?_set_ne (by omega), hp2, rvA, rvA]
      by_cases e3 : p < k ∨ n - k ≤ p
      · rw [if_pos e3, if_pos (by omega)]
      · rw [if_neg e3, if_neg (by omega)]
theorem rvA_end {xs L : List Int} {n k : Nat} (hx : xs.length = n) (hl : L.length = n) (h : ∀ p, p < n → L.getD p 0 = rvA xs n k p) (hk : n ≤ 2 * k + 1) : L = xs.reverse := by
  refine ext_getD (by simp; omega) fun p => ?_
  by_cases hp : p < n
  · rw [h p hp]
    have : xs.reverse.getD p 0 = xs.getD (n - 1 - p) 0 := by
      simp only [List.getD_eq_getElem?_getD]
      rw [List.getElem?_reverse (by omega), hx]
    rw [this, rvA]
    by_cases e3 : p < k ∨ n - k ≤ p
    · rw [if_pos e3]
    · rw [if_neg e3, show n - 1 - p = p by omega]
  · rw [getD_out (by omega), getD_out (by simp; omega)]
set_option maxHeartbeats 1000000 in
theorem reverse_any (g n cap : Nat) (xs : List Int) (w : World) (hn : xs.length = n) (hle : n ≤ 1048576) (hr : Row w g xs) :
    Calls Tryz.prog 89 #[.slice (some ⟨g, 0, none⟩) n cap] w fun e w' => e = .returned (.tuple #[]) ∧ Row w' g xs.reverse ∧ w.grownBy w' (some g) := by
  have h0 : ∀ p, p < n → xs.getD p 0 = rvA xs n 0 p := fun p hp => by rw [rvA, if_neg (by omega)]
  have HN := Lib.hid hn
  clear hn
  go_enter Tryz.func89, Tryz.ntmps89
  go_wp2_with fail
  go_loopg [2, 3] n (fun m i j wr => ∃ (W : World) (k : Nat) (L : List Int), W = wr ∧ m = n - k ∧ i = .int .i64 k ∧ j = .int .i64 ((n : Int) - 1 - k) ∧ k ≤ n ∧ L.length = n ∧ (∀ p, p < n → L.getD p 0 = rvA xs n k p) ∧ Row W g L ∧ w.grownBy W (some g))
  case atStart => exact ⟨_, 0, xs, rfl, rfl, rfl, by go_num, by omega, HN.out, h0, hr, grown_refl _ _⟩
  case round =>
    clear h0 hr
    obtain ⟨W, k, L, hW, hm, rfl, rfl, hk, hL, hS, RL, hG⟩ := hrel
    subst hW
    by_cases hlt : k < n - 1 - k
    · obtain ⟨a1, a2, a3⟩ := rvA_step hL hS hlt
      obtain ⟨jn, hjn⟩ : ∃ jn, n - 1 - k = jn := ⟨_, rfl⟩
      have e1 : (n : Int) - 1 - (k : Int) = (jn : Int) := by omega
      rw [hjn] at a2 a3
      obtain ⟨vi, hvi⟩ : ∃ v, L.getD k 0 = v := ⟨_, rfl⟩
      obtain ⟨vj, hvj⟩ : ∃ v, L.getD jn 0 = v := ⟨_, rfl⟩
      rw [← a1, hvi, ← a2, hvj] at a3
      have hlt' : (k : Int) < (jn : Int) := by omega
      have f1 : (0 : Int) ≤ (k : Int) := by omega
      have f2 : (k : Int) < (n : Int) := by omega
      have f3 : (0 : Int) ≤ (jn : Int) := by omega
      have f4 : (jn : Int) < (n : Int) := by omega
      have f5 : (n : Int) ≤ 1048576 := by omega
      have HJ := Lib.hid e1
      have HS := Lib.hid a3
      have HL := Lib.hid hL
      rw [e1]
      have hkn : k < L.length := by omega
      have hjl : jn < L.length := by omega
      clear a1 a2 a3 hS hL hjn hlt
      go_wp2_with fail
      refine wp_region_held_drew (S := fun _ => True) (by kernel_rfl) trivial (fun hHeld => ?_)
      clear hHeld
      replace RL := RL.drew
      replace hG := grown_drew hG
      have c1 := RL.cell k (by omega)
      have c2 := RL.cell jn (by omega)
      have f0 := fun q => RL.free q
      rw [hvi] at c1
      rw [hvj] at c2
      generalize W.drew = vd at *
      have hHeld : True := trivial
      refine tk 0 14 ?_
      refine tk 1 15 ?_
      refine tk 2 16 ?_
      refine tk 3 17 ?_
      refine tk 4 18 ?_
      refine tk 5 19 ?_
      refine tk 6 20 ?_
      refine tk 8 22 ?_
      refine tk 9 23 ?_
      refine tk 10 24 ?_
      refine wpAnyH_ready (rs := [7, 11]) (by kernel_rfl) (by simp) ?_
      refine AllReadyH.cons (o := ⟨some 21, _, _, _, _, _⟩) rfl (fun K hK => ?_) (AllReadyH.cons (o := ⟨some 25, _, _, _, _, _⟩) rfl (fun K hK => ?_) AllReadyH.nil)
      · go_simp
        (try go_wp2_with fail)
        refine hko hK trivial fun hHeld => ?_
        clear hK K
        refine rdk 11 25 fun K hK => ?_
        go_simp
        (try go_wp2_with fail)
        refine hko hK trivial fun hHeld => ?_
        clear hK K
        refine tk 12 26 ?_
        refine rdn 13 fun K hK => ?_
        go_simp
        (try go_wp2_with fail)
        refine hko hK trivial fun hHeld => ?_
        clear hK K
        have R1 := RL.set k vj
        have d1 := R1.cell jn (by rw [List.length_set]; omega)
        have f1 := fun q => R1.free q
        have G1 := grown_set (o := k) (v := .int .i64 vj) hG
        refine tk 14 27 ?_
        refine rdn 15 fun K hK => ?_
        go_simp
        (try go_wp2_with fail)
        refine hko hK trivial fun hHeld => ?_
        clear hK K
        have R2 := R1.set jn vi
        have G2 := grown_set (o := jn) (v := .int .i64 vi) G1
        clear d1 f1 R1 G1
        refine wpAnyH_done (by kernel_rfl) ?_ _
        have HR2 := Lib.hid R2
        have HG2 := Lib.hid G2
        clear R2 G2 hHeld hG RL c1 c2 f0
        go_wp2
        go_roundg (n - (k + 1))
        case measure => omega
        case rel => exact ⟨_, k + 1, _, rfl, rfl, by go_num, by (have := HJ.out); go_num, by omega, by rw [List.length_set, List.length_set]; exact HL.out, fun p hp => HS.out p hp, HR2.out, HG2.out⟩
      · go_simp
        (try go_wp2_with fail)
        refine hko hK trivial fun hHeld => ?_
        clear hK K
        refine rdk 7 21 fun K hK => ?_
        go_simp
        (try go_wp2_with fail)
        refine hko hK trivial fun hHeld => ?_
        clear hK K
        refine tk 12 26 ?_
        refine rdn 13 fun K hK => ?_
        go_simp
        (try go_wp2_with fail)
        refine hko hK trivial fun hHeld => ?_
        clear hK K
        have R1 := RL.set k vj
        have d1 := R1.cell jn (by rw [List.length_set]; omega)
        have f1 := fun q => R1.free q
        have G1 := grown_set (o := k) (v := .int .i64 vj) hG
        refine tk 14 27 ?_
        refine rdn 15 fun K hK => ?_
        go_simp
        (try go_wp2_with fail)
        refine hko hK trivial fun hHeld => ?_
        clear hK K
        have R2 := R1.set jn vi
        have G2 := grown_set (o := jn) (v := .int .i64 vi) G1
        clear d1 f1 R1 G1
        refine wpAnyH_done (by kernel_rfl) ?_ _
        have HR2 := Lib.hid R2
        have HG2 := Lib.hid G2
        clear R2 G2 hHeld hG RL c1 c2 f0
        go_wp2
        go_roundg (n - (k + 1))
        case measure => omega
        case rel => exact ⟨_, k + 1, _, rfl, rfl, by go_num, by (have := HJ.out); go_num, by omega, by rw [List.length_set, List.length_set]; exact HL.out, fun p hp => HS.out p hp, HR2.out, HG2.out⟩
    · have hlt' : ¬ (k : Int) < (n : Int) - 1 - (k : Int) := by omega
      have hfin := rvA_end HN.out hL hS (by omega)
      subst hfin
      clear hS
      go_wp2
      exact ⟨rfl, .tuple #[], by simp [results, Tryz.results89, go_sem], rfl, RL, hG⟩
theorem cnt_mono2 (k : Nat) {i j : Nat} (h : i ≤ j) : cnt k i ≤ cnt k j := by rw [cnt_symm k i, cnt_symm k j]; exact cnt_mono k h
theorem wyI_small {k n h c : Nat} (hs : cnt h c ≤ 1000000) (hk : k ≤ h) (hn : n ≤ c) : wyI k n = (cnt k n : Int) := by
  have h1 := cnt_mono n hk
  have h2 := cnt_mono2 h hn
  rw [wyI, if_pos (by omega)]
theorem rest_cons (ns : List Nat) (k : Nat) (h : k < ns.length) : (ns.take (k + 1)).reverse = ns.getD k 0 :: (ns.take k).reverse := by
  rw [List.take_succ_eq_append_getElem h, List.reverse_append]
  simp [h]
set_option maxHeartbeats 1000000 in
theorem l10Number_any (p h s : Int) (C : Nat) (a : Option Addr) (n cap : Nat) (ns : List Nat) (xs : List Int) (w : World) (hn1 : n ≤ 24) (c1 : C ≤ 15) (hl : xs.length = n) (hln : ns.length = n) (hs : ns.sum ≤ C) (hsm : cnt n C ≤ 1000000)
    (hx : ∀ k, k < xs.length → xs.getD k 0 = (ns.getD k 0 : Int)) (hr : IRow w a xs) :
    Calls Tryz.prog 125 #[.agg #[.int .i64 p, .int .i64 (C : Int), .int .i64 h, .int .i64 s], .slice a n cap] w fun e w' => e = .returned (.int .i64 (bnN ns C)) ∧ Below w.heap.size w w' := by
  have BV := Blk.new w #[.int .i64 p, .int .i64 (C : Int), .int .i64 h, .int .i64 s] 25
  have hb : Below w.heap.size w (w.alloc (.cells #[.int .i64 p, .int .i64 (C : Int), .int .i64 h, .int .i64 s] 25)) := (Below.refl _ _).alloc (Nat.le_refl _) _
  obtain ⟨x0, x1, x2, x3, xf, xl⟩ := BV.four
  have hT := bnN_lt ns C hs
  rw [hln] at hT
  have hT2 : numL (ns.take n).reverse C = bnN ns C := by rw [← hln, List.take_length]; rfl
  obtain ⟨T, hTe⟩ : ∃ T, bnN ns C = T := ⟨_, rfl⟩
  rw [hTe] at hT hT2 ⊢
  have hTb : T < 1000000 := by omega
  have hs2 : (ns.take n).sum ≤ C := by rw [← hln, List.take_length]; exact hs
  have hn24 : (n : Int) ≤ 24 := by omega
  have HL := Lib.hid hl
  have HLN := Lib.hid hln
  have HX := Lib.hid hx
  have HSM := Lib.hid hsm
  have HT2 := Lib.hid hT2
  replace hr := hr.below hb
  clear hl hln hx hTe hT hsm hT2 hs
  go_enter Tryz.func125, Tryz.ntmps125
  go_wp2_with fail
  clear x0 x1 x2 x3 xf xl BV
  generalize (w.alloc (.cells #[.int .i64 p, .int .i64 (C : Int), .int .i64 h, .int .i64 s] 25)) = v0 at *
  go_loopg [5, 6, 7] n (fun m q l i wr => v0 = wr ∧ ∃ (N L : Nat), m ≤ n ∧ i = .int .i64 ((m : Int) - 1) ∧ q = .int .i64 N ∧ l = .int .i64 L ∧ L ≤ C ∧ (ns.take m).sum ≤ L ∧ N + numL (ns.take m).reverse L = T)
  case atStart => exact ⟨rfl, 0, C, Nat.le_refl _, rfl, rfl, rfl, Nat.le_refl _, hs2, by rw [Nat.zero_add]; exact HT2.out⟩
  case round =>
    clear hs2
    obtain ⟨rfl, N, L, hm, rfl, rfl, rfl, hL, hsum, hN⟩ := hrel
    cases gk with
    | zero =>
      have hN2 : N = T := by simpa [numL] using hN
      subst hN2
      clear hN hsum
      go_wp2
      go_ret
      exact ⟨rfl, hb⟩
    | succ bb =>
      obtain ⟨b, o, rfl, hc⟩ := hr bb (by rw [HL.out]; omega)
      rw [rest_cons ns bb (by rw [HLN.out]; omega)] at hN
      have hsb : (ns.take (bb + 1)).sum = ns.getD bb 0 + (ns.take bb).sum := by
        have := congrArg List.sum (rest_cons ns bb (by rw [HLN.out]; omega))
        rw [List.sum_reverse, List.sum_cons, List.sum_reverse] at this
        exact this
      rw [HX.out bb (by rw [HL.out]; omega)] at hc
      obtain ⟨x, hxe⟩ : ∃ x, ns.getD bb 0 = x := ⟨_, rfl⟩
      rw [hxe] at hc hN hsb
      rw [numL, List.length_reverse, List.length_take, show min bb ns.length = bb by (have := HLN.out; omega)] at hN
      have e1 : (((bb + 1 : Nat) : Int) - 1) = (bb : Int) := by omega
      rw [e1]
      have hbb3 : (bb : Int) ≤ 24 := by omega
      have hbn : (bb : Int) < (n : Int) := by omega
      have hxL : x ≤ L := by omega
      have hNb : N + blk bb L x ≤ T := by omega
      have hbx : 0 ≤ (x : Int) := by omega
      have hbL : (x : Int) ≤ (L : Int) := by omega
      have hbL2 : (L : Int) ≤ 15 := by omega
      have hst : N + blk bb L x + numL (ns.take bb).reverse (L - x) = T := by omega
      have hsum2 : (ns.take bb).sum ≤ L - x := by omega
      have HS := Lib.hid hst
      have HS2 := Lib.hid hsum2
      clear hst hsum2 hsum hN hsb hxe e1
      go_wp2_with fail
      go_loopg [5, 8] x (fun m2 q i wi => v0 = wi ∧ ∃ j : Nat, j ≤ x ∧ m2 = x - j ∧ i = .int .i64 j ∧ q = .int .i64 ((N + blk bb L j : Nat) : Int))
      case atStart => exact ⟨rfl, 0, by omega, by omega, rfl, by simp [blk]⟩
      case round =>
        obtain ⟨rfl, j, hj, hm2, rfl, rfl⟩ := hrel
        by_cases hjx : j < x
        · have hjx' : (j : Int) < (x : Int) := by omega
          have e3 : (L : Int) - (j : Int) = ((L - j : Nat) : Int) := by omega
          have hC := fun W => l10Ways_any bb (L - j) W (by omega) (by omega)
          rw [wyI_small HSM.out (by omega) (by omega)] at hC
          have hst : N + blk bb L j + cnt bb (L - j) = N + blk bb L (j + 1) := by rw [blk]; omega
          have hup := blk_upto bb L (show j + 1 ≤ x by omega)
          obtain ⟨u, hu⟩ : ∃ u, N + blk bb L j = u := ⟨_, rfl⟩
          obtain ⟨v, hv⟩ : ∃ v, cnt bb (L - j) = v := ⟨_, rfl⟩
          rw [hv] at hC hst
          rw [hu] at hst ⊢
          have hub : (u : Int) + (v : Int) < 1000000 := by omega
          have HC := Lib.hid hC
          have HJ := Lib.hid hst
          clear hC hst hu hv hup
          go_wp2_with (go_at_call 66; refine (HC.out _).mono ?_; rintro e w1 ⟨rfl, rfl⟩)
          go_roundg (x - (j + 1))
          case measure => omega
          case rel => exact ⟨rfl, j + 1, by omega, rfl, by go_num, by rw [← HJ.out]; go_num⟩
        · obtain rfl : j = x := by omega
          have hjx' : ¬ (j : Int) < (j : Int) := by omega
          obtain ⟨u, hu⟩ : ∃ u, N + blk bb L j = u := ⟨_, rfl⟩
          rw [hu] at HS hNb ⊢
          have HU := Lib.hid hu
          clear hu
          go_wp2
          go_roundg bb
          case measure => omega
          case rel => exact ⟨rfl, u, L - j, by omega, by go_num, rfl, by go_num, by omega, HS2.out, HS.out⟩
end Go.Proofs.YtnlclmlnpkncoaaGreat
