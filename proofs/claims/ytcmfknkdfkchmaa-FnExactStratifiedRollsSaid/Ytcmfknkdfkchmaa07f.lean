/- Contract of the model's rolls from a seed. -/
import Derived.Test.Ytcmfknkdfkchmaa07e
namespace Go.Proofs.Ytcmfknkdfkchmaa
open Go.ChangeShapes Go.WideShapes Go.ChangeAt Go.RowKit
set_option linter.unusedVariables false
set_option linter.unusedSimpArgs false

theorem Blk.low {w w' : World} {g base : Nat} {vs : Array Value} {t : TypeId} (h : Blk w g vs t) (hb : Below base w w') (hg : g < base) : Blk w' g vs t := (hb.block g hg).trans h
theorem OwnR.start2 (w : World) (vs : Array Value) (t : TypeId) : OwnR ((w.alloc (.cells vs t)).alloc (.cells #[] 33)) (w.heap.size + 1) (.slice (some ⟨w.heap.size + 1, 0, none⟩) 0 0) [] := by
  have q := OwnR.start (w.alloc (.cells vs t))
  rw [show (w.alloc (.cells vs t)).heap.size = w.heap.size + 1 by simp] at q
  exact q
set_option maxRecDepth 8000 in
set_option maxHeartbeats 2000000 in
theorem specRollsFrom_any (p c h s x n : Int) (w : World) : Calls Try.prog 26 #[.agg #[.int .i64 p, .int .i64 c, .int .i64 h, .int .i64 s], .int .i64 x, .int .i64 n] w (RollsGot2 (rsL p c h s x n) (rcI p c h s x n) w) := by
  have hc := fun W => l07Code_any p c h s x n W
  unfold rsL
  by_cases g : rcI p c h s x n = 0
  · rw [if_pos g, g]
    rw [g] at hc
    obtain ⟨gv, gs, n0, n4⟩ := rcI_zero g
    have hss := vB_sides gv
    have hx := (sdB_iff x).1 gs
    obtain ⟨S, rfl⟩ := Int.eq_ofNat_of_zero_le (by omega : 0 ≤ s)
    obtain ⟨N, rfl⟩ := Int.eq_ofNat_of_zero_le n0
    rw [show ((N : Int)).toNat = N by simp]
    have hS : 1 ≤ S ∧ S ≤ 6 := by omega
    have hN : N ≤ 400 := by omega
    have hro := fun k W => l07From_any p c h S (sdN x k) W (sdN_seed x hx k) hS
    have hsucc := fun k => frN_succ (S : Int) x k
    have hlen := fun k => frN_length (S : Int) x k
    have HRO := Lib.hid hro
    have HC := Lib.hid hc
    have HSU := Lib.hid hsucc
    have HLN := Lib.hid hlen
    clear hc hro hsucc hlen g gv gs hss hx n4 n0
    have BV := (Blk.new w #[.int .i64 p, .int .i64 c, .int .i64 h, .int .i64 (S : Int)] 25).alloc (.cells #[] 33)
    have hb : Below w.heap.size w ((w.alloc (.cells #[.int .i64 p, .int .i64 c, .int .i64 h, .int .i64 (S : Int)] 25)).alloc (.cells #[] 33)) := chain_alloc ((Below.refl _ _).alloc (Nat.le_refl _) _) _
    have hO := OwnR.start2 w #[.int .i64 p, .int .i64 c, .int .i64 h, .int .i64 (S : Int)] 25
    obtain ⟨x0, x1, x2, x3, xf, xl⟩ := BV.four
    go_enter Try.func26, Try.ntmps26
    go_wp2_with fail
    clear x0 x1 x2 x3 xf xl
    generalize ((w.alloc (.cells #[.int .i64 p, .int .i64 c, .int .i64 h, .int .i64 (S : Int)] 25)).alloc (.cells #[] 33)) = v0 at *
    refine (HC.out _).mono ?_
    rintro e w1 ⟨rfl, hb1⟩
    replace BV := BV.below hb1
    replace hO := hO.kept hb1
    replace hb := chain hb hb1
    clear hb1 HC
    go_wp2_with fail
    go_loopg [1, 2, 8, 10, 11] N (fun m q1 q2 q8 q10 q11 wr => ∃ k : Nat, k ≤ N ∧ m = N - k ∧ q1 = .int .i64 (sdN x k) ∧ q2 = .int .i64 ((N : Int) - (k : Int)) ∧ OwnR wr (w.heap.size + 1) q8 (frN (S : Int) x k) ∧ Blk wr w.heap.size #[.int .i64 p, .int .i64 c, .int .i64 h, .int .i64 (S : Int)] 25 ∧ Below w.heap.size w wr)
    case atStart => exact ⟨0, by omega, by omega, rfl, by simp, hO, BV, hb⟩
    case round =>
      clear hO BV hb
      obtain ⟨k, hk, hm, rfl, rfl, hO, BV, hb⟩ := hrel
      by_cases hlt : k < N
      · have hlt' : (0 : Int) < (N : Int) - (k : Int) := by omega
        have hro := HRO.out k
        have hsu := HSU.out k
        have hln := HLN.out k
        have hnx : nxS (nxS (sdN x k)) = sdN x (k + 1) := rfl
        rw [hnx] at hro
        obtain ⟨⟨fa, fb⟩, hFR⟩ : ∃ r, frR (S : Int) (sdN x k) = r := ⟨_, rfl⟩
        rw [hFR] at hro hsu
        dsimp only at hro
        have HR_ := Lib.hid hro
        obtain ⟨LL, hLL⟩ : ∃ z, frN (S : Int) x k = z := ⟨_, rfl⟩
        rw [hLL] at hO hsu hln
        have HS_ := Lib.hid hsu
        have hLl : LL.length ≤ 1048576 := by omega
        clear hro hsu hnx hFR hLL hln
        obtain ⟨x0, x1, x2, x3, xf, xl⟩ := BV.four
        go_wp2_with fail
        clear x0 x1 x2 x3 xf xl
        refine (HR_.out _).mono ?_
        rintro e w3 ⟨rfl, hq⟩
        have hz3 := hq.size
        replace hO := (hO.kept hq).alloc (.cells #[.int .i64 fa, .int .i64 fb] 33)
        replace BV := (BV.below hq).alloc (.cells #[.int .i64 fa, .int .i64 fb] 33)
        replace hb := chain_alloc (chain hb hq) (.cells #[.int .i64 fa, .int .i64 fb] 33)
        have hVl := BV.lt
        have BQ := Blk.new w3 #[.int .i64 fa, .int .i64 fb] 33
        obtain ⟨t0, t1, tf, tl⟩ := BQ.two
        clear hq
        go_wp2_with (at_builtin; go_loud (refine wp_pushR rfl _ _ rfl (w.heap.size + 1) _ LL rfl hO (fa, fb) rfl (by first | rfl | simp) hLl hVl ?_; intro v2 w6 hO2 hb6))
        go_roundg (N - (k + 1))
        case measure => omega
        case rel => exact ⟨k + 1, by omega, rfl, rfl, by go_num, by rw [HS_.out]; exact hO2, BV.low hb6 (by omega), hb.trans (hb6.mono (by omega))⟩
      · obtain rfl : k = N := by omega
        have hln := HLN.out k
        obtain ⟨aR, kR, rfl⟩ := hO.form
        go_wp2
        go_ret2
        exact ⟨aR, kR, rfl, hO.orl.mono (by omega) (Nat.le_refl _), hb⟩
  · rw [if_neg g]
    obtain ⟨q, hq⟩ : ∃ q, rcI p c h s x n = q := ⟨_, rfl⟩
    rw [hq] at hc g ⊢
    have HC := Lib.hid hc
    have f0 : (q != 0) = true := by rw [bne_iff_ne]; exact g
    clear hc hq
    have BV := (Blk.new w #[.int .i64 p, .int .i64 c, .int .i64 h, .int .i64 s] 25).alloc (.cells #[] 33)
    have hb : Below w.heap.size w ((w.alloc (.cells #[.int .i64 p, .int .i64 c, .int .i64 h, .int .i64 s] 25)).alloc (.cells #[] 33)) := chain_alloc ((Below.refl _ _).alloc (Nat.le_refl _) _) _
    have hO := OwnR.start2 w #[.int .i64 p, .int .i64 c, .int .i64 h, .int .i64 s] 25
    obtain ⟨x0, x1, x2, x3, xf, xl⟩ := BV.four
    go_enter Try.func26, Try.ntmps26
    go_wp2_with (go_at_call 57; refine (HC.out _).mono ?_; clear HC; rintro e w1 ⟨rfl, hb1⟩)
    go_ret2
    have hb2 := chain hb hb1
    exact ⟨some ⟨w.heap.size + 1, 0, none⟩, 0, rfl, (hO.kept hb1).orl.mono (by omega) (Nat.le_refl _), hb2⟩
end Go.Proofs.Ytcmfknkdfkchmaa
