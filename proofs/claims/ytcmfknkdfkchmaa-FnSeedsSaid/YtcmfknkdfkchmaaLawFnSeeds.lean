/- The law of chapter 7 on the rolls from a seed holds: for every code the law returns true and the code reads behind the call as it read before. No conditions. -/
import Derived.Test.Ytcmfknkdfkchmaa07f
import Derived.Test.YtcmfknkdfkchmaaDraw07
import Derived.Test.YtcmfknkdfkchmaaRows
import Derived.ChangeOld
namespace Go.Proofs.Ytcmfknkdfkchmaa
open Go.ChangeMaps (open_string shut_string)
open Go.ChangeShapes Go.WideShapes Go.ChangeAt Go.RowKit
set_option linter.unusedVariables false
set_option linter.unusedSimpArgs false

theorem code_of_ints {w : World} {x : Addr} {len : Nat} {zs : List Int} (hl : len ≤ zs.length) (_hz : True) (hcell : ∀ i, i < zs.length → w.cell? (x.add i) = some (.int .u8 (zs.getD i 0))) (hwz : ∀ n ∈ zs, (Lit.int .u8 n).wf = true) : CodeIn w.heap.size w (some x) len := by
  intro i hi
  obtain ⟨b, o, spot⟩ := x
  have hc := hcell i (by omega)
  have hspot : spot = none := by
    have hc0 := hcell 0 (by omega)
    simpa [Addr.add] using World.cell?_spot hc0
  subst hspot
  rw [show (⟨b, o, none⟩ : Addr).add i = ⟨b, o + i, none⟩ from by unfold Addr.add; split <;> simp_all] at hc
  have hm : zs.getD i 0 ∈ zs := by
    have : i < zs.length := by omega
    simp [List.getD, this]
  have hw := hwz _ hm
  have hr : 0 ≤ zs.getD i 0 ∧ zs.getD i 0 ≤ 255 := by simpa [Lit.wf, IntKind.min, IntKind.max, IntKind.signed, IntKind.bits] using hw
  exact ⟨b, o, zs.getD i 0, rfl, World.block_lt_of_cell? w _ hc, hc, hr.1, hr.2⟩
theorem bigR_any (a : Option Addr) (len cap : Nat) (w : World) :
    Calls Try.prog 15 #[.slice a len cap] w fun e w' => e = .returned (.bool (decide (4096 < (len : Int)))) ∧ w = w' := by
  go_enter Try.func15, Try.ntmps15
  go_wp2
  go_ret
  exact ⟨rfl, rfl⟩
set_option maxRecDepth 8000 in
set_option maxHeartbeats 4000000 in
theorem fnSeeds_walk (a : Option Addr) (len cap : Nat) (w : World) (hcode : CodeIn w.heap.size w a len) :
    Calls Try.prog 4 #[.slice a len cap] w fun e w' => e = .returned (.bool true) ∧ Below w.heap.size w w' := by
  by_cases hbig : 4096 < len
  · have f0 : decide (4096 < (len : Int)) = true := by simp; omega
    go_enter Try.func4, Try.ntmps4
    go_wp2_with fail
    refine (bigR_any _ _ _ _).mono ?_
    rintro e w1 ⟨rfl, rfl⟩
    go_wp2
    go_ret
    exact ⟨rfl, Below.refl _ _⟩
  · have f0 : decide (4096 < (len : Int)) = false := by simp; omega
    go_enter Try.func4, Try.ntmps4
    go_wp2_with fail
    refine (bigR_any _ _ _ _).mono ?_
    rintro e w0 ⟨rfl, rfl⟩
    go_wp2_with fail
    refine (drawReq_any w.heap.size a len cap w (Nat.le_refl _) (by omega) hcode).mono ?_
    rintro e w1 ⟨p, c, h, s, x, n, rfl, hb⟩
    clear hbig f0 hcode
    have BV := Blk.new w1 #[.int .i64 p, .int .i64 c, .int .i64 h, .int .i64 s] 25
    replace hb := chain_alloc hb (.cells #[.int .i64 p, .int .i64 c, .int .i64 h, .int .i64 s] 25)
    have him := fun W => rollsFrom_any p c h s x n W
    have hsp := fun W => specRollsFrom_any p c h s x n W
    obtain ⟨x0, x1, x2, x3, xf, xl⟩ := BV.four
    by_cases g : rcI p c h s x n = 0
    rotate_left
    · obtain ⟨q, hq⟩ : ∃ q, rcI p c h s x n = q := ⟨_, rfl⟩
      rw [hq] at him hsp g
      have hL : rsL p c h s x n = [] := by
        unfold rsL
        rw [hq, if_neg g]
      rw [hL] at him hsp
      have f1 : (q != 0) = true := by rw [bne_iff_ne]; exact g
      have HIM := Lib.hid him
      have HSP := Lib.hid hsp
      clear him hsp hq hL g
      go_wp2_with fail
      clear x0 x1 x2 x3 xf xl
      generalize (w1.alloc (.cells #[.int .i64 p, .int .i64 c, .int .i64 h, .int .i64 s] 25)) = v0 at *
      refine (HIM.out _).mono ?_
      rintro e w2 ⟨aL, kL, rfl, hO, hb2⟩
      replace BV := BV.below hb2
      replace hb := chain hb hb2
      clear hb2
      obtain ⟨x0, x1, x2, x3, xf, xl⟩ := BV.four
      go_wp2_with fail
      clear x0 x1 x2 x3 xf xl
      refine (HSP.out _).mono ?_
      rintro e w3 ⟨aM, kM, rfl, hM, hb3⟩
      go_wp2
      go_ret
      exact ⟨rfl, chain hb hb3⟩
    · obtain ⟨gv, gs, n0, n4⟩ := rcI_zero g
      have hss := vB_sides gv
      have hx := (sdB_iff x).1 gs
      have hL : rsL p c h s x n = frN s x n.toNat := by unfold rsL; rw [if_pos g]
      rw [g, hL] at him hsp
      obtain ⟨S, rfl⟩ := Int.eq_ofNat_of_zero_le (by omega : 0 ≤ s)
      obtain ⟨N, rfl⟩ := Int.eq_ofNat_of_zero_le n0
      rw [show ((N : Int)).toNat = N by simp] at him hsp
      have hN : N ≤ 400 := by omega
      have hlen := frN_length (S : Int) x N
      have hat := fun k hk => frN_at (S : Int) x N k hk
      have hrf := fun k W => rollFrom_any p c h (S : Int) (sdN x k) W
      have hrf : ∀ k W, Calls Try.prog 27 #[.agg #[.int .i64 p, .int .i64 c, .int .i64 h, .int .i64 (S : Int)], .int .i64 (sdN x k)] W fun e w' => e = .returned (.tuple #[.agg #[.int .i64 (frR (S : Int) (sdN x k)).1, .int .i64 (frR (S : Int) (sdN x k)).2], .int .i64 (sdN x (k + 1)), .bool true]) ∧ Below W.heap.size W w' := by
        intro k W
        have h1 := hrf k W
        rw [rfV_yes gv ((sdB_iff _).2 (sdN_seed x hx k))] at h1
        exact h1
      have hn1 := fun k W => nextSeed_any (sdN x k) W
      have hn1 : ∀ k W, Calls Try.prog 28 #[.int .i64 (sdN x k)] W fun e w' => e = .returned (.int .i64 (nxS (sdN x k))) ∧ Below W.heap.size W w' := by
        intro k W
        have h1 := hn1 k W
        rw [if_pos ((sdB_iff _).2 (sdN_seed x hx k))] at h1
        exact h1
      have hn2 : ∀ k W, Calls Try.prog 28 #[.int .i64 (nxS (sdN x k))] W fun e w' => e = .returned (.int .i64 (sdN x (k + 1))) ∧ Below W.heap.size W w' := by
        intro k W
        have h1 := nextSeed_any (nxS (sdN x k)) W
        rw [if_pos ((sdB_iff _).2 (nxS_seed (sdN_seed x hx k)))] at h1
        exact h1
      obtain ⟨L, hLe⟩ : ∃ L, frN (S : Int) x N = L := ⟨_, rfl⟩
      rw [hLe] at him hsp hlen hat
      have HIM := Lib.hid him
      have HSP := Lib.hid hsp
      have HAT := Lib.hid hat
      have HRF := Lib.hid hrf
      have HN1_ := Lib.hid hn1
      have HN2_ := Lib.hid hn2
      clear him hsp hat hrf hn1 hn2 hLe hL g gv gs hss hx n0 n4
      go_wp2_with fail
      clear x0 x1 x2 x3 xf xl
      generalize (w1.alloc (.cells #[.int .i64 p, .int .i64 c, .int .i64 h, .int .i64 (S : Int)] 25)) = v0 at *
      refine (HIM.out _).mono ?_
      rintro e w2 ⟨aL, kL, rfl, hO, hb2⟩
      replace BV := BV.below hb2
      replace hb := chain hb hb2
      clear hb2
      obtain ⟨x0, x1, x2, x3, xf, xl⟩ := BV.four
      go_wp2_with fail
      clear x0 x1 x2 x3 xf xl
      refine (HSP.out _).mono ?_
      rintro e w3 ⟨aM, kM, rfl, hM, hb3⟩
      replace BV := BV.below hb3
      replace hO := hO.below hb3
      replace hb := chain hb hb3
      clear hb3
      obtain ⟨x0, x1, x2, x3, xf, xl⟩ := BV.four
      go_wp2_with fail
      clear x0 x1 x2 x3 xf xl
      go_loopg [4, 10, 11, 12, 13] L.length (fun m q4 q10 q11 q12 q13 wr => ∃ k : Nat, k ≤ L.length ∧ m = L.length - k ∧ q4 = .int .i64 (sdN x k) ∧ q10 = .int .i64 (k : Int) ∧ Below w.heap.size w wr ∧ Blk wr w1.heap.size #[.int .i64 p, .int .i64 c, .int .i64 h, .int .i64 (S : Int)] 25 ∧ ORl v0.heap.size w2.heap.size wr aL L ∧ ORl w2.heap.size w3.heap.size wr aM L)
      case atStart => exact ⟨0, by omega, by omega, rfl, rfl, hb, BV, hO, hM⟩
      case round =>
        clear hb BV hO hM
        obtain ⟨k, hk, hm, rfl, rfl, hbw, BV, hO, hM⟩ := hrel
        by_cases hlt : k < L.length
        · have hlt' : (k : Int) < (L.length : Int) := by omega
          have hk0 : (0 : Int) ≤ (k : Int) := by omega
          have hr := HAT.out k (by omega)
          have hrf := HRF.out k
          have hn1 := HN1_.out k
          have hn2 := HN2_.out k
          obtain ⟨⟨fa, fb⟩, hFR⟩ : ∃ r, frR (S : Int) (sdN x k) = r := ⟨_, rfl⟩
          obtain ⟨Y, hY⟩ : ∃ y, sdN x (k + 1) = y := ⟨_, rfl⟩
          obtain ⟨X, hX⟩ : ∃ y, sdN x k = y := ⟨_, rfl⟩
          rw [hX] at hFR hn1 hn2 hrf hr
          rw [hFR] at hr hrf
          rw [hY] at hrf hn2
          rw [hX]
          dsimp only at hrf
          obtain ⟨Z, hZ⟩ : ∃ z, nxS X = z := ⟨_, rfl⟩
          rw [hZ] at hn1 hn2
          have HRF1 := Lib.hid hrf
          have HN1 := Lib.hid hn1
          have HN2 := Lib.hid hn2
          have HY := Lib.hid hY
          obtain ⟨gL, rfl, RL⟩ := hO.row hlt
          obtain ⟨gM, rfl, RM⟩ := hM.row hlt
          obtain ⟨u0, u1⟩ := RL.two k _ hr
          obtain ⟨t0, t1⟩ := RM.two k _ hr
          dsimp only at u0 u1 t0 t1
          clear hn1 hn2 hrf hFR hY hX hZ hr RL RM
          obtain ⟨x0, x1, x2, x3, xf, xl⟩ := BV.four
          go_wp2_with fail
          clear x0 x1 x2 x3 xf xl
          refine (HRF1.out _).mono ?_
          rintro e w4 ⟨rfl, hq⟩
          have hal : Below w4.heap.size w4 (w4.alloc (.cells #[.int .i64 fa, .int .i64 fb] 33)) := (Below.refl _ _).alloc (Nat.le_refl _) _
          have BQ := Blk.new w4 #[.int .i64 fa, .int .i64 fb] 33
          replace hq := chain hq hal
          replace BV := BV.below hq
          replace hO := hO.below hq
          replace hM := hM.below hq
          replace hbw := chain hbw hq
          replace u0 := CellIs.below u0 hq
          replace u1 := CellIs.below u1 hq
          replace t0 := CellIs.below t0 hq
          replace t1 := CellIs.below t1 hq
          clear hq hal
          go_wp2_with fail
          generalize (w4.alloc (.cells #[.int .i64 fa, .int .i64 fb] 33)) = w5 at *
          have hd_ : w5.drew.heap.size = w5.heap.size := rfl
          replace BQ := BQ.drew
          replace BV := BV.drew
          replace hO := hO.drew
          replace hM := hM.drew
          replace hbw := hbw.drew
          replace u0 := CellIs.drew u0
          replace u1 := CellIs.drew u1
          replace t0 := CellIs.drew t0
          replace t1 := CellIs.drew t1
          refine wp_region_held_drew (S := fun w' => w'.cell? ⟨w4.heap.size, 0, none⟩ = some (.int .i64 fa) ∧ w'.cell? ⟨w4.heap.size, 1, none⟩ = some (.int .i64 fb) ∧ w'.cell? ⟨gL, k * 2, none⟩ = some (.int .i64 fa) ∧ w'.cell? ⟨gL, k * 2 + 1, none⟩ = some (.int .i64 fb) ∧ w'.cell? ⟨gM, k * 2, none⟩ = some (.int .i64 fa) ∧ w'.cell? ⟨gM, k * 2 + 1, none⟩ = some (.int .i64 fb)) (by kernel_rfl) ⟨BQ.two.1, BQ.two.2.1, u0, u1, t0, t1⟩ (fun hHeld => ?_)
          clear hHeld
          generalize w5.drew = vd at *
          have hHeld : vd.cell? ⟨w4.heap.size, 0, none⟩ = some (.int .i64 fa) ∧ vd.cell? ⟨w4.heap.size, 1, none⟩ = some (.int .i64 fb) ∧ vd.cell? ⟨gL, k * 2, none⟩ = some (.int .i64 fa) ∧ vd.cell? ⟨gL, k * 2 + 1, none⟩ = some (.int .i64 fb) ∧ vd.cell? ⟨gM, k * 2, none⟩ = some (.int .i64 fa) ∧ vd.cell? ⟨gM, k * 2 + 1, none⟩ = some (.int .i64 fb) := ⟨BQ.two.1, BQ.two.2.1, u0, u1, t0, t1⟩
          refine wpAnyH_take (i := 0) (oi := { dst := some 61, op := _, type := _, pos := _, after := _, guard := _ }) (v := ?_) rfl (by kernel_rfl) (by kernel_rfl) (by kernel_rfl) (fun _ _ _ h => h) (Or.inl ⟨by rfl, ?_⟩) (by assumption) ?_
          rotate_left
          · intro w hSw
            (try dsimp only at hSw)
            go_simp
            (try (with_reducible rfl))
          try simp only [Act.put, List.setIfInBounds_toArray, List.set_cons_zero, List.set_cons_succ]
          refine wpAnyH_take (i := 1) (oi := { dst := some 62, op := _, type := _, pos := _, after := _, guard := _ }) (v := ?_) rfl (by kernel_rfl) (by kernel_rfl) (by kernel_rfl) (fun _ _ _ h => h) (Or.inl ⟨by rfl, ?_⟩) (by assumption) ?_
          rotate_left
          · intro w hSw
            (try dsimp only at hSw)
            go_simp
            (try (with_reducible rfl))
          try simp only [Act.put, List.setIfInBounds_toArray, List.set_cons_zero, List.set_cons_succ]
          refine wpAnyH_take (i := 2) (oi := { dst := some 63, op := _, type := _, pos := _, after := _, guard := _ }) (v := ?_) rfl (by kernel_rfl) (by kernel_rfl) (by kernel_rfl) (fun _ _ _ h => h) (Or.inl ⟨by rfl, ?_⟩) (by assumption) ?_
          rotate_left
          · intro w hSw
            (try dsimp only at hSw)
            go_simp
            (try (with_reducible rfl))
          try simp only [Act.put, List.setIfInBounds_toArray, List.set_cons_zero, List.set_cons_succ]
          refine wpAnyH_take (i := 3) (oi := { dst := some 64, op := _, type := _, pos := _, after := _, guard := _ }) (v := ?_) rfl (by kernel_rfl) (by kernel_rfl) (by kernel_rfl) (fun _ _ _ h => h) (Or.inl ⟨by rfl, ?_⟩) (by assumption) ?_
          rotate_left
          · intro w hSw
            (try dsimp only at hSw)
            go_simp
            (try (with_reducible rfl))
          try simp only [Act.put, List.setIfInBounds_toArray, List.set_cons_zero, List.set_cons_succ]
          refine wpAnyH_take (i := 4) (oi := { dst := some 65, op := _, type := _, pos := _, after := _, guard := _ }) (v := ?_) rfl (by kernel_rfl) (by kernel_rfl) (by kernel_rfl) (fun _ _ _ h => h) (Or.inl ⟨by rfl, ?_⟩) (by assumption) ?_
          rotate_left
          · intro w hSw
            (try dsimp only at hSw)
            go_simp
            (try (with_reducible rfl))
          try simp only [Act.put, List.setIfInBounds_toArray, List.set_cons_zero, List.set_cons_succ]
          refine wpAnyH_take (i := 5) (oi := { dst := some 66, op := _, type := _, pos := _, after := _, guard := _ }) (v := ?_) rfl (by kernel_rfl) (by kernel_rfl) (by kernel_rfl) (fun _ _ _ h => h) (Or.inl ⟨by rfl, ?_⟩) (by assumption) ?_
          rotate_left
          · intro w hSw
            (try dsimp only at hSw)
            go_simp
            (try (with_reducible rfl))
          try simp only [Act.put, List.setIfInBounds_toArray, List.set_cons_zero, List.set_cons_succ]
          refine wpAnyH_take (i := 6) (oi := { dst := some 67, op := _, type := _, pos := _, after := _, guard := _ }) (v := ?_) rfl (by kernel_rfl) (by kernel_rfl) (by kernel_rfl) (fun _ _ _ h => h) (Or.inl ⟨by rfl, ?_⟩) (by assumption) ?_
          rotate_left
          · intro w hSw
            (try dsimp only at hSw)
            go_simp
            (try (with_reducible rfl))
          try simp only [Act.put, List.setIfInBounds_toArray, List.set_cons_zero, List.set_cons_succ]
          refine wpAnyH_take (i := 7) (oi := { dst := some 68, op := _, type := _, pos := _, after := _, guard := _ }) (v := ?_) rfl (by kernel_rfl) (by kernel_rfl) (by kernel_rfl) (fun _ _ _ h => h) (Or.inl ⟨by rfl, ?_⟩) (by assumption) ?_
          rotate_left
          · intro w hSw
            (try dsimp only at hSw)
            go_simp
            (try (with_reducible rfl))
          try simp only [Act.put, List.setIfInBounds_toArray, List.set_cons_zero, List.set_cons_succ]
          refine wpAnyH_take (i := 8) (oi := { dst := some 69, op := _, type := _, pos := _, after := _, guard := _ }) (v := ?_) rfl (by kernel_rfl) (by kernel_rfl) (by kernel_rfl) (fun _ _ _ h => h) (Or.inl ⟨by rfl, ?_⟩) (by assumption) ?_
          rotate_left
          · intro w hSw
            (try dsimp only at hSw)
            go_simp
            (try (with_reducible rfl))
          try simp only [Act.put, List.setIfInBounds_toArray, List.set_cons_zero, List.set_cons_succ]
          refine wpAnyH_take (i := 9) (oi := { dst := some 70, op := _, type := _, pos := _, after := _, guard := _ }) (v := ?_) rfl (by kernel_rfl) (by kernel_rfl) (by kernel_rfl) (fun _ _ _ h => h) (Or.inl ⟨by rfl, ?_⟩) (by assumption) ?_
          rotate_left
          · intro w hSw
            (try dsimp only at hSw)
            go_simp
            (try (with_reducible rfl))
          try simp only [Act.put, List.setIfInBounds_toArray, List.set_cons_zero, List.set_cons_succ]
          refine wpAnyH_take (i := 10) (oi := { dst := some 71, op := _, type := _, pos := _, after := _, guard := _ }) (v := ?_) rfl (by kernel_rfl) (by kernel_rfl) (by kernel_rfl) (fun _ _ _ h => h) (Or.inl ⟨by rfl, ?_⟩) (by assumption) ?_
          rotate_left
          · intro w hSw
            (try dsimp only at hSw)
            go_simp
            (try (with_reducible rfl))
          try simp only [Act.put, List.setIfInBounds_toArray, List.set_cons_zero, List.set_cons_succ]
          refine wpAnyH_take (i := 11) (oi := { dst := some 72, op := _, type := _, pos := _, after := _, guard := _ }) (v := ?_) rfl (by kernel_rfl) (by kernel_rfl) (by kernel_rfl) (fun _ _ _ h => h) (Or.inl ⟨by rfl, ?_⟩) (by assumption) ?_
          rotate_left
          · intro w hSw
            (try dsimp only at hSw)
            go_simp
            (try (with_reducible rfl))
          try simp only [Act.put, List.setIfInBounds_toArray, List.set_cons_zero, List.set_cons_succ]
          refine wpAnyH_take (i := 12) (oi := { dst := some 73, op := _, type := _, pos := _, after := _, guard := _ }) (v := ?_) rfl (by kernel_rfl) (by kernel_rfl) (by kernel_rfl) (fun _ _ _ h => h) (Or.inl ⟨by rfl, ?_⟩) (by assumption) ?_
          rotate_left
          · intro w hSw
            (try dsimp only at hSw)
            go_simp
            (try (with_reducible rfl))
          try simp only [Act.put, List.setIfInBounds_toArray, List.set_cons_zero, List.set_cons_succ]
          refine wpAnyH_take (i := 13) (oi := { dst := some 74, op := _, type := _, pos := _, after := _, guard := _ }) (v := ?_) rfl (by kernel_rfl) (by kernel_rfl) (by kernel_rfl) (fun _ _ _ h => h) (Or.inl ⟨by rfl, ?_⟩) (by assumption) ?_
          rotate_left
          · intro w hSw
            (try dsimp only at hSw)
            go_simp
            (try (with_reducible rfl))
          try simp only [Act.put, List.setIfInBounds_toArray, List.set_cons_zero, List.set_cons_succ]
          refine wpAnyH_take (i := 14) (oi := { dst := some 75, op := _, type := _, pos := _, after := _, guard := _ }) (v := ?_) rfl (by kernel_rfl) (by kernel_rfl) (by kernel_rfl) (fun _ _ _ h => h) (Or.inl ⟨by rfl, ?_⟩) (by assumption) ?_
          rotate_left
          · intro w hSw
            (try dsimp only at hSw)
            go_simp
            (try (with_reducible rfl))
          try simp only [Act.put, List.setIfInBounds_toArray, List.set_cons_zero, List.set_cons_succ]
          refine wpAnyH_take (i := 15) (oi := { dst := some 76, op := _, type := _, pos := _, after := _, guard := _ }) (v := ?_) rfl (by kernel_rfl) (by kernel_rfl) (by kernel_rfl) (fun _ _ _ h => h) (Or.inl ⟨by rfl, ?_⟩) (by assumption) ?_
          rotate_left
          · intro w hSw
            (try dsimp only at hSw)
            go_simp
            (try (with_reducible rfl))
          try simp only [Act.put, List.setIfInBounds_toArray, List.set_cons_zero, List.set_cons_succ]
          refine wpAnyH_take (i := 16) (oi := { dst := some 77, op := _, type := _, pos := _, after := _, guard := _ }) (v := ?_) rfl (by kernel_rfl) (by kernel_rfl) (by kernel_rfl) (fun _ _ _ h => h) (Or.inl ⟨by rfl, ?_⟩) (by assumption) ?_
          rotate_left
          · intro w hSw
            (try dsimp only at hSw)
            go_simp
            (try (with_reducible rfl))
          try simp only [Act.put, List.setIfInBounds_toArray, List.set_cons_zero, List.set_cons_succ]
          refine wpAnyH_take (i := 17) (oi := { dst := some 78, op := _, type := _, pos := _, after := _, guard := _ }) (v := ?_) rfl (by kernel_rfl) (by kernel_rfl) (by kernel_rfl) (fun _ _ _ h => h) (Or.inl ⟨by rfl, ?_⟩) (by assumption) ?_
          rotate_left
          · intro w hSw
            (try dsimp only at hSw)
            go_simp
            (try (with_reducible rfl))
          try simp only [Act.put, List.setIfInBounds_toArray, List.set_cons_zero, List.set_cons_succ]
          refine wpAnyH_take (i := 18) (oi := { dst := some 79, op := _, type := _, pos := _, after := _, guard := _ }) (v := ?_) rfl (by kernel_rfl) (by kernel_rfl) (by kernel_rfl) (fun _ _ _ h => h) (Or.inl ⟨by rfl, ?_⟩) (by assumption) ?_
          rotate_left
          · intro w hSw
            (try dsimp only at hSw)
            go_simp
            (try (with_reducible rfl))
          try simp only [Act.put, List.setIfInBounds_toArray, List.set_cons_zero, List.set_cons_succ]
          refine wpAnyH_take (i := 19) (oi := { dst := some 80, op := _, type := _, pos := _, after := _, guard := _ }) (v := ?_) rfl (by kernel_rfl) (by kernel_rfl) (by kernel_rfl) (fun _ _ _ h => h) (Or.inl ⟨by rfl, ?_⟩) (by assumption) ?_
          rotate_left
          · intro w hSw
            (try dsimp only at hSw)
            go_simp
            (try (with_reducible rfl))
          try simp only [Act.put, List.setIfInBounds_toArray, List.set_cons_zero, List.set_cons_succ]
          refine wpAnyH_take (i := 20) (oi := { dst := some 81, op := _, type := _, pos := _, after := _, guard := _ }) (v := ?_) rfl (by kernel_rfl) (by kernel_rfl) (by kernel_rfl) (fun _ _ _ h => h) (Or.inl ⟨by rfl, ?_⟩) (by assumption) ?_
          rotate_left
          · intro w hSw
            (try dsimp only at hSw)
            go_simp
            (try (with_reducible rfl))
          try simp only [Act.put, List.setIfInBounds_toArray, List.set_cons_zero, List.set_cons_succ]
          refine wpAnyH_ready (rs := [21]) (by kernel_rfl) (by simp) ?_
          refine AllReadyH.cons (o := { dst := some 82, op := _, type := _, pos := _, after := _, guard := _ }) rfl (fun K hK => ?_) AllReadyH.nil
          go_simp
          refine (HN1.out _).mono ?_
          rintro e wA ⟨rfl, hqA⟩
          replace BV := BV.below hqA
          replace BQ := BQ.below hqA
          replace hO := hO.below hqA
          replace hM := hM.below hqA
          replace hbw := chain hbw hqA
          replace u0 := CellIs.below u0 hqA
          replace u1 := CellIs.below u1 hqA
          replace t0 := CellIs.below t0 hqA
          replace t1 := CellIs.below t1 hqA
          (try go_wp2_with fail)
          refine hK.out _ _ ⟨BQ.two.1, BQ.two.2.1, u0, u1, t0, t1⟩ (fun hHeld => ?_)
          clear hK K
          try simp only [Act.put, List.setIfInBounds_toArray, List.set_cons_zero, List.set_cons_succ]
          refine wpAnyH_ready (rs := [22]) (by kernel_rfl) (by simp) ?_
          refine AllReadyH.cons (o := { dst := some 83, op := _, type := _, pos := _, after := _, guard := _ }) rfl (fun K hK => ?_) AllReadyH.nil
          go_simp
          refine (HN2.out _).mono ?_
          rintro e wB ⟨rfl, hqB⟩
          replace BV := BV.below hqB
          replace BQ := BQ.below hqB
          replace hO := hO.below hqB
          replace hM := hM.below hqB
          replace hbw := chain hbw hqB
          replace u0 := CellIs.below u0 hqB
          replace u1 := CellIs.below u1 hqB
          replace t0 := CellIs.below t0 hqB
          replace t1 := CellIs.below t1 hqB
          (try go_wp2_with fail)
          refine hK.out _ _ ⟨BQ.two.1, BQ.two.2.1, u0, u1, t0, t1⟩ (fun hHeld => ?_)
          clear hK K
          try simp only [Act.put, List.setIfInBounds_toArray, List.set_cons_zero, List.set_cons_succ]
          refine wpAnyH_take (i := 23) (oi := { dst := some 84, op := _, type := _, pos := _, after := _, guard := _ }) (v := ?_) rfl (by kernel_rfl) (by kernel_rfl) (by kernel_rfl) (fun _ _ _ h => h) (Or.inl ⟨by rfl, ?_⟩) (by assumption) ?_
          rotate_left
          · intro w hSw
            (try dsimp only at hSw)
            go_simp
            (try (with_reducible rfl))
          try simp only [Act.put, List.setIfInBounds_toArray, List.set_cons_zero, List.set_cons_succ]
          refine wpAnyH_take (i := 24) (oi := { dst := some 85, op := _, type := _, pos := _, after := _, guard := _ }) (v := ?_) rfl (by kernel_rfl) (by kernel_rfl) (by kernel_rfl) (fun _ _ _ h => h) (Or.inl ⟨by rfl, ?_⟩) (by assumption) ?_
          rotate_left
          · intro w hSw
            (try dsimp only at hSw)
            go_simp
            (try (with_reducible rfl))
          try simp only [Act.put, List.setIfInBounds_toArray, List.set_cons_zero, List.set_cons_succ]
          refine wpAnyH_done (by kernel_rfl) ?_ _
          clear hHeld
          go_wp2
          go_roundg (L.length - (k + 1))
          case measure => omega
          case rel => exact ⟨k + 1, by omega, rfl, by rw [HY.out], by go_num, hbw, BV, hO, hM⟩
        · obtain rfl : k = L.length := by omega
          have e0 : ((L.length : Int) == (N : Int)) = true := by rw [beq_iff_eq]; omega
          go_wp2
          go_ret
          exact ⟨by first | rfl | simp | (simp; omega), hbw⟩
set_option maxRecDepth 100000 in
theorem fnSeeds_lifted (os : Os) (started : os.Started) (H : Type) (enc : TypeId × Value → H) :
    ReturnsInHanded {} Try.checked os 4 .any (Rows.fnSeedsSpec.pre6 enc Try.prog Try.f4 Rows.fnSeedsRow.domain false) (Rows.fnSeedsSpec.post enc Try.prog Try.f4 false true false false) := by
  refine returnsInHanded_of_change (C := Try.checked) own started (by kernel_rfl) Try.func4
    (ChangeSpec.witness6 (enc := enc) (C := Try.checked) false ⟨#[], #[.slice none 0 0], []⟩ 8 (by kernel_rfl) (by kernel_rfl) (by kernel_rfl) (by kernel_rfl)) ?_
  intro W base args ds gs before hval0 hW hcnd _
  have hval : ∀ (j : Nat) t v, Try.f4.params[j]? = some t → args[j]? = some v → Value.okWide Try.prog W .any base t v := hval0
  have hW' := hW
  obtain ⟨p, q, hA0, hV, rfl, hfz, hnd⟩ := hW
  have hA : DataW.TrodAll enc Try.prog W 0 (fun _ => true) true Try.f4.params.toList args.toList ds p := hA0
  rw [Try.params4] at hA hval
  obtain ⟨v0, vs0, d0, ds0, p0, q0, hargs, rfl, rfl, h0, r0⟩ := trodAll_cons hA
  obtain ⟨rfl, rfl, rfl⟩ := trodAll_nil r0
  obtain rfl : args = #[v0] := by cases args; simp_all
  obtain ⟨rfl, rfl⟩ := trodVars_none hV
  have k0 := h0
  have lt0 : ∀ x ∈ p0, x.block < W.heap.size := by obtain ⟨m, hm⟩ := k0; exact DataW.trod_lt m _ _ _ hm
  obtain ⟨sa_0, sl_0, sc_0, rfl⟩ := okWide_slice Try.underlying22 (hval 0 22 v0 rfl rfl)
  have hcode_0 : CodeIn W.heap.size W sa_0 sl_0 := by
    obtain ⟨fuel, hf⟩ := h0
    rcases open_ints Try.underlying22 Try.underlying5 (by kernel_rfl) hf with ⟨hcs, _⟩ | ⟨x, l, c, zs, hcs, _, hl, hm, hz, _, hcell, hwz⟩
    · simp [Value.cells] at hcs
      obtain ⟨rfl, rfl, rfl⟩ := hcs
      intro i hi
      omega
    · simp [Value.cells] at hcs
      obtain ⟨rfl, rfl, rfl⟩ := hcs
      exact code_of_ints (by have hz2 := hz; simp at hz2; omega) trivial hcell hwz
  clear hA0 hval0
  refine (fnSeeds_walk sa_0 sl_0 sc_0 W hcode_0).mono fun e W' ⟨he, bel⟩ => ?_
  subst he
  exact ⟨_, rfl, _, _, _, [], _, [], hW', trodAll_mk1 (shut_bool Try.underlying4 _), (trodAll_cons_mk (Below.trod laidOut (by kernel_rfl) (of_decide_eq_true (by kernel_rfl)) k0 bel lt0) trodAll_mk0), rfl, bel.frame _, fun h => by cases h⟩
theorem fnSeeds_holds : Rows.FnSeedsSaid :=
  OpenClaim.holds_of_wide 4 Try.f4 rfl rfl rfl rfl rfl rfl rfl ⟨rfl, rfl, rfl, rfl, rfl⟩ rfl rfl rfl rfl rfl (by kernel_rfl) Try.func4 (by kernel_rfl)
    (of_decide_eq_true (by kernel_rfl)) (by unfold Func.isWrapper; first | (rw [if_pos (by decide +kernel)]; kernel_rfl) | (rw [if_neg (by decide +kernel)]; exact ⟨rfl, rfl⟩))
    (fun os started H enc _ => fnSeeds_lifted os started H enc)
end Go.Proofs.Ytcmfknkdfkchmaa
