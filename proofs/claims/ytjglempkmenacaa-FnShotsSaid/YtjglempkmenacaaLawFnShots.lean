/- The law of chapter 4 on direct shots holds: for every code the law returns true and the code reads behind the call as it read before. No conditions. -/
import Derived.Test.YtjglempkmenacaaDraw6
import Derived.Test.YtjglempkmenacaaLike
import Derived.Test.YtjglempkmenacaaStepA
import Derived.Test.Ytjglempkmenacaa04r
import Derived.Test.Ytjglempkmenacaa04t
import Derived.Test.YtjglempkmenacaaSwapI
import Derived.Test.YtjglempkmenacaaOpen
import Derived.ChangeOld
namespace Go.Proofs.Ytjglempkmenacaa
open Go.ChangeMaps (open_string shut_string)
open Go.ChangeShapes Go.WideShapes Go.ChangeAt Go.RowKit
set_option linter.unusedVariables false
set_option linter.unusedSimpArgs false
set_option maxRecDepth 4000

theorem code_of_ints {w : World} {x : Addr} {len : Nat} {zs : List Int} (hl : len ≤ zs.length) (_hz : True) (hcell : ∀ i, i < zs.length → w.cell? (x.add i) = some (.int .u8 (zs.getD i 0))) (hwz : ∀ n ∈ zs, (Lit.int .u8 n).wf = true) : CodeIn w.heap.size w (some x) len := by
  intro i hi
  obtain ⟨b, o, spot⟩ := x
  have hc := hcell i (by omega)
  have hspot : spot = none := by
    have hc0 := hcell 0 (by omega)
    simpa [Addr.add] using World.cell?_spot hc0
  subst hspot
  rw [show (⟨b, o, none⟩ : Addr).add i = ⟨b, o + i, none⟩ from by unfold Addr.add; split <;> simp_all] at hc
  have hm : zs.getD i 0 ∈ zs := by
    have : i < zs.length := by omega
    simp [List.getD, this]
  have hw := hwz _ hm
  have hr : 0 ≤ zs.getD i 0 ∧ zs.getD i 0 ≤ 255 := by simpa [Lit.wf, IntKind.min, IntKind.max, IntKind.signed, IntKind.bits] using hw
  exact ⟨b, o, zs.getD i 0, rfl, World.block_lt_of_cell? w _ hc, hc, hr.1, hr.2⟩
theorem mem_dices (D : Int → Bool) : ∀ (k : Nat) (d : Int), d ∈ dicesTo D k ↔ 1 ≤ d ∧ d ≤ (k : Int) ∧ D d = true
  | 0, d => by simp [dicesTo]; omega
  | k + 1, d => by
    rw [dicesTo, List.mem_append, mem_dices D k d]
    constructor
    · rintro (⟨h1, h2, h3⟩ | h)
      · exact ⟨h1, by omega, h3⟩
      · split at h
        · rename_i hD
          simp at h
          subst h
          exact ⟨by omega, by omega, hD⟩
        · simp at h
    · rintro ⟨h1, h2, h3⟩
      by_cases e : d = (k : Int) + 1
      · right
        subst e
        rw [if_pos h3]
        simp
      · exact .inl ⟨h1, by omega, h3⟩
theorem apartB_swap {P : Nat} {xs ys : List Int} (h : apartB P xs ys = true) : apartB P ys xs = true := by
  rw [apart_iff] at h ⊢
  intro i hi
  have h2 := h (P - 1 - i) (by omega)
  rw [show P - 1 - (P - 1 - i) = i by omega] at h2
  exact fun ⟨a, b⟩ => h2 ⟨b, a⟩
theorem isB_swap {p c h s : Int} {xs ys : List Int} (g : isB p c h s xs ys = true) : isB p c h s ys xs = true := by
  simp only [isB, Bool.and_eq_true] at g ⊢
  obtain ⟨g0, g1, g2, g3, g4⟩ := g
  exact ⟨g0, g2, g1, by rw [Int.add_comm]; exact g3, apartB_swap g4⟩
theorem shots_fact {P : Nat} {c h s i : Int} {xs ys : List Int} (g : isB (P : Int) c h s xs ys = true) (gb : blotB P xs i = true) (d : Int) (d1 : 1 ≤ d) (ds : d ≤ s) :
    (htL (P : Int) c h s ys xs d).any (fun t => t.2.1 == (P : Int) - 1 - i) = decide (d ∈ dsL (P : Int) c h s xs ys i) := by
  have gi : inB d 1 s = true := by simp [inB]; omega
  have e1 : htL (P : Int) c h s ys xs d = hitL (legL P h ys xs d) := by
    unfold htL lsL
    rw [if_pos (isB_swap g), if_pos gi]
    simp
  have e2 : dsL (P : Int) c h s xs ys i = dicesTo (shotB P h xs ys i) s.toNat := by
    unfold dsL
    rw [if_pos g, show ((P : Int)).toNat = P by simp, if_pos gb]
  rw [e1, e2, hit_any P h xs ys i d gb, Bool.eq_iff_iff, decide_eq_true_eq, mem_dices]
  unfold shotB
  constructor
  · exact fun h => ⟨d1, by omega, h⟩
  · exact fun h => h.2.2
theorem mem_blots (xs : List Int) : ∀ (n : Nat) (k : Nat), k < n → xs.getD k 0 = 1 → (k : Int) ∈ blotsTo xs n
  | 0, k, h, _ => by omega
  | n + 1, k, h, e => by
    rw [blotsTo, List.mem_append]
    by_cases hk : k = n
    · subst hk
      right
      rw [if_pos e]
      simp
    · exact .inl (mem_blots xs n k (by omega) e)
set_option maxRecDepth 8000 in
set_option maxHeartbeats 1500000 in
theorem fnShots_walk (a : Option Addr) (len cap : Nat) (w : World) (hcode : CodeIn w.heap.size w a len) :
    Calls Try.prog 5 #[.slice a len cap] w fun e w' => e = .returned (.bool true) ∧ Below w.heap.size w w' := by
  by_cases hbig : 4096 < len
  · have f0 : decide (4096 < (len : Int)) = true := by simp; omega
    go_enter Try.func5, Try.ntmps5
    go_wp2_with fail
    refine (big_any _ _ _ _).mono ?_
    rintro e w1 ⟨rfl, rfl⟩
    go_wp2
    go_ret
    exact ⟨rfl, Below.refl _ _⟩
  · have f0 : decide (4096 < (len : Int)) = false := by simp; omega
    go_enter Try.func5, Try.ntmps5
    go_wp2_with fail
    refine (big_any _ _ _ _).mono ?_
    rintro e w0 ⟨rfl, rfl⟩
    go_wp2_with fail
    refine (drawShots_any w.heap.size a len cap w (Nat.le_refl _) (by omega) hcode).mono ?_
    rintro e w1 ⟨p, c, h, s, g1, g2, n1, n2, c1, c2, xs, ys, i, rfl, hx, hy, l1, l2, R1, R2, hb⟩
    subst hx hy
    replace l1 : xs.length ≤ 1048576 := by omega
    replace l2 : ys.length ≤ 1048576 := by omega
    obtain ⟨BV, BB, hb2, hz⟩ := two_new w1 #[.int .i64 p, .int .i64 c, .int .i64 h, .int .i64 s] #[.slice (some ⟨g1, 0, none⟩) xs.length c1, .slice (some ⟨g2, 0, none⟩) ys.length c2] 25 28
    have r1 := R1.irow.below hb2
    have r2 := R2.irow.below hb2
    replace hb := chain hb hb2
    clear hb2 R1 R2 f0
    obtain ⟨x0, x1, x2, x3, xf, xl⟩ := BV.four
    obtain ⟨y0, y1, yf, yl⟩ := BB.two
    go_wp2_with fail
    generalize ((w1.alloc (.cells #[.int .i64 p, .int .i64 c, .int .i64 h, .int .i64 s] 25)).alloc (.cells #[.slice (some ⟨g1, 0, none⟩) xs.length c1, .slice (some ⟨g2, 0, none⟩) ys.length c2] 28)) = v1 at *
    have hd1 := fun W (hW : Below v1.heap.size v1 W) => directShots_any i p c h s (some ⟨g1, 0, none⟩) (some ⟨g2, 0, none⟩) xs.length ys.length c1 c2 xs ys W rfl rfl l1 l2 (r1.below hW) (r2.below hW)
    have hd2 := fun W (hW : Below v1.heap.size v1 W) => specDirectShots_any i p c h s (some ⟨g1, 0, none⟩) (some ⟨g2, 0, none⟩) xs.length ys.length c1 c2 xs ys W rfl rfl l1 l2 (r1.below hW) (r2.below hW)
    have hDl := dsL_length p c h s xs ys i
    by_cases g : isB p c h s xs ys = true ∧ blotB p.toNat xs i = true
    · obtain ⟨g, gb⟩ := g
      obtain ⟨p0, p1, k0, k1, k2, k3, N1, N2, hx, hy, s0, s1, s2, s3⟩ := isB_parts g
      obtain ⟨P, rfl⟩ := Int.eq_ofNat_of_zero_le (by omega : 0 ≤ p)
      rw [show ((P : Int)).toNat = P by simp] at gb
      have hs6 := isB_sides g
      obtain ⟨S, rfl⟩ := Int.eq_ofNat_of_zero_le (by omega : 0 ≤ s)
      have gs := isB_swap g
      have hsf := fun d d1 ds => shots_fact g gb d d1 ds
      have hDR : dsR (P : Int) c h (S : Int) xs ys i = 0 := by unfold dsR; rw [if_pos g, show ((P : Int)).toNat = P by simp, if_pos gb]
      have hBR : blR (P : Int) c h (S : Int) xs ys = 0 := by unfold blR; rw [if_pos g]
      have gb' := gb
      simp only [blotB, Bool.and_eq_true, decide_eq_true_eq] at gb'
      have hi0 : 0 ≤ i := gb'.1
      have hiP : i < (P : Int) := gb'.2.1
      have hBM : decide (i ∈ blL (P : Int) c h (S : Int) xs ys) = true := by
        rw [decide_eq_true_eq]
        unfold blL
        rw [if_pos g, show ((P : Int)).toNat = P by simp]
        have := mem_blots xs P i.toNat (by omega) gb'.2.2
        rw [show ((i.toNat : Nat) : Int) = i by omega] at this
        exact this
      have hbl := fun W (hW : Below v1.heap.size v1 W) => blotsOf_any (P : Int) c h (S : Int) (some ⟨g1, 0, none⟩) (some ⟨g2, 0, none⟩) xs.length ys.length c1 c2 xs ys W rfl rfl l1 l2 (r1.below hW) (r2.below hW)
      have hsw := fun W (hW : Below v1.heap.size v1 W) => swapBoard_any (P : Int) c h (S : Int) (some ⟨g1, 0, none⟩) (some ⟨g2, 0, none⟩) xs.length ys.length c1 c2 xs ys W rfl rfl l1 l2 (r1.below hW) (r2.below hW)
      have hBl := blL_length (P : Int) c h (S : Int) xs ys
      have e1 : swL (P : Int) c h (S : Int) xs ys ys = ys := by unfold swL; rw [if_pos g]
      have e2 : swL (P : Int) c h (S : Int) xs ys xs = xs := by unfold swL; rw [if_pos g]
      rw [e1, e2] at hsw
      have hht := fun (d : Int) (d1 : 1 ≤ d) (ds : d ≤ (S : Int)) d3 d4 k5 k6 W (q1 : IRow W d3 ys) (q2 : IRow W d4 xs) => by
        have t := hitSteps_any d (P : Int) c h (S : Int) d3 d4 ys.length xs.length k5 k6 ys xs W rfl rfl l2 l1 q1 q2
        rw [show lsR (P : Int) c h (S : Int) ys xs d = 0 by unfold lsR; rw [if_pos gs, if_pos (by simp [inB]; omega)]] at t
        exact t
      have hhl := fun d => htL_length (P : Int) c h (S : Int) ys xs d
      obtain ⟨DS, hDS⟩ : ∃ L, dsL (P : Int) c h (S : Int) xs ys i = L := ⟨_, rfl⟩
      obtain ⟨BS, hBS⟩ : ∃ L, blL (P : Int) c h (S : Int) xs ys = L := ⟨_, rfl⟩
      rw [hDS, hDR] at hd1 hd2
      rw [hBS, hBR] at hbl
      rw [hDS] at hDl
      rw [hBS] at hBM hBl
      have hPI : (P : Int) ≤ 24 := p1
      have hSI : (S : Int) ≤ 6 := hs6.2
      have wzA : IntKind.i64.wrap ((P : Int) - 1) = (P : Int) - 1 := IntWalk.i64_in _ (by omega)
      have wzB : IntKind.i64.wrap ((P : Int) - 1 - i) = (P : Int) - 1 - i := IntWalk.i64_in _ (by omega)
      have HD1 := Lib.hid hd1
      have HD2 := Lib.hid hd2
      have HBL := Lib.hid hbl
      have HSW := Lib.hid hsw
      have HHT := Lib.hid hht
      have HSF := Lib.hid hsf
      have HDS := Lib.hid hDS
      have HHL := Lib.hid hhl
      have HBM := Lib.hid hBM
      clear hd1 hd2 hbl hsw hht hsf hDR hBR hDS hBS g gs gb gb' hx hy e1 e2 hhl hBM
      refine (HD1.out _ (Below.refl _ _)).mono ?_
      rintro e w2 ⟨a3, k3, rfl, O3, hb2⟩
      have hbc : Below v1.heap.size v1 w2 := hb2
      clear x0 x1 x2 x3 xf xl y0 y1 yf yl
      obtain ⟨x0, x1, x2, x3, xf, xl⟩ := (BV.below hbc).four
      obtain ⟨y0, y1, yf, yl⟩ := (BB.below hbc).two
      go_wp2_with fail
      refine (HD2.out _ hbc).mono ?_
      rintro e w3 ⟨a4, k4, rfl, O4, hb3⟩
      replace O3 := O3.below hb3
      replace hbc := chain hbc hb3
      clear hb2 hb3
      go_wp2_with fail
      refine (likeInts_same a3 a4 DS.length k3 k4 DS _ rfl hDl O3.irow O4.irow).mono ?_
      rintro e w4 ⟨rfl, hb4⟩
      replace hbc := chain hbc hb4
      replace O3 := O3.below hb4
      clear hb4 O4
      clear x0 x1 x2 x3 xf xl y0 y1 yf yl
      obtain ⟨x0, x1, x2, x3, xf, xl⟩ := (BV.below hbc).four
      obtain ⟨y0, y1, yf, yl⟩ := (BB.below hbc).two
      go_wp2_with fail
      refine (HBL.out _ hbc).mono ?_
      rintro e w5 ⟨a5, k5, rfl, O5, hb5⟩
      replace O3 := O3.below hb5
      replace hbc := chain hbc hb5
      clear hb5
      clear x0 x1 x2 x3 xf xl y0 y1 yf yl
      obtain ⟨x0, x1, x2, x3, xf, xl⟩ := (BV.below hbc).four
      obtain ⟨y0, y1, yf, yl⟩ := (BB.below hbc).two
      go_wp2_with fail
      refine (HSW.out _ hbc).mono ?_
      rintro e w6 ⟨d3, d4, k6, k7, rfl, O6, hb6⟩
      have hal : Below w6.heap.size w6 (w6.alloc (.cells #[.slice d3 ys.length k6, .slice d4 xs.length k7] 28)) := (Below.refl _ _).alloc (Nat.le_refl _) _
      have BT := Blk.new w6 #[.slice d3 ys.length k6, .slice d4 xs.length k7] 28
      replace O3 := (O3.below hb6).below hal
      replace O5 := (O5.below hb6).below hal
      replace O6 := O6.below hal
      replace hbc := chain (chain hbc hb6) hal
      clear hal hb6
      clear x0 x1 x2 x3 xf xl y0 y1 yf yl
      go_wp2_with fail
      generalize (w6.alloc (.cells #[.slice d3 ys.length k6, .slice d4 xs.length k7] 28)) = v2 at *
      replace BV := BV.below hbc
      replace hb := chain hb hbc
      clear hbc
      obtain ⟨bt, hbt⟩ : ∃ b, w6.heap.size = b := ⟨_, rfl⟩
      rw [hbt] at BT ⊢
      clear hbt
      go_loopg [13, 14, 15, 16, 17] S (fun m q13 q14 q15 q16 q17 wr => ∃ j : Nat, 1 ≤ j ∧ j ≤ S + 1 ∧ m = S + 1 - j ∧ q13 = .int .i64 j ∧ Below v2.heap.size v2 wr)
      case atStart => exact ⟨1, by omega, by omega, by omega, rfl, Below.refl _ _⟩
      case round =>
        obtain ⟨j, j1, jS, hm, rfl, hbel⟩ := hrel
        obtain ⟨x0, x1, x2, x3, xf, xl⟩ := (BV.below hbel).four
        obtain ⟨z0, z1, zf, zl⟩ := (BT.below hbel).two
        by_cases hlt : j ≤ S
        · have hlt' : (j : Int) ≤ (S : Int) := by omega
          have hsh := HSF.out (j : Int) (by omega) (by omega)
          have hhj := HHT.out (j : Int) (by omega) (by omega) d3 d4 k6 k7
          have hhl := HHL.out (j : Int)
          obtain ⟨HH, hHH⟩ : ∃ L, htL (P : Int) c h (S : Int) ys xs (j : Int) = L := ⟨_, rfl⟩
          rw [hHH] at hhj hsh hhl
          rw [HDS.out] at hsh
          have HHJ := Lib.hid hhj
          have HSH := Lib.hid hsh
          clear hHH hhj hsh
          go_wp2_with fail
          refine (HHJ.out _ (O6.below hbel).irow1 (O6.below hbel).irow2).mono ?_
          rintro e w7 ⟨a7, k8, rfl, O7, hb7⟩
          replace hbel := chain hbel hb7
          clear hb7 x0 x1 x2 x3 xf xl z0 z1 zf zl
          go_wp2_with fail
          go_loopg [16, 17] HH.length (fun m q16 q17 wr => ∃ k : Nat, k ≤ HH.length ∧ m = HH.length - k ∧ q17 = .int .i64 k ∧ q16 = .bool ((HH.take k).any (fun t => t.2.1 == (P : Int) - 1 - i)) ∧ Below w7.heap.size w7 wr)
          case atStart => exact ⟨0, by omega, by omega, rfl, by simp, Below.refl _ _⟩
          case round =>
            obtain ⟨k, hk, hm2, rfl, rfl, hb8⟩ := hrel
            have hbz := chain hbel hb8
            obtain ⟨x0, x1, x2, x3, xf, xl⟩ := (BV.below hbz).four
            by_cases hlk : k < HH.length
            · have hlk' : (k : Int) < (HH.length : Int) := by omega
              have hk0 : (0 : Int) ≤ (k : Int) := by omega
              obtain ⟨g3, rfl, R3⟩ := (O7.below hb8).row hlk
              obtain ⟨t, ht⟩ : ∃ t, HH[k]? = some t := ⟨_, List.getElem?_eq_getElem hlk⟩
              have u1 := (R3.four k t ht).2.1
              have hF1 : (HH.take (k + 1)).any (fun t => t.2.1 == (P : Int) - 1 - i) = ((HH.take k).any (fun t => t.2.1 == (P : Int) - 1 - i) || (t.2.1 == (P : Int) - 1 - i)) := by
                rw [List.take_add_one, ht, List.any_append]
                simp
              obtain ⟨F, hF⟩ : ∃ F, (HH.take k).any (fun t => t.2.1 == (P : Int) - 1 - i) = F := ⟨_, rfl⟩
              rw [hF] at hF1 ⊢
              obtain ⟨t1, t2, t3, t4⟩ := t
              dsimp only at u1 hF1
              have HF1 := Lib.hid hF1
              clear R3 ht hF hF1
              cases F with
              | true =>
                go_wp2_with fail
                refine wp_region_held_drew (S := fun w' => w'.cell? ⟨g3, k * 4 + 1, none⟩ = some (.int .i64 t2) ∧ w'.cell? ⟨w1.heap.size, 0, none⟩ = some (.int .i64 (P : Int))) (by kernel_rfl) ⟨u1, x0⟩ (fun hHeld => ?_)
                refine wpAnyH_take (i := 0) (oi := { dst := some 79, op := _, type := _, pos := _, after := _, guard := _ }) (v := ?_) rfl (by kernel_rfl) (by kernel_rfl) (by kernel_rfl) (fun _ _ _ h => h) (Or.inl ⟨by rfl, ?_⟩) (by assumption) ?_
                rotate_left
                · intro w hSw
                  (try dsimp only at hSw)
                  go_simp
                  (try (with_reducible rfl))
                try simp only [Act.put, List.setIfInBounds_toArray, List.set_cons_zero, List.set_cons_succ]
                refine wpAnyH_take (i := 1) (oi := { dst := some 80, op := _, type := _, pos := _, after := _, guard := _ }) (v := ?_) rfl (by kernel_rfl) (by kernel_rfl) (by kernel_rfl) (fun _ _ _ h => h) (Or.inl ⟨by rfl, ?_⟩) (by assumption) ?_
                rotate_left
                · intro w hSw
                  (try dsimp only at hSw)
                  go_simp
                  (try (with_reducible rfl))
                try simp only [Act.put, List.setIfInBounds_toArray, List.set_cons_zero, List.set_cons_succ]
                refine wpAnyH_take (i := 2) (oi := { dst := some 81, op := _, type := _, pos := _, after := _, guard := _ }) (v := undef) rfl (by kernel_rfl) (by kernel_rfl) (by kernel_rfl) (fun _ _ _ h => h) (Or.inr ⟨by rfl, rfl⟩) (by assumption) ?_
                try simp only [Act.put, List.setIfInBounds_toArray, List.set_cons_zero, List.set_cons_succ]
                refine wpAnyH_take (i := 3) (oi := { dst := some 82, op := _, type := _, pos := _, after := _, guard := _ }) (v := undef) rfl (by kernel_rfl) (by kernel_rfl) (by kernel_rfl) (fun _ _ _ h => h) (Or.inr ⟨by rfl, rfl⟩) (by assumption) ?_
                try simp only [Act.put, List.setIfInBounds_toArray, List.set_cons_zero, List.set_cons_succ]
                refine wpAnyH_take (i := 4) (oi := { dst := some 83, op := _, type := _, pos := _, after := _, guard := _ }) (v := undef) rfl (by kernel_rfl) (by kernel_rfl) (by kernel_rfl) (fun _ _ _ h => h) (Or.inr ⟨by rfl, rfl⟩) (by assumption) ?_
                try simp only [Act.put, List.setIfInBounds_toArray, List.set_cons_zero, List.set_cons_succ]
                refine wpAnyH_take (i := 5) (oi := { dst := some 84, op := _, type := _, pos := _, after := _, guard := _ }) (v := undef) rfl (by kernel_rfl) (by kernel_rfl) (by kernel_rfl) (fun _ _ _ h => h) (Or.inr ⟨by rfl, rfl⟩) (by assumption) ?_
                try simp only [Act.put, List.setIfInBounds_toArray, List.set_cons_zero, List.set_cons_succ]
                refine wpAnyH_take (i := 6) (oi := { dst := some 85, op := _, type := _, pos := _, after := _, guard := _ }) (v := undef) rfl (by kernel_rfl) (by kernel_rfl) (by kernel_rfl) (fun _ _ _ h => h) (Or.inr ⟨by rfl, rfl⟩) (by assumption) ?_
                try simp only [Act.put, List.setIfInBounds_toArray, List.set_cons_zero, List.set_cons_succ]
                refine wpAnyH_take (i := 7) (oi := { dst := some 86, op := _, type := _, pos := _, after := _, guard := _ }) (v := undef) rfl (by kernel_rfl) (by kernel_rfl) (by kernel_rfl) (fun _ _ _ h => h) (Or.inr ⟨by rfl, rfl⟩) (by assumption) ?_
                try simp only [Act.put, List.setIfInBounds_toArray, List.set_cons_zero, List.set_cons_succ]
                refine wpAnyH_take (i := 8) (oi := { dst := some 87, op := _, type := _, pos := _, after := _, guard := _ }) (v := undef) rfl (by kernel_rfl) (by kernel_rfl) (by kernel_rfl) (fun _ _ _ h => h) (Or.inr ⟨by rfl, rfl⟩) (by assumption) ?_
                try simp only [Act.put, List.setIfInBounds_toArray, List.set_cons_zero, List.set_cons_succ]
                refine wpAnyH_take (i := 9) (oi := { dst := some 88, op := _, type := _, pos := _, after := _, guard := _ }) (v := undef) rfl (by kernel_rfl) (by kernel_rfl) (by kernel_rfl) (fun _ _ _ h => h) (Or.inr ⟨by rfl, rfl⟩) (by assumption) ?_
                try simp only [Act.put, List.setIfInBounds_toArray, List.set_cons_zero, List.set_cons_succ]
                refine wpAnyH_take (i := 10) (oi := { dst := some 89, op := _, type := _, pos := _, after := _, guard := _ }) (v := undef) rfl (by kernel_rfl) (by kernel_rfl) (by kernel_rfl) (fun _ _ _ h => h) (Or.inr ⟨by rfl, rfl⟩) (by assumption) ?_
                try simp only [Act.put, List.setIfInBounds_toArray, List.set_cons_zero, List.set_cons_succ]
                refine wpAnyH_take (i := 11) (oi := { dst := some 90, op := _, type := _, pos := _, after := _, guard := _ }) (v := undef) rfl (by kernel_rfl) (by kernel_rfl) (by kernel_rfl) (fun _ _ _ h => h) (Or.inr ⟨by rfl, rfl⟩) (by assumption) ?_
                try simp only [Act.put, List.setIfInBounds_toArray, List.set_cons_zero, List.set_cons_succ]
                refine wpAnyH_take (i := 12) (oi := { dst := some 91, op := _, type := _, pos := _, after := _, guard := _ }) (v := undef) rfl (by kernel_rfl) (by kernel_rfl) (by kernel_rfl) (fun _ _ _ h => h) (Or.inr ⟨by rfl, rfl⟩) (by assumption) ?_
                try simp only [Act.put, List.setIfInBounds_toArray, List.set_cons_zero, List.set_cons_succ]
                refine wpAnyH_take (i := 13) (oi := { dst := some 92, op := _, type := _, pos := _, after := _, guard := _ }) (v := ?_) rfl (by kernel_rfl) (by kernel_rfl) (by kernel_rfl) (fun _ _ _ h => h) (Or.inl ⟨by rfl, ?_⟩) (by assumption) ?_
                rotate_left
                · intro w hSw
                  (try dsimp only at hSw)
                  go_simp
                  (try (with_reducible rfl))
                try simp only [Act.put, List.setIfInBounds_toArray, List.set_cons_zero, List.set_cons_succ]
                refine wpAnyH_take (i := 14) (oi := { dst := some 16, op := _, type := _, pos := _, after := _, guard := _ }) (v := ?_) rfl (by kernel_rfl) (by kernel_rfl) (by kernel_rfl) (fun _ _ _ h => h) (Or.inl ⟨by rfl, ?_⟩) (by assumption) ?_
                rotate_left
                · intro w hSw
                  (try dsimp only at hSw)
                  go_simp
                  (try (with_reducible rfl))
                try simp only [Act.put, List.setIfInBounds_toArray, List.set_cons_zero, List.set_cons_succ]
                refine wpAnyH_done (by kernel_rfl) ?_ _
                go_wp2
                go_roundg (HH.length - (k + 1))
                case measure => omega
                case rel => exact ⟨k + 1, by omega, rfl, by go_num, by rw [HF1.out]; rfl, hb8.drew⟩
              | false =>
                go_wp2_with fail
                refine wp_region_held_drew (S := fun w' => w'.cell? ⟨g3, k * 4 + 1, none⟩ = some (.int .i64 t2) ∧ w'.cell? ⟨w1.heap.size, 0, none⟩ = some (.int .i64 (P : Int))) (by kernel_rfl) ⟨u1, x0⟩ (fun hHeld => ?_)
                refine wpAnyH_take (i := 0) (oi := { dst := some 79, op := _, type := _, pos := _, after := _, guard := _ }) (v := ?_) rfl (by kernel_rfl) (by kernel_rfl) (by kernel_rfl) (fun _ _ _ h => h) (Or.inl ⟨by rfl, ?_⟩) (by assumption) ?_
                rotate_left
                · intro w hSw
                  (try dsimp only at hSw)
                  go_simp
                  (try (with_reducible rfl))
                try simp only [Act.put, List.setIfInBounds_toArray, List.set_cons_zero, List.set_cons_succ]
                refine wpAnyH_take (i := 1) (oi := { dst := some 80, op := _, type := _, pos := _, after := _, guard := _ }) (v := ?_) rfl (by kernel_rfl) (by kernel_rfl) (by kernel_rfl) (fun _ _ _ h => h) (Or.inl ⟨by rfl, ?_⟩) (by assumption) ?_
                rotate_left
                · intro w hSw
                  (try dsimp only at hSw)
                  go_simp
                  (try (with_reducible rfl))
                try simp only [Act.put, List.setIfInBounds_toArray, List.set_cons_zero, List.set_cons_succ]
                refine wpAnyH_take (i := 2) (oi := { dst := some 81, op := _, type := _, pos := _, after := _, guard := _ }) (v := ?_) rfl (by kernel_rfl) (by kernel_rfl) (by kernel_rfl) (fun _ _ _ h => h) (Or.inl ⟨by rfl, ?_⟩) (by assumption) ?_
                rotate_left
                · intro w hSw
                  (try dsimp only at hSw)
                  go_simp
                  (try (with_reducible rfl))
                try simp only [Act.put, List.setIfInBounds_toArray, List.set_cons_zero, List.set_cons_succ]
                refine wpAnyH_take (i := 3) (oi := { dst := some 82, op := _, type := _, pos := _, after := _, guard := _ }) (v := ?_) rfl (by kernel_rfl) (by kernel_rfl) (by kernel_rfl) (fun _ _ _ h => h) (Or.inl ⟨by rfl, ?_⟩) (by assumption) ?_
                rotate_left
                · intro w hSw
                  (try dsimp only at hSw)
                  go_simp
                  (try (with_reducible rfl))
                try simp only [Act.put, List.setIfInBounds_toArray, List.set_cons_zero, List.set_cons_succ]
                refine wpAnyH_take (i := 4) (oi := { dst := some 83, op := _, type := _, pos := _, after := _, guard := _ }) (v := ?_) rfl (by kernel_rfl) (by kernel_rfl) (by kernel_rfl) (fun _ _ _ h => h) (Or.inl ⟨by rfl, ?_⟩) (by assumption) ?_
                rotate_left
                · intro w hSw
                  (try dsimp only at hSw)
                  go_simp
                  (try (with_reducible rfl))
                try simp only [Act.put, List.setIfInBounds_toArray, List.set_cons_zero, List.set_cons_succ]
                refine wpAnyH_take (i := 5) (oi := { dst := some 84, op := _, type := _, pos := _, after := _, guard := _ }) (v := ?_) rfl (by kernel_rfl) (by kernel_rfl) (by kernel_rfl) (fun _ _ _ h => h) (Or.inl ⟨by rfl, ?_⟩) (by assumption) ?_
                rotate_left
                · intro w hSw
                  (try dsimp only at hSw)
                  go_simp
                  (try (with_reducible rfl))
                try simp only [Act.put, List.setIfInBounds_toArray, List.set_cons_zero, List.set_cons_succ]
                refine wpAnyH_take (i := 6) (oi := { dst := some 85, op := _, type := _, pos := _, after := _, guard := _ }) (v := ?_) rfl (by kernel_rfl) (by kernel_rfl) (by kernel_rfl) (fun _ _ _ h => h) (Or.inl ⟨by rfl, ?_⟩) (by assumption) ?_
                rotate_left
                · intro w hSw
                  (try dsimp only at hSw)
                  go_simp
                  (try (with_reducible rfl))
                try simp only [Act.put, List.setIfInBounds_toArray, List.set_cons_zero, List.set_cons_succ]
                refine wpAnyH_take (i := 7) (oi := { dst := some 86, op := _, type := _, pos := _, after := _, guard := _ }) (v := ?_) rfl (by kernel_rfl) (by kernel_rfl) (by kernel_rfl) (fun _ _ _ h => h) (Or.inl ⟨by rfl, ?_⟩) (by assumption) ?_
                rotate_left
                · intro w hSw
                  (try dsimp only at hSw)
                  go_simp
                  (try (with_reducible rfl))
                try simp only [Act.put, List.setIfInBounds_toArray, List.set_cons_zero, List.set_cons_succ]
                refine wpAnyH_take (i := 8) (oi := { dst := some 87, op := _, type := _, pos := _, after := _, guard := _ }) (v := ?_) rfl (by kernel_rfl) (by kernel_rfl) (by kernel_rfl) (fun _ _ _ h => h) (Or.inl ⟨by rfl, ?_⟩) (by assumption) ?_
                rotate_left
                · intro w hSw
                  (try dsimp only at hSw)
                  go_simp
                  (try (with_reducible rfl))
                try simp only [Act.put, List.setIfInBounds_toArray, List.set_cons_zero, List.set_cons_succ]
                refine wpAnyH_take (i := 9) (oi := { dst := some 88, op := _, type := _, pos := _, after := _, guard := _ }) (v := ?_) rfl (by kernel_rfl) (by kernel_rfl) (by kernel_rfl) (fun _ _ _ h => h) (Or.inl ⟨by rfl, ?_⟩) (by assumption) ?_
                rotate_left
                · intro w hSw
                  (try dsimp only at hSw)
                  go_simp
                  (try (with_reducible rfl))
                try simp only [Act.put, List.setIfInBounds_toArray, List.set_cons_zero, List.set_cons_succ]
                refine wpAnyH_take (i := 10) (oi := { dst := some 89, op := _, type := _, pos := _, after := _, guard := _ }) (v := ?_) rfl (by kernel_rfl) (by kernel_rfl) (by kernel_rfl) (fun _ _ _ h => h) (Or.inl ⟨by rfl, ?_⟩) (by assumption) ?_
                rotate_left
                · intro w hSw
                  (try dsimp only at hSw)
                  go_simp
                  (try (with_reducible rfl))
                try simp only [Act.put, List.setIfInBounds_toArray, List.set_cons_zero, List.set_cons_succ]
                refine wpAnyH_take (i := 11) (oi := { dst := some 90, op := _, type := _, pos := _, after := _, guard := _ }) (v := ?_) rfl (by kernel_rfl) (by kernel_rfl) (by kernel_rfl) (fun _ _ _ h => h) (Or.inl ⟨by rfl, ?_⟩) (by assumption) ?_
                rotate_left
                · intro w hSw
                  (try dsimp only at hSw)
                  go_simp
                  (try (with_reducible rfl))
                try simp only [Act.put, List.setIfInBounds_toArray, List.set_cons_zero, List.set_cons_succ]
                refine wpAnyH_take (i := 12) (oi := { dst := some 91, op := _, type := _, pos := _, after := _, guard := _ }) (v := ?_) rfl (by kernel_rfl) (by kernel_rfl) (by kernel_rfl) (fun _ _ _ h => h) (Or.inl ⟨by rfl, ?_⟩) (by assumption) ?_
                rotate_left
                · intro w hSw
                  (try dsimp only at hSw)
                  go_simp
                  (try (with_reducible rfl))
                try simp only [Act.put, List.setIfInBounds_toArray, List.set_cons_zero, List.set_cons_succ]
                refine wpAnyH_take (i := 13) (oi := { dst := some 92, op := _, type := _, pos := _, after := _, guard := _ }) (v := ?_) rfl (by kernel_rfl) (by kernel_rfl) (by kernel_rfl) (fun _ _ _ h => h) (Or.inl ⟨by rfl, ?_⟩) (by assumption) ?_
                rotate_left
                · intro w hSw
                  (try dsimp only at hSw)
                  go_simp
                  (try (with_reducible rfl))
                try simp only [Act.put, List.setIfInBounds_toArray, List.set_cons_zero, List.set_cons_succ]
                refine wpAnyH_take (i := 14) (oi := { dst := some 16, op := _, type := _, pos := _, after := _, guard := _ }) (v := ?_) rfl (by kernel_rfl) (by kernel_rfl) (by kernel_rfl) (fun _ _ _ h => h) (Or.inl ⟨by rfl, ?_⟩) (by assumption) ?_
                rotate_left
                · intro w hSw
                  (try dsimp only at hSw)
                  go_simp
                  (try (with_reducible rfl))
                try simp only [Act.put, List.setIfInBounds_toArray, List.set_cons_zero, List.set_cons_succ]
                refine wpAnyH_done (by kernel_rfl) ?_ _
                go_wp2
                go_roundg (HH.length - (k + 1))
                case measure => omega
                case rel => exact ⟨k + 1, by omega, rfl, by go_num, by rw [HF1.out, Bool.false_or], hb8.drew⟩
            · obtain rfl : k = HH.length := by omega
              rw [List.take_length, HSH.out]
              have hHI := hasInt_any a3 DS.length k3 (j : Int) DS wr rfl hDl ((O3.below hbz).irow)
              obtain ⟨Q, hQ⟩ : ∃ Q, decide ((j : Int) ∈ DS) = Q := ⟨_, rfl⟩
              rw [hQ] at hHI ⊢
              clear hQ
              go_wp2_with fail
              refine hHI.mono ?_
              rintro e w9 ⟨rfl, rfl⟩
              go_wp2
              go_roundg (S + 1 - (j + 1))
              case measure => omega
              case rel => exact ⟨j + 1, by omega, by omega, rfl, by go_num, hbz⟩
        · obtain rfl : j = S + 1 := by omega
          have hlt' : (S : Int) < ((S + 1 : Nat) : Int) := by omega
          have hHI := hasInt_any a5 BS.length k5 i BS wr rfl hBl ((O5.below hbel).irow)
          rw [HBM.out] at hHI
          go_wp2_with fail
          refine hHI.mono ?_
          rintro e w9 ⟨rfl, rfl⟩
          go_wp2
          go_ret
          exact ⟨rfl, chain hb hbel⟩
    · have hDR : dsR p c h s xs ys i ≠ 0 := by
        unfold dsR
        split
        · rename_i q1
          split
          · rename_i q2
            exact absurd ⟨q1, q2⟩ g
          · omega
        · omega
      obtain ⟨DS, hDS⟩ : ∃ L, dsL p c h s xs ys i = L := ⟨_, rfl⟩
      obtain ⟨DR, hDR2⟩ : ∃ L, dsR p c h s xs ys i = L := ⟨_, rfl⟩
      rw [hDS, hDR2] at hd1 hd2
      rw [hDS] at hDl
      rw [hDR2] at hDR
      have fE : (DR != 0) = true := by rw [bne_iff_ne]; exact hDR
      have HD1 := Lib.hid hd1
      have HD2 := Lib.hid hd2
      clear hd1 hd2 hDR hDR2 hDS g
      refine (HD1.out _ (Below.refl _ _)).mono ?_
      rintro e w2 ⟨a3, k3, rfl, O3, hb2⟩
      have hbc : Below v1.heap.size v1 w2 := hb2
      clear x0 x1 x2 x3 xf xl y0 y1 yf yl
      obtain ⟨x0, x1, x2, x3, xf, xl⟩ := (BV.below hbc).four
      obtain ⟨y0, y1, yf, yl⟩ := (BB.below hbc).two
      go_wp2_with fail
      refine (HD2.out _ hbc).mono ?_
      rintro e w3 ⟨a4, k4, rfl, O4, hb3⟩
      replace O3 := O3.below hb3
      replace hbc := chain hbc hb3
      clear hb2 hb3
      go_wp2_with fail
      refine (likeInts_same a3 a4 DS.length k3 k4 DS _ rfl hDl O3.irow O4.irow).mono ?_
      rintro e w4 ⟨rfl, hb4⟩
      replace hbc := chain hbc hb4
      replace O3 := O3.below hb4
      clear hb4 O4
      clear x0 x1 x2 x3 xf xl y0 y1 yf yl
      go_wp2_with fail
      go_ret
      exact ⟨rfl, chain hb hbc⟩
set_option maxRecDepth 100000 in
theorem fnShots_lifted (os : Os) (started : os.Started) (H : Type) (enc : TypeId × Value → H) :
    ReturnsInHanded {} Try.checked os 5 .any (Rows.fnShotsSpec.pre6 enc Try.prog Try.f5 Rows.fnShotsRow.domain false) (Rows.fnShotsSpec.post enc Try.prog Try.f5 false true false false) := by
  refine returnsInHanded_of_change (C := Try.checked) own started (by kernel_rfl) Try.func5
    (ChangeSpec.witness6 (enc := enc) (C := Try.checked) false ⟨#[], #[.slice none 0 0], []⟩ 8 (by kernel_rfl) (by kernel_rfl) (by kernel_rfl) (by kernel_rfl)) ?_
  intro W base args ds gs before hval0 hW hcnd _
  have hval : ∀ (j : Nat) t v, Try.f5.params[j]? = some t → args[j]? = some v → Value.okWide Try.prog W .any base t v := hval0
  have hW' := hW
  obtain ⟨p, q, hA0, hV, rfl, hfz, hnd⟩ := hW
  have hA : DataW.TrodAll enc Try.prog W 0 (fun _ => true) true Try.f5.params.toList args.toList ds p := hA0
  rw [Try.params5] at hA hval
  obtain ⟨v0, vs0, d0, ds0, p0, q0, hargs, rfl, rfl, h0, r0⟩ := trodAll_cons hA
  obtain ⟨rfl, rfl, rfl⟩ := trodAll_nil r0
  obtain rfl : args = #[v0] := by cases args; simp_all
  obtain ⟨rfl, rfl⟩ := trodVars_none hV
  have k0 := h0
  have lt0 : ∀ x ∈ p0, x.block < W.heap.size := by obtain ⟨m, hm⟩ := k0; exact DataW.trod_lt m _ _ _ hm
  obtain ⟨sa_0, sl_0, sc_0, rfl⟩ := okWide_slice Try.underlying22 (hval 0 22 v0 rfl rfl)
  have hcode_0 : CodeIn W.heap.size W sa_0 sl_0 := by
    obtain ⟨fuel, hf⟩ := h0
    rcases open_ints Try.underlying22 Try.underlying5 (by kernel_rfl) hf with ⟨hcs, _⟩ | ⟨x, l, c, zs, hcs, _, hl, hm, hz, _, hcell, hwz⟩
    · simp [Value.cells] at hcs
      obtain ⟨rfl, rfl, rfl⟩ := hcs
      intro i hi
      omega
    · simp [Value.cells] at hcs
      obtain ⟨rfl, rfl, rfl⟩ := hcs
      exact code_of_ints (by have hz2 := hz; simp at hz2; omega) trivial hcell hwz
  clear hA0 hval0
  refine (fnShots_walk sa_0 sl_0 sc_0 W hcode_0).mono fun e W' ⟨he, bel⟩ => ?_
  subst he
  exact ⟨_, rfl, _, _, _, [], _, [], hW', trodAll_mk1 (shut_bool Try.underlying4 _), (trodAll_cons_mk (Below.trod laidOut (by kernel_rfl) (of_decide_eq_true (by kernel_rfl)) k0 bel lt0) trodAll_mk0), rfl, bel.frame _, fun h => by cases h⟩
theorem fnShots_holds : Rows.FnShotsSaid :=
  OpenClaim.holds_of_wide 5 Try.f5 rfl rfl rfl rfl rfl rfl rfl ⟨rfl, rfl, rfl, rfl, rfl⟩ rfl rfl rfl rfl rfl (by kernel_rfl) Try.func5 (by kernel_rfl)
    (of_decide_eq_true (by kernel_rfl)) (by unfold Func.isWrapper; first | (rw [if_pos (by decide +kernel)]; kernel_rfl) | (rw [if_neg (by decide +kernel)]; exact ⟨rfl, rfl⟩))
    (fun os started H enc _ => fnShots_lifted os started H enc)
end Go.Proofs.Ytjglempkmenacaa
