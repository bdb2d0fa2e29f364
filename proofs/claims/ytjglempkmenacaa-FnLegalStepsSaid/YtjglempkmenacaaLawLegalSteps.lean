/- The law of chapter 4 on the lists of legal steps holds: for every code the law returns true and the code reads behind the call as it read before. No conditions. -/
import Derived.Test.YtjglempkmenacaaDraw6
import Derived.Test.YtjglempkmenacaaLike
import Derived.Test.YtjglempkmenacaaStepA
import Derived.Test.Ytjglempkmenacaa04r
import Derived.Test.Ytjglempkmenacaa04n
import Derived.Test.YtjglempkmenacaaOpen
import Derived.ChangeOld
namespace Go.Proofs.Ytjglempkmenacaa
open Go.ChangeMaps (open_string shut_string)
open Go.ChangeShapes Go.WideShapes Go.ChangeAt Go.RowKit
set_option linter.unusedVariables false
set_option linter.unusedSimpArgs false
set_option maxRecDepth 4000

theorem code_of_ints {w : World} {x : Addr} {len : Nat} {zs : List Int} (hl : len ≤ zs.length) (_hz : True) (hcell : ∀ i, i < zs.length → w.cell? (x.add i) = some (.int .u8 (zs.getD i 0))) (hwz : ∀ n ∈ zs, (Lit.int .u8 n).wf = true) : CodeIn w.heap.size w (some x) len := by
  intro i hi
  obtain ⟨b, o, spot⟩ := x
  have hc := hcell i (by omega)
  have hspot : spot = none := by
    have hc0 := hcell 0 (by omega)
    simpa [Addr.add] using World.cell?_spot hc0
  subst hspot
  rw [show (⟨b, o, none⟩ : Addr).add i = ⟨b, o + i, none⟩ from by unfold Addr.add; split <;> simp_all] at hc
  have hm : zs.getD i 0 ∈ zs := by
    have : i < zs.length := by omega
    simp [List.getD, this]
  have hw := hwz _ hm
  have hr : 0 ≤ zs.getD i 0 ∧ zs.getD i 0 ≤ 255 := by simpa [Lit.wf, IntKind.min, IntKind.max, IntKind.signed, IntKind.bits] using hw
  exact ⟨b, o, zs.getD i 0, rfl, World.block_lt_of_cell? w _ hc, hc, hr.1, hr.2⟩
theorem hitL_hit {l : List Stp} {k : Nat} {t : Stp} (e : (hitL l)[k]? = some t) : t.2.2.2 = true := by
  have hm := List.mem_of_getElem? e
  unfold hitL at hm
  have := (List.mem_filter.1 hm).2
  simpa using this
set_option maxRecDepth 8000 in
set_option maxHeartbeats 1500000 in
theorem fnLegalSteps_walk (a : Option Addr) (len cap : Nat) (w : World) (hcode : CodeIn w.heap.size w a len) :
    Calls Try.prog 4 #[.slice a len cap] w fun e w' => e = .returned (.bool true) ∧ Below w.heap.size w w' := by
  by_cases hbig : 4096 < len
  · have f0 : decide (4096 < (len : Int)) = true := by simp; omega
    go_enter Try.func4, Try.ntmps4
    go_wp2_with fail
    refine (big_any _ _ _ _).mono ?_
    rintro e w1 ⟨rfl, rfl⟩
    go_wp2
    go_ret
    exact ⟨rfl, Below.refl _ _⟩
  · have f0 : decide (4096 < (len : Int)) = false := by simp; omega
    go_enter Try.func4, Try.ntmps4
    go_wp2_with fail
    refine (big_any _ _ _ _).mono ?_
    rintro e w0 ⟨rfl, rfl⟩
    go_wp2_with fail
    refine (drawLegal_any w.heap.size a len cap w (Nat.le_refl _) (by omega) hcode).mono ?_
    rintro e w1 ⟨p, c, h, s, g1, g2, n1, n2, c1, c2, xs, ys, i, rfl, hx, hy, l1, l2, R1, R2, hb⟩
    subst hx hy
    replace l1 : xs.length ≤ 1048576 := by omega
    replace l2 : ys.length ≤ 1048576 := by omega
    obtain ⟨BV, BB, hb2, hz⟩ := two_new w1 #[.int .i64 p, .int .i64 c, .int .i64 h, .int .i64 s] #[.slice (some ⟨g1, 0, none⟩) xs.length c1, .slice (some ⟨g2, 0, none⟩) ys.length c2] 25 28
    have r1 := R1.irow.below hb2
    have r2 := R2.irow.below hb2
    replace hb := chain hb hb2
    clear hb2 R1 R2 f0
    obtain ⟨x0, x1, x2, x3, xf, xl⟩ := BV.four
    obtain ⟨y0, y1, yf, yl⟩ := BB.two
    go_wp2_with fail
    generalize ((w1.alloc (.cells #[.int .i64 p, .int .i64 c, .int .i64 h, .int .i64 s] 25)).alloc (.cells #[.slice (some ⟨g1, 0, none⟩) xs.length c1, .slice (some ⟨g2, 0, none⟩) ys.length c2] 28)) = v1 at *
    have hl1 := fun W (hW : Below v1.heap.size v1 W) => implLegalSteps_any i p c h s (some ⟨g1, 0, none⟩) (some ⟨g2, 0, none⟩) xs.length ys.length c1 c2 xs ys W rfl rfl l1 l2 (r1.below hW) (r2.below hW)
    have hl2 := fun W (hW : Below v1.heap.size v1 W) => specLegalSteps_any i p c h s (some ⟨g1, 0, none⟩) (some ⟨g2, 0, none⟩) xs.length ys.length c1 c2 xs ys W rfl rfl l1 l2 (r1.below hW) (r2.below hW)
    have hl3 := fun W (hW : Below v1.heap.size v1 W) => hitSteps_any i p c h s (some ⟨g1, 0, none⟩) (some ⟨g2, 0, none⟩) xs.length ys.length c1 c2 xs ys W rfl rfl l1 l2 (r1.below hW) (r2.below hW)
    have hLl := lsL_length p c h s xs ys i
    have hHl : (htL p c h s xs ys i).length ≤ (lsL p c h s xs ys i).length := hitL_length _
    have hH : ∀ (k : Nat) (t : Stp), (htL p c h s xs ys i)[k]? = some t → t.2.2.2 = true := fun k t e => hitL_hit e
    by_cases g : isB p c h s xs ys = true ∧ inB i 1 s = true
    · obtain ⟨g, gi⟩ := g
      obtain ⟨p0, p1, k0, k1, k2, k3, N1, N2, hx, hy, s0, s1, s2, s3⟩ := isB_parts g
      obtain ⟨P, rfl⟩ := Int.eq_ofNat_of_zero_le (by omega : 0 ≤ p)
      have hs6 := isB_sides g
      have gi' : 1 ≤ i ∧ i ≤ s := by simpa [inB] using gi
      have hLR : lsR (P : Int) c h s xs ys i = 0 := by unfold lsR; rw [if_pos g, if_pos gi]
      have hLL : lsL (P : Int) c h s xs ys i = legL P h xs ys i := by unfold lsL; rw [if_pos g, if_pos gi]; simp
      have hq0 := fun (f : Nat) W (hW : Below v1.heap.size v1 W) => isLegalStep_any ((f : Int), max (-1) ((f : Int) - i), i, false) (P : Int) c h s (some ⟨g1, 0, none⟩) (some ⟨g2, 0, none⟩) xs.length ys.length c1 c2 xs ys W rfl rfl l1 l2 (r1.below hW) (r2.below hW)
      have hq1 := fun (f : Nat) W (hW : Below v1.heap.size v1 W) => isLegalStep_any ((f : Int), max (-1) ((f : Int) - i), i, true) (P : Int) c h s (some ⟨g1, 0, none⟩) (some ⟨g2, 0, none⟩) xs.length ys.length c1 c2 xs ys W rfl rfl l1 l2 (r1.below hW) (r2.below hW)
      have htwo : ∀ f, f ≤ P → ((cntL P h xs ys i f : Nat) : Int) + (if lgB (P : Int) c h s xs ys ((f : Int), max (-1) ((f : Int) - i), i, false) = true then 1 else 0) + (if lgB (P : Int) c h s xs ys ((f : Int), max (-1) ((f : Int) - i), i, true) = true then 1 else 0) = ((cntL P h xs ys i (f + 1) : Nat) : Int) := by
        intro f hf
        have h1 := leg_two (P := P) (h := h) (xs := xs) (ys := ys) f hf i gi
        have h2 := cntL_succ P h xs ys i f
        unfold lgB
        rw [g, show ((P : Int)).toNat = P by simp, Bool.true_and, Bool.true_and]
        split at h1 <;> split at h1 <;> (rename_i e1 e2; simp only [e1, e2, if_true, if_false, Bool.false_eq_true]; omega)
      have hcl := cntL_le P h xs ys i
      have hca := cntL_all P h xs ys i
      rw [← hLL] at hca
      obtain ⟨LL, hL⟩ : ∃ L, lsL (P : Int) c h s xs ys i = L := ⟨_, rfl⟩
      obtain ⟨HH, hHH⟩ : ∃ L, htL (P : Int) c h s xs ys i = L := ⟨_, rfl⟩
      rw [hL, hLR] at hl1 hl2
      rw [hHH, hLR] at hl3
      rw [hL] at hLl hHl hca
      rw [hHH] at hHl hH
      have hPI : (P : Int) ≤ 24 := p1
      have hi1 : 1 ≤ i := gi'.1
      have hi6 : i ≤ 6 := by omega
      have HL1 := Lib.hid hl1
      have HL2 := Lib.hid hl2
      have HL3 := Lib.hid hl3
      have HQ0 := Lib.hid hq0
      have HQ1 := Lib.hid hq1
      have HTW := Lib.hid htwo
      have HCL := Lib.hid hcl
      have HCA := Lib.hid hca
      have HHT := Lib.hid hH
      clear hl1 hl2 hl3 hq0 hq1 htwo hcl hca hH hLR hLL hL hHH g gi hx hy
      refine (HL1.out _ (Below.refl _ _)).mono ?_
      rintro e w2 ⟨a3, k3, rfl, O3, hb2⟩
      have hbc : Below v1.heap.size v1 w2 := hb2
      clear x0 x1 x2 x3 xf xl y0 y1 yf yl
      obtain ⟨x0, x1, x2, x3, xf, xl⟩ := (BV.below hbc).four
      obtain ⟨y0, y1, yf, yl⟩ := (BB.below hbc).two
      go_wp2_with fail
      refine (HL2.out _ hbc).mono ?_
      rintro e w3 ⟨a4, k4, rfl, O4, hb3⟩
      replace O3 := O3.below hb3
      replace hbc := chain hbc hb3
      clear hb2 hb3
      go_wp2_with fail
      refine (w9Steps_same _ _ _ _ a3 a4 LL.length k3 k4 LL _ rfl hLl O3 O4).mono ?_
      rintro e w4 ⟨rfl, hb4⟩
      replace hbc := chain hbc hb4
      clear hb4 O3 O4
      clear x0 x1 x2 x3 xf xl y0 y1 yf yl
      go_wp2_with fail
      go_loopg [10, 11, 12, 13] (P + 1) (fun m q10 q11 q12 q13 wr => ∃ f : Nat, f ≤ P + 1 ∧ m = P + 1 - f ∧ q11 = .int .i64 f ∧ q10 = .int .i64 ((cntL P h xs ys i f : Nat) : Int) ∧ Below v1.heap.size v1 wr)
      case atStart => exact ⟨0, by omega, by omega, rfl, by simp [cntL, legTo], hbc⟩
      case round =>
        clear hbc
        obtain ⟨f, hf, hm, rfl, rfl, hbel⟩ := hrel
        obtain ⟨x0, x1, x2, x3, xf, xl⟩ := (BV.below hbel).four
        obtain ⟨y0, y1, yf, yl⟩ := (BB.below hbel).two
        have hN0 := HCL.out f
        by_cases hlt : f ≤ P
        · have hlt' : (f : Int) ≤ (P : Int) := by omega
          have hC := HTW.out f hlt
          have h0 := HQ0.out f
          have h1 := HQ1.out f
          obtain ⟨Q0, hQ0⟩ : ∃ Q, lgB (P : Int) c h s xs ys ((f : Int), max (-1) ((f : Int) - i), i, false) = Q := ⟨_, rfl⟩
          obtain ⟨Q1, hQ1⟩ : ∃ Q, lgB (P : Int) c h s xs ys ((f : Int), max (-1) ((f : Int) - i), i, true) = Q := ⟨_, rfl⟩
          obtain ⟨N, hN⟩ : ∃ N : Nat, cntL P h xs ys i f = N := ⟨_, rfl⟩
          obtain ⟨N2, hN2⟩ : ∃ N : Nat, cntL P h xs ys i (f + 1) = N := ⟨_, rfl⟩
          rw [hQ0, hQ1, hN, hN2] at hC
          rw [hQ0] at h0
          rw [hQ1] at h1
          rw [hN] at hN0 ⊢
          obtain ⟨N1, hN1⟩ : ∃ N1 : Int, (N : Int) + (if Q0 = true then 1 else 0) = N1 := ⟨_, rfl⟩
          rw [hN1] at hC
          have hN1a : 0 ≤ N1 ∧ N1 ≤ 40 := by rw [← hN1]; split <;> omega
          have hN1b := hN1a.1
          have hN1c := hN1a.2
          have HN1 := Lib.hid hN1
          have HQ0' := Lib.hid h0
          have HQ1' := Lib.hid h1
          have HC := Lib.hid hC
          have HN2 := Lib.hid hN2
          clear hQ0 hQ1 hN hN2 h0 h1 hC hN1 hN1a
          go_wp2_with fail
          clear x0 x1 x2 x3 xf xl y0 y1 yf yl
          go_loopg [10, 12, 13] 2 (fun m q10 q12 q13 wr => Below v1.heap.size v1 wr ∧ ((m = 2 ∧ q12 = .int .i64 0 ∧ q10 = .int .i64 (N : Int)) ∨ (m = 1 ∧ q12 = .int .i64 1 ∧ q10 = .int .i64 N1) ∨ (m = 0 ∧ q12 = .int .i64 2 ∧ q10 = .int .i64 (N2 : Int))))
          case atStart => exact ⟨hbel, .inl ⟨rfl, rfl, rfl⟩⟩
          case round =>
            clear hbel
            obtain ⟨hbel, ⟨hm2, rfl, rfl⟩ | ⟨hm2, rfl, rfl⟩ | ⟨hm2, rfl, rfl⟩⟩ := hrel
            · skip
              have hbw := (Below.refl wr.heap.size wr).alloc (Nat.le_refl _) (.cells #[.int .i64 (f : Int), .int .i64 (max (-1) ((f : Int) - i)), .int .i64 i, .bool false] 30)
              obtain ⟨x0, x1, x2, x3, xf, xl⟩ := ((BV.below hbel).below hbw).four
              obtain ⟨y0, y1, yf, yl⟩ := ((BB.below hbel).below hbw).two
              obtain ⟨t0, t1, t2, t3, tf, tl⟩ := (Blk.new wr #[.int .i64 (f : Int), .int .i64 (max (-1) ((f : Int) - i)), .int .i64 i, .bool false] 30).four
              go_wp2_with fail
              refine (HQ0'.out _ (chain hbel hbw)).mono ?_
              rintro e w7 ⟨rfl, hb7⟩
              have hbz := chain (chain hbel hbw) hb7
              clear x0 x1 x2 x3 xf xl y0 y1 yf yl t0 t1 t2 t3 tf tl
              cases Q0 with
              | true =>
                go_wp2
                go_roundg 1
                case measure => omega
                case rel => exact ⟨hbz, .inr (.inl ⟨rfl, rfl, by first | (congr 1; done) | (congr 1; have := HN1.out; simp at this; done) | (congr 1; have := HN1.out; simp at this; omega)⟩)⟩
              | false =>
                go_wp2
                go_roundg 1
                case measure => omega
                case rel => exact ⟨hbz, .inr (.inl ⟨rfl, rfl, by first | (congr 1; done) | (congr 1; have := HN1.out; simp at this; done) | (congr 1; have := HN1.out; simp at this; omega)⟩)⟩
            · skip
              have hbw := (Below.refl wr.heap.size wr).alloc (Nat.le_refl _) (.cells #[.int .i64 (f : Int), .int .i64 (max (-1) ((f : Int) - i)), .int .i64 i, .bool true] 30)
              obtain ⟨x0, x1, x2, x3, xf, xl⟩ := ((BV.below hbel).below hbw).four
              obtain ⟨y0, y1, yf, yl⟩ := ((BB.below hbel).below hbw).two
              obtain ⟨t0, t1, t2, t3, tf, tl⟩ := (Blk.new wr #[.int .i64 (f : Int), .int .i64 (max (-1) ((f : Int) - i)), .int .i64 i, .bool true] 30).four
              go_wp2_with fail
              refine (HQ1'.out _ (chain hbel hbw)).mono ?_
              rintro e w7 ⟨rfl, hb7⟩
              have hbz := chain (chain hbel hbw) hb7
              clear x0 x1 x2 x3 xf xl y0 y1 yf yl t0 t1 t2 t3 tf tl
              cases Q1 with
              | true =>
                go_wp2
                go_roundg 0
                case measure => omega
                case rel => exact ⟨hbz, .inr (.inr ⟨rfl, rfl, by first | (congr 1; done) | (congr 1; have := HC.out; simp at this; done) | (congr 1; have := HC.out; simp at this; omega)⟩)⟩
              | false =>
                go_wp2
                go_roundg 0
                case measure => omega
                case rel => exact ⟨hbz, .inr (.inr ⟨rfl, rfl, by first | (congr 1; done) | (congr 1; have := HC.out; simp at this; done) | (congr 1; have := HC.out; simp at this; omega)⟩)⟩
            · have hN2 := HN2.out
              go_wp2
              go_roundg (P + 1 - (f + 1))
              case measure => omega
              case rel => exact ⟨f + 1, by omega, rfl, by go_num, by rw [hN2], hbel⟩
        · obtain rfl : f = P + 1 := by omega
          have hlt' : (P : Int) < ((P + 1 : Nat) : Int) := by omega
          rw [HCA.out]
          have hHl' : (HH.length : Int) ≤ (LL.length : Int) := by omega
          clear hN0
          go_wp2_with fail
          refine (HL3.out _ hbel).mono ?_
          rintro e w8 ⟨a5, k5, rfl, O5, hb5⟩
          have hbz := chain (chain hb hbel) hb5
          clear x0 x1 x2 x3 xf xl y0 y1 yf yl
          go_wp2_with fail
          go_loopg [16] HH.length (fun m i wr => w8 = wr ∧ ∃ k : Nat, k ≤ HH.length ∧ m = HH.length - k ∧ i = .int .i64 k)
          case atStart => exact ⟨rfl, 0, by omega, by omega, rfl⟩
          case round =>
            obtain ⟨rfl, k, hk, hm, rfl⟩ := hrel
            by_cases hlk : k < HH.length
            · have hlk' : (k : Int) < (HH.length : Int) := by omega
              have hk0 : (0 : Int) ≤ (k : Int) := by omega
              obtain ⟨g3, rfl, R3⟩ := O5.row hlk
              obtain ⟨t, ht⟩ : ∃ t, HH[k]? = some t := ⟨_, List.getElem?_eq_getElem hlk⟩
              have u3 := (R3.four k t ht).2.2.2
              rw [HHT.out k t ht] at u3
              clear R3 ht O5
              go_wp2
              go_roundg (HH.length - (k + 1))
              case measure => omega
              case rel => exact ⟨rfl, k + 1, by omega, rfl, by go_num⟩
            · obtain rfl : k = HH.length := by omega
              clear O5
              go_wp2
              go_ret
              exact ⟨rfl, hbz⟩
    · have hLR : lsR p c h s xs ys i ≠ 0 := by
        unfold lsR
        split
        · rename_i g1
          split
          · rename_i g2
            exact absurd ⟨g1, g2⟩ g
          · omega
        · omega
      obtain ⟨LL, hL⟩ : ∃ L, lsL p c h s xs ys i = L := ⟨_, rfl⟩
      obtain ⟨LR, hLR2⟩ : ∃ L, lsR p c h s xs ys i = L := ⟨_, rfl⟩
      rw [hL, hLR2] at hl1 hl2
      rw [hL] at hLl
      rw [hLR2] at hLR
      have fE : (LR != 0) = true := by rw [bne_iff_ne]; exact hLR
      have HL1 := Lib.hid hl1
      have HL2 := Lib.hid hl2
      clear hl1 hl2 hl3 hLR hLR2 hL hH hHl g
      refine (HL1.out _ (Below.refl _ _)).mono ?_
      rintro e w2 ⟨a3, k3, rfl, O3, hb2⟩
      have hbc : Below v1.heap.size v1 w2 := hb2
      clear x0 x1 x2 x3 xf xl y0 y1 yf yl
      obtain ⟨x0, x1, x2, x3, xf, xl⟩ := (BV.below hbc).four
      obtain ⟨y0, y1, yf, yl⟩ := (BB.below hbc).two
      go_wp2_with fail
      refine (HL2.out _ hbc).mono ?_
      rintro e w3 ⟨a4, k4, rfl, O4, hb3⟩
      replace O3 := O3.below hb3
      replace hbc := chain hbc hb3
      clear hb2 hb3
      go_wp2_with fail
      refine (w9Steps_same _ _ _ _ a3 a4 LL.length k3 k4 LL _ rfl hLl O3 O4).mono ?_
      rintro e w4 ⟨rfl, hb4⟩
      replace hbc := chain hbc hb4
      clear hb4 O3 O4
      clear x0 x1 x2 x3 xf xl y0 y1 yf yl
      go_wp2_with fail
      go_ret
      exact ⟨rfl, chain hb hbc⟩
set_option maxRecDepth 100000 in
theorem fnLegalSteps_lifted (os : Os) (started : os.Started) (H : Type) (enc : TypeId × Value → H) :
    ReturnsInHanded {} Try.checked os 4 .any (Rows.fnLegalStepsSpec.pre6 enc Try.prog Try.f4 Rows.fnLegalStepsRow.domain false) (Rows.fnLegalStepsSpec.post enc Try.prog Try.f4 false true false false) := by
  refine returnsInHanded_of_change (C := Try.checked) own started (by kernel_rfl) Try.func4
    (ChangeSpec.witness6 (enc := enc) (C := Try.checked) false ⟨#[], #[.slice none 0 0], []⟩ 8 (by kernel_rfl) (by kernel_rfl) (by kernel_rfl) (by kernel_rfl)) ?_
  intro W base args ds gs before hval0 hW hcnd _
  have hval : ∀ (j : Nat) t v, Try.f4.params[j]? = some t → args[j]? = some v → Value.okWide Try.prog W .any base t v := hval0
  have hW' := hW
  obtain ⟨p, q, hA0, hV, rfl, hfz, hnd⟩ := hW
  have hA : DataW.TrodAll enc Try.prog W 0 (fun _ => true) true Try.f4.params.toList args.toList ds p := hA0
  rw [Try.params4] at hA hval
  obtain ⟨v0, vs0, d0, ds0, p0, q0, hargs, rfl, rfl, h0, r0⟩ := trodAll_cons hA
  obtain ⟨rfl, rfl, rfl⟩ := trodAll_nil r0
  obtain rfl : args = #[v0] := by cases args; simp_all
  obtain ⟨rfl, rfl⟩ := trodVars_none hV
  have k0 := h0
  have lt0 : ∀ x ∈ p0, x.block < W.heap.size := by obtain ⟨m, hm⟩ := k0; exact DataW.trod_lt m _ _ _ hm
  obtain ⟨sa_0, sl_0, sc_0, rfl⟩ := okWide_slice Try.underlying22 (hval 0 22 v0 rfl rfl)
  have hcode_0 : CodeIn W.heap.size W sa_0 sl_0 := by
    obtain ⟨fuel, hf⟩ := h0
    rcases open_ints Try.underlying22 Try.underlying5 (by kernel_rfl) hf with ⟨hcs, _⟩ | ⟨x, l, c, zs, hcs, _, hl, hm, hz, _, hcell, hwz⟩
    · simp [Value.cells] at hcs
      obtain ⟨rfl, rfl, rfl⟩ := hcs
      intro i hi
      omega
    · simp [Value.cells] at hcs
      obtain ⟨rfl, rfl, rfl⟩ := hcs
      exact code_of_ints (by have hz2 := hz; simp at hz2; omega) trivial hcell hwz
  clear hA0 hval0
  refine (fnLegalSteps_walk sa_0 sl_0 sc_0 W hcode_0).mono fun e W' ⟨he, bel⟩ => ?_
  subst he
  exact ⟨_, rfl, _, _, _, [], _, [], hW', trodAll_mk1 (shut_bool Try.underlying4 _), (trodAll_cons_mk (Below.trod laidOut (by kernel_rfl) (of_decide_eq_true (by kernel_rfl)) k0 bel lt0) trodAll_mk0), rfl, bel.frame _, fun h => by cases h⟩
theorem fnLegalSteps_holds : Rows.FnLegalStepsSaid :=
  OpenClaim.holds_of_wide 4 Try.f4 rfl rfl rfl rfl rfl rfl rfl ⟨rfl, rfl, rfl, rfl, rfl⟩ rfl rfl rfl rfl rfl (by kernel_rfl) Try.func4 (by kernel_rfl)
    (of_decide_eq_true (by kernel_rfl)) (by unfold Func.isWrapper; first | (rw [if_pos (by decide +kernel)]; kernel_rfl) | (rw [if_neg (by decide +kernel)]; exact ⟨rfl, rfl⟩))
    (fun os started H enc _ => fnLegalSteps_lifted os started H enc)
end Go.Proofs.Ytjglempkmenacaa
