/- Contracts of the program's tests of sides and boards. -/
import Derived.Test.YtdciiocmddlhfaaImpl02b
namespace Go.Proofs.Ytdciiocmddlhfaa
open Go.ChangeShapes Go.WideShapes Go.ChangeAt Go.RowKit
set_option linter.unusedVariables false
set_option linter.unusedSimpArgs false

theorem sum_nonneg : ∀ (xs : List Int), (∀ x ∈ xs, 0 ≤ x) → 0 ≤ xs.sum
  | [], _ => by simp
  | x :: xs, h => by
    have h1 := h x (by simp)
    have h2 := sum_nonneg xs (fun y hy => h y (by simp [hy]))
    simp only [List.sum_cons]
    omega
theorem sum_take_le (xs : List Int) (k : Nat) (h : ∀ x ∈ xs, 0 ≤ x) : (xs.take k).sum ≤ xs.sum := by
  have h1 : xs.sum = (xs.take k).sum + (xs.drop k).sum := by rw [← List.sum_append, List.take_append_drop]
  have h2 := sum_nonneg (xs.drop k) (fun x hx => h x (List.mem_of_mem_drop hx))
  omega
/-- Numbers that are not negative and have a sum of at most c. -/
def chkB (c : Int) (xs : List Int) : Bool := xs.all (fun x => inB x 0 c) && decide (xs.sum ≤ c)
theorem sideB_chk (p c : Int) (xs : List Int) : sideB p c xs = (decide ((xs.length : Int) = p + 1) && chkB c xs) := by simp [sideB, chkB, Bool.and_assoc]
set_option maxHeartbeats 2000000 in
theorem hasCheckers_any (p c h s : Int) (a : Option Addr) (n cap : Nat) (xs : List Int) (w : World) (g : vB p c h s = true) (hn : xs.length = n) (hle : n ≤ 9223372036854775807) (hr : IRow w a xs) :
    Calls Try.prog 36 #[.agg #[.int .i64 p, .int .i64 c, .int .i64 h, .int .i64 s], .slice a n cap] w fun e w' => e = .returned (.bool (chkB c xs)) ∧ Below w.heap.size w w' := by
  have hv := vB_iff.1 g
  have cc0 : 1 ≤ c := hv.2.2.1
  have cc1 : c ≤ 15 := hv.2.2.2.1
  clear hv g
  have B0 := Blk.new w #[.int .i64 p, .int .i64 c, .int .i64 h, .int .i64 s] 29
  have hb : Below w.heap.size w (w.alloc (.cells #[.int .i64 p, .int .i64 c, .int .i64 h, .int .i64 s] 29)) := (Below.refl _ _).alloc (Nat.le_refl _) _
  obtain ⟨R, hR⟩ : ∃ R, chkB c xs = R := ⟨_, rfl⟩
  rw [hR]
  have hr0 := hr.below hb
  subst hn
  have HR := Lib.hid hR
  clear hR
  obtain ⟨x0, x1, x2, x3, xf, xl⟩ := B0.four
  go_enter Try.func36, Try.ntmps36
  go_wp2
  clear x0 x1 x2 x3 xf xl
  generalize (w.alloc (.cells #[.int .i64 p, .int .i64 c, .int .i64 h, .int .i64 s] 29)) = v0 at *
  go_loopg [5, 12] xs.length (fun m l i wr => ∃ k : Nat, k ≤ xs.length ∧ m = xs.length - k ∧ i = .int .i64 k ∧ l = .int .i64 (c - (xs.take k).sum) ∧ 0 ≤ (xs.take k).sum ∧ (xs.take k).sum ≤ c ∧ (∀ j, j < k → inB (xs.getD j 0) 0 c = true) ∧ Below w.heap.size w wr)
  case atStart => exact ⟨0, by omega, by omega, rfl, by simp, by simp, by simp; omega, fun j hj => by omega, hb⟩
  case round =>
    obtain ⟨k, hk, hm, rfl, rfl, s0, s1, hall, hbel⟩ := hrel
    have HA := Lib.hid hall
    clear hall
    by_cases hlt : k < xs.length
    · have hlt' : (k : Int) < (xs.length : Int) := by omega
      have hk0 : (0 : Int) ≤ (k : Int) := by omega
      obtain ⟨b, o, rfl, hc⟩ := hr.below hbel k hlt
      have hst := sum_take xs k hlt
      obtain ⟨v, hv⟩ : ∃ v, xs.getD k 0 = v := ⟨_, rfl⟩
      obtain ⟨S, hS⟩ : ∃ S, (xs.take k).sum = S := ⟨_, rfl⟩
      rw [hv] at hc hst
      rw [hS] at s0 s1 hst ⊢
      have HV := Lib.hid hv
      have HS := Lib.hid hst
      clear hv hst hS
      have hmem : v ∈ xs := HV.out ▸ getD_mem hlt
      by_cases d1 : v < 0
      · have hR2 : R = false := by
          rw [← HR.out]
          have : xs.all (fun x => inB x 0 c) = false := by
            rw [List.all_eq_false]
            exact ⟨v, hmem, by simp [inB]; omega⟩
          simp [chkB, this]
        subst hR2
        go_wp2
        go_ret
        exact ⟨rfl, hbel⟩
      · by_cases d2 : c - S < v
        · have hR2 : R = false := by
            rw [← HR.out]
            by_cases hnn : ∀ x ∈ xs, 0 ≤ x
            · have h1 := sum_take_le xs (k + 1) hnn
              have h2 := HS.out
              have : decide (xs.sum ≤ c) = false := by rw [decide_eq_false_iff_not]; omega
              simp [chkB, this]
            · have : xs.all (fun x => inB x 0 c) = false := by
                rw [List.all_eq_false]
                simp only [Classical.not_forall] at hnn
                obtain ⟨x, hx, hx0⟩ := hnn
                exact ⟨x, hx, by simp [inB]; omega⟩
              simp [chkB, this]
          subst hR2
          go_wp2
          go_ret
          exact ⟨rfl, hbel⟩
        · go_wp2
          go_roundg (xs.length - (k + 1))
          case measure => omega
          case rel =>
            refine ⟨k + 1, by omega, rfl, by go_num, by rw [HS.out]; congr 1; omega, by rw [HS.out]; omega, by rw [HS.out]; omega, fun j hj => ?_, hbel⟩
            by_cases hjk : j = k
            · subst hjk
              rw [HV.out]
              simp [inB]
              omega
            · exact HA.out j (by omega)
    · obtain rfl : k = xs.length := by omega
      have hxs : ∀ x ∈ xs, inB x 0 c = true := fun x hx => by
        obtain ⟨j, hj, rfl⟩ := List.mem_iff_getElem.1 hx
        have := HA.out j hj
        rwa [show xs.getD j 0 = xs[j] by simp [hj]] at this
      have hR2 : R = true := by
        rw [← HR.out]
        have h1 : xs.all (fun x => inB x 0 c) = true := List.all_eq_true.2 hxs
        rw [List.take_length] at s1
        simp [chkB, h1, s1]
      subst hR2
      go_wp2
      go_ret
      exact ⟨rfl, hbel⟩
set_option maxHeartbeats 1000000 in
theorem isSide_any (p c h s : Int) (a : Option Addr) (n cap : Nat) (xs : List Int) (w : World) (g : vB p c h s = true) (hn : xs.length = n) (hle : n ≤ 9223372036854775807) (hr : IRow w a xs) :
    Calls Try.prog 31 #[.agg #[.int .i64 p, .int .i64 c, .int .i64 h, .int .i64 s], .slice a n cap] w fun e w' => e = .returned (.bool (sideB p c xs)) ∧ Below w.heap.size w w' := by
  have hK := fun W (r : IRow W a xs) => hasCheckers_any p c h s a n cap xs W g hn hle r
  have HK := Lib.hid hK
  have hv := vB_iff.1 g
  have p0 : 2 ≤ p := hv.1
  have p1 : p ≤ 24 := hv.2.1
  clear hv g hK
  have B0 := Blk.new w #[.int .i64 p, .int .i64 c, .int .i64 h, .int .i64 s] 29
  have hb : Below w.heap.size w (w.alloc (.cells #[.int .i64 p, .int .i64 c, .int .i64 h, .int .i64 s] 29)) := (Below.refl _ _).alloc (Nat.le_refl _) _
  rw [sideB_chk, hn]
  obtain ⟨x0, x1, x2, x3, xf, xl⟩ := B0.four
  by_cases hlen : (n : Int) = p + 1
  · have e0 : ((n : Int) == p + 1) = true := by rw [beq_iff_eq]; exact hlen
    rw [decide_eq_true hlen, Bool.true_and]
    have HL := Lib.hid hlen
    clear hlen
    go_enter Try.func31, Try.ntmps31
    go_wp2_with (go_at_call 36; refine (HK.out _ (hr.below hb)).mono ?_; rintro e w1 ⟨rfl, hb1⟩)
    go_ret
    exact ⟨rfl, chain hb hb1⟩
  · have e0 : ((n : Int) == p + 1) = false := by rw [beq_eq_false_iff_ne]; exact hlen
    rw [decide_eq_false hlen, Bool.false_and]
    have HL := Lib.hid hlen
    clear hlen
    go_enter Try.func31, Try.ntmps31
    go_wp2
    go_ret
    exact ⟨rfl, hb⟩
set_option maxHeartbeats 4000000 in
theorem isBoard_any (p c h s : Int) (a1 a2 : Option Addr) (n1 n2 c1 c2 : Nat) (xs ys : List Int) (w : World) (h1 : xs.length = n1) (h2 : ys.length = n2) (l1 : n1 ≤ 1048576) (l2 : n2 ≤ 1048576) (r1 : IRow w a1 xs) (r2 : IRow w a2 ys) :
    Calls Try.prog 21 #[.agg #[.int .i64 p, .int .i64 c, .int .i64 h, .int .i64 s], .agg #[.slice a1 n1 c1, .slice a2 n2 c2]] w fun e w' => e = .returned (.bool (isB p c h s xs ys)) ∧ Below w.heap.size w w' := by
  obtain ⟨BV, BB, hb, hz⟩ := two_new w #[.int .i64 p, .int .i64 c, .int .i64 h, .int .i64 s] #[.slice a1 n1 c1, .slice a2 n2 c2] 29 26
  clear hz
  obtain ⟨x0, x1, x2, x3, xf, xl⟩ := BV.four
  obtain ⟨y0, y1, yf, yl⟩ := BB.two
  by_cases g : vB p c h s = true
  rotate_left
  · replace g : vB p c h s = false := by simpa using g
    have e0 : isB p c h s xs ys = false := by simp [isB, g]
    rw [e0]
    clear e0
    have hv0 := fun W => valid_any p c h s W
    simp only [g] at hv0
    have HV0 := Lib.hid hv0
    clear hv0
    go_enter Try.func21, Try.ntmps21
    go_wp2_with (first | (go_at_call 28; refine (HV0.out _).mono ?_; rintro e w1 ⟨rfl, hb1⟩; obtain ⟨x0, x1, x2, x3, xf, xl⟩ := (BV.below hb1).four; obtain ⟨y0, y1, yf, yl⟩ := (BB.below hb1).two))
    go_ret
    exact ⟨rfl, chain hb hb1⟩
  by_cases sx : sideB p c xs = true
  rotate_left
  · replace sx : sideB p c xs = false := by simpa using sx
    have e0 : isB p c h s xs ys = false := by simp [isB, g, sx]
    rw [e0]
    clear e0
    have hv0 := fun W => valid_any p c h s W
    simp only [g] at hv0
    have HV0 := Lib.hid hv0
    clear hv0
    have hs1 := fun W (hr : IRow W a1 xs) => isSide_any p c h s a1 n1 c1 xs W g h1 (by omega) hr
    simp only [sx] at hs1
    have HS1 := Lib.hid hs1
    clear hs1
    go_enter Try.func21, Try.ntmps21
    go_wp2_with (first | (go_at_call 28; refine (HV0.out _).mono ?_; rintro e w1 ⟨rfl, hb1⟩; obtain ⟨x0, x1, x2, x3, xf, xl⟩ := (BV.below hb1).four; obtain ⟨y0, y1, yf, yl⟩ := (BB.below hb1).two) | (go_at_call 31; refine (HS1.out _ (r1.below (chain hb hb1))).mono ?_; rintro e w2 ⟨rfl, hb2⟩; obtain ⟨x0, x1, x2, x3, xf, xl⟩ := (BV.below (chain hb1 hb2)).four; obtain ⟨y0, y1, yf, yl⟩ := (BB.below (chain hb1 hb2)).two))
    go_ret
    exact ⟨rfl, chain (chain hb hb1) hb2⟩
  by_cases sy : sideB p c ys = true
  rotate_left
  · replace sy : sideB p c ys = false := by simpa using sy
    have e0 : isB p c h s xs ys = false := by simp [isB, g, sx, sy]
    rw [e0]
    clear e0
    have hv0 := fun W => valid_any p c h s W
    simp only [g] at hv0
    have HV0 := Lib.hid hv0
    clear hv0
    have hs1 := fun W (hr : IRow W a1 xs) => isSide_any p c h s a1 n1 c1 xs W g h1 (by omega) hr
    simp only [sx] at hs1
    have HS1 := Lib.hid hs1
    clear hs1
    have hs2 := fun W (hr : IRow W a2 ys) => isSide_any p c h s a2 n2 c2 ys W g h2 (by omega) hr
    simp only [sy] at hs2
    have HS2 := Lib.hid hs2
    clear hs2
    go_enter Try.func21, Try.ntmps21
    go_wp2_with (first | (go_at_call 28; refine (HV0.out _).mono ?_; rintro e w1 ⟨rfl, hb1⟩; obtain ⟨x0, x1, x2, x3, xf, xl⟩ := (BV.below hb1).four; obtain ⟨y0, y1, yf, yl⟩ := (BB.below hb1).two) | (go_at_call 31; refine (HS2.out _ (r2.below (chain (chain hb hb1) hb2))).mono ?_; rintro e w3 ⟨rfl, hb3⟩; obtain ⟨x0, x1, x2, x3, xf, xl⟩ := (BV.below (chain (chain hb1 hb2) hb3)).four; obtain ⟨y0, y1, yf, yl⟩ := (BB.below (chain (chain hb1 hb2) hb3)).two) | (go_at_call 31; refine (HS1.out _ (r1.below (chain hb hb1))).mono ?_; rintro e w2 ⟨rfl, hb2⟩; obtain ⟨x0, x1, x2, x3, xf, xl⟩ := (BV.below (chain hb1 hb2)).four; obtain ⟨y0, y1, yf, yl⟩ := (BB.below (chain hb1 hb2)).two))
    go_ret
    exact ⟨rfl, chain (chain (chain hb hb1) hb2) hb3⟩
  have hv0 := fun W => valid_any p c h s W
  simp only [g] at hv0
  have HV0 := Lib.hid hv0
  clear hv0
  have hs1 := fun W (hr : IRow W a1 xs) => isSide_any p c h s a1 n1 c1 xs W g h1 (by omega) hr
  simp only [sx] at hs1
  have HS1 := Lib.hid hs1
  clear hs1
  have hs2 := fun W (hr : IRow W a2 ys) => isSide_any p c h s a2 n2 c2 ys W g h2 (by omega) hr
  simp only [sy] at hs2
  have HS2 := Lib.hid hs2
  clear hs2
  have hv := vB_iff.1 g
  obtain ⟨m1, m2, m3⟩ := sideB_iff.1 sx
  obtain ⟨m4, m5, m6⟩ := sideB_iff.1 sy
  have sb1 := (sum_bound xs m2).1
  have sb2 := (sum_bound ys m5).1
  have q1 : xs.sum ≤ 15 := by omega
  have q2 : ys.sum ≤ 15 := by omega
  have p0 : 2 ≤ p := hv.1
  have p1 : p ≤ 24 := hv.2.1
  have hx : ∀ x ∈ xs, 0 ≤ x ∧ x ≤ 1000 := fun x hx => by have := m2 x hx; omega
  have hy : ∀ x ∈ ys, 0 ≤ x ∧ x ≤ 1000 := fun x hx => by have := m5 x hx; omega
  obtain ⟨P, rfl⟩ := Int.eq_ofNat_of_zero_le (by omega : 0 ≤ p)
  have N1 := m1
  have N2 := m4
  have wz : IntKind.i64.wrap (xs.sum + ys.sum) = xs.sum + ys.sum := IntWalk.i64_in _ (by omega)
  by_cases z : xs.sum + ys.sum = 0
  · have zz : decide (0 < xs.sum + ys.sum) = false := by rw [decide_eq_false_iff_not]; omega
    have e0 : isB (P : Int) c h s xs ys = false := by simp [isB, z]
    rw [e0]
    clear e0 z m1 m2 m3 m4 m5 m6 hv sb1 sb2 g sx sy
    go_enter Try.func21, Try.ntmps21
    go_wp2_with (first | (go_at_call 28; refine (HV0.out _).mono ?_; rintro e w1 ⟨rfl, hb1⟩; obtain ⟨x0, x1, x2, x3, xf, xl⟩ := (BV.below hb1).four; obtain ⟨y0, y1, yf, yl⟩ := (BB.below hb1).two) | (go_at_call 31; refine (HS2.out _ (r2.below (chain (chain hb hb1) hb2))).mono ?_; rintro e w3 ⟨rfl, hb3⟩; obtain ⟨x0, x1, x2, x3, xf, xl⟩ := (BV.below (chain (chain hb1 hb2) hb3)).four; obtain ⟨y0, y1, yf, yl⟩ := (BB.below (chain (chain hb1 hb2) hb3)).two) | (go_at_call 31; refine (HS1.out _ (r1.below (chain hb hb1))).mono ?_; rintro e w2 ⟨rfl, hb2⟩; obtain ⟨x0, x1, x2, x3, xf, xl⟩ := (BV.below (chain hb1 hb2)).four; obtain ⟨y0, y1, yf, yl⟩ := (BB.below (chain hb1 hb2)).two) | (go_at_call 32; refine (countsOf_any _ c h s a1 a2 n1 c1 n2 c2 xs ys _ h1 h2 (r1.below (chain (chain (chain hb hb1) hb2) hb3)) (r2.below (chain (chain (chain hb hb1) hb2) hb3))).mono ?_; rintro e w4 ⟨B, rfl, q1, q2, hb4⟩))
    have hK1 := fun W (hW : Below w4.heap.size w4 W) => checkers_any (P : Int) 37 38 B 37 B xs W (by omega) p1 N1 hx (q1.below hW)
    have hK2 := fun W (hW : Below w4.heap.size w4 W) => checkers_any (P : Int) 37 38 B 38 B ys W (by omega) p1 N2 hy (q2.below hW)
    have hK3 := fun W (hW : Below w4.heap.size w4 W) => sharesPoint_any P 37 38 B xs ys W (by omega) (by omega) (by omega) (q1.below hW) (q2.below hW)
    have HK1 := Lib.hid hK1
    have HK2 := Lib.hid hK2
    have HK3 := Lib.hid hK3
    clear hK1 hK2 hK3
    have hbc : Below w4.heap.size w4 (w4.alloc (.cells #[.int .i64 (P : Int), fv 37 B, fv 38 B] 53)) := (Below.refl _ _).alloc (Nat.le_refl _) _
    obtain ⟨z0, z1, z2, zf, zl⟩ := (Blk.new w4 #[.int .i64 (P : Int), fv 37 B, fv 38 B] 53).tri
    refine wp_region_held_drew (S := fun w' => w'.cell? ⟨w4.heap.size, 0, none⟩ = some (.int .i64 (P : Int)) ∧ w'.cell? ⟨w4.heap.size, 1, none⟩ = some (fv 37 B) ∧ w'.cell? ⟨w4.heap.size, 2, none⟩ = some (fv 38 B) ∧ Below w4.heap.size w4 w' ∧ w4.heap.size < w'.heap.size) (by kernel_rfl) ⟨z0, z1, z2, hbc.drew, zl⟩ (fun hHeld => ?_)
    refine tk 0 26 ?_
    refine tk 1 27 ?_
    refine tk 2 28 ?_
    refine tk 4 30 ?_
    refine tk 5 31 ?_
    refine tk 6 32 ?_
    refine rdk 3 29 fun K hK => ?_
    go_simp
    refine (HK1.out _ hHeld.2.2.2.1).mono ?_
    rintro e w8 ⟨rfl, hb8⟩
    have hS := held3t hHeld hb8
    (try go_wp2_with fail)
    refine hko hK hS fun hHeld => ?_
    clear hK K
    refine rdk 7 33 fun K hK => ?_
    go_simp
    refine (HK2.out _ hHeld.2.2.2.1).mono ?_
    rintro e w8 ⟨rfl, hb8⟩
    have hS := held3t hHeld hb8
    (try go_wp2_with fail)
    refine hko hK hS fun hHeld => ?_
    clear hK K
    refine tk 8 34 ?_
    refine tk 9 35 ?_
    refine tk 10 36 ?_
    refine tkv 11 37 ?_
    refine tkv 12 38 ?_
    refine tkv 13 39 ?_
    refine tk 14 40 ?_
    refine tk 15 4 ?_
    refine wpAnyH_done (by kernel_rfl) ?_ _
    go_wp2
    go_ret
    exact ⟨rfl, chain (chain (chain (chain (chain hb hb1) hb2) hb3) hb4) hHeld.2.2.2.1⟩
  · have zz : decide (0 < xs.sum + ys.sum) = true := by rw [decide_eq_true_iff]; omega
    have e0 : isB (P : Int) c h s xs ys = apartB P xs ys := by simp [isB, g, sx, sy, z]
    rw [e0]
    clear e0 z m1 m2 m3 m4 m5 m6 hv sb1 sb2 g sx sy
    go_enter Try.func21, Try.ntmps21
    go_wp2_with (first | (go_at_call 28; refine (HV0.out _).mono ?_; rintro e w1 ⟨rfl, hb1⟩; obtain ⟨x0, x1, x2, x3, xf, xl⟩ := (BV.below hb1).four; obtain ⟨y0, y1, yf, yl⟩ := (BB.below hb1).two) | (go_at_call 31; refine (HS2.out _ (r2.below (chain (chain hb hb1) hb2))).mono ?_; rintro e w3 ⟨rfl, hb3⟩; obtain ⟨x0, x1, x2, x3, xf, xl⟩ := (BV.below (chain (chain hb1 hb2) hb3)).four; obtain ⟨y0, y1, yf, yl⟩ := (BB.below (chain (chain hb1 hb2) hb3)).two) | (go_at_call 31; refine (HS1.out _ (r1.below (chain hb hb1))).mono ?_; rintro e w2 ⟨rfl, hb2⟩; obtain ⟨x0, x1, x2, x3, xf, xl⟩ := (BV.below (chain hb1 hb2)).four; obtain ⟨y0, y1, yf, yl⟩ := (BB.below (chain hb1 hb2)).two) | (go_at_call 32; refine (countsOf_any _ c h s a1 a2 n1 c1 n2 c2 xs ys _ h1 h2 (r1.below (chain (chain (chain hb hb1) hb2) hb3)) (r2.below (chain (chain (chain hb hb1) hb2) hb3))).mono ?_; rintro e w4 ⟨B, rfl, q1, q2, hb4⟩))
    have hK1 := fun W (hW : Below w4.heap.size w4 W) => checkers_any (P : Int) 37 38 B 37 B xs W (by omega) p1 N1 hx (q1.below hW)
    have hK2 := fun W (hW : Below w4.heap.size w4 W) => checkers_any (P : Int) 37 38 B 38 B ys W (by omega) p1 N2 hy (q2.below hW)
    have hK3 := fun W (hW : Below w4.heap.size w4 W) => sharesPoint_any P 37 38 B xs ys W (by omega) (by omega) (by omega) (q1.below hW) (q2.below hW)
    have HK1 := Lib.hid hK1
    have HK2 := Lib.hid hK2
    have HK3 := Lib.hid hK3
    clear hK1 hK2 hK3
    have hbc : Below w4.heap.size w4 (w4.alloc (.cells #[.int .i64 (P : Int), fv 37 B, fv 38 B] 53)) := (Below.refl _ _).alloc (Nat.le_refl _) _
    obtain ⟨z0, z1, z2, zf, zl⟩ := (Blk.new w4 #[.int .i64 (P : Int), fv 37 B, fv 38 B] 53).tri
    refine wp_region_held_drew (S := fun w' => w'.cell? ⟨w4.heap.size, 0, none⟩ = some (.int .i64 (P : Int)) ∧ w'.cell? ⟨w4.heap.size, 1, none⟩ = some (fv 37 B) ∧ w'.cell? ⟨w4.heap.size, 2, none⟩ = some (fv 38 B) ∧ Below w4.heap.size w4 w' ∧ w4.heap.size < w'.heap.size) (by kernel_rfl) ⟨z0, z1, z2, hbc.drew, zl⟩ (fun hHeld => ?_)
    refine tk 0 26 ?_
    refine tk 1 27 ?_
    refine tk 2 28 ?_
    refine tk 4 30 ?_
    refine tk 5 31 ?_
    refine tk 6 32 ?_
    refine rdk 3 29 fun K hK => ?_
    go_simp
    refine (HK1.out _ hHeld.2.2.2.1).mono ?_
    rintro e w8 ⟨rfl, hb8⟩
    have hS := held3t hHeld hb8
    (try go_wp2_with fail)
    refine hko hK hS fun hHeld => ?_
    clear hK K
    refine rdk 7 33 fun K hK => ?_
    go_simp
    refine (HK2.out _ hHeld.2.2.2.1).mono ?_
    rintro e w8 ⟨rfl, hb8⟩
    have hS := held3t hHeld hb8
    (try go_wp2_with fail)
    refine hko hK hS fun hHeld => ?_
    clear hK K
    refine tk 8 34 ?_
    refine tk 9 35 ?_
    refine tk 10 36 ?_
    refine tk 11 37 ?_
    refine rdk 12 38 fun K hK => ?_
    go_simp
    refine (HK3.out _ hHeld.2.2.2.1).mono ?_
    rintro e w8 ⟨rfl, hb8⟩
    have hS := held3t hHeld hb8
    (try go_wp2_with fail)
    refine hko hK hS fun hHeld => ?_
    clear hK K
    refine tk 13 39 ?_
    refine tk 14 40 ?_
    refine tk 15 4 ?_
    refine wpAnyH_done (by kernel_rfl) ?_ _
    go_wp2
    go_ret
    exact ⟨by simp, chain (chain (chain (chain (chain hb hb1) hb2) hb3) hb4) hHeld.2.2.2.1⟩
end Go.Proofs.Ytdciiocmddlhfaa
