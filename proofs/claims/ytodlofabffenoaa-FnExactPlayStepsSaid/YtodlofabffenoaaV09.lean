/- Texts of a proof, laid together. -/
import Derived.Test.YtodlofabffenoaaV08
import Derived.Test.YtodlofabffenoaaV05
import Derived.Test.YtodlofabffenoaaV01
namespace Go.Proofs.Ytodlofabffenoaa
open Go.ChangeShapes Go.WideShapes Go.ChangeAt Go.RowKit
set_option linter.unusedVariables false
set_option linter.unusedSimpArgs false
set_option maxRecDepth 4000
def legToS (P : Nat) (h : Int) (xs ys : List Int) (d : Int) : Nat → List Stp
  | 0 => []
  | k + 1 => (stepS P h xs ys k d).toList ++ legToS P h xs ys d k
theorem legToS_over {P : Nat} {h : Int} {xs ys : List Int} {d : Int} (g : overB xs ys = true) : ∀ k, legToS P h xs ys d k = []
  | 0 => rfl
  | k + 1 => by rw [legToS, legToS_over g k, stepS, if_pos g]; rfl
theorem legToS_not {P : Nat} {h : Int} {xs ys : List Int} {d : Int} (g : overB xs ys = false) : ∀ k, legToS P h xs ys d k = legTo P h xs ys d k
  | 0 => rfl
  | k + 1 => by rw [legToS, legToS_not g k, stepS, if_neg (by simp [g]), legTo]
theorem legToS_legL (P : Nat) (h : Int) (xs ys : List Int) (d : Int) : legToS P h xs ys d (P + 1) = legL P h xs ys d := by
  unfold legL
  cases g : overB xs ys with
  | true => rw [legToS_over g, if_pos rfl]
  | false => rw [legToS_not g, if_neg (by simp)]
theorem legB_S {P : Nat} {h s : Int} {xs ys : List Int} {t : Stp} : legB P h s xs ys t = (inB t.2.2.1 1 s && (inB t.1 0 (P : Int) && decide (stepS P h xs ys t.1.toNat t.2.2.1 = some t))) := by
  obtain ⟨a, b, d, q⟩ := t
  unfold legB
  dsimp only
  cases g1 : inB d 1 s with
  | false => simp
  | true =>
    have g1' : 1 ≤ d ∧ d ≤ s := by simpa [inB] using g1
    rw [Bool.true_and, Bool.true_and]
    by_cases ha : 0 ≤ a ∧ a ≤ (P : Int)
    · have ga : inB a 0 (P : Int) = true := by simpa [inB] using ha
      rw [ga, Bool.true_and]
      obtain ⟨k, rfl⟩ := Int.eq_ofNat_of_zero_le ha.1
      rw [show (k : Int).toNat = k by simp]
      unfold stepS
      cases g3 : overB xs ys with
      | true => simp
      | false =>
        rw [Bool.not_false, Bool.true_and, if_neg (by simp)]
        by_cases he : stepI P h xs ys k d = some ((k : Int), b, d, q)
        · have hp : placesB (P : Int) ((k : Int), b, d, q) = true := by
            unfold stepI at he
            split at he
            · simp at he
            · split at he
              · rename_i _ hal
                simp at he
                obtain ⟨rfl, _⟩ := he
                unfold placesB toI
                unfold alB openB at hal
                dsimp only
                by_cases hk : k = P
                · rw [if_pos (.inl hk)]
                  rw [if_pos hk] at hal
                  simp at hal ⊢
                  omega
                · rw [if_neg hk] at hal
                  by_cases hd : d ≤ (k : Int)
                  · rw [if_pos (.inr hd)]
                    simp
                    omega
                  · rw [if_neg (by omega)]
                    simp
                    omega
              · simp at he
          rw [hp, Bool.true_and]
        · rw [decide_eq_false he, Bool.and_false]
    · have ga : inB a 0 (P : Int) = false := by simpa [inB] using ha
      have hp : placesB (P : Int) (a, b, d, q) = false := by
        unfold placesB
        dsimp only
        by_cases h0 : 0 ≤ a
        · have : ¬ a ≤ (P : Int) := fun h1 => ha ⟨h0, h1⟩
          rw [decide_eq_false this]
          simp
        · rw [decide_eq_false h0, Bool.false_and]
      rw [ga, hp]
      simp
set_option maxRecDepth 8000 in
set_option maxHeartbeats 2000000 in
theorem l04Legal_any (P : Nat) (c h s : Int) (a1 a2 : Option Addr) (n1 n2 c1 c2 : Nat) (xs ys : List Int) (w : World) (h1 : xs.length = n1) (h2 : ys.length = n2) (p0 : 2 ≤ P) (p1 : P ≤ 24) (N1 : xs.length = P + 1) (N2 : ys.length = P + 1) (hh0 : 1 ≤ h) (hh : h ≤ (P : Int)) (hx : ∀ x ∈ xs, 0 ≤ x ∧ x ≤ 1000) (hy : ∀ y ∈ ys, 0 ≤ y ∧ y ≤ 1000) (r1 : IRow w a1 xs) (r2 : IRow w a2 ys) (d : Int) (d0 : 1 ≤ d) (d1 : d ≤ 1000) :
    Calls Try.prog 21 #[.agg #[.int .i64 (P : Int), .int .i64 c, .int .i64 h, .int .i64 s], .agg #[.slice a1 n1 c1, .slice a2 n2 c2], .int .i64 d] w (StepsGot (legL P h xs ys d) w) := by
  obtain ⟨BV, BB, hb, hz⟩ := two_new w #[.int .i64 (P : Int), .int .i64 c, .int .i64 h, .int .i64 s] #[.slice a1 n1 c1, .slice a2 n2 c2] 35 32
  obtain ⟨x0, x1, x2, x3, xf, xl⟩ := BV.four
  obtain ⟨y0, y1, yf, yl⟩ := BB.two
  have hs0 := fun (k : Nat) (kP : k ≤ P) W (hW : Below w.heap.size w W) => l04Step_any P c h s a1 a2 n1 n2 c1 c2 xs ys W h1 h2 p0 p1 N1 N2 hh0 hh hx hy (r1.below hW) (r2.below hW) k d kP d0 d1
  have hLl := legL_length P h xs ys d
  obtain ⟨L, hL⟩ : ∃ L, legL P h xs ys d = L := ⟨_, rfl⟩
  have hl0 : legToS P h xs ys d (P + 1) = L := by rw [legToS_legL, hL]
  rw [hL] at hLl ⊢
  have HS := Lib.hid hs0
  have HL := Lib.hid hl0
  clear hs0 hl0 hL
  go_enter Try.func21, Try.ntmps21
  go_wp2_with fail
  have hO0 : OwnT (((w.alloc (.cells #[.int .i64 (P : Int), .int .i64 c, .int .i64 h, .int .i64 s] 35)).alloc (.cells #[.slice a1 n1 c1, .slice a2 n2 c2] 32)).alloc (.cells #[] 56)) ((w.alloc (.cells #[.int .i64 (P : Int), .int .i64 c, .int .i64 h, .int .i64 s] 35)).alloc (.cells #[.slice a1 n1 c1, .slice a2 n2 c2] 32)).heap.size (.slice (some ⟨((w.alloc (.cells #[.int .i64 (P : Int), .int .i64 c, .int .i64 h, .int .i64 s] 35)).alloc (.cells #[.slice a1 n1 c1, .slice a2 n2 c2] 32)).heap.size, 0, none⟩) 0 0) [] := OwnT.start _
  have hbA : Below ((w.alloc (.cells #[.int .i64 (P : Int), .int .i64 c, .int .i64 h, .int .i64 s] 35)).alloc (.cells #[.slice a1 n1 c1, .slice a2 n2 c2] 32)).heap.size ((w.alloc (.cells #[.int .i64 (P : Int), .int .i64 c, .int .i64 h, .int .i64 s] 35)).alloc (.cells #[.slice a1 n1 c1, .slice a2 n2 c2] 32)) (((w.alloc (.cells #[.int .i64 (P : Int), .int .i64 c, .int .i64 h, .int .i64 s] 35)).alloc (.cells #[.slice a1 n1 c1, .slice a2 n2 c2] 32)).alloc (.cells #[] 56)) := (Below.refl _ _).alloc (Nat.le_refl _) _
  rw [hz] at hO0
  have hzN := Lib.hid hz
  clear hz x0 x1 x2 x3 xf xl y0 y1 yf yl
  generalize (((w.alloc (.cells #[.int .i64 (P : Int), .int .i64 c, .int .i64 h, .int .i64 s] 35)).alloc (.cells #[.slice a1 n1 c1, .slice a2 n2 c2] 32)).alloc (.cells #[] 56)) = v1 at *
  generalize ((w.alloc (.cells #[.int .i64 (P : Int), .int .i64 c, .int .i64 h, .int .i64 s] 35)).alloc (.cells #[.slice a1 n1 c1, .slice a2 n2 c2] 32)) = v0 at *
  have hz := hzN.out
  go_loopg [7, 8] (P + 1) (fun m q i wr => ∃ (k : Nat) (D : List Stp), k ≤ P + 1 ∧ m = k ∧ i = .int .i64 ((k : Int) - 1) ∧ D ++ legToS P h xs ys d k = L ∧ OwnT wr (w.heap.size + 1 + 1) q D ∧ Below v0.heap.size v0 wr)
  case atStart => exact ⟨P + 1, [], by omega, rfl, by congr 1; omega, HL.out, hO0, hbA⟩
  case round =>
    obtain ⟨k, D, hk, hm, rfl, hDL, hO, hbel⟩ := hrel
    have hDl : D.length ≤ P + 1 := by rw [← hDL, List.length_append] at hLl; omega
    have hbw := chain hb hbel
    have hszr := hbel.size
    rw [hz] at hszr
    obtain ⟨x0, x1, x2, x3, xf, xl⟩ := (BV.below hbel).four
    obtain ⟨y0, y1, yf, yl⟩ := (BB.below hbel).two
    cases k with
    | zero =>
      have hDL2 : D = L := by rw [← hDL]; simp [legToS]
      subst hDL2
      obtain ⟨a, cp, rfl⟩ := hO.form
      have hos := hO.ost
      have HDL := Lib.hid hDL
      clear hDL hDl hLl
      go_wp2
      go_ret
      exact ⟨a, cp, rfl, hos.mono (by omega) (Nat.le_refl _), hbw⟩
    | succ k =>
      have e1 : (((k + 1 : Nat) : Int) - 1) = (k : Int) := by omega
      rw [e1]
      have hsk := HS.out k (by omega) wr hbw
      rw [legToS] at hDL
      have hkP : (k : Int) ≤ (P : Int) := by omega
      clear e1
      cases hst : stepS P h xs ys k d with
      | none =>
        rw [hst] at hsk hDL
        have HC := Lib.hid hsk
        have HDL := Lib.hid hDL
        clear hsk hDL hst hLl hz
        go_wp2_with (go_at_call 37; refine HC.out.mono ?_; intro e w5 hg; obtain ⟨x, rfl, hb5⟩ := hg.none)
        go_roundg k
        case measure => omega
        case rel => exact ⟨k, D, by omega, rfl, by go_num, by simpa using HDL.out, (hO.kept hb5).alloc _, (chain hbel hb5).alloc (chain hbel hb5).size _⟩
      | some t =>
        obtain ⟨e1, e2, e3, e4⟩ := t
        rw [hst] at hsk hDL
        have hDl2 : D.length ≤ 1048576 := by omega
        have HC := Lib.hid hsk
        have HDL := Lib.hid hDL
        clear hsk hDL hst hLl hz
        have hpush : ∀ w5, Below wr.heap.size wr w5 → w.heap.size + 1 + 1 ≤ (w5.alloc (.cells #[.int .i64 e1, .int .i64 e2, .int .i64 e3, .bool e4] 56)).heap.size := fun w5 h5 => by
          have := h5.size
          simp
          omega
        go_wp2_with (first | (go_at_call 37; refine HC.out.mono ?_; intro e w5 hg; obtain ⟨rfl, hb5⟩ := hg.some) | (at_builtin; refine wp_pushT rfl _ _ rfl (w.heap.size + 1 + 1) _ D rfl ((hO.kept hb5).alloc _) (e1, e2, e3, e4) rfl (by simp) hDl2 (hpush _ hb5) ?_; intro v2 w6 hO2 hb6))
        go_roundg k
        case measure => omega
        case rel => exact ⟨k, D ++ [(e1, e2, e3, e4)], by omega, rfl, by go_num, by rw [← HDL.out]; simp, hO2, ((chain hbel hb5).alloc (chain hbel hb5).size _).trans (by rw [hzN.out]; exact hb6)⟩
theorem isB_sides {p c h s : Int} {xs ys : List Int} (g : isB p c h s xs ys = true) : 1 ≤ s ∧ s ≤ 6 := by
  have hv : vB p c h s = true := by
    unfold isB at g
    rw [Bool.and_eq_true] at g
    exact g.1
  have := vB_iff.1 hv
  omega
set_option maxRecDepth 8000 in
set_option maxHeartbeats 2000000 in
theorem l04IsLegal_any (P : Nat) (c h s : Int) (a1 a2 : Option Addr) (n1 n2 c1 c2 : Nat) (xs ys : List Int) (w : World) (h1 : xs.length = n1) (h2 : ys.length = n2) (p0 : 2 ≤ P) (p1 : P ≤ 24) (N1 : xs.length = P + 1) (N2 : ys.length = P + 1) (hh0 : 1 ≤ h) (hh : h ≤ (P : Int)) (hx : ∀ x ∈ xs, 0 ≤ x ∧ x ≤ 1000) (hy : ∀ y ∈ ys, 0 ≤ y ∧ y ≤ 1000) (r1 : IRow w a1 xs) (r2 : IRow w a2 ys) (s6 : s ≤ 6) (t : Stp) :
    Calls Try.prog 39 #[.agg #[.int .i64 (P : Int), .int .i64 c, .int .i64 h, .int .i64 s], .agg #[.slice a1 n1 c1, .slice a2 n2 c2], stV t] w fun e w' => e = .returned (.bool (legB P h s xs ys t)) ∧ Below w.heap.size w w' := by
  rw [legB_S]
  obtain ⟨ta, tb, td, tq⟩ := t
  dsimp only
  obtain ⟨BV, BB, BS, hb, hz⟩ := three_new w #[.int .i64 (P : Int), .int .i64 c, .int .i64 h, .int .i64 s] #[.slice a1 n1 c1, .slice a2 n2 c2] #[.int .i64 ta, .int .i64 tb, .int .i64 td, .bool tq] 35 32 56
  obtain ⟨x0, x1, x2, x3, xf, xl⟩ := BV.four
  obtain ⟨y0, y1, yf, yl⟩ := BB.two
  obtain ⟨s0, s1, s2, s3, sf, sl⟩ := BS.four
  have hi1 := fun W => l01In_any td 1 s W
  have hi2 := fun W => l01In_any ta 0 (P : Int) W
  cases g1 : inB td 1 s with
  | false =>
    rw [g1] at hi1
    rw [Bool.false_and]
    have HI := Lib.hid hi1
    clear hi1 hi2
    go_enter Try.func39, Try.ntmps39
    go_wp2_with (go_at_call 53; refine (HI.out _).mono ?_; rintro e w2 ⟨rfl, rfl⟩)
    go_ret
    exact ⟨rfl, hb⟩
  | true =>
    rw [g1] at hi1
    rw [Bool.true_and]
    have g1' : 1 ≤ td ∧ td ≤ s := by simpa [inB] using g1
    cases g2 : inB ta 0 (P : Int) with
    | false =>
      rw [g2] at hi2
      rw [Bool.false_and]
      have HI := Lib.hid hi1
      have HI2 := Lib.hid hi2
      clear hi1 hi2
      go_enter Try.func39, Try.ntmps39
      go_wp2_with (go_at_call 53; with_reducible first | (refine (HI.out _).mono ?_; rintro e w2 ⟨rfl, rfl⟩) | (refine (HI2.out _).mono ?_; rintro e w3 ⟨rfl, rfl⟩))
      go_ret
      exact ⟨rfl, hb⟩
    | true =>
      rw [g2] at hi2
      rw [Bool.true_and]
      have g2' : 0 ≤ ta ∧ ta ≤ (P : Int) := by simpa [inB] using g2
      obtain ⟨k, rfl⟩ := Int.eq_ofNat_of_zero_le g2'.1
      rw [show (k : Int).toNat = k by simp]
      have hs0 := fun W (hW : Below w.heap.size w W) => l04Step_any P c h s a1 a2 n1 n2 c1 c2 xs ys W h1 h2 p0 p1 N1 N2 hh0 hh hx hy (r1.below hW) (r2.below hW) k td (by omega) g1'.1 (by omega)
      obtain ⟨r, hr0⟩ : ∃ r, stepS P h xs ys k td = r := ⟨_, rfl⟩
      rw [hr0] at hs0 ⊢
      have HI := Lib.hid hi1
      have HI2 := Lib.hid hi2
      have HS := Lib.hid hs0
      clear hi1 hi2 hs0 hr0 g1 g2
      go_enter Try.func39, Try.ntmps39
      go_wp2_with (first | (go_at_call 53; with_reducible first | (refine (HI.out _).mono ?_; rintro e w2 ⟨rfl, rfl⟩) | (refine (HI2.out _).mono ?_; rintro e w3 ⟨rfl, rfl⟩)) | (go_at_call 37; refine (HS.out _ hb).mono ?_; rintro e w4 ⟨x, ok, rfl, hr, hb4⟩; obtain ⟨e1, e2, e3, e4⟩ := x; obtain ⟨s0, s1, s2, s3, sf, sl⟩ := (BS.below hb4).four))
      all_goals (go_ret; refine ⟨?_, (chain hb hb4).alloc (chain hb hb4).size _⟩; clear HI HI2 HS hb4 hb r1 r2 BV BB BS hx hy; first | (simp [hr]; done) | (simp [hr, *]; done) | (simp_all; done))
set_option maxRecDepth 8000 in
set_option maxHeartbeats 1000000 in
theorem side_any (P : Nat) (f1 f2 B1 B2 fn B : Nat) (xs : List Int) (w : World) (p1 : P ≤ 24) (hn : xs.length = P + 1) (hp : Pays fn B xs w) :
    Calls Try.prog 83 #[.agg #[.int .i64 (P : Int), fv f1 B1, fv f2 B2], fv fn B] w (Copied xs w) := by
  obtain ⟨i0, hi, hz0, hz1, hz2⟩ := info_parts infoI64
  have hb : Below w.heap.size w (w.alloc (.cells #[.int .i64 (P : Int), fv f1 B1, fv f2 B2] 86)) := (Below.refl _ _).alloc (Nat.le_refl _) _
  have hp0 := hp.below hb
  have e199 := hp.1
  obtain ⟨z0, z1, z2, zf, zl⟩ := (Blk.new w #[.int .i64 (P : Int), fv f1 B1, fv f2 B2] 86).tri
  go_enter Try.func83, Try.ntmps83
  go_wp2_with (at_make; refine wpList_make_row _ rfl _ _ 24 rfl 2 i0 (.int .i64 0) Try.underlying24 hi hz0 hz1 rfl .i64 .i64 (P + 1) (by rfl) (by rfl) (by rw [hz2]; omega) (by omega) ?_)
  clear z0 z1 z2 zf zl
  have hmade := made_row (w.alloc (.cells #[.int .i64 (P : Int), fv f1 B1, fv f2 B2] 86)) (P + 1)
  have hsz : (w.alloc (.cells #[.int .i64 (P : Int), fv f1 B1, fv f2 B2] 86)).heap.size = w.heap.size + 1 := by simp
  rw [hsz] at hmade
  generalize (w.alloc (.cells #[.int .i64 (P : Int), fv f1 B1, fv f2 B2] 86)) = v0 at *
  go_loopg [13] xs.length (fun m i wr => ∃ k : Nat, k ≤ xs.length ∧ m = xs.length - k ∧ i = .int .i64 k ∧ Row wr (w.heap.size + 1) (xs.take k ++ List.replicate (xs.length - k) 0) ∧ Below (w.heap.size + 1) v0 wr)
  case atStart => exact ⟨0, by omega, by omega, rfl, by simpa [hn] using hmade, (Below.refl _ _).alloc (by omega) _⟩
  case round =>
    clear hmade
    obtain ⟨k, hk, hm, rfl, hR, hbk⟩ := hrel
    have hsz2 : w.heap.size + 1 < wr.heap.size := hR.lt
    by_cases hlt : k < xs.length
    · have hlt' : (k : Int) < (P : Int) + 1 := by omega
      have hpk := hp0.2 wr (hbk.mono (by omega)) k hlt
      obtain ⟨v, hv⟩ : ∃ v, xs.getD k 0 = v := ⟨_, rfl⟩
      rw [hv] at hpk
      have hcs := copy_step xs k hlt
      rw [hv] at hcs
      have HP := Lib.hid hpk
      have HC := Lib.hid hcs
      have HN := Lib.hid hn
      clear hpk hv hcs hn
      go_wp2_with (go_at_fn fn; refine HP.out.mono ?_; rintro e w5 ⟨rfl, hb5⟩; have R5 := hR.below hb5; have f0 := R5.free k; have c0 := R5.cell k (by simp; omega))
      go_roundg (xs.length - (k + 1))
      case measure => omega
      case rel => exact ⟨k + 1, by omega, rfl, by go_num, (R5.set k v).wf HC.out, (hbk.trans (hb5.mono (by omega))).setCell (Nat.le_refl _) _⟩
    · obtain rfl : k = xs.length := by omega
      have hlt' : ¬ ((xs.length : Nat) : Int) < (P : Int) + 1 := by omega
      have hend := hR.wf (show xs.take xs.length ++ List.replicate (xs.length - xs.length) 0 = xs by simp)
      have HE := Lib.hid hend
      have HN := Lib.hid hn
      clear hend hn hR
      go_wp2
      go_ret
      exact ⟨w.heap.size + 1, by simp [HN.out], by omega, HE.out, hb.trans (hbk.mono (by omega))⟩
theorem heldTB {w W w2 : World} {P f1 f2 B1 B2 : Nat} (hS : W.cell? ⟨w.heap.size, 0, none⟩ = some (.int .i64 (P : Int)) ∧ W.cell? ⟨w.heap.size, 1, none⟩ = some (fv f1 B1) ∧ W.cell? ⟨w.heap.size, 2, none⟩ = some (fv f2 B2) ∧ Below w.heap.size w W ∧ ∃ u0 u1, Blk W (w.heap.size + 1) #[u0, u1] 32) (hb : Below W.heap.size W w2) : w2.cell? ⟨w.heap.size, 0, none⟩ = some (.int .i64 (P : Int)) ∧ w2.cell? ⟨w.heap.size, 1, none⟩ = some (fv f1 B1) ∧ w2.cell? ⟨w.heap.size, 2, none⟩ = some (fv f2 B2) ∧ Below w.heap.size w w2 ∧ ∃ u0 u1, Blk w2 (w.heap.size + 1) #[u0, u1] 32 := by
  obtain ⟨h0, h1, h2, h3, u0, u1, h4⟩ := hS
  obtain ⟨hc, _⟩ := bcell hb
  have hl : w.heap.size < W.heap.size := by have := h4.lt; omega
  exact ⟨by rw [hc _ _ hl]; exact h0, by rw [hc _ _ hl]; exact h1, by rw [hc _ _ hl]; exact h2, chain h3 hb, u0, u1, h4.below hb⟩
theorem storeTB {w W : World} {P f1 f2 B1 B2 : Nat} (hS : W.cell? ⟨w.heap.size, 0, none⟩ = some (.int .i64 (P : Int)) ∧ W.cell? ⟨w.heap.size, 1, none⟩ = some (fv f1 B1) ∧ W.cell? ⟨w.heap.size, 2, none⟩ = some (fv f2 B2) ∧ Below w.heap.size w W ∧ ∃ u0 u1, Blk W (w.heap.size + 1) #[u0, u1] 32) (v0 v1 : Value) : ((W.setCell ⟨w.heap.size + 1, 0, none⟩ v0).setCell ⟨w.heap.size + 1, 1, none⟩ v1).cell? ⟨w.heap.size, 0, none⟩ = some (.int .i64 (P : Int)) ∧ ((W.setCell ⟨w.heap.size + 1, 0, none⟩ v0).setCell ⟨w.heap.size + 1, 1, none⟩ v1).cell? ⟨w.heap.size, 1, none⟩ = some (fv f1 B1) ∧ ((W.setCell ⟨w.heap.size + 1, 0, none⟩ v0).setCell ⟨w.heap.size + 1, 1, none⟩ v1).cell? ⟨w.heap.size, 2, none⟩ = some (fv f2 B2) ∧ Below w.heap.size w ((W.setCell ⟨w.heap.size + 1, 0, none⟩ v0).setCell ⟨w.heap.size + 1, 1, none⟩ v1) ∧ ∃ u0 u1, Blk ((W.setCell ⟨w.heap.size + 1, 0, none⟩ v0).setCell ⟨w.heap.size + 1, 1, none⟩ v1) (w.heap.size + 1) #[u0, u1] 32 := by
  obtain ⟨h0, h1, h2, h3, u0, u1, h4⟩ := hS
  refine ⟨?_, ?_, ?_, (h3.setCell (by simp) _).setCell (by simp) _, v0, v1, (h4.set v0).set v1⟩ <;> (rw [World.cell?_setCell_far _ _ _ _ (by simp), World.cell?_setCell_far _ _ _ _ (by simp)]; assumption)
set_option maxRecDepth 8000 in
set_option maxHeartbeats 1000000 in
theorem board_any (P : Nat) (f1 f2 B1 B2 : Nat) (xs ys : List Int) (w : World) (p1 : P ≤ 24) (n1 : xs.length = P + 1) (n2 : ys.length = P + 1) (q1 : Pays f1 B1 xs w) (q2 : Pays f2 B2 ys w) :
    Calls Try.prog 72 #[.agg #[.int .i64 (P : Int), fv f1 B1, fv f2 B2]] w (BoardMade xs ys w) := by
  obtain ⟨BT, BR, hb, hz⟩ := two_new w #[.int .i64 (P : Int), fv f1 B1, fv f2 B2] #[.slice none 0 0, .slice none 0 0] 86 32
  obtain ⟨x0, x1, x2, xf, xl⟩ := BT.tri
  have hK1 := fun W (hW : Below w.heap.size w W) => side_any P f1 f2 B1 B2 f1 B1 xs W p1 n1 (q1.below hW)
  have hK2 := fun W (hW : Below w.heap.size w W) => side_any P f1 f2 B1 B2 f2 B2 ys W p1 n2 (q2.below hW)
  have HK1 := Lib.hid hK1
  have HK2 := Lib.hid hK2
  clear hK1 hK2
  go_enter Try.func72, Try.ntmps72
  go_wp2_with fail
  generalize ((w.alloc (.cells #[.int .i64 (P : Int), fv f1 B1, fv f2 B2] 86)).alloc (.cells #[.slice none 0 0, .slice none 0 0] 32)) = v0 at *
  refine wp_region_held_drew (S := fun w' => w'.cell? ⟨w.heap.size, 0, none⟩ = some (.int .i64 (P : Int)) ∧ w'.cell? ⟨w.heap.size, 1, none⟩ = some (fv f1 B1) ∧ w'.cell? ⟨w.heap.size, 2, none⟩ = some (fv f2 B2) ∧ Below w.heap.size w w' ∧ ∃ u0 u1, Blk w' (w.heap.size + 1) #[u0, u1] 32) (by kernel_rfl) ⟨x0, x1, x2, hb.drew, _, _, BR.drew⟩ (fun hHeld => ?_)
  refine wpAnyH_take (i := 0) (oi := ⟨some 3, _, _, _, _, _⟩) (v := ?_) rfl (by kernel_rfl) (by kernel_rfl) (by kernel_rfl) (fun _ _ _ h => h) (Or.inl ⟨by rfl, ?_⟩) (by assumption) ?_
  rotate_left
  · intro w hSw; (try dsimp only at hSw); go_simp; (try (with_reducible rfl))
  try simp only [Act.put, List.setIfInBounds_toArray, List.set_cons_zero, List.set_cons_succ]
  refine wpAnyH_take (i := 1) (oi := ⟨some 4, _, _, _, _, _⟩) (v := ?_) rfl (by kernel_rfl) (by kernel_rfl) (by kernel_rfl) (fun _ _ _ h => h) (Or.inl ⟨by rfl, ?_⟩) (by assumption) ?_
  rotate_left
  · intro w hSw; (try dsimp only at hSw); go_simp; (try (with_reducible rfl))
  try simp only [Act.put, List.setIfInBounds_toArray, List.set_cons_zero, List.set_cons_succ]
  refine wpAnyH_take (i := 2) (oi := ⟨some 5, _, _, _, _, _⟩) (v := ?_) rfl (by kernel_rfl) (by kernel_rfl) (by kernel_rfl) (fun _ _ _ h => h) (Or.inl ⟨by rfl, ?_⟩) (by assumption) ?_
  rotate_left
  · intro w hSw; (try dsimp only at hSw); go_simp; (try (with_reducible rfl))
  try simp only [Act.put, List.setIfInBounds_toArray, List.set_cons_zero, List.set_cons_succ]
  refine wpAnyH_take (i := 4) (oi := ⟨some 7, _, _, _, _, _⟩) (v := ?_) rfl (by kernel_rfl) (by kernel_rfl) (by kernel_rfl) (fun _ _ _ h => h) (Or.inl ⟨by rfl, ?_⟩) (by assumption) ?_
  rotate_left
  · intro w hSw; (try dsimp only at hSw); go_simp; (try (with_reducible rfl))
  try simp only [Act.put, List.setIfInBounds_toArray, List.set_cons_zero, List.set_cons_succ]
  refine wpAnyH_take (i := 5) (oi := ⟨some 8, _, _, _, _, _⟩) (v := ?_) rfl (by kernel_rfl) (by kernel_rfl) (by kernel_rfl) (fun _ _ _ h => h) (Or.inl ⟨by rfl, ?_⟩) (by assumption) ?_
  rotate_left
  · intro w hSw; (try dsimp only at hSw); go_simp; (try (with_reducible rfl))
  try simp only [Act.put, List.setIfInBounds_toArray, List.set_cons_zero, List.set_cons_succ]
  refine wpAnyH_take (i := 6) (oi := ⟨some 9, _, _, _, _, _⟩) (v := ?_) rfl (by kernel_rfl) (by kernel_rfl) (by kernel_rfl) (fun _ _ _ h => h) (Or.inl ⟨by rfl, ?_⟩) (by assumption) ?_
  rotate_left
  · intro w hSw; (try dsimp only at hSw); go_simp; (try (with_reducible rfl))
  try simp only [Act.put, List.setIfInBounds_toArray, List.set_cons_zero, List.set_cons_succ]
  refine wpAnyH_ready (rs := [3]) (by kernel_rfl) (by simp) ?_
  refine AllReadyH.cons (o := ⟨some 6, _, _, _, _, _⟩) rfl (fun K hK => ?_) AllReadyH.nil
  go_simp
  refine (HK1.out _ hHeld.2.2.2.1).mono ?_
  rintro e w5 ⟨g1, rfl, hg1, R1, hb1⟩
  have hS := heldTB hHeld hb1
  (try go_wp2_with fail)
  refine hK.out _ _ hS (fun hHeld => ?_)
  clear hK K
  try simp only [Act.put, List.setIfInBounds_toArray, List.set_cons_zero, List.set_cons_succ]
  refine wpAnyH_ready (rs := [7]) (by kernel_rfl) (by simp) ?_
  refine AllReadyH.cons (o := ⟨some 10, _, _, _, _, _⟩) rfl (fun K hK => ?_) AllReadyH.nil
  go_simp
  refine (HK2.out _ hHeld.2.2.2.1).mono ?_
  rintro e w6 ⟨g2, rfl, hg2, R2, hb2⟩
  have R1b := R1.below hb2
  have hS := heldTB hHeld hb2
  (try go_wp2_with fail)
  refine hK.out _ _ hS (fun hHeld => ?_)
  clear hK K
  try simp only [Act.put, List.setIfInBounds_toArray, List.set_cons_zero, List.set_cons_succ]
  refine wpAnyH_take (i := 8) (oi := ⟨some 11, _, _, _, _, _⟩) (v := ?_) rfl (by kernel_rfl) (by kernel_rfl) (by kernel_rfl) (fun _ _ _ h => h) (Or.inl ⟨by rfl, ?_⟩) (by assumption) ?_
  rotate_left
  · intro w hSw; (try dsimp only at hSw); go_simp; (try (with_reducible rfl))
  try simp only [Act.put, List.setIfInBounds_toArray, List.set_cons_zero, List.set_cons_succ]
  refine wpAnyH_ready (rs := [9]) (by kernel_rfl) (by simp) ?_
  refine AllReadyH.cons (o := ⟨none, _, _, _, _, _⟩) rfl (fun K hK => ?_) AllReadyH.nil
  obtain ⟨u0, u1, BU⟩ := hHeld.2.2.2.2
  have y0 := BU.two.1
  have y1 := BU.two.2.1
  have yf := BU.two.2.2.1
  have yl := BU.two.2.2.2
  go_simp
  (try go_wp2_with fail)
  refine hK.out _ _ (storeTB hHeld _ _) (fun hHeld => ?_)
  clear hK K
  try simp only [Act.put, List.setIfInBounds_toArray, List.set_cons_zero, List.set_cons_succ]
  refine wpAnyH_done (by kernel_rfl) ?_ _
  go_wp2
  have hl1 := R1.lt
  have hd : v0.drew.heap.size = w.heap.size + 1 + 1 := hz
  have hb56 := hHeld.2.2.2.1
  refine bodyPost_ret (v := .agg #[.slice (some ⟨g1, 0, none⟩) (P + 1) (P + 1), .slice (some ⟨g2, 0, none⟩) (P + 1) (P + 1)]) (by simp [results, Try.results72, go_sem, y0, y1]) rfl ?_
  exact ⟨g1, g2, by rw [n1, n2], by omega, by omega, (R1b.other (by omega)).other (by omega), (R2.other (by omega)).other (by omega), hb56⟩
def mvX (xs : List Int) (f t n : Int) : List Int := if t = -1 then xs.set f.toNat (xs.getD f.toNat 0 - n) else (xs.set f.toNat (xs.getD f.toNat 0 - n)).set t.toNat ((xs.set f.toNat (xs.getD f.toNat 0 - n)).getD t.toNat 0 + n)
def mvY (P : Nat) (ys : List Int) (t : Int) (q : Bool) (n : Int) : List Int :=
  if q = true then (ys.set ((P : Int) - 1 - t).toNat (ys.getD ((P : Int) - 1 - t).toNat 0 - n)).set P ((ys.set ((P : Int) - 1 - t).toNat (ys.getD ((P : Int) - 1 - t).toNat 0 - n)).getD P 0 + n) else ys
theorem getD_set_ne (l : List Int) {i j : Nat} (v : Int) (h : ¬ j = i) : (l.set i v).getD j 0 = l.getD j 0 := by
  rw [List.getD_eq_getElem?_getD, List.getD_eq_getElem?_getD, List.getElem?_set_ne (fun e => h e.symm)]
theorem getD_set_eq (l : List Int) {i : Nat} (v : Int) (h : i < l.length) : (l.set i v).getD i 0 = v := by
  rw [List.getD_eq_getElem?_getD, List.getElem?_set_self h]
  rfl
theorem mvX_length (xs : List Int) (f t n : Int) : (mvX xs f t n).length = xs.length := by unfold mvX; split <;> simp
theorem mvY_length (P : Nat) (ys : List Int) (t : Int) (q : Bool) (n : Int) : (mvY P ys t q n).length = ys.length := by unfold mvY; split <;> simp
set_option maxRecDepth 8000 in
set_option maxHeartbeats 4000000 in
theorem moved_far_false (P : Nat) (f1 f2 B1 B2 : Nat) (xs ys : List Int) (w : World) (p0 : 2 ≤ P) (p1 : P ≤ 24) (n1 : xs.length = P + 1) (n2 : ys.length = P + 1) (hx : ∀ x ∈ xs, 0 ≤ x ∧ x ≤ 1000) (hyy : ∀ y ∈ ys, 0 ≤ y ∧ y ≤ 1000) (q1 : Pays f1 B1 xs w) (q2 : Pays f2 B2 ys w) (f : Nat) (td n : Int) (m0 : -1 ≤ n) (m1 : n ≤ 1) (fP : f ≤ P) (t : Nat) (tP : t < P) (hne : ¬ t = f) :
    Calls Try.prog 49 #[.agg #[.int .i64 (P : Int), fv f1 B1, fv f2 B2], stV ((f : Int), (t : Int), td, false), .int .i64 n] w (BoardMade (mvX xs f ((t : Int)) n) (mvY P ys ((t : Int)) false n) w) := by
  have hK := fun W (hW : Below w.heap.size w W) => board_any P f1 f2 B1 B2 xs ys W p1 n1 n2 (q1.below hW) (q2.below hW)
  have HB := Lib.hid hK
  obtain ⟨BT, BS, BR, hb, hzz⟩ := three_new w #[.int .i64 (P : Int), fv f1 B1, fv f2 B2] #[.int .i64 (f : Int), .int .i64 ((t : Int)), .int .i64 td, .bool false] #[.slice none 0 0, .slice none 0 0] 86 56 32
  obtain ⟨x0, x1, x2, xf, xl⟩ := BT.tri
  obtain ⟨s0, s1, s2, s3, sf, sl⟩ := BS.four
  have hft : (f : Int) < ((P + 1 : Nat) : Int) := by omega
  have hPt : (P : Int) < ((P + 1 : Nat) : Int) := by omega
  have m9 : -1000 ≤ n := by omega
  obtain ⟨u, hu⟩ : ∃ u, xs.getD f 0 = u := ⟨_, rfl⟩
  have ub := hx _ (getD_mem (show f < xs.length by omega))
  rw [hu] at ub
  have ua : 0 ≤ u := ub.1
  have uz : u ≤ 1000 := ub.2
  have hm1 : ((t : Int) != -1) = true := by simp
  have htt : (t : Int) < ((P + 1 : Nat) : Int) := by omega
  have hne3 : ¬ f = t := fun e => hne e.symm
  obtain ⟨v, hv⟩ : ∃ v, xs.getD t 0 = v := ⟨_, rfl⟩
  have vb := hx _ (getD_mem (show t < xs.length by omega))
  rw [hv] at vb
  have va : 0 ≤ v := vb.1
  have vz : v ≤ 1000 := vb.2
  obtain ⟨X, hX⟩ : ∃ X, mvX xs (f : Int) ((t : Int)) n = X := ⟨_, rfl⟩
  obtain ⟨Y, hY⟩ : ∃ Y, mvY P ys ((t : Int)) false n = Y := ⟨_, rfl⟩
  have eX : (xs.set f (u - n)).set t (v + n) = X := by
    rw [← hX]
    unfold mvX
    rw [if_neg (by omega)]
    simp only [Int.toNat_natCast]
    rw [hu, getD_set_ne xs _ hne, hv]
  have eY : ys = Y := by
    rw [← hY]
    unfold mvY
    rw [if_neg (by simp)]
  have hXl : X.length = P + 1 := by rw [← hX, mvX_length, n1]
  have hYl : Y.length = P + 1 := by rw [← hY, mvY_length, n2]
  rw [hX, hY]
  have Hu := Lib.hid hu
  have Hv := Lib.hid hv
  have EX := Lib.hid eX
  have EY := Lib.hid eY
  have HXl := Lib.hid hXl
  have HYl := Lib.hid hYl
  clear hX hY hK q1 q2 eX eY hXl hYl
  clear hu ub
  clear hv vb
  go_enter Try.func49, Try.ntmps49
  go_wp2_with (go_at_call 72; refine (HB.out _ hb).mono ?_; rintro e w1 ⟨g1, g2, rfl, gg1, gg2, R1, R2, hb1⟩; obtain ⟨x0, x1, x2, xf, xl⟩ := (BT.below hb1).tri; obtain ⟨s0, s1, s2, s3, sf, sl⟩ := (BS.below hb1).four; obtain ⟨u0, u1, uf, ul⟩ := (BR.below hb1).two; have hne1 : ¬ g1 = g2 := (by omega); have hne2 : ¬ g2 = g1 := (by omega); have fr1 := (fun i => R1.free i); have fr2 := (fun i => R2.free i); have gl1 := R1.lt; have gl2 := R2.lt; have gs := hb.size; have cu := R1.cell f (by omega); rw [Hu.out] at cu; have cv := R1.cell t (by omega); rw [Hv.out] at cv)
  refine bodyPost_ret (v := .agg #[.slice (some ⟨g1, 0, none⟩) (P + 1) (P + 1), .slice (some ⟨g2, 0, none⟩) (P + 1) (P + 1)]) (by first | (simp [results, Try.results49, go_sem, u0, u1]; done) | (simp [results, Try.results49, go_sem, *]; done)) rfl ?_
  exact ⟨g1, g2, by rw [HXl.out, HYl.out], by omega, by omega, (((((R1.set f (u - n)).set t (v + n)).other (by omega)).other (by omega)).alloc _).wf EX.out, (((((R2.other (by omega)).other (by omega)).other (by omega)).other (by omega)).alloc _).wf EY.out, ((((((chain hb hb1).setCell (by simp; omega) _).setCell (by simp; omega) _).setCell (by simp; omega) _).setCell (by simp; omega) _).alloc (by simp; omega) _)⟩
set_option maxRecDepth 8000 in
set_option maxHeartbeats 4000000 in
theorem moved_far_true (P : Nat) (f1 f2 B1 B2 : Nat) (xs ys : List Int) (w : World) (p0 : 2 ≤ P) (p1 : P ≤ 24) (n1 : xs.length = P + 1) (n2 : ys.length = P + 1) (hx : ∀ x ∈ xs, 0 ≤ x ∧ x ≤ 1000) (hyy : ∀ y ∈ ys, 0 ≤ y ∧ y ≤ 1000) (q1 : Pays f1 B1 xs w) (q2 : Pays f2 B2 ys w) (f : Nat) (td n : Int) (m0 : -1 ≤ n) (m1 : n ≤ 1) (fP : f ≤ P) (t : Nat) (tP : t < P) (hne : ¬ t = f) :
    Calls Try.prog 49 #[.agg #[.int .i64 (P : Int), fv f1 B1, fv f2 B2], stV ((f : Int), (t : Int), td, true), .int .i64 n] w (BoardMade (mvX xs f ((t : Int)) n) (mvY P ys ((t : Int)) true n) w) := by
  have hK := fun W (hW : Below w.heap.size w W) => board_any P f1 f2 B1 B2 xs ys W p1 n1 n2 (q1.below hW) (q2.below hW)
  have HB := Lib.hid hK
  obtain ⟨BT, BS, BR, hb, hzz⟩ := three_new w #[.int .i64 (P : Int), fv f1 B1, fv f2 B2] #[.int .i64 (f : Int), .int .i64 ((t : Int)), .int .i64 td, .bool true] #[.slice none 0 0, .slice none 0 0] 86 56 32
  obtain ⟨x0, x1, x2, xf, xl⟩ := BT.tri
  obtain ⟨s0, s1, s2, s3, sf, sl⟩ := BS.four
  have hft : (f : Int) < ((P + 1 : Nat) : Int) := by omega
  have hPt : (P : Int) < ((P + 1 : Nat) : Int) := by omega
  have m9 : -1000 ≤ n := by omega
  obtain ⟨u, hu⟩ : ∃ u, xs.getD f 0 = u := ⟨_, rfl⟩
  have ub := hx _ (getD_mem (show f < xs.length by omega))
  rw [hu] at ub
  have ua : 0 ≤ u := ub.1
  have uz : u ≤ 1000 := ub.2
  have hm1 : ((t : Int) != -1) = true := by simp
  have htt : (t : Int) < ((P + 1 : Nat) : Int) := by omega
  have hne3 : ¬ f = t := fun e => hne e.symm
  obtain ⟨v, hv⟩ : ∃ v, xs.getD t 0 = v := ⟨_, rfl⟩
  have vb := hx _ (getD_mem (show t < xs.length by omega))
  rw [hv] at vb
  have va : 0 ≤ v := vb.1
  have vz : v ≤ 1000 := vb.2
  obtain ⟨K, hKK⟩ : ∃ K, P - 1 - t = K := ⟨_, rfl⟩
  have eK : (P : Int) - 1 - (t : Int) = (K : Int) := by omega
  have hKP : ¬ K = P := by omega
  have hPK : ¬ P = K := by omega
  have hKt : (K : Int) < ((P + 1 : Nat) : Int) := by omega
  have wz : IntKind.i64.wrap (IntKind.i64.wrap ((P : Int) - 1) - (t : Int)) = (K : Int) := by rw [IntWalk.i64_in ((P : Int) - 1) (by omega), eK]; exact IntWalk.i64_in _ (by omega)
  obtain ⟨y, hy⟩ : ∃ y, ys.getD K 0 = y := ⟨_, rfl⟩
  have yb := hyy _ (getD_mem (show K < ys.length by omega))
  rw [hy] at yb
  have ya : 0 ≤ y := yb.1
  have yz : y ≤ 1000 := yb.2
  obtain ⟨z, hz⟩ : ∃ z, ys.getD P 0 = z := ⟨_, rfl⟩
  have zb := hyy _ (getD_mem (show P < ys.length by omega))
  rw [hz] at zb
  have za : 0 ≤ z := zb.1
  have zz : z ≤ 1000 := zb.2
  obtain ⟨X, hX⟩ : ∃ X, mvX xs (f : Int) ((t : Int)) n = X := ⟨_, rfl⟩
  obtain ⟨Y, hY⟩ : ∃ Y, mvY P ys ((t : Int)) true n = Y := ⟨_, rfl⟩
  have eX : (xs.set f (u - n)).set t (v + n) = X := by
    rw [← hX]
    unfold mvX
    rw [if_neg (by omega)]
    simp only [Int.toNat_natCast]
    rw [hu, getD_set_ne xs _ hne, hv]
  have eY : (ys.set K (y - n)).set P (z + n) = Y := by
    rw [← hY]
    unfold mvY
    rw [if_pos rfl, eK, Int.toNat_natCast, hy, getD_set_ne ys _ hPK, hz]
  have hXl : X.length = P + 1 := by rw [← hX, mvX_length, n1]
  have hYl : Y.length = P + 1 := by rw [← hY, mvY_length, n2]
  rw [hX, hY]
  have Hu := Lib.hid hu
  have Hv := Lib.hid hv
  have Hy := Lib.hid hy
  have Hz := Lib.hid hz
  have EX := Lib.hid eX
  have EY := Lib.hid eY
  have HXl := Lib.hid hXl
  have HYl := Lib.hid hYl
  clear hX hY hK q1 q2 eX eY hXl hYl
  clear hu ub
  clear hv vb
  clear hy yb
  clear hz zb
  go_enter Try.func49, Try.ntmps49
  go_wp2_with (go_at_call 72; refine (HB.out _ hb).mono ?_; rintro e w1 ⟨g1, g2, rfl, gg1, gg2, R1, R2, hb1⟩; obtain ⟨x0, x1, x2, xf, xl⟩ := (BT.below hb1).tri; obtain ⟨s0, s1, s2, s3, sf, sl⟩ := (BS.below hb1).four; obtain ⟨u0, u1, uf, ul⟩ := (BR.below hb1).two; have hne1 : ¬ g1 = g2 := (by omega); have hne2 : ¬ g2 = g1 := (by omega); have fr1 := (fun i => R1.free i); have fr2 := (fun i => R2.free i); have gl1 := R1.lt; have gl2 := R2.lt; have gs := hb.size; have cu := R1.cell f (by omega); rw [Hu.out] at cu; have cv := R1.cell t (by omega); rw [Hv.out] at cv; have cy := R2.cell K (by omega); rw [Hy.out] at cy; have cz := R2.cell P (by omega); rw [Hz.out] at cz)
  refine bodyPost_ret (v := .agg #[.slice (some ⟨g1, 0, none⟩) (P + 1) (P + 1), .slice (some ⟨g2, 0, none⟩) (P + 1) (P + 1)]) (by first | (simp [results, Try.results49, go_sem, u0, u1]; done) | (simp [results, Try.results49, go_sem, *]; done)) rfl ?_
  exact ⟨g1, g2, by rw [HXl.out, HYl.out], by omega, by omega, (((((((R1.set f (u - n)).set t (v + n)).other (by omega)).other (by omega)).other (by omega)).other (by omega)).alloc _).wf EX.out, (((((((R2.other (by omega)).other (by omega)).set K (y - n)).set P (z + n)).other (by omega)).other (by omega)).alloc _).wf EY.out, ((((((((chain hb hb1).setCell (by simp; omega) _).setCell (by simp; omega) _).setCell (by simp; omega) _).setCell (by simp; omega) _).setCell (by simp; omega) _).setCell (by simp; omega) _).alloc (by simp; omega) _)⟩
set_option maxRecDepth 8000 in
set_option maxHeartbeats 4000000 in
theorem moved_same_false (P : Nat) (f1 f2 B1 B2 : Nat) (xs ys : List Int) (w : World) (p0 : 2 ≤ P) (p1 : P ≤ 24) (n1 : xs.length = P + 1) (n2 : ys.length = P + 1) (hx : ∀ x ∈ xs, 0 ≤ x ∧ x ≤ 1000) (hyy : ∀ y ∈ ys, 0 ≤ y ∧ y ≤ 1000) (q1 : Pays f1 B1 xs w) (q2 : Pays f2 B2 ys w) (f : Nat) (td n : Int) (m0 : -1 ≤ n) (m1 : n ≤ 1) (fP : f ≤ P) (tP : f < P) :
    Calls Try.prog 49 #[.agg #[.int .i64 (P : Int), fv f1 B1, fv f2 B2], stV ((f : Int), (f : Int), td, false), .int .i64 n] w (BoardMade (mvX xs f ((f : Int)) n) (mvY P ys ((f : Int)) false n) w) := by
  have hK := fun W (hW : Below w.heap.size w W) => board_any P f1 f2 B1 B2 xs ys W p1 n1 n2 (q1.below hW) (q2.below hW)
  have HB := Lib.hid hK
  obtain ⟨BT, BS, BR, hb, hzz⟩ := three_new w #[.int .i64 (P : Int), fv f1 B1, fv f2 B2] #[.int .i64 (f : Int), .int .i64 ((f : Int)), .int .i64 td, .bool false] #[.slice none 0 0, .slice none 0 0] 86 56 32
  obtain ⟨x0, x1, x2, xf, xl⟩ := BT.tri
  obtain ⟨s0, s1, s2, s3, sf, sl⟩ := BS.four
  have hft : (f : Int) < ((P + 1 : Nat) : Int) := by omega
  have hPt : (P : Int) < ((P + 1 : Nat) : Int) := by omega
  have m9 : -1000 ≤ n := by omega
  obtain ⟨u, hu⟩ : ∃ u, xs.getD f 0 = u := ⟨_, rfl⟩
  have ub := hx _ (getD_mem (show f < xs.length by omega))
  rw [hu] at ub
  have ua : 0 ≤ u := ub.1
  have uz : u ≤ 1000 := ub.2
  have hm1 : ((f : Int) != -1) = true := by simp
  have htt : (f : Int) < ((P + 1 : Nat) : Int) := by omega
  obtain ⟨X, hX⟩ : ∃ X, mvX xs (f : Int) ((f : Int)) n = X := ⟨_, rfl⟩
  obtain ⟨Y, hY⟩ : ∃ Y, mvY P ys ((f : Int)) false n = Y := ⟨_, rfl⟩
  have eX : (xs.set f (u - n)).set f u = X := by
    rw [← hX]
    unfold mvX
    rw [if_neg (by omega)]
    simp only [Int.toNat_natCast]
    rw [hu, getD_set_eq xs _ (by omega), show u - n + n = u by omega]
  have eY : ys = Y := by
    rw [← hY]
    unfold mvY
    rw [if_neg (by simp)]
  have hXl : X.length = P + 1 := by rw [← hX, mvX_length, n1]
  have hYl : Y.length = P + 1 := by rw [← hY, mvY_length, n2]
  rw [hX, hY]
  have Hu := Lib.hid hu
  have EX := Lib.hid eX
  have EY := Lib.hid eY
  have HXl := Lib.hid hXl
  have HYl := Lib.hid hYl
  clear hX hY hK q1 q2 eX eY hXl hYl
  clear hu ub
  go_enter Try.func49, Try.ntmps49
  go_wp2_with (go_at_call 72; refine (HB.out _ hb).mono ?_; rintro e w1 ⟨g1, g2, rfl, gg1, gg2, R1, R2, hb1⟩; obtain ⟨x0, x1, x2, xf, xl⟩ := (BT.below hb1).tri; obtain ⟨s0, s1, s2, s3, sf, sl⟩ := (BS.below hb1).four; obtain ⟨u0, u1, uf, ul⟩ := (BR.below hb1).two; have hne1 : ¬ g1 = g2 := (by omega); have hne2 : ¬ g2 = g1 := (by omega); have fr1 := (fun i => R1.free i); have fr2 := (fun i => R2.free i); have gl1 := R1.lt; have gl2 := R2.lt; have gs := hb.size; have cu := R1.cell f (by omega); rw [Hu.out] at cu)
  refine bodyPost_ret (v := .agg #[.slice (some ⟨g1, 0, none⟩) (P + 1) (P + 1), .slice (some ⟨g2, 0, none⟩) (P + 1) (P + 1)]) (by first | (simp [results, Try.results49, go_sem, u0, u1]; done) | (simp [results, Try.results49, go_sem, *]; done)) rfl ?_
  exact ⟨g1, g2, by rw [HXl.out, HYl.out], by omega, by omega, (((((R1.set f (u - n)).set f u).other (by omega)).other (by omega)).alloc _).wf EX.out, (((((R2.other (by omega)).other (by omega)).other (by omega)).other (by omega)).alloc _).wf EY.out, ((((((chain hb hb1).setCell (by simp; omega) _).setCell (by simp; omega) _).setCell (by simp; omega) _).setCell (by simp; omega) _).alloc (by simp; omega) _)⟩
set_option maxRecDepth 8000 in
set_option maxHeartbeats 4000000 in
theorem moved_same_true (P : Nat) (f1 f2 B1 B2 : Nat) (xs ys : List Int) (w : World) (p0 : 2 ≤ P) (p1 : P ≤ 24) (n1 : xs.length = P + 1) (n2 : ys.length = P + 1) (hx : ∀ x ∈ xs, 0 ≤ x ∧ x ≤ 1000) (hyy : ∀ y ∈ ys, 0 ≤ y ∧ y ≤ 1000) (q1 : Pays f1 B1 xs w) (q2 : Pays f2 B2 ys w) (f : Nat) (td n : Int) (m0 : -1 ≤ n) (m1 : n ≤ 1) (fP : f ≤ P) (tP : f < P) :
    Calls Try.prog 49 #[.agg #[.int .i64 (P : Int), fv f1 B1, fv f2 B2], stV ((f : Int), (f : Int), td, true), .int .i64 n] w (BoardMade (mvX xs f ((f : Int)) n) (mvY P ys ((f : Int)) true n) w) := by
  have hK := fun W (hW : Below w.heap.size w W) => board_any P f1 f2 B1 B2 xs ys W p1 n1 n2 (q1.below hW) (q2.below hW)
  have HB := Lib.hid hK
  obtain ⟨BT, BS, BR, hb, hzz⟩ := three_new w #[.int .i64 (P : Int), fv f1 B1, fv f2 B2] #[.int .i64 (f : Int), .int .i64 ((f : Int)), .int .i64 td, .bool true] #[.slice none 0 0, .slice none 0 0] 86 56 32
  obtain ⟨x0, x1, x2, xf, xl⟩ := BT.tri
  obtain ⟨s0, s1, s2, s3, sf, sl⟩ := BS.four
  have hft : (f : Int) < ((P + 1 : Nat) : Int) := by omega
  have hPt : (P : Int) < ((P + 1 : Nat) : Int) := by omega
  have m9 : -1000 ≤ n := by omega
  obtain ⟨u, hu⟩ : ∃ u, xs.getD f 0 = u := ⟨_, rfl⟩
  have ub := hx _ (getD_mem (show f < xs.length by omega))
  rw [hu] at ub
  have ua : 0 ≤ u := ub.1
  have uz : u ≤ 1000 := ub.2
  have hm1 : ((f : Int) != -1) = true := by simp
  have htt : (f : Int) < ((P + 1 : Nat) : Int) := by omega
  obtain ⟨K, hKK⟩ : ∃ K, P - 1 - f = K := ⟨_, rfl⟩
  have eK : (P : Int) - 1 - (f : Int) = (K : Int) := by omega
  have hKP : ¬ K = P := by omega
  have hPK : ¬ P = K := by omega
  have hKt : (K : Int) < ((P + 1 : Nat) : Int) := by omega
  have wz : IntKind.i64.wrap (IntKind.i64.wrap ((P : Int) - 1) - (f : Int)) = (K : Int) := by rw [IntWalk.i64_in ((P : Int) - 1) (by omega), eK]; exact IntWalk.i64_in _ (by omega)
  obtain ⟨y, hy⟩ : ∃ y, ys.getD K 0 = y := ⟨_, rfl⟩
  have yb := hyy _ (getD_mem (show K < ys.length by omega))
  rw [hy] at yb
  have ya : 0 ≤ y := yb.1
  have yz : y ≤ 1000 := yb.2
  obtain ⟨z, hz⟩ : ∃ z, ys.getD P 0 = z := ⟨_, rfl⟩
  have zb := hyy _ (getD_mem (show P < ys.length by omega))
  rw [hz] at zb
  have za : 0 ≤ z := zb.1
  have zz : z ≤ 1000 := zb.2
  obtain ⟨X, hX⟩ : ∃ X, mvX xs (f : Int) ((f : Int)) n = X := ⟨_, rfl⟩
  obtain ⟨Y, hY⟩ : ∃ Y, mvY P ys ((f : Int)) true n = Y := ⟨_, rfl⟩
  have eX : (xs.set f (u - n)).set f u = X := by
    rw [← hX]
    unfold mvX
    rw [if_neg (by omega)]
    simp only [Int.toNat_natCast]
    rw [hu, getD_set_eq xs _ (by omega), show u - n + n = u by omega]
  have eY : (ys.set K (y - n)).set P (z + n) = Y := by
    rw [← hY]
    unfold mvY
    rw [if_pos rfl, eK, Int.toNat_natCast, hy, getD_set_ne ys _ hPK, hz]
  have hXl : X.length = P + 1 := by rw [← hX, mvX_length, n1]
  have hYl : Y.length = P + 1 := by rw [← hY, mvY_length, n2]
  rw [hX, hY]
  have Hu := Lib.hid hu
  have Hy := Lib.hid hy
  have Hz := Lib.hid hz
  have EX := Lib.hid eX
  have EY := Lib.hid eY
  have HXl := Lib.hid hXl
  have HYl := Lib.hid hYl
  clear hX hY hK q1 q2 eX eY hXl hYl
  clear hu ub
  clear hy yb
  clear hz zb
  go_enter Try.func49, Try.ntmps49
  go_wp2_with (go_at_call 72; refine (HB.out _ hb).mono ?_; rintro e w1 ⟨g1, g2, rfl, gg1, gg2, R1, R2, hb1⟩; obtain ⟨x0, x1, x2, xf, xl⟩ := (BT.below hb1).tri; obtain ⟨s0, s1, s2, s3, sf, sl⟩ := (BS.below hb1).four; obtain ⟨u0, u1, uf, ul⟩ := (BR.below hb1).two; have hne1 : ¬ g1 = g2 := (by omega); have hne2 : ¬ g2 = g1 := (by omega); have fr1 := (fun i => R1.free i); have fr2 := (fun i => R2.free i); have gl1 := R1.lt; have gl2 := R2.lt; have gs := hb.size; have cu := R1.cell f (by omega); rw [Hu.out] at cu; have cy := R2.cell K (by omega); rw [Hy.out] at cy; have cz := R2.cell P (by omega); rw [Hz.out] at cz)
  refine bodyPost_ret (v := .agg #[.slice (some ⟨g1, 0, none⟩) (P + 1) (P + 1), .slice (some ⟨g2, 0, none⟩) (P + 1) (P + 1)]) (by first | (simp [results, Try.results49, go_sem, u0, u1]; done) | (simp [results, Try.results49, go_sem, *]; done)) rfl ?_
  exact ⟨g1, g2, by rw [HXl.out, HYl.out], by omega, by omega, (((((((R1.set f (u - n)).set f u).other (by omega)).other (by omega)).other (by omega)).other (by omega)).alloc _).wf EX.out, (((((((R2.other (by omega)).other (by omega)).set K (y - n)).set P (z + n)).other (by omega)).other (by omega)).alloc _).wf EY.out, ((((((((chain hb hb1).setCell (by simp; omega) _).setCell (by simp; omega) _).setCell (by simp; omega) _).setCell (by simp; omega) _).setCell (by simp; omega) _).setCell (by simp; omega) _).alloc (by simp; omega) _)⟩
set_option maxRecDepth 8000 in
set_option maxHeartbeats 4000000 in
theorem moved_off_false (P : Nat) (f1 f2 B1 B2 : Nat) (xs ys : List Int) (w : World) (p0 : 2 ≤ P) (p1 : P ≤ 24) (n1 : xs.length = P + 1) (n2 : ys.length = P + 1) (hx : ∀ x ∈ xs, 0 ≤ x ∧ x ≤ 1000) (hyy : ∀ y ∈ ys, 0 ≤ y ∧ y ≤ 1000) (q1 : Pays f1 B1 xs w) (q2 : Pays f2 B2 ys w) (f : Nat) (td n : Int) (m0 : -1 ≤ n) (m1 : n ≤ 1) (fP : f ≤ P)  :
    Calls Try.prog 49 #[.agg #[.int .i64 (P : Int), fv f1 B1, fv f2 B2], stV ((f : Int), -1, td, false), .int .i64 n] w (BoardMade (mvX xs f (-1) n) (mvY P ys (-1) false n) w) := by
  have hK := fun W (hW : Below w.heap.size w W) => board_any P f1 f2 B1 B2 xs ys W p1 n1 n2 (q1.below hW) (q2.below hW)
  have HB := Lib.hid hK
  obtain ⟨BT, BS, BR, hb, hzz⟩ := three_new w #[.int .i64 (P : Int), fv f1 B1, fv f2 B2] #[.int .i64 (f : Int), .int .i64 (-1), .int .i64 td, .bool false] #[.slice none 0 0, .slice none 0 0] 86 56 32
  obtain ⟨x0, x1, x2, xf, xl⟩ := BT.tri
  obtain ⟨s0, s1, s2, s3, sf, sl⟩ := BS.four
  have hft : (f : Int) < ((P + 1 : Nat) : Int) := by omega
  have hPt : (P : Int) < ((P + 1 : Nat) : Int) := by omega
  have m9 : -1000 ≤ n := by omega
  obtain ⟨u, hu⟩ : ∃ u, xs.getD f 0 = u := ⟨_, rfl⟩
  have ub := hx _ (getD_mem (show f < xs.length by omega))
  rw [hu] at ub
  have ua : 0 ≤ u := ub.1
  have uz : u ≤ 1000 := ub.2
  obtain ⟨X, hX⟩ : ∃ X, mvX xs (f : Int) (-1) n = X := ⟨_, rfl⟩
  obtain ⟨Y, hY⟩ : ∃ Y, mvY P ys (-1) false n = Y := ⟨_, rfl⟩
  have eX : xs.set f (u - n) = X := by
    rw [← hX]
    unfold mvX
    rw [if_pos rfl]
    simp only [Int.toNat_natCast]
    rw [hu]
  have eY : ys = Y := by
    rw [← hY]
    unfold mvY
    rw [if_neg (by simp)]
  have hXl : X.length = P + 1 := by rw [← hX, mvX_length, n1]
  have hYl : Y.length = P + 1 := by rw [← hY, mvY_length, n2]
  rw [hX, hY]
  have Hu := Lib.hid hu
  have EX := Lib.hid eX
  have EY := Lib.hid eY
  have HXl := Lib.hid hXl
  have HYl := Lib.hid hYl
  clear hX hY hK q1 q2 eX eY hXl hYl
  clear hu ub
  go_enter Try.func49, Try.ntmps49
  go_wp2_with (go_at_call 72; refine (HB.out _ hb).mono ?_; rintro e w1 ⟨g1, g2, rfl, gg1, gg2, R1, R2, hb1⟩; obtain ⟨x0, x1, x2, xf, xl⟩ := (BT.below hb1).tri; obtain ⟨s0, s1, s2, s3, sf, sl⟩ := (BS.below hb1).four; obtain ⟨u0, u1, uf, ul⟩ := (BR.below hb1).two; have hne1 : ¬ g1 = g2 := (by omega); have hne2 : ¬ g2 = g1 := (by omega); have fr1 := (fun i => R1.free i); have fr2 := (fun i => R2.free i); have gl1 := R1.lt; have gl2 := R2.lt; have gs := hb.size; have cu := R1.cell f (by omega); rw [Hu.out] at cu)
  refine bodyPost_ret (v := .agg #[.slice (some ⟨g1, 0, none⟩) (P + 1) (P + 1), .slice (some ⟨g2, 0, none⟩) (P + 1) (P + 1)]) (by first | (simp [results, Try.results49, go_sem, u0, u1]; done) | (simp [results, Try.results49, go_sem, *]; done)) rfl ?_
  exact ⟨g1, g2, by rw [HXl.out, HYl.out], by omega, by omega, ((((R1.set f (u - n)).other (by omega)).other (by omega)).alloc _).wf EX.out, ((((R2.other (by omega)).other (by omega)).other (by omega)).alloc _).wf EY.out, (((((chain hb hb1).setCell (by simp; omega) _).setCell (by simp; omega) _).setCell (by simp; omega) _).alloc (by simp; omega) _)⟩
set_option maxRecDepth 8000 in
set_option maxHeartbeats 4000000 in
theorem moved_off_true (P : Nat) (f1 f2 B1 B2 : Nat) (xs ys : List Int) (w : World) (p0 : 2 ≤ P) (p1 : P ≤ 24) (n1 : xs.length = P + 1) (n2 : ys.length = P + 1) (hx : ∀ x ∈ xs, 0 ≤ x ∧ x ≤ 1000) (hyy : ∀ y ∈ ys, 0 ≤ y ∧ y ≤ 1000) (q1 : Pays f1 B1 xs w) (q2 : Pays f2 B2 ys w) (f : Nat) (td n : Int) (m0 : -1 ≤ n) (m1 : n ≤ 1) (fP : f ≤ P)  :
    Calls Try.prog 49 #[.agg #[.int .i64 (P : Int), fv f1 B1, fv f2 B2], stV ((f : Int), -1, td, true), .int .i64 n] w (BoardMade (mvX xs f (-1) n) (mvY P ys (-1) true n) w) := by
  have hK := fun W (hW : Below w.heap.size w W) => board_any P f1 f2 B1 B2 xs ys W p1 n1 n2 (q1.below hW) (q2.below hW)
  have HB := Lib.hid hK
  obtain ⟨BT, BS, BR, hb, hzz⟩ := three_new w #[.int .i64 (P : Int), fv f1 B1, fv f2 B2] #[.int .i64 (f : Int), .int .i64 (-1), .int .i64 td, .bool true] #[.slice none 0 0, .slice none 0 0] 86 56 32
  obtain ⟨x0, x1, x2, xf, xl⟩ := BT.tri
  obtain ⟨s0, s1, s2, s3, sf, sl⟩ := BS.four
  have hft : (f : Int) < ((P + 1 : Nat) : Int) := by omega
  have hPt : (P : Int) < ((P + 1 : Nat) : Int) := by omega
  have m9 : -1000 ≤ n := by omega
  obtain ⟨u, hu⟩ : ∃ u, xs.getD f 0 = u := ⟨_, rfl⟩
  have ub := hx _ (getD_mem (show f < xs.length by omega))
  rw [hu] at ub
  have ua : 0 ≤ u := ub.1
  have uz : u ≤ 1000 := ub.2
  obtain ⟨z, hz⟩ : ∃ z, ys.getD P 0 = z := ⟨_, rfl⟩
  have zb := hyy _ (getD_mem (show P < ys.length by omega))
  rw [hz] at zb
  have za : 0 ≤ z := zb.1
  have zz : z ≤ 1000 := zb.2
  have eP : (P : Int) - 1 - -1 = (P : Int) := by omega
  obtain ⟨X, hX⟩ : ∃ X, mvX xs (f : Int) (-1) n = X := ⟨_, rfl⟩
  obtain ⟨Y, hY⟩ : ∃ Y, mvY P ys (-1) true n = Y := ⟨_, rfl⟩
  have eX : xs.set f (u - n) = X := by
    rw [← hX]
    unfold mvX
    rw [if_pos rfl]
    simp only [Int.toNat_natCast]
    rw [hu]
  have eY : (ys.set P (z - n)).set P z = Y := by
    rw [← hY]
    unfold mvY
    rw [if_pos rfl, show ((P : Int) - 1 - -1).toNat = P by omega, hz, getD_set_eq ys _ (by omega), show z - n + n = z by omega]
  have hXl : X.length = P + 1 := by rw [← hX, mvX_length, n1]
  have hYl : Y.length = P + 1 := by rw [← hY, mvY_length, n2]
  rw [hX, hY]
  have Hu := Lib.hid hu
  have Hz := Lib.hid hz
  have EX := Lib.hid eX
  have EY := Lib.hid eY
  have HXl := Lib.hid hXl
  have HYl := Lib.hid hYl
  clear hX hY hK q1 q2 eX eY hXl hYl
  clear hu ub
  clear hz zb
  go_enter Try.func49, Try.ntmps49
  go_wp2_with (go_at_call 72; refine (HB.out _ hb).mono ?_; rintro e w1 ⟨g1, g2, rfl, gg1, gg2, R1, R2, hb1⟩; obtain ⟨x0, x1, x2, xf, xl⟩ := (BT.below hb1).tri; obtain ⟨s0, s1, s2, s3, sf, sl⟩ := (BS.below hb1).four; obtain ⟨u0, u1, uf, ul⟩ := (BR.below hb1).two; have hne1 : ¬ g1 = g2 := (by omega); have hne2 : ¬ g2 = g1 := (by omega); have fr1 := (fun i => R1.free i); have fr2 := (fun i => R2.free i); have gl1 := R1.lt; have gl2 := R2.lt; have gs := hb.size; have cu := R1.cell f (by omega); rw [Hu.out] at cu; have cz := R2.cell P (by omega); rw [Hz.out] at cz)
  refine bodyPost_ret (v := .agg #[.slice (some ⟨g1, 0, none⟩) (P + 1) (P + 1), .slice (some ⟨g2, 0, none⟩) (P + 1) (P + 1)]) (by first | (simp [results, Try.results49, go_sem, u0, u1]; done) | (simp [results, Try.results49, go_sem, *]; done)) rfl ?_
  exact ⟨g1, g2, by rw [HXl.out, HYl.out], by omega, by omega, ((((((R1.set f (u - n)).other (by omega)).other (by omega)).other (by omega)).other (by omega)).alloc _).wf EX.out, ((((((R2.other (by omega)).set P (z - n)).set P z).other (by omega)).other (by omega)).alloc _).wf EY.out, (((((((chain hb hb1).setCell (by simp; omega) _).setCell (by simp; omega) _).setCell (by simp; omega) _).setCell (by simp; omega) _).setCell (by simp; omega) _).alloc (by simp; omega) _)⟩
theorem moved_any (P : Nat) (f1 f2 B : Nat) (xs ys : List Int) (w : World) (p0 : 2 ≤ P) (p1 : P ≤ 24) (n1 : xs.length = P + 1) (n2 : ys.length = P + 1) (hx : ∀ x ∈ xs, 0 ≤ x ∧ x ≤ 1000) (hy : ∀ y ∈ ys, 0 ≤ y ∧ y ≤ 1000) (q1 : Pays f1 B xs w) (q2 : Pays f2 B ys w) (t : Stp) (n : Int) (m0 : -1 ≤ n) (m1 : n ≤ 1) (hp : placesB (P : Int) t = true) :
    Calls Try.prog 49 #[tv (P : Int) f1 f2 B, stV t, .int .i64 n] w (BoardMade (mvX xs t.1 t.2.1 n) (mvY P ys t.2.1 t.2.2.2 n) w) := by
  obtain ⟨a, b, d, q⟩ := t
  simp only [placesB, Bool.and_eq_true, decide_eq_true_eq] at hp
  obtain ⟨h1, h2, h3, h4⟩ := hp
  obtain ⟨f, rfl⟩ := Int.eq_ofNat_of_zero_le h1
  dsimp only
  by_cases hb : b = -1
  · subst hb
    cases q with
    | false => exact moved_off_false P f1 f2 B B xs ys w p0 p1 n1 n2 hx hy q1 q2 f d n m0 m1 (by omega)
    | true => exact moved_off_true P f1 f2 B B xs ys w p0 p1 n1 n2 hx hy q1 q2 f d n m0 m1 (by omega)
  · obtain ⟨t, rfl⟩ := Int.eq_ofNat_of_zero_le (by omega : 0 ≤ b)
    by_cases hne : t = f
    · subst hne
      cases q with
      | false => exact moved_same_false P f1 f2 B B xs ys w p0 p1 n1 n2 hx hy q1 q2 t d n m0 m1 (by omega) (by omega)
      | true => exact moved_same_true P f1 f2 B B xs ys w p0 p1 n1 n2 hx hy q1 q2 t d n m0 m1 (by omega) (by omega)
    · cases q with
      | false => exact moved_far_false P f1 f2 B B xs ys w p0 p1 n1 n2 hx hy q1 q2 f d n m0 m1 (by omega) t (by omega) hne
      | true => exact moved_far_true P f1 f2 B B xs ys w p0 p1 n1 n2 hx hy q1 q2 f d n m0 m1 (by omega) t (by omega) hne
theorem four_new (w : World) (v1 v2 v3 v4 : Array Value) (t1 t2 t3 t4 : TypeId) :
    Blk ((((w.alloc (.cells v1 t1)).alloc (.cells v2 t2)).alloc (.cells v3 t3)).alloc (.cells v4 t4)) w.heap.size v1 t1 ∧ Blk ((((w.alloc (.cells v1 t1)).alloc (.cells v2 t2)).alloc (.cells v3 t3)).alloc (.cells v4 t4)) (w.heap.size + 1) v2 t2 ∧
    Blk ((((w.alloc (.cells v1 t1)).alloc (.cells v2 t2)).alloc (.cells v3 t3)).alloc (.cells v4 t4)) (w.heap.size + 1 + 1) v3 t3 ∧ Blk ((((w.alloc (.cells v1 t1)).alloc (.cells v2 t2)).alloc (.cells v3 t3)).alloc (.cells v4 t4)) (w.heap.size + 1 + 1 + 1) v4 t4 ∧
    Below w.heap.size w ((((w.alloc (.cells v1 t1)).alloc (.cells v2 t2)).alloc (.cells v3 t3)).alloc (.cells v4 t4)) ∧ ((((w.alloc (.cells v1 t1)).alloc (.cells v2 t2)).alloc (.cells v3 t3)).alloc (.cells v4 t4)).heap.size = w.heap.size + 1 + 1 + 1 + 1 := by
  obtain ⟨b1, b2, b3, hb, hz⟩ := three_new w v1 v2 v3 t1 t2 t3
  have b4 := Blk.new (((w.alloc (.cells v1 t1)).alloc (.cells v2 t2)).alloc (.cells v3 t3)) v4 t4
  rw [hz] at b4
  exact ⟨b1.alloc _, b2.alloc _, b3.alloc _, b4, hb.alloc hb.size _, by simp⟩
def BoardGotN (xs ys : List Int) (r : Int) (w : World) (e : Ending) (w' : World) : Prop :=
  ∃ a1 a2 k1 k2, e = .returned (.tuple #[.agg #[.slice a1 xs.length k1, .slice a2 ys.length k2], .int .i64 r]) ∧ OBd w.heap.size w'.heap.size w' a1 a2 xs ys ∧ Below w.heap.size w w'
theorem legB_places {P : Nat} {h s : Int} {xs ys : List Int} {t : Stp} (g : legB P h s xs ys t = true) : placesB (P : Int) t = true := by
  unfold legB at g
  simp only [Bool.and_eq_true] at g
  exact g.2.1
end Go.Proofs.Ytodlofabffenoaa
