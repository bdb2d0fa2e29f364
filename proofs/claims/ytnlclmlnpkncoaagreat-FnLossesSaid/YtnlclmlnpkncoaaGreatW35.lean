/- Texts of a proof, laid together. -/
import Derived.Test.YtnlclmlnpkncoaaGreatW34
import Derived.Test.YtnlclmlnpkncoaaGreatW19
import Derived.Test.YtnlclmlnpkncoaaGreatW27
namespace Go.Proofs.YtnlclmlnpkncoaaGreat
open Go.ChangeShapes Go.WideShapes Go.ChangeAt Go.RowKit
set_option linter.unusedVariables false
set_option linter.unusedSimpArgs false
set_option maxRecDepth 4000
theorem row_lit {w : World} {vs : Array Value} {xs : List Int} (h : vs.toList = ints xs) : Row (w.alloc (.cells vs 2)) w.heap.size xs := Row.of_blk (Blk.new w vs _) h
set_option maxRecDepth 8000 in
set_option maxHeartbeats 400000 in
theorem l10Results_any (p c h s : Int) (n : Nat) (a : Option Addr) (cap : Nat) (xs : List Int) (ra rb : Int) (w : World) (h1 : 1 ≤ n) (hle : n ≤ 24) (hP : PO n xs) (hcap : xs.length ≤ cap) (r1 : 1 ≤ rb) (r2 : rb ≤ ra) (r3 : ra ≤ 6) (hr : IRow w a xs) :
    Calls Tryz.prog 45 #[.agg #[.int .i64 p, .int .i64 c, .int .i64 h, .int .i64 s], .slice a xs.length cap, .agg #[.int .i64 ra, .int .i64 rb]] w (RowsAt w.heap.size (resS xs ra rb) w) := by
  obtain ⟨BV, BQ, hb, hz⟩ := two_new w #[.int .i64 p, .int .i64 c, .int .i64 h, .int .i64 s] #[.int .i64 ra, .int .i64 rb] 25 39
  replace hr := hr.below hb
  have hw := fun (ds : List Int) (h4 : ds.length ≤ 4) (hd : ∀ d ∈ ds, 1 ≤ d ∧ d ≤ 6) (g : Nat) W (r : IRow W a xs) (rd : Row W g ds) => l10Walk_any n h1 hle ds h4 hd a (some ⟨g, 0, none⟩) cap xs W hP hcap r rd.irow (fun _ => ⟨_, _, rfl⟩)
  by_cases e : ra = rb
  · have er : resS xs ra rb = (walkV [ra, ra, ra, ra] xs).1 := by rw [resS, if_pos e]
    rw [er]
    have h4 := hw [ra, ra, ra, ra] (by simp) (by simp; omega)
    simp only [List.length_cons, List.length_nil, Nat.zero_add, Nat.reduceAdd] at h4
    obtain ⟨R, hR⟩ : ∃ R, walkV [ra, ra, ra, ra] xs = R := ⟨_, rfl⟩
    rw [hR] at h4 ⊢
    have HW := Lib.hid h4
    clear h4 hR
    have f0 : (ra == rb) = true := by rw [beq_iff_eq]; exact e
    clear hw er e
    obtain ⟨z0, z1, zf, zl⟩ := BQ.two
    go_enter Tryz.func45, Tryz.ntmps45
    go_wp2_with fail
    clear z0 z1 zf zl
    generalize ((w.alloc (.cells #[.int .i64 p, .int .i64 c, .int .i64 h, .int .i64 s] 25)).alloc (.cells #[.int .i64 ra, .int .i64 rb] 39)) = v0 at *
    have hrow : Row (v0.alloc (.cells #[.int .i64 ra, .int .i64 ra, .int .i64 ra, .int .i64 ra] 2)) (w.heap.size + 1 + 1) [ra, ra, ra, ra] := by
      have := row_lit (w := v0) (vs := #[.int .i64 ra, .int .i64 ra, .int .i64 ra, .int .i64 ra]) (xs := [ra, ra, ra, ra]) rfl
      rw [hz] at this
      exact this
    have hz5 := hb.size
    refine (HW.out _ _ (hr.alloc (.cells #[.int .i64 ra, .int .i64 ra, .int .i64 ra, .int .i64 ra] 2)) hrow).mono ?_
    rintro e w5 ⟨g5, k5, l5, rfl, hk5, hQ5, hnm5, hA5, hC5, hb5⟩
    go_wp2
    go_ret
    exact ⟨g5, k5, l5, rfl, hk5, hQ5, hnm5, hA5.mono (by simp; omega) (Nat.le_refl _), hC5, chain (hb.alloc hz5 _) hb5⟩
  · have f0 : (ra == rb) = false := by rw [beq_eq_false_iff_ne]; exact e
    have er : resS xs ra rb = if (walkV [ra, rb] xs).2 < (walkV [rb, ra] xs).2 then (walkV [rb, ra] xs).1 else if (walkV [rb, ra] xs).2 = (walkV [ra, rb] xs).2 then putAll (walkV [ra, rb] xs).1 (walkV [rb, ra] xs).1 else (walkV [ra, rb] xs).1 := by rw [resS, if_neg e]
    rw [er]
    have h2 := hw [ra, rb] (by simp) (by simp; omega)
    have h2r := hw [rb, ra] (by simp) (by simp; omega)
    simp only [List.length_cons, List.length_nil, Nat.zero_add, Nat.reduceAdd] at h2 h2r
    obtain ⟨p1, p2, p3, p4⟩ := walk_facts hle [ra, rb] xs hP (by simp; omega)
    obtain ⟨q1, q2, q3, q4⟩ := walk_facts hle [rb, ra] xs hP (by simp; omega)
    have hwb := wb_le 2 (by omega)
    obtain ⟨⟨A1, A2⟩, hA⟩ : ∃ z, walkV [ra, rb] xs = z := ⟨_, rfl⟩
    obtain ⟨⟨C1, C2⟩, hC⟩ : ∃ z, walkV [rb, ra] xs = z := ⟨_, rfl⟩
    rw [hA] at h2 p1 p2 p3 p4 ⊢
    rw [hC] at h2r q1 q2 q3 q4 ⊢
    simp only [List.length_cons, List.length_nil, Nat.zero_add, Nat.reduceAdd] at p1 p2 p3 p4 q1 q2 q3 q4 ⊢
    obtain ⟨R, hR⟩ : ∃ R, (if A2 < C2 then C1 else if C2 = A2 then putAll A1 C1 else A1) = R := ⟨_, rfl⟩
    rw [hR]
    have HRR := Lib.hid hR
    clear hR
    have HW := Lib.hid h2
    have HX := Lib.hid h2r
    clear hw er e hA hC h2 h2r
    obtain ⟨z0, z1, zf, zl⟩ := BQ.two
    go_enter Tryz.func45, Tryz.ntmps45
    go_wp2_with fail
    clear z0 z1 zf zl
    generalize ((w.alloc (.cells #[.int .i64 p, .int .i64 c, .int .i64 h, .int .i64 s] 25)).alloc (.cells #[.int .i64 ra, .int .i64 rb] 39)) = v0 at *
    have hrow : Row (v0.alloc (.cells #[.int .i64 ra, .int .i64 rb] 2)) (w.heap.size + 1 + 1) [ra, rb] := by
      have := row_lit (w := v0) (vs := #[.int .i64 ra, .int .i64 rb]) (xs := [ra, rb]) rfl
      rw [hz] at this
      exact this
    have hz5 := hb.size
    refine (HW.out _ _ (hr.alloc (.cells #[.int .i64 ra, .int .i64 rb] 2)) hrow).mono ?_
    rintro e w5 ⟨g5, k5, l5, rfl, hk5, hQ5, hnm5, hA5, hC5, hb5⟩
    have hbB := chain (hb.alloc hz5 (.cells #[.int .i64 ra, .int .i64 rb] 2)) hb5
    have hal0 : Below v0.heap.size v0 (v0.alloc (.cells #[.int .i64 ra, .int .i64 rb] 2)) := (Below.refl _ _).alloc (Nat.le_refl _) _
    have hz6 := hbB.size
    have h05 : Below v0.heap.size v0 w5 := hal0.trans (hb5.mono hal0.size)
    replace hr := hr.below h05
    replace BQ := BQ.below h05
    obtain ⟨z0, z1, zf, zl⟩ := BQ.two
    have hA5' : QAll w.heap.size w5.heap.size w5 l5 := hA5.mono (by simp; omega) (Nat.le_refl _)
    clear hA5 hal0 h05 hrow HW
    go_wp2_with fail
    refine (HX.out _ _ (hr.alloc (.cells #[.int .i64 rb, .int .i64 ra] 2)) (row_lit (w := w5) (vs := #[.int .i64 rb, .int .i64 ra]) (xs := [rb, ra]) rfl)).mono ?_
    rintro e w6 ⟨g6, k6, l6, rfl, hk6, hQ6, hnm6, hA6, hC6, hb6⟩
    have hA6' : QAll w.heap.size w6.heap.size w6 l6 := hA6.mono (by simp; omega) (Nat.le_refl _)
    have hb05 : Below w5.heap.size w5 w6 := ((Below.refl _ _).alloc (Nat.le_refl _) (.cells #[.int .i64 rb, .int .i64 ra] 2)).trans (hb6.mono (by simp))
    have hz7 := hb05.size
    have hb7 := chain hbB hb05
    have hQ7 := hQ5.below hb05
    have hA7 := (hA5'.below hb05).mono (Nat.le_refl w.heap.size) hz7
    clear hQ5 hA5' hA6 HX BQ hb6 hb05
    dsimp only at hnm5 hnm6
    by_cases c1 : A2 < C2
    · have hRe : R = C1 := by rw [← HRR.out, if_pos c1]
      have HRE := Lib.hid hRe
      clear hRe
      go_wp2
      go_ret
      exact ⟨g6, k6, l6, rfl, hk6, hQ6, by rw [HRE.out]; exact hnm6, hA6', hC6, hb7⟩
    · obtain ⟨RN, hRN⟩ : ∃ RN, l6.length = RN := ⟨_, rfl⟩
      have hrl : C1.length = RN := by rw [← hRN, nm_len hnm6]
      have hRN2 : RN ≤ 346201 := by omega
      have b3 : (RN : Int) ≤ 346201 := by omega
      have hLB0 : A1.length ≤ 346201 := by omega
      have HRN := Lib.hid hRN
      have HNR := Lib.hid hnm6
      have HNB := Lib.hid hnm5
      have HRL := Lib.hid hrl
      have HC5 := Lib.hid hC5
      have HC6 := Lib.hid hC6
      rw [hRN] at hk6 ⊢
      clear hrl hnm6 hnm5 hRN p2 q2 hwb
      by_cases c2 : C2 = A2
      · have hRe : R = putAll A1 C1 := by rw [← HRR.out, if_neg c1, if_pos c2]
        have HRE := Lib.hid hRe
        have f9 : (C2 == A2) = true := by rw [beq_iff_eq]; exact c2
        clear hRe c2
        go_wp2_with fail
        go_loopg [9, 13] RN (fun m3 bv jv wr => ∃ (W : World) (j gC kC : Nat) (lC : List PQ), W = wr ∧ j ≤ RN ∧ m3 = RN - j ∧ jv = .int .i64 j ∧ bv = .slice (some ⟨gC, 0, none⟩) lC.length kC ∧ lC.length ≤ kC ∧ QRow W gC lC ∧ nmQ lC = putAll A1 (C1.take j) ∧ QAll w.heap.size W.heap.size W lC ∧ QCap lC ∧ QRow W g6 l6 ∧ QAll w.heap.size W.heap.size W l6 ∧ Below w.heap.size w W)
        case atStart => exact ⟨_, 0, g5, k5, l5, rfl, by omega, by omega, by go_num, rfl, hk5, hQ7, by rw [HNB.out]; rfl, hA7, HC5.out, hQ6, hA6', hb7⟩
        case round =>
          clear hk5 hQ7 hA7 hQ6 hA6' hb7
          obtain ⟨wr, j, gC, kC, lC, hW3, hj, hm3, rfl, rfl, hkC, hQC, hnmC, hAC, hCC, hQR, hAR, hb⟩ := hrel
          subst hW3
          have hz8 := hb.size
          by_cases hlt3 : j < RN
          · have j0 : (0 : Int) ≤ (j : Int) := by omega
            have j1 : (j : Int) < (RN : Int) := by omega
            obtain ⟨⟨gu, ku, us⟩, hu⟩ : ∃ u, l6[j]? = some u := ⟨_, List.getElem?_eq_getElem (by rw [HRN.out]; omega)⟩
            have hum := List.mem_of_getElem? hu
            have hcu := QRow.at hQR j _ hu
            have hur : C1[j]? = some us := by rw [← HNR.out, List.getElem?_map, hu]; rfl
            have hpo : PO n us := q1 _ (List.mem_of_getElem? hur)
            have hput : putAll A1 (C1.take (j + 1)) = putP (nmQ lC) us := by rw [List.take_add_one, hur, hnmC]; simp [putAll]
            have hlc : lC.length ≤ A1.length + j := by
              rw [nm_len hnmC]
              have q9 := putAll_le (C1.take j) A1
              rw [List.length_take] at q9
              omega
            have hml : ∀ x ∈ lC, x.2.2.length = n := fun x hx => by
              have q : x.2.2 ∈ nmQ lC := List.mem_map.2 ⟨x, hx, rfl⟩
              rw [hnmC] at q
              exact (putAll_PO _ _ p1 (fun z hz => q1 z (List.mem_of_mem_take hz)) _ q).2.1
            have HPU := Lib.hid (l10Put_any w.heap.size gC kC n lC (gu, ku, us) wr hkC (by omega) (by omega) hQC hAC (hAR _ hum) hml hpo.2.1 hCC (HC6.out _ hum))
            have HPT := Lib.hid hput
            clear hu hum hur hpo hput hlc hml hnmC hAC hCC
            unfold pqV at hcu HPU
            dsimp only at hcu HPU
            go_wp2_with (go_at_call 82; refine (HPU.out).mono ?_; rintro e w8 ⟨gC2, kC2, lC2, rfl, hkC2, hQC2, hnmC2, hAC2, hCC2, hb8⟩)
            go_roundg (RN - (j + 1))
            case measure => omega
            case rel =>
              have hz9 := hb8.size
              exact ⟨w8, j + 1, gC2, kC2, lC2, rfl, by omega, rfl, by go_num, rfl, hkC2, hQC2, by rw [HPT.out]; exact hnmC2, hAC2, hCC2, hQR.below hb8, (hAR.below hb8).mono (Nat.le_refl _) (by omega), chain hb hb8⟩
          · obtain rfl : j = RN := by omega
            have hfin : nmQ lC = R := by rw [hnmC, HRE.out, ← HRL.out, List.take_length]
            have HF := Lib.hid hfin
            clear hfin hnmC
            go_wp2
            go_ret
            exact ⟨gC, kC, lC, rfl, hkC, hQC, HF.out, hAC, hCC, hb⟩
      · have hRe : R = A1 := by rw [← HRR.out, if_neg c1, if_neg c2]
        have HRE := Lib.hid hRe
        have f9 : (C2 == A2) = false := by rw [beq_eq_false_iff_ne]; exact c2
        clear hRe c2
        go_wp2_with fail
        go_loopg [9, 13] 1 (fun m3 bv jv wr => ∃ W : World, W = wr ∧ m3 = 1 ∧ bv = .slice (some ⟨g5, 0, none⟩) l5.length k5 ∧ jv = .int .i64 0 ∧ QRow W g5 l5 ∧ QAll w.heap.size W.heap.size W l5 ∧ Below w.heap.size w W)
        case atStart => exact ⟨_, rfl, rfl, rfl, by go_num, hQ7, hA7, hb7⟩
        case round =>
          clear hQ7 hA7 hb7
          obtain ⟨wr, hW3, hm3, rfl, rfl, hQ7, hA7, hb7⟩ := hrel
          subst hW3
          by_cases hR0 : 0 < RN
          · go_wp2
            go_ret
            exact ⟨g5, k5, l5, rfl, hk5, hQ7, by rw [HRE.out]; exact HNB.out, hA7, HC5.out, hb7⟩
          · go_wp2
            go_ret
            exact ⟨g5, k5, l5, rfl, hk5, hQ7, by rw [HRE.out]; exact HNB.out, hA7, HC5.out, hb7⟩
def RowsAtC (L : List (List Int)) (code : Int) (w : World) (e : Ending) (w' : World) : Prop :=
  ∃ a k l, e = .returned (.tuple #[.slice a l.length k, .int .i64 code]) ∧ ((l = [] ∧ a = none) ∨ ∃ g, a = some ⟨g, 0, none⟩ ∧ QRow w' g l) ∧ nmQ l = L ∧ QAll w.heap.size w'.heap.size w' l ∧ Below w.heap.size w w'
set_option maxHeartbeats 1000000 in
theorem l10Roll_any (p c h s ra rb : Int) (w : World) :
    Calls Tryz.prog 52 #[.agg #[.int .i64 p, .int .i64 c, .int .i64 h, .int .i64 s], .agg #[.int .i64 ra, .int .i64 rb]] w fun e w' => e = .returned (.bool (rlB s ra rb)) ∧ Below w.heap.size w w' := by
  obtain ⟨BV, BQ, hb, hz⟩ := two_new w #[.int .i64 p, .int .i64 c, .int .i64 h, .int .i64 s] #[.int .i64 ra, .int .i64 rb] 25 39
  obtain ⟨x0, x1, x2, x3, xf, xl⟩ := BV.four; obtain ⟨z0, z1, zf, zl⟩ := BQ.two
  rw [rlB_in]
  have h1 := fun W => l01In_any ra 1 s W
  have h2 := fun W => l01In_any rb 1 ra W
  obtain ⟨A, hA⟩ : ∃ A, inB ra 1 s = A := ⟨_, rfl⟩
  obtain ⟨B, hB⟩ : ∃ B, inB rb 1 ra = B := ⟨_, rfl⟩
  rw [hA] at h1
  rw [hB] at h2
  rw [hA, hB]
  clear hA hB
  have H1 := Lib.hid h1
  have H2 := Lib.hid h2
  clear h1 h2
  cases A with
  | false =>
    go_enter Tryz.func52, Tryz.ntmps52
    go_wp2_with (go_at_call 64; refine (H1.out _).mono ?_; clear H1; rintro e wq ⟨rfl, rfl⟩)
    go_ret
    exact ⟨rfl, hb⟩
  | true =>
    go_enter Tryz.func52, Tryz.ntmps52
    go_wp2_with (first | (go_at_call 64; refine (H1.out _).mono ?_; clear H1; rintro e wq ⟨rfl, rfl⟩) | (go_at_call 64; refine (H2.out _).mono ?_; clear H2; rintro e wq ⟨rfl, rfl⟩))
    go_ret
    exact ⟨by simp, hb⟩
set_option maxRecDepth 8000 in
set_option maxHeartbeats 1000000 in
theorem specBearoffResults_any (p c h s : Int) (a : Option Addr) (n cap : Nat) (xs : List Int) (ra rb : Int) (w : World) (hn : xs.length = n) (hle : n ≤ 1048576) (hcap : n ≤ cap) (hr : IRow w a xs) :
    Calls Tryz.prog 18 #[.agg #[.int .i64 p, .int .i64 c, .int .i64 h, .int .i64 s], .slice a n cap, .agg #[.int .i64 ra, .int .i64 rb]] w (RowsAtC (rsL p c h s xs ra rb) (rsC p c h s xs ra rb) w) := by
  subst hn
  obtain ⟨BV, BQ, hb, hz⟩ := two_new w #[.int .i64 p, .int .i64 c, .int .i64 h, .int .i64 s] #[.int .i64 ra, .int .i64 rb] 25 39
  have hB := fun W (r : IRow W a xs) => l10Code_any p c h s a xs.length cap xs W rfl hle r
  have hH := fun W => l10Roll_any p c h s ra rb W
  replace hr := hr.below hb
  by_cases z : bcE p c h s xs = 0
  · rw [z] at hB
    cases q : rlB s ra rb with
    | false =>
      have e1 : rsC p c h s xs ra rb = 2 := by simp [rsC, z, q]
      have e2 : rsL p c h s xs ra rb = [] := by simp [rsL, e1]
      rw [e1, e2]
      rw [q] at hH
      have HB := Lib.hid hB
      have HH := Lib.hid hH
      clear hB hH z q e1 e2
      obtain ⟨x0, x1, x2, x3, xf, xl⟩ := BV.four; obtain ⟨z0, z1, zf, zl⟩ := BQ.two
      go_enter Tryz.func18, Tryz.ntmps18
      go_wp2_with (first | (go_at_call 51; refine (HB.out _ hr).mono ?_; rintro e w2 ⟨rfl, hb2⟩; clear x0 x1 x2 x3 xf xl z0 z1 zf zl; replace BV := BV.below hb2; replace BQ := BQ.below hb2; replace hr := hr.below hb2; replace hb := chain hb hb2; clear hb2; obtain ⟨x0, x1, x2, x3, xf, xl⟩ := BV.four; obtain ⟨z0, z1, zf, zl⟩ := BQ.two) | (go_at_call 52; refine (HH.out _).mono ?_; rintro e w3 ⟨rfl, hb3⟩; clear x0 x1 x2 x3 xf xl z0 z1 zf zl; replace BV := BV.below hb3; replace BQ := BQ.below hb3; replace hr := hr.below hb3; replace hb := chain hb hb3; clear hb3; obtain ⟨x0, x1, x2, x3, xf, xl⟩ := BV.four; obtain ⟨z0, z1, zf, zl⟩ := BQ.two))
      go_ret2
      exact ⟨none, 0, [], rfl, .inl ⟨rfl, rfl⟩, rfl, QAll.nil _ _ _, hb⟩
    | true =>
      have e1 : rsC p c h s xs ra rb = 0 := by simp [rsC, z, q]
      have g := okP_of z
      have hs6 : s ≤ 6 := by
        have : vB p c h s = true := by simp only [okP, Bool.and_eq_true] at g; exact g.1
        have := vB_iff.1 this
        omega
      obtain ⟨k1, k2, k3⟩ := okP_PO g
      obtain ⟨j1, j2, j3⟩ := rlB_parts q hs6
      have e2 : rsL p c h s xs ra rb = resS xs ra rb := by
        rw [rsL, if_pos e1]
        by_cases e : ra = rb
        · rw [res_same k1.1 e j1, ordersP, if_pos e]
        · rw [res_diff k1.1 (by omega) j1, ordersP, if_neg e]
      rw [e1, e2]
      rw [q] at hH
      have HB := Lib.hid hB
      have HH := Lib.hid hH
      have HR := Lib.hid (fun W (r : IRow W a xs) => l10Results_any p c h s xs.length a cap xs ra rb W k2 k3 k1 hcap j1 j2 j3 r)
      clear hB hH z q e1 e2 g hs6 k1 k2 k3 j1 j2 j3
      obtain ⟨x0, x1, x2, x3, xf, xl⟩ := BV.four; obtain ⟨z0, z1, zf, zl⟩ := BQ.two
      go_enter Tryz.func18, Tryz.ntmps18
      go_wp2_with (first | (go_at_call 51; refine (HB.out _ hr).mono ?_; rintro e w2 ⟨rfl, hb2⟩; clear x0 x1 x2 x3 xf xl z0 z1 zf zl; replace BV := BV.below hb2; replace BQ := BQ.below hb2; replace hr := hr.below hb2; replace hb := chain hb hb2; clear hb2; obtain ⟨x0, x1, x2, x3, xf, xl⟩ := BV.four; obtain ⟨z0, z1, zf, zl⟩ := BQ.two) | (go_at_call 52; refine (HH.out _).mono ?_; rintro e w3 ⟨rfl, hb3⟩; clear x0 x1 x2 x3 xf xl z0 z1 zf zl; replace BV := BV.below hb3; replace BQ := BQ.below hb3; replace hr := hr.below hb3; replace hb := chain hb hb3; clear hb3; obtain ⟨x0, x1, x2, x3, xf, xl⟩ := BV.four; obtain ⟨z0, z1, zf, zl⟩ := BQ.two) | (go_at_call 45; refine (HR.out _ hr).mono ?_; rintro e w5 ⟨g5, k5, l5, rfl, hk5, hQ5, hnm5, hA5, hC5, hb5⟩))
      go_ret2
      have hz5 := hb.size
      exact ⟨_, k5, l5, rfl, .inr ⟨g5, rfl, hQ5⟩, hnm5, hA5.mono (by omega) (Nat.le_refl _), chain hb hb5⟩
  · have e1 : rsC p c h s xs ra rb = bcE p c h s xs := by rw [rsC, if_neg z]
    have e2 : rsL p c h s xs ra rb = [] := by rw [rsL, if_neg (by rw [e1]; exact z)]
    rw [e1, e2]
    obtain ⟨C, hC⟩ : ∃ C, bcE p c h s xs = C := ⟨_, rfl⟩
    rw [hC] at hB z ⊢
    have f0 : (C != 0) = true := by rw [bne_iff_ne]; exact z
    have HB := Lib.hid hB
    clear hB hH hC z e1 e2
    obtain ⟨x0, x1, x2, x3, xf, xl⟩ := BV.four; obtain ⟨z0, z1, zf, zl⟩ := BQ.two
    go_enter Tryz.func18, Tryz.ntmps18
    go_wp2_with (first | (go_at_call 51; refine (HB.out _ hr).mono ?_; rintro e w2 ⟨rfl, hb2⟩; clear x0 x1 x2 x3 xf xl z0 z1 zf zl; replace BV := BV.below hb2; replace BQ := BQ.below hb2; replace hr := hr.below hb2; replace hb := chain hb hb2; clear hb2; obtain ⟨x0, x1, x2, x3, xf, xl⟩ := BV.four; obtain ⟨z0, z1, zf, zl⟩ := BQ.two))
    go_ret2
    exact ⟨none, 0, [], rfl, .inl ⟨rfl, rfl⟩, rfl, QAll.nil _ _ _, hb⟩
def lcE (p c h s : Int) (xs ys : List Int) (ra rb : Int) (A0 B0 : Bool) : Int :=
  if vB p c h s = true then (if sideB (h - 1) c xs = true ∧ sideB (h - 1) c ys = true ∧ (A0 = true → rlB s ra rb = true) then (if inB (bcI p c h s) 0 500 = true then (if (xs.sum = 0 ∧ ys.sum = 0) ∨ (B0 = true ∧ (xs.sum = 0 ∨ ys.sum = 0)) then 5 else 0) else 3) else 2) else 1
set_option maxRecDepth 8000 in
set_option maxHeartbeats 2000000 in
theorem l12Code_any (p c h s : Int) (a1 a2 : Option Addr) (n1 n2 c1 c2 : Nat) (xs ys : List Int) (ra rb : Int) (A0 B0 : Bool) (w : World) (hn1 : xs.length = n1) (hn2 : ys.length = n2) (hl1 : n1 ≤ 1048576) (hl2 : n2 ≤ 1048576) (hr1 : IRow w a1 xs) (hr2 : IRow w a2 ys) :
    Calls Tryz.prog 28 #[.agg #[.int .i64 p, .int .i64 c, .int .i64 h, .int .i64 s], .slice a1 n1 c1, .slice a2 n2 c2, .agg #[.int .i64 ra, .int .i64 rb], .bool A0, .bool B0] w fun e w' => e = .returned (.int .i64 (lcE p c h s xs ys ra rb A0 B0)) ∧ Below w.heap.size w w' := by
  obtain ⟨BV, BQ, hb, hz⟩ := two_new w #[.int .i64 p, .int .i64 c, .int .i64 h, .int .i64 s] #[.int .i64 ra, .int .i64 rb] 25 39
  clear hz
  replace hr1 := hr1.below hb
  replace hr2 := hr2.below hb
  have HV := Lib.hid (fun W => specIsVariant_any p c h s W)
  have HH := Lib.hid (fun W => l10Roll_any p c h s ra rb W)
  have HN := Lib.hid (fun W => specBearoffCount_any p c h s W)
  have HX := Lib.hid (fun W (g : vB p c h s = true) r => l10Valid_any p c h s a1 n1 c1 xs W g hn1 hl1 r)
  have HY := Lib.hid (fun W (g : vB p c h s = true) r => l10Valid_any p c h s a2 n2 c2 ys W g hn2 hl2 r)
  have HZ1 := Lib.hid (fun W (r : IRow W a1 xs) (g : okP p c h s xs = true) => by
    have q : Ps p c h s xs := g
    obtain ⟨u1, v1, v2, v3, -⟩ := q.po
    exact l10Sum_any a1 n1 c1 xs W hn1 (by omega) (fun x hx => by have := u1.all x hx; omega) r)
  have HZ2 := Lib.hid (fun W (r : IRow W a2 ys) (g : okP p c h s ys = true) => by
    have q : Ps p c h s ys := g
    obtain ⟨u1, v1, v2, v3, -⟩ := q.po
    exact l10Sum_any a2 n2 c2 ys W hn2 (by omega) (fun x hx => by have := u1.all x hx; omega) r)
  unfold lcE
  unfold okP at HZ1 HZ2
  obtain ⟨vb, hvb⟩ : ∃ b, vB p c h s = b := ⟨_, rfl⟩
  obtain ⟨sx, hsx⟩ : ∃ b, sideB (h - 1) c xs = b := ⟨_, rfl⟩
  obtain ⟨sy, hsy⟩ : ∃ b, sideB (h - 1) c ys = b := ⟨_, rfl⟩
  obtain ⟨lb, hlb⟩ : ∃ b, rlB s ra rb = b := ⟨_, rfl⟩
  obtain ⟨R, hR⟩ : ∃ b, bcI p c h s = b := ⟨_, rfl⟩
  obtain ⟨X, hX⟩ : ∃ b, xs.sum = b := ⟨_, rfl⟩
  obtain ⟨Y, hY⟩ : ∃ b, ys.sum = b := ⟨_, rfl⟩
  rw [hvb] at HV HX HY HZ1 HZ2
  rw [hsx] at HX HZ1
  rw [hsy] at HY HZ2
  rw [hlb] at HH
  rw [hR] at HN
  rw [hX] at HZ1
  rw [hY] at HZ2
  rw [hvb, hsx, hsy, hlb, hR, hX, hY]
  have HI := Lib.hid (fun W => l01In_any R 0 500 W)
  obtain ⟨ib, hib⟩ : ∃ b, inB R 0 500 = b := ⟨_, rfl⟩
  rw [hib] at HI
  rw [hib]
  obtain ⟨E, hE⟩ : ∃ E : Int, (if vb = true then (if sx = true ∧ sy = true ∧ (A0 = true → lb = true) then (if ib = true then (if (X = 0 ∧ Y = 0) ∨ (B0 = true ∧ (X = 0 ∨ Y = 0)) then 5 else 0) else 3) else 2) else 1) = E := ⟨_, rfl⟩
  rw [hE]
  have HE := Lib.hid hE
  clear hE hvb hsx hsy hlb hR hX hY hib hn1 hn2 hl1 hl2
  obtain ⟨x0, x1, x2, x3, xf, xl⟩ := BV.four
  obtain ⟨z0, z1, zf, zl⟩ := BQ.two
  go_enter Tryz.func28, Tryz.ntmps28
  go_wp2_with fail
  refine (HV.out _).mono ?_
  rintro e w1 ⟨rfl, hb1⟩
  replace BV := BV.below hb1
  replace BQ := BQ.below hb1
  replace hr1 := hr1.below hb1
  replace hr2 := hr2.below hb1
  replace hb := chain hb hb1
  clear hb1
  clear x0 x1 x2 x3 xf xl z0 z1 zf zl
  obtain ⟨x0, x1, x2, x3, xf, xl⟩ := BV.four
  obtain ⟨z0, z1, zf, zl⟩ := BQ.two
  cases vb with
  | false =>
    have e := HE.out
    simp [] at e
    subst e
    clear HE
    go_wp2
    go_ret
    exact ⟨rfl, hb⟩
  | true =>
    go_wp2_with fail
    refine (HX.out _ (by trivial) hr1).mono ?_
    rintro e w2 ⟨rfl, hb2⟩
    replace BV := BV.below hb2
    replace BQ := BQ.below hb2
    replace hr1 := hr1.below hb2
    replace hr2 := hr2.below hb2
    replace hb := chain hb hb2
    clear hb2
    clear x0 x1 x2 x3 xf xl z0 z1 zf zl
    obtain ⟨x0, x1, x2, x3, xf, xl⟩ := BV.four
    obtain ⟨z0, z1, zf, zl⟩ := BQ.two
    cases sx with
    | false =>
      have e := HE.out
      simp [] at e
      subst e
      clear HE
      go_wp2
      go_ret
      exact ⟨rfl, hb⟩
    | true =>
      go_wp2_with fail
      refine (HY.out _ (by trivial) hr2).mono ?_
      rintro e w3 ⟨rfl, hb3⟩
      replace BV := BV.below hb3
      replace BQ := BQ.below hb3
      replace hr1 := hr1.below hb3
      replace hr2 := hr2.below hb3
      replace hb := chain hb hb3
      clear hb3
      clear x0 x1 x2 x3 xf xl z0 z1 zf zl
      obtain ⟨x0, x1, x2, x3, xf, xl⟩ := BV.four
      obtain ⟨z0, z1, zf, zl⟩ := BQ.two
      cases sy with
      | false =>
        have e := HE.out
        simp [] at e
        subst e
        clear HE
        go_wp2
        go_ret
        exact ⟨rfl, hb⟩
      | true =>
        cases A0 with
        | false =>
          go_wp2_with fail
          refine (HN.out _).mono ?_
          rintro e w5 ⟨rfl, hb5⟩
          replace BV := BV.below hb5
          replace BQ := BQ.below hb5
          replace hr1 := hr1.below hb5
          replace hr2 := hr2.below hb5
          replace hb := chain hb hb5
          clear hb5
          clear x0 x1 x2 x3 xf xl z0 z1 zf zl
          obtain ⟨x0, x1, x2, x3, xf, xl⟩ := BV.four
          obtain ⟨z0, z1, zf, zl⟩ := BQ.two
          go_wp2_with fail
          refine (HI.out _).mono ?_
          rintro e w6 ⟨rfl, rfl⟩
          cases ib with
          | false =>
            have e := HE.out
            simp [] at e
            subst e
            clear HE
            go_wp2
            go_ret
            exact ⟨rfl, hb⟩
          | true =>
            go_wp2_with fail
            refine (HZ1.out _ hr1 (by trivial)).mono ?_
            rintro e w7 ⟨rfl, rfl⟩
            go_wp2_with fail
            refine (HZ2.out _ hr2 (by trivial)).mono ?_
            rintro e w8 ⟨rfl, rfl⟩
            have f0 : X = 0 ∨ (X == 0) = false := by rw [beq_eq_false_iff_ne]; omega
            have f1 : Y = 0 ∨ (Y == 0) = false := by rw [beq_eq_false_iff_ne]; omega
            rcases f0 with rfl | f0 <;> rcases f1 with rfl | f1 <;> cases B0
            · have e := HE.out
              simp [] at e
              subst e
              clear HE
              go_wp2
              go_ret
              exact ⟨rfl, hb⟩
            · have e := HE.out
              simp [] at e
              subst e
              clear HE
              go_wp2
              go_ret
              exact ⟨rfl, hb⟩
            · have ky : Y ≠ 0 := by rw [← beq_eq_false_iff_ne]; exact f1
              have e := HE.out
              simp [ky] at e
              subst e
              clear HE
              go_wp2
              go_ret
              exact ⟨rfl, hb⟩
            · have ky : Y ≠ 0 := by rw [← beq_eq_false_iff_ne]; exact f1
              have e := HE.out
              simp [ky] at e
              subst e
              clear HE
              go_wp2
              go_ret
              exact ⟨rfl, hb⟩
            · have kx : X ≠ 0 := by rw [← beq_eq_false_iff_ne]; exact f0
              have e := HE.out
              simp [kx] at e
              subst e
              clear HE
              go_wp2
              go_ret
              exact ⟨rfl, hb⟩
            · have kx : X ≠ 0 := by rw [← beq_eq_false_iff_ne]; exact f0
              have e := HE.out
              simp [kx] at e
              subst e
              clear HE
              go_wp2
              go_ret
              exact ⟨rfl, hb⟩
            · have kx : X ≠ 0 := by rw [← beq_eq_false_iff_ne]; exact f0
              have ky : Y ≠ 0 := by rw [← beq_eq_false_iff_ne]; exact f1
              have e := HE.out
              simp [kx, ky] at e
              subst e
              clear HE
              go_wp2
              go_ret
              exact ⟨rfl, hb⟩
            · have kx : X ≠ 0 := by rw [← beq_eq_false_iff_ne]; exact f0
              have ky : Y ≠ 0 := by rw [← beq_eq_false_iff_ne]; exact f1
              have e := HE.out
              simp [kx, ky] at e
              subst e
              clear HE
              go_wp2
              go_ret
              exact ⟨rfl, hb⟩
        | true =>
          go_wp2_with fail
          refine (HH.out _).mono ?_
          rintro e w4 ⟨rfl, hb4⟩
          replace BV := BV.below hb4
          replace BQ := BQ.below hb4
          replace hr1 := hr1.below hb4
          replace hr2 := hr2.below hb4
          replace hb := chain hb hb4
          clear hb4
          clear x0 x1 x2 x3 xf xl z0 z1 zf zl
          obtain ⟨x0, x1, x2, x3, xf, xl⟩ := BV.four
          obtain ⟨z0, z1, zf, zl⟩ := BQ.two
          cases lb with
          | false =>
            have e := HE.out
            simp [] at e
            subst e
            clear HE
            go_wp2
            go_ret
            exact ⟨rfl, hb⟩
          | true =>
            go_wp2_with fail
            refine (HN.out _).mono ?_
            rintro e w5 ⟨rfl, hb5⟩
            replace BV := BV.below hb5
            replace BQ := BQ.below hb5
            replace hr1 := hr1.below hb5
            replace hr2 := hr2.below hb5
            replace hb := chain hb hb5
            clear hb5
            clear x0 x1 x2 x3 xf xl z0 z1 zf zl
            obtain ⟨x0, x1, x2, x3, xf, xl⟩ := BV.four
            obtain ⟨z0, z1, zf, zl⟩ := BQ.two
            go_wp2_with fail
            refine (HI.out _).mono ?_
            rintro e w6 ⟨rfl, rfl⟩
            cases ib with
            | false =>
              have e := HE.out
              simp [] at e
              subst e
              clear HE
              go_wp2
              go_ret
              exact ⟨rfl, hb⟩
            | true =>
              go_wp2_with fail
              refine (HZ1.out _ hr1 (by trivial)).mono ?_
              rintro e w7 ⟨rfl, rfl⟩
              go_wp2_with fail
              refine (HZ2.out _ hr2 (by trivial)).mono ?_
              rintro e w8 ⟨rfl, rfl⟩
              have f0 : X = 0 ∨ (X == 0) = false := by rw [beq_eq_false_iff_ne]; omega
              have f1 : Y = 0 ∨ (Y == 0) = false := by rw [beq_eq_false_iff_ne]; omega
              rcases f0 with rfl | f0 <;> rcases f1 with rfl | f1 <;> cases B0
              · have e := HE.out
                simp [] at e
                subst e
                clear HE
                go_wp2
                go_ret
                exact ⟨rfl, hb⟩
              · have e := HE.out
                simp [] at e
                subst e
                clear HE
                go_wp2
                go_ret
                exact ⟨rfl, hb⟩
              · have ky : Y ≠ 0 := by rw [← beq_eq_false_iff_ne]; exact f1
                have e := HE.out
                simp [ky] at e
                subst e
                clear HE
                go_wp2
                go_ret
                exact ⟨rfl, hb⟩
              · have ky : Y ≠ 0 := by rw [← beq_eq_false_iff_ne]; exact f1
                have e := HE.out
                simp [ky] at e
                subst e
                clear HE
                go_wp2
                go_ret
                exact ⟨rfl, hb⟩
              · have kx : X ≠ 0 := by rw [← beq_eq_false_iff_ne]; exact f0
                have e := HE.out
                simp [kx] at e
                subst e
                clear HE
                go_wp2
                go_ret
                exact ⟨rfl, hb⟩
              · have kx : X ≠ 0 := by rw [← beq_eq_false_iff_ne]; exact f0
                have e := HE.out
                simp [kx] at e
                subst e
                clear HE
                go_wp2
                go_ret
                exact ⟨rfl, hb⟩
              · have kx : X ≠ 0 := by rw [← beq_eq_false_iff_ne]; exact f0
                have ky : Y ≠ 0 := by rw [← beq_eq_false_iff_ne]; exact f1
                have e := HE.out
                simp [kx, ky] at e
                subst e
                clear HE
                go_wp2
                go_ret
                exact ⟨rfl, hb⟩
              · have kx : X ≠ 0 := by rw [← beq_eq_false_iff_ne]; exact f0
                have ky : Y ≠ 0 := by rw [← beq_eq_false_iff_ne]; exact f1
                have e := HE.out
                simp [kx, ky] at e
                subst e
                clear HE
                go_wp2
                go_ret
                exact ⟨rfl, hb⟩
theorem bcI_in {p c h s : Int} (g : vB p c h s = true) : inB (bcI p c h s) 0 500 = decide (cnt h.toNat c.toNat ≤ 500) := by
  rw [bcI, if_pos g, wyI, inB]
  split
  · rw [decide_eq_decide]; omega
  · rw [decide_eq_decide]; omega
theorem lcE_oc (p c h s : Int) (xs ys : List Int) (ra rb : Int) : lcE p c h s xs ys ra rb false true = ocE p c h s xs ys := by
  unfold lcE ocE rcE rcB tcE bcE
  by_cases g : vB p c h s = true
  · rw [bcI_in g]
    cases sideB (h - 1) c xs <;> cases sideB (h - 1) c ys <;> by_cases q : cnt h.toNat c.toNat ≤ 500 <;> by_cases kx : xs.sum = 0 <;> by_cases ky : ys.sum = 0 <;> simp [g, q, kx, ky]
  · simp [g]
theorem lcE_tn (p c h s : Int) (xs ys : List Int) (ra rb : Int) : lcE p c h s xs ys ra rb true true = tnE p c h s xs ys ra rb := by
  unfold tnE
  rw [← lcE_oc p c h s xs ys ra rb]
  unfold lcE
  by_cases g : vB p c h s = true
  · cases rlB s ra rb <;> simp [g]
  · simp [g]
end Go.Proofs.YtnlclmlnpkncoaaGreat
