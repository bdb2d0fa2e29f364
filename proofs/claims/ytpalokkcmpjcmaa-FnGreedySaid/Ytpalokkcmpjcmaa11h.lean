/- Contracts of chapter 11: GreedyResult of the program and of its model. -/
import Derived.Test.Ytpalokkcmpjcmaa11g
import Derived.Test.Ytpalokkcmpjcmaa10zh
import Derived.Test.Ytpalokkcmpjcmaa10ze
namespace Go.Proofs.Ytpalokkcmpjcmaa
open Go.ChangeShapes Go.WideShapes Go.ChangeAt Go.RowKit
set_option linter.unusedVariables false
set_option linter.unusedSimpArgs false
set_option maxRecDepth 4000

def gdL (p c h s : Int) (xs : List Int) (ra rb : Int) : List Int := if rsC p c h s xs ra rb = 0 then grL (rsL p c h s xs ra rb) else []
theorem rows_fine {lo hi n : Nat} {w : World} {l : List PQ} (hA : QAll lo hi w l) (hP : ∀ q ∈ nmQ l, PO n q) : ∀ x ∈ l, Row w x.1 x.2.2 ∧ x.2.2.length = n ∧ ∀ z ∈ x.2.2, 0 ≤ z ∧ z ≤ 1000 := fun x hx => by
  have h := hP x.2.2 (List.mem_map.2 ⟨x, hx, rfl⟩)
  exact ⟨(hA x hx).2.2, h.2.1, fun z hz => by have := h.all z hz; omega⟩
theorem gdL_facts (p c h s : Int) (xs : List Int) (ra rb : Int) : (gdL p c h s xs ra rb).length ≤ 24 ∧ ∀ z ∈ gdL p c h s xs ra rb, 0 ≤ z ∧ z ≤ 1000 := by
  unfold gdL
  split
  · rename_i e
    have h0 := rsL_ne p c h s xs ra rb e
    have hm := grL_mem (L := rsL p c h s xs ra rb) (by intro q; rw [q] at h0; simp at h0)
    have hp := (rsL_facts p c h s xs ra rb).2 _ hm
    exact ⟨by have := hp.1.2.1; omega, fun z hz => by have := hp.1.all z hz; omega⟩
  · simp
set_option maxRecDepth 8000 in
set_option maxHeartbeats 1000000 in
theorem implGreedyResult_any (p c h s : Int) (a : Option Addr) (n cap : Nat) (xs : List Int) (ra rb : Int) (w : World) (hn : xs.length = n) (hle : n ≤ 1048576) (hr : IRow w a xs) :
    Calls Try.prog 15 #[.agg #[.int .i64 p, .int .i64 c, .int .i64 h, .int .i64 s], .slice a n cap, .agg #[.int .i64 ra, .int .i64 rb]] w (SliceGot2 (gdL p c h s xs ra rb) (rsC p c h s xs ra rb) w) := by
  obtain ⟨BV, BQ, hb, hz⟩ := two_new w #[.int .i64 p, .int .i64 c, .int .i64 h, .int .i64 s] #[.int .i64 ra, .int .i64 rb] 25 28
  replace hr := hr.below hb
  have hI := Lib.hid (implBearoffResults_any p c h s a n cap xs ra rb _ hn hle hr)
  have hF := rsL_facts p c h s xs ra rb
  have hE := rsL_ne p c h s xs ra rb
  have hG : rsC p c h s xs ra rb = 0 → gdL p c h s xs ra rb = grL (rsL p c h s xs ra rb) := fun e => by rw [gdL, if_pos e]
  have hG2 : rsC p c h s xs ra rb ≠ 0 → gdL p c h s xs ra rb = [] := fun e => by rw [gdL, if_neg e]
  obtain ⟨L, hL⟩ : ∃ L, rsL p c h s xs ra rb = L := ⟨_, rfl⟩
  obtain ⟨C, hC⟩ : ∃ C, rsC p c h s xs ra rb = C := ⟨_, rfl⟩
  rw [hL, hC] at hI hG
  rw [hL] at hF hE
  rw [hC] at hE hG2
  rw [hC]
  have HG := Lib.hid hG
  have HG2 := Lib.hid hG2
  clear hG hG2
  have hl7 := hF.1
  have HF := Lib.hid hF.2
  have HE := Lib.hid hE
  clear hE hF hL hC hr
  have hzz := hb.size
  obtain ⟨x0, x1, x2, x3, xf, xl⟩ := BV.four; obtain ⟨z0, z1, zf, zl⟩ := BQ.two
  by_cases hc0 : C = 0
  · rw [HG.out hc0]
    subst hc0
    clear HG HG2
    go_enter Try.func15, Try.ntmps15
    go_wp2_with fail
    refine (hI.out).mono ?_
    rintro e w1 ⟨a1, k1, l, rfl, ha1, hnm, hA, hD, hb1⟩
    clear x0 x1 x2 x3 xf xl z0 z1 zf zl
    have HNM := Lib.hid hnm
    have h0 : 0 < l.length := by have q := congrArg List.length hnm; rw [List.length_map] at q; have := HE.out trivial; omega
    have hl8 : l.length ≤ 700000 := by have q := congrArg List.length hnm; rw [List.length_map] at q; omega
    rcases ha1 with ⟨q, _⟩ | ⟨g1, rfl, hg1, hQ1⟩
    · rw [q] at h0; simp at h0
    have H2 := Lib.hid (greedyOf_any g1 k1 xs.length l w1 h0 (by omega) hQ1 (by
      have := HF.out
      cases hl : l with
      | nil => rw [hl] at h0; simp at h0
      | cons y l' =>
        have hy := HF.out y.2.2 (by rw [← hnm, hl]; simp)
        omega) (rows_fine hA (fun q hq => (HF.out q (by rw [← hnm]; exact hq)).1)))
    clear hnm h0
    go_wp2_with fail
    refine (H2.out).mono ?_
    rintro e w2 ⟨⟨gx, kx, ys⟩, hxm, rfl, hxg, hb2⟩
    rw [HNM.out] at hxg
    have HXG := Lib.hid hxg
    have hq := hA _ hxm
    clear hxg
    go_wp2
    go_ret2
    rw [← HXG.out]
    have hs1 := hb1.size
    have hs2 := hb2.size
    have q1 := hq.1
    have q2 := hq.2.1
    dsimp only at q1 q2
    exact ⟨some ⟨gx, 0, none⟩, kx, rfl, .inr ⟨gx, rfl, by omega, by omega, hq.2.2.below hb2⟩, chain (chain hb hb1) hb2⟩
  · have f0 : (C != 0) = true := by rw [bne_iff_ne]; exact hc0
    rw [HG2.out hc0]
    clear hc0 HG HG2
    go_enter Try.func15, Try.ntmps15
    go_wp2_with fail
    refine (hI.out).mono ?_
    rintro e w1 ⟨a1, k1, l, rfl, ha1, hnm, hA, hD, hb1⟩
    clear x0 x1 x2 x3 xf xl z0 z1 zf zl ha1 hnm hA hD
    go_wp2
    go_ret2
    exact ⟨none, 0, rfl, .inl ⟨rfl, rfl⟩, chain hb hb1⟩
set_option maxRecDepth 8000 in
set_option maxHeartbeats 1000000 in
theorem specGreedyResult_any (p c h s : Int) (a : Option Addr) (n cap : Nat) (xs : List Int) (ra rb : Int) (w : World) (hn : xs.length = n) (hle : n ≤ 1048576) (hcap : n ≤ cap) (hr : IRow w a xs) :
    Calls Try.prog 16 #[.agg #[.int .i64 p, .int .i64 c, .int .i64 h, .int .i64 s], .slice a n cap, .agg #[.int .i64 ra, .int .i64 rb]] w (SliceGot2 (gdL p c h s xs ra rb) (rsC p c h s xs ra rb) w) := by
  subst hn
  obtain ⟨BV, BQ, hb, hz⟩ := two_new w #[.int .i64 p, .int .i64 c, .int .i64 h, .int .i64 s] #[.int .i64 ra, .int .i64 rb] 25 28
  have hB := fun W (r : IRow W a xs) => l10Code_any p c h s a xs.length cap xs W rfl hle r
  have hH := fun W => l10Roll_any p c h s ra rb W
  replace hr := hr.below hb
  by_cases z : bcE p c h s xs = 0
  · rw [z] at hB
    cases q : rlB s ra rb with
    | false =>
      have e1 : rsC p c h s xs ra rb = 2 := by simp [rsC, z, q]
      have e2 : gdL p c h s xs ra rb = [] := by simp [gdL, e1]
      rw [e1, e2]
      rw [q] at hH
      have HB := Lib.hid hB
      have HH := Lib.hid hH
      clear hB hH z q e1 e2
      obtain ⟨x0, x1, x2, x3, xf, xl⟩ := BV.four; obtain ⟨z0, z1, zf, zl⟩ := BQ.two
      go_enter Try.func16, Try.ntmps16
      go_wp2_with (first | (go_at_call 35; refine (HB.out _ hr).mono ?_; rintro e w2 ⟨rfl, hb2⟩; clear x0 x1 x2 x3 xf xl z0 z1 zf zl; replace BV := BV.below hb2; replace BQ := BQ.below hb2; replace hr := hr.below hb2; replace hb := chain hb hb2; clear hb2; obtain ⟨x0, x1, x2, x3, xf, xl⟩ := BV.four; obtain ⟨z0, z1, zf, zl⟩ := BQ.two) | (go_at_call 36; refine (HH.out _).mono ?_; rintro e w3 ⟨rfl, hb3⟩; clear x0 x1 x2 x3 xf xl z0 z1 zf zl; replace BV := BV.below hb3; replace BQ := BQ.below hb3; replace hr := hr.below hb3; replace hb := chain hb hb3; clear hb3; obtain ⟨x0, x1, x2, x3, xf, xl⟩ := BV.four; obtain ⟨z0, z1, zf, zl⟩ := BQ.two))
      go_ret2
      exact ⟨none, 0, rfl, .inl ⟨rfl, rfl⟩, hb⟩
    | true =>
      have e1 : rsC p c h s xs ra rb = 0 := by simp [rsC, z, q]
      have g := okP_of z
      have hs6 : s ≤ 6 := by
        have : vB p c h s = true := by simp only [okP, Bool.and_eq_true] at g; exact g.1
        have := vB_iff.1 this
        omega
      obtain ⟨k1, k2, k3⟩ := okP_PO g
      obtain ⟨j1, j2, j3⟩ := rlB_parts q hs6
      have e2 : rsL p c h s xs ra rb = resS xs ra rb := by
        rw [rsL, if_pos e1]
        by_cases e : ra = rb
        · rw [res_same k1.1 e j1, ordersP, if_pos e]
        · rw [res_diff k1.1 (by omega) j1, ordersP, if_neg e]
      have e3 : gdL p c h s xs ra rb = grL (resS xs ra rb) := by rw [gdL, if_pos e1, e2]
      have hF := (rsL_facts p c h s xs ra rb)
      have hE := rsL_ne p c h s xs ra rb e1
      rw [e2] at hF hE
      rw [e1, e3]
      have HF := Lib.hid hF
      clear hF e3
      rw [q] at hH
      have HB := Lib.hid hB
      have HH := Lib.hid hH
      have HR := Lib.hid (fun W (r : IRow W a xs) => l10Results_any p c h s xs.length a cap xs ra rb W k2 k3 k1 hcap j1 j2 j3 r)
      have kn := k2
      have kl := k3
      clear hB hH z q e1 e2 g hs6 k1 k2 k3 j1 j2 j3
      obtain ⟨x0, x1, x2, x3, xf, xl⟩ := BV.four; obtain ⟨z0, z1, zf, zl⟩ := BQ.two
      go_enter Try.func16, Try.ntmps16
      go_wp2_with (first | (go_at_call 35; refine (HB.out _ hr).mono ?_; rintro e w2 ⟨rfl, hb2⟩; clear x0 x1 x2 x3 xf xl z0 z1 zf zl; replace BV := BV.below hb2; replace BQ := BQ.below hb2; replace hr := hr.below hb2; replace hb := chain hb hb2; clear hb2; obtain ⟨x0, x1, x2, x3, xf, xl⟩ := BV.four; obtain ⟨z0, z1, zf, zl⟩ := BQ.two) | (go_at_call 36; refine (HH.out _).mono ?_; rintro e w3 ⟨rfl, hb3⟩; clear x0 x1 x2 x3 xf xl z0 z1 zf zl; replace BV := BV.below hb3; replace BQ := BQ.below hb3; replace hr := hr.below hb3; replace hb := chain hb hb3; clear hb3; obtain ⟨x0, x1, x2, x3, xf, xl⟩ := BV.four; obtain ⟨z0, z1, zf, zl⟩ := BQ.two) | (go_at_call 37; refine (HR.out _ hr).mono ?_; rintro e w5 ⟨g5, k5, l5, rfl, hk5, hQ5, hnm5, hA5, hC5, hb5⟩; have hnl := congrArg List.length hnm5; rw [List.length_map] at hnl; have hp5 := HF.out.2; rw [← hnm5] at hp5; have HL := Lib.hid (l11Greedy_any g5 k5 xs.length l5 w5 (by omega) (by have := HF.out.1; omega) hQ5 (by omega) (rows_fine hA5 (fun q hq => (hp5 q hq).1))); have HNM := Lib.hid hnm5; clear hnm5 hp5 hnl) | (go_at_call 42; refine (HL.out).mono ?_; rintro e w6 ⟨⟨gx, kx, ys⟩, hxm, rfl, hxg, rfl⟩; rw [HNM.out] at hxg; have HXG := Lib.hid hxg; clear hxg))
      go_ret2
      rw [← HXG.out]
      have hq := hA5 _ hxm
      have hz5 := hb.size
      have hs1 := hb5.size
      have q1 := hq.1
      have q2 := hq.2.1
      dsimp only at q1 q2
      exact ⟨some ⟨gx, 0, none⟩, kx, rfl, .inr ⟨gx, rfl, by omega, by omega, hq.2.2⟩, chain hb hb5⟩
  · have e1 : rsC p c h s xs ra rb = bcE p c h s xs := by rw [rsC, if_neg z]
    have e2 : gdL p c h s xs ra rb = [] := by rw [gdL, if_neg (by rw [e1]; exact z)]
    rw [e1, e2]
    obtain ⟨C, hC⟩ : ∃ C, bcE p c h s xs = C := ⟨_, rfl⟩
    rw [hC] at hB z ⊢
    have f0 : (C != 0) = true := by rw [bne_iff_ne]; exact z
    have f1 : (C == 0) = false := by rw [beq_eq_false_iff_ne]; exact z
    have HB := Lib.hid hB
    clear hB hH hC z e1 e2
    obtain ⟨x0, x1, x2, x3, xf, xl⟩ := BV.four; obtain ⟨z0, z1, zf, zl⟩ := BQ.two
    go_enter Try.func16, Try.ntmps16
    go_wp2_with (first | (go_at_call 35; refine (HB.out _ hr).mono ?_; rintro e w2 ⟨rfl, hb2⟩; clear x0 x1 x2 x3 xf xl z0 z1 zf zl; replace BV := BV.below hb2; replace BQ := BQ.below hb2; replace hr := hr.below hb2; replace hb := chain hb hb2; clear hb2; obtain ⟨x0, x1, x2, x3, xf, xl⟩ := BV.four; obtain ⟨z0, z1, zf, zl⟩ := BQ.two))
    go_ret2
    exact ⟨none, 0, rfl, .inl ⟨rfl, rfl⟩, hb⟩
end Go.Proofs.Ytpalokkcmpjcmaa
