/- Contract of chapter 10: the model's BearoffResults. -/
import Derived.Test.Ytpalokkcmpjcmaa10zd
namespace Go.Proofs.Ytpalokkcmpjcmaa
open Go.ChangeShapes Go.WideShapes Go.ChangeAt Go.RowKit
set_option linter.unusedVariables false
set_option linter.unusedSimpArgs false
set_option maxRecDepth 4000

/-- A list of positions and a code, of the model. -/
def RowsAtC (L : List (List Int)) (code : Int) (w : World) (e : Ending) (w' : World) : Prop :=
  ∃ a k l, e = .returned (.tuple #[.slice a l.length k, .int .i64 code]) ∧ ((l = [] ∧ a = none) ∨ ∃ g, a = some ⟨g, 0, none⟩ ∧ QRow w' g l) ∧ nmQ l = L ∧ QAll w.heap.size w'.heap.size w' l ∧ Below w.heap.size w w'
set_option maxHeartbeats 1000000 in
theorem l10Roll_any (p c h s ra rb : Int) (w : World) :
    Calls Try.prog 36 #[.agg #[.int .i64 p, .int .i64 c, .int .i64 h, .int .i64 s], .agg #[.int .i64 ra, .int .i64 rb]] w fun e w' => e = .returned (.bool (rlB s ra rb)) ∧ Below w.heap.size w w' := by
  obtain ⟨BV, BQ, hb, hz⟩ := two_new w #[.int .i64 p, .int .i64 c, .int .i64 h, .int .i64 s] #[.int .i64 ra, .int .i64 rb] 25 28
  obtain ⟨x0, x1, x2, x3, xf, xl⟩ := BV.four; obtain ⟨z0, z1, zf, zl⟩ := BQ.two
  rw [rlB_in]
  have h1 := fun W => l01In_any ra 1 s W
  have h2 := fun W => l01In_any rb 1 ra W
  obtain ⟨A, hA⟩ : ∃ A, inB ra 1 s = A := ⟨_, rfl⟩
  obtain ⟨B, hB⟩ : ∃ B, inB rb 1 ra = B := ⟨_, rfl⟩
  rw [hA] at h1
  rw [hB] at h2
  rw [hA, hB]
  clear hA hB
  have H1 := Lib.hid h1
  have H2 := Lib.hid h2
  clear h1 h2
  cases A with
  | false =>
    go_enter Try.func36, Try.ntmps36
    go_wp2_with (go_at_call 52; refine (H1.out _).mono ?_; clear H1; rintro e wq ⟨rfl, rfl⟩)
    go_ret
    exact ⟨rfl, hb⟩
  | true =>
    go_enter Try.func36, Try.ntmps36
    go_wp2_with (first | (go_at_call 52; refine (H1.out _).mono ?_; clear H1; rintro e wq ⟨rfl, rfl⟩) | (go_at_call 52; refine (H2.out _).mono ?_; clear H2; rintro e wq ⟨rfl, rfl⟩))
    go_ret
    exact ⟨by simp, hb⟩
set_option maxRecDepth 8000 in
set_option maxHeartbeats 1000000 in
theorem specBearoffResults_any (p c h s : Int) (a : Option Addr) (n cap : Nat) (xs : List Int) (ra rb : Int) (w : World) (hn : xs.length = n) (hle : n ≤ 1048576) (hcap : n ≤ cap) (hr : IRow w a xs) :
    Calls Try.prog 10 #[.agg #[.int .i64 p, .int .i64 c, .int .i64 h, .int .i64 s], .slice a n cap, .agg #[.int .i64 ra, .int .i64 rb]] w (RowsAtC (rsL p c h s xs ra rb) (rsC p c h s xs ra rb) w) := by
  subst hn
  obtain ⟨BV, BQ, hb, hz⟩ := two_new w #[.int .i64 p, .int .i64 c, .int .i64 h, .int .i64 s] #[.int .i64 ra, .int .i64 rb] 25 28
  have hB := fun W (r : IRow W a xs) => l10Code_any p c h s a xs.length cap xs W rfl hle r
  have hH := fun W => l10Roll_any p c h s ra rb W
  replace hr := hr.below hb
  by_cases z : bcE p c h s xs = 0
  · rw [z] at hB
    cases q : rlB s ra rb with
    | false =>
      have e1 : rsC p c h s xs ra rb = 2 := by simp [rsC, z, q]
      have e2 : rsL p c h s xs ra rb = [] := by simp [rsL, e1]
      rw [e1, e2]
      rw [q] at hH
      have HB := Lib.hid hB
      have HH := Lib.hid hH
      clear hB hH z q e1 e2
      obtain ⟨x0, x1, x2, x3, xf, xl⟩ := BV.four; obtain ⟨z0, z1, zf, zl⟩ := BQ.two
      go_enter Try.func10, Try.ntmps10
      go_wp2_with (first | (go_at_call 35; refine (HB.out _ hr).mono ?_; rintro e w2 ⟨rfl, hb2⟩; clear x0 x1 x2 x3 xf xl z0 z1 zf zl; replace BV := BV.below hb2; replace BQ := BQ.below hb2; replace hr := hr.below hb2; replace hb := chain hb hb2; clear hb2; obtain ⟨x0, x1, x2, x3, xf, xl⟩ := BV.four; obtain ⟨z0, z1, zf, zl⟩ := BQ.two) | (go_at_call 36; refine (HH.out _).mono ?_; rintro e w3 ⟨rfl, hb3⟩; clear x0 x1 x2 x3 xf xl z0 z1 zf zl; replace BV := BV.below hb3; replace BQ := BQ.below hb3; replace hr := hr.below hb3; replace hb := chain hb hb3; clear hb3; obtain ⟨x0, x1, x2, x3, xf, xl⟩ := BV.four; obtain ⟨z0, z1, zf, zl⟩ := BQ.two))
      go_ret2
      exact ⟨none, 0, [], rfl, .inl ⟨rfl, rfl⟩, rfl, QAll.nil _ _ _, hb⟩
    | true =>
      have e1 : rsC p c h s xs ra rb = 0 := by simp [rsC, z, q]
      have g := okP_of z
      have hs6 : s ≤ 6 := by
        have : vB p c h s = true := by simp only [okP, Bool.and_eq_true] at g; exact g.1
        have := vB_iff.1 this
        omega
      obtain ⟨k1, k2, k3⟩ := okP_PO g
      obtain ⟨j1, j2, j3⟩ := rlB_parts q hs6
      have e2 : rsL p c h s xs ra rb = resS xs ra rb := by
        rw [rsL, if_pos e1]
        by_cases e : ra = rb
        · rw [res_same k1.1 e j1, ordersP, if_pos e]
        · rw [res_diff k1.1 (by omega) j1, ordersP, if_neg e]
      rw [e1, e2]
      rw [q] at hH
      have HB := Lib.hid hB
      have HH := Lib.hid hH
      have HR := Lib.hid (fun W (r : IRow W a xs) => l10Results_any p c h s xs.length a cap xs ra rb W k2 k3 k1 hcap j1 j2 j3 r)
      clear hB hH z q e1 e2 g hs6 k1 k2 k3 j1 j2 j3
      obtain ⟨x0, x1, x2, x3, xf, xl⟩ := BV.four; obtain ⟨z0, z1, zf, zl⟩ := BQ.two
      go_enter Try.func10, Try.ntmps10
      go_wp2_with (first | (go_at_call 35; refine (HB.out _ hr).mono ?_; rintro e w2 ⟨rfl, hb2⟩; clear x0 x1 x2 x3 xf xl z0 z1 zf zl; replace BV := BV.below hb2; replace BQ := BQ.below hb2; replace hr := hr.below hb2; replace hb := chain hb hb2; clear hb2; obtain ⟨x0, x1, x2, x3, xf, xl⟩ := BV.four; obtain ⟨z0, z1, zf, zl⟩ := BQ.two) | (go_at_call 36; refine (HH.out _).mono ?_; rintro e w3 ⟨rfl, hb3⟩; clear x0 x1 x2 x3 xf xl z0 z1 zf zl; replace BV := BV.below hb3; replace BQ := BQ.below hb3; replace hr := hr.below hb3; replace hb := chain hb hb3; clear hb3; obtain ⟨x0, x1, x2, x3, xf, xl⟩ := BV.four; obtain ⟨z0, z1, zf, zl⟩ := BQ.two) | (go_at_call 37; refine (HR.out _ hr).mono ?_; rintro e w5 ⟨g5, k5, l5, rfl, hk5, hQ5, hnm5, hA5, hC5, hb5⟩))
      go_ret2
      have hz5 := hb.size
      exact ⟨_, k5, l5, rfl, .inr ⟨g5, rfl, hQ5⟩, hnm5, hA5.mono (by omega) (Nat.le_refl _), chain hb hb5⟩
  · have e1 : rsC p c h s xs ra rb = bcE p c h s xs := by rw [rsC, if_neg z]
    have e2 : rsL p c h s xs ra rb = [] := by rw [rsL, if_neg (by rw [e1]; exact z)]
    rw [e1, e2]
    obtain ⟨C, hC⟩ : ∃ C, bcE p c h s xs = C := ⟨_, rfl⟩
    rw [hC] at hB z ⊢
    have f0 : (C != 0) = true := by rw [bne_iff_ne]; exact z
    have HB := Lib.hid hB
    clear hB hH hC z e1 e2
    obtain ⟨x0, x1, x2, x3, xf, xl⟩ := BV.four; obtain ⟨z0, z1, zf, zl⟩ := BQ.two
    go_enter Try.func10, Try.ntmps10
    go_wp2_with (first | (go_at_call 35; refine (HB.out _ hr).mono ?_; rintro e w2 ⟨rfl, hb2⟩; clear x0 x1 x2 x3 xf xl z0 z1 zf zl; replace BV := BV.below hb2; replace BQ := BQ.below hb2; replace hr := hr.below hb2; replace hb := chain hb hb2; clear hb2; obtain ⟨x0, x1, x2, x3, xf, xl⟩ := BV.four; obtain ⟨z0, z1, zf, zl⟩ := BQ.two))
    go_ret2
    exact ⟨none, 0, [], rfl, .inl ⟨rfl, rfl⟩, rfl, QAll.nil _ _ _, hb⟩
end Go.Proofs.Ytpalokkcmpjcmaa
