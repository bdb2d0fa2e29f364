/- Mathematics of chapter 10: the number of a position, the position of a number, the next position. -/
import Derived.Test.Ythnkckflajkaiaa10h
import Derived.Test.Ythnkckflajkaiaa10j
import Derived.Test.YthnkckflajkaiaaM10
import Derived.Test.YthnkckflajkaiaaL03c
namespace Go.Proofs.Ythnkckflajkaiaa
open Go.ChangeShapes Go.WideShapes Go.ChangeAt Go.RowKit
set_option linter.unusedVariables false
set_option linter.unusedSimpArgs false

theorem okP_iff {p c h s : Int} {xs : List Int} : okP p c h s xs = true ↔ vB p c h s = true ∧ (xs.length : Int) = h ∧ (∀ x ∈ xs, 0 ≤ x ∧ x ≤ c) ∧ xs.sum ≤ c := by
  simp only [okP, Bool.and_eq_true, sideB_iff]
  constructor
  · rintro ⟨a, b, d, e⟩
    exact ⟨a, by omega, d, e⟩
  · rintro ⟨a, b, d, e⟩
    exact ⟨a, by omega, d, e⟩
theorem cast_nats : ∀ (xs : List Int), (∀ x ∈ xs, 0 ≤ x) → (nats xs).map (fun (x : Nat) => (x : Int)) = xs
  | [], _ => rfl
  | x :: r, h => by
    have h1 := h x (by simp)
    have ih := cast_nats r (fun y hy => h y (by simp [hy]))
    show ((x.toNat : Nat) : Int) :: (nats r).map _ = x :: r
    rw [ih, show ((x.toNat : Nat) : Int) = x by omega]
theorem sum_nn : ∀ (l : List Int), (∀ x ∈ l, 0 ≤ x) → 0 ≤ l.sum
  | [], _ => by simp
  | x :: r, h => by
    have h1 := h x (by simp)
    have ih := sum_nn r (fun y hy => h y (by simp [hy]))
    rw [List.sum_cons]
    omega
theorem sum_mem : ∀ (l : List Int), (∀ x ∈ l, 0 ≤ x) → ∀ x ∈ l, x ≤ l.sum
  | [], _, x, hx => by simp at hx
  | y :: r, h, x, hx => by
    have h1 := h y (by simp)
    have h2 := sum_nn r (fun z hz => h z (by simp [hz]))
    rw [List.sum_cons]
    rcases List.mem_cons.1 hx with rfl | hx
    · omega
    · have := sum_mem r (fun z hz => h z (by simp [hz])) x hx
      omega
theorem fpos_split : ∀ (l : List Int), (∀ x ∈ l, 0 ≤ x) → fpos l < l.length → ∃ x r, l = List.replicate (fpos l) 0 ++ x :: r ∧ 0 < x
  | [], _, h => by simp at h
  | y :: l, hl, h => by
    have hy := hl y (by simp)
    rw [fpos] at h ⊢
    by_cases q : 0 < y
    · rw [if_pos q]
      exact ⟨y, l, rfl, q⟩
    · rw [if_neg q] at h ⊢
      obtain ⟨x, r, e, hx⟩ := fpos_split l (fun z hz => hl z (by simp [hz])) (by simpa using h)
      refine ⟨x, r, ?_, hx⟩
      rw [List.replicate_succ, List.cons_append, ← e, show y = 0 by omega]
theorem sum_zeros (i : Nat) (l : List Int) : (List.replicate i 0 ++ l).sum = l.sum := by simp
theorem nats_app (a b : List Int) : nats (a ++ b) = nats a ++ nats b := by simp [nats]
theorem nats_zeros (i : Nat) : nats (List.replicate i 0) = List.replicate i 0 := by simp [nats]
theorem nats_cons (x : Int) (l : List Int) : nats (x :: l) = x.toNat :: nats l := rfl
theorem numbers_law {p c h s : Int} {xs : List Int} (g : okP p c h s xs = true) (f : fewB c h = true) : ∃ n N : Int, bnI p c h s xs = n ∧ bcI p c h s = N ∧ 0 ≤ n ∧ n < N ∧ N ≤ 1000000 ∧ bnE p c h s xs = 0 ∧
    baE p c h s n = 0 ∧ baL p c h s n = xs ∧ ((nxE p c h s xs = 4 ∧ n = N - 1) ∨ (nxE p c h s xs = 0 ∧ bnE p c h s (nxL p c h s xs) = 0 ∧ bnI p c h s (nxL p c h s xs) = n + 1)) := by
  obtain ⟨hv, hl, hx, hs⟩ := okP_iff.1 g
  have hvv := vB_iff.1 hv
  obtain ⟨C, hC⟩ := Int.eq_ofNat_of_zero_le (show 0 ≤ c by omega)
  have hCt : c.toNat = C := by omega
  have hht : h.toNat = xs.length := by omega
  have hx0 : ∀ x ∈ xs, 0 ≤ x := fun x hm => (hx x hm).1
  have hns := nats_sum xs hx0
  have hnl := nats_length xs
  have hlt := bnN_lt (nats xs) C (by omega)
  rw [hnl] at hlt
  have hf : cnt xs.length C ≤ 1000000 := by
    have := f
    simp only [fewB, decide_eq_true_eq] at this
    rwa [hht, hCt] at this
  have e1 : bnI p c h s xs = (bnN (nats xs) C : Int) := by rw [bnI, if_pos ⟨g, f⟩, hCt]
  have e2 : bcI p c h s = (cnt xs.length C : Int) := by rw [bcI, if_pos hv, wyI_few f, hht, hCt]
  have hk : okK c h (bnN (nats xs) C : Int) = true := by
    unfold okK
    rw [hht, hCt, decide_eq_true_eq]
    omega
  have e3 : bnE p c h s xs = 0 := by rw [bnE, if_pos g, if_pos f]
  have e4 : baE p c h s (bnN (nats xs) C : Int) = 0 := by rw [baE, if_pos hv, if_pos f, if_pos hk]
  have e5 : baL p c h s (bnN (nats xs) C : Int) = xs := by
    rw [baL, if_pos ⟨hv, f, hk⟩, hht, hCt, Int.toNat_natCast]
    have hu := unr_numL (nats xs).reverse C (by simpa using (show (nats xs).sum ≤ C by omega))
    rw [List.length_reverse, hnl] at hu
    unfold unrI bnN
    rw [hu, ← List.map_reverse, List.reverse_reverse, cast_nats xs hx0]
  refine ⟨_, _, e1, e2, by omega, by omega, by omega, e3, e4, e5, ?_⟩
  have key : ∀ ys : List Int, nxR c xs = ys → nxB c xs = true → ys.length = xs.length → (∀ y ∈ ys, 0 ≤ y) → ys.sum ≤ c → bnN (nats ys) C = bnN (nats xs) C + 1 →
      nxE p c h s xs = 0 ∧ bnE p c h s (nxL p c h s xs) = 0 ∧ bnI p c h s (nxL p c h s xs) = (bnN (nats xs) C : Int) + 1 := by
    intro ys h1 h2 h3 h4 h5 h6
    have hok : okP p c h s ys = true := okP_iff.2 ⟨hv, by omega, fun y hy => ⟨h4 y hy, by have := sum_mem ys h4 y hy; omega⟩, h5⟩
    have hL : nxL p c h s xs = ys := by rw [nxL, if_pos ⟨g, h2⟩, h1]
    refine ⟨by rw [nxE, if_pos g, if_pos h2], ?_, ?_⟩
    · rw [hL, bnE, if_pos hok, if_pos f]
    · rw [hL, bnI, if_pos ⟨hok, f⟩, hCt, h6]
      omega
  by_cases hsum : xs.sum < c
  · right
    cases xs with
    | nil => simp at hl; omega
    | cons x r =>
      have hx1 := hx0 x (by simp)
      have hsr := sum_nn r (fun y hy => hx0 y (by simp [hy]))
      rw [List.sum_cons] at hsum
      refine key ((x + 1) :: r) (by rw [nxR, if_pos (by rw [List.sum_cons]; exact hsum)]; simp) (by simp [nxB, hsum]) (by simp) ?_ (by rw [List.sum_cons]; omega) ?_
      · intro y hy
        rcases List.mem_cons.1 hy with rfl | hy
        · omega
        · exact hx0 y (by simp [hy])
      · rw [nats_cons, nats_cons, show (x + 1).toNat = x.toNat + 1 by omega]
        exact bnN_more _ _ _
  · have hfp := fpos_sum xs (by omega)
    obtain ⟨x, r, e, hxp⟩ := fpos_split xs hx0 hfp
    obtain ⟨i, hi⟩ : ∃ i, fpos xs = i := ⟨_, rfl⟩
    rw [hi] at e
    have hsx : x + r.sum = c := by
      have : xs.sum = x + r.sum := by rw [e, sum_zeros, List.sum_cons]
      omega
    have hr0 : ∀ y ∈ r, 0 ≤ y := fun y hy => hx0 y (by rw [e]; simp [hy])
    have hrs := sum_nn r hr0
    cases r with
    | nil =>
      left
      have hlen : xs.length = i + 1 := by rw [e]; simp
      have hb : nxB c xs = false := by simp [nxB, hsum, hi]; omega
      refine ⟨by rw [nxE, if_pos g, if_neg (by simp [hb])], ?_⟩
      have hq : bnN (nats xs) C + 1 = cnt xs.length C := by
        have hxc : x.toNat = C := by simp at hsx; omega
        rw [hlen, e, nats_app, nats_zeros, nats_cons, hxc]
        exact bnN_last i C
      omega
    | cons y t =>
      right
      have hy0 := hr0 y (by simp)
      have ht0 : ∀ z ∈ t, 0 ≤ z := fun z hz => hr0 z (by simp [hz])
      have hts := sum_nn t ht0
      have htn := nats_sum t ht0
      rw [List.sum_cons] at hsx hrs
      have hlen : xs.length = i + (t.length + 2) := by rw [e]; simp
      have hgy : xs.getD (i + 1) 0 = y := by
        rw [e, List.getD_eq_getElem?_getD, List.getElem?_append_right (by simp)]
        simp
      refine key (List.replicate i 0 ++ 0 :: (y + 1) :: t) ?_ (by simp [nxB, hi]; omega) (by rw [hlen]; simp) ?_ (by rw [sum_zeros, List.sum_cons, List.sum_cons]; omega) ?_
      · rw [nxR, if_neg hsum, hi, hgy, e, List.set_append_right _ _ (by simp), List.set_append_right _ _ (by simp)]
        simp
      · intro z hz
        rcases List.mem_append.1 hz with hz | hz
        · have := List.eq_of_mem_replicate hz
          omega
        · rcases List.mem_cons.1 hz with rfl | hz
          · omega
          · rcases List.mem_cons.1 hz with rfl | hz
            · omega
            · exact ht0 z hz
      · rw [e, nats_app, nats_app, nats_zeros, nats_cons, nats_cons, nats_cons, nats_cons, show (y + 1).toNat = y.toNat + 1 by omega]
        exact bnN_turn i x.toNat y.toNat (nats t) C (by omega) (by omega)
end Go.Proofs.Ythnkckflajkaiaa
