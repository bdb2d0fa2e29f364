/- The results of a roll: how many, which; lists of positions in an interval of memory, marked. -/
import Derived.Test.Ytpalokkcmpjcmaa10zg
import Derived.Test.Ytpalokkcmpjcmaa10y
namespace Go.Proofs.Ytpalokkcmpjcmaa
open Go.ChangeShapes Go.WideShapes Go.ChangeAt Go.RowKit
set_option linter.unusedVariables false
set_option linter.unusedSimpArgs false
set_option maxRecDepth 4000

theorem resI_len {n : Nat} {xs : List Int} {ra rb : Int} (h1 : 1 ≤ n) (hn : n ≤ 24) (hP : PO n xs) (r1 : 1 ≤ rb) (r2 : rb ≤ ra) (r3 : ra ≤ 6) : (resI xs (ordersP ra rb)).length ≤ 700000 := by
  obtain ⟨o1, o2, o3⟩ := orders_in r1 r2 r3
  have hf : ∀ o ∈ ordersP ra rb, (aoL xs o).length ≤ 331776 := fun o ho => by
    obtain ⟨q1, q2, q3⟩ := o3 o ho
    have := (ao_le h1 hn o [xs] (fun d hd => (q3 d hd).1) (fun q hq => by simp at hq; subst hq; exact hP)).1
    have h4 : 24 ^ o.length ≤ 24 ^ 4 := Nat.pow_le_pow_right (by omega) q2
    have e : aoL xs o = o.foldl aoS [xs] := rfl
    rw [e]
    simp at this
    omega
  have h5 := Nat.le_trans (sdP_le ((ordersP ra rb).flatMap fun o => aoL xs o)) (flat_le hf)
  have h6 := Nat.mul_le_mul_right 331776 o1
  show (sdP ((ordersP ra rb).flatMap fun o => aoL xs o)).length ≤ 700000
  omega
theorem resI_PO {n : Nat} {xs : List Int} {ra rb : Int} (h1 : 1 ≤ n) (hn : n ≤ 24) (hP : PO n xs) (r1 : 1 ≤ rb) (r2 : rb ≤ ra) (r3 : ra ≤ 6) : ∀ z ∈ resI xs (ordersP ra rb), PO n z := fun z hz => by
  obtain ⟨o1, o2, o3⟩ := orders_in r1 r2 r3
  have hf : ∀ z ∈ (ordersP ra rb).flatMap fun o => aoL xs o, PO n z := fun z hz => by
    obtain ⟨o, ho, hzo⟩ := List.mem_flatMap.1 hz
    exact (ao_le h1 hn o [xs] (fun d hd => ((o3 o ho).2.2 d hd).1) (fun q hq => by simp at hq; subst hq; exact hP)).2 z hzo
  exact hf z (((sdP_facts (fun z hz => (hf z hz).2.1)).2.2 z).1 hz)
theorem resI_ne {n : Nat} {xs : List Int} {ra rb : Int} (h1 : 1 ≤ n) (hn : n ≤ 24) (hP : PO n xs) (r1 : 1 ≤ rb) (r2 : rb ≤ ra) (r3 : ra ≤ 6) : 0 < (resI xs (ordersP ra rb)).length := by
  obtain ⟨o1, o2, o3⟩ := orders_in r1 r2 r3
  obtain ⟨o, ho⟩ : ∃ o, o ∈ ordersP ra rb := by
    cases e : ordersP ra rb with
    | nil => rw [e] at o2; simp at o2
    | cons o l => exact ⟨o, by simp⟩
  have hne := aoL_ne hP (o := o) (fun d hd => ((o3 o ho).2.2 d hd).1)
  obtain ⟨z, hz⟩ := List.exists_mem_of_ne_nil _ hne
  have hf : ∀ z ∈ (ordersP ra rb).flatMap fun o => aoL xs o, z.length = n := fun z hz => by
    obtain ⟨o, ho, hzo⟩ := List.mem_flatMap.1 hz
    exact ((ao_le h1 hn o [xs] (fun d hd => ((o3 o ho).2.2 d hd).1) (fun q hq => by simp at hq; subst hq; exact hP)).2 z hzo).2.1
  exact List.length_pos_of_mem (((sdP_facts hf).2.2 z).2 (List.mem_flatMap.2 ⟨o, ho, hz⟩))
theorem rsL_facts (p c h s : Int) (xs : List Int) (ra rb : Int) : (rsL p c h s xs ra rb).length ≤ 700000 ∧ ∀ q ∈ rsL p c h s xs ra rb, PO xs.length q ∧ xs.length ≤ 24 := by
  unfold rsL
  split
  · rename_i e
    unfold rsC at e
    split at e
    · rename_i z
      split at e
      · rename_i q
        have g := okP_of z
        have hs6 : s ≤ 6 := by
          have : vB p c h s = true := by simp only [okP, Bool.and_eq_true] at g; exact g.1
          have := vB_iff.1 this
          omega
        obtain ⟨k1, k2, k3⟩ := okP_PO g
        obtain ⟨j1, j2, j3⟩ := rlB_parts q hs6
        refine ⟨resI_len k2 k3 k1 j1 j2 j3, fun z hz => ?_⟩
        exact ⟨resI_PO k2 k3 k1 j1 j2 j3 z hz, k3⟩
      · omega
    · rename_i z
      exact absurd e z
  · simp
theorem rsL_ne (p c h s : Int) (xs : List Int) (ra rb : Int) (e : rsC p c h s xs ra rb = 0) : 0 < (rsL p c h s xs ra rb).length := by
  rw [rsL, if_pos e]
  unfold rsC at e
  split at e
  · rename_i z
    split at e
    · rename_i q
      have g := okP_of z
      have hs6 : s ≤ 6 := by
        have : vB p c h s = true := by simp only [okP, Bool.and_eq_true] at g; exact g.1
        have := vB_iff.1 this
        omega
      obtain ⟨k1, k2, k3⟩ := okP_PO g
      obtain ⟨j1, j2, j3⟩ := rlB_parts q hs6
      exact resI_ne k2 k3 k1 j1 j2 j3
    · omega
  · rename_i z
    exact absurd e z
/-- A list of positions in an interval of memory, or nil. -/
def LR (lo hi : Nat) (w : World) (a : Option Addr) (l : List PQ) : Prop := (a = none ∧ l = []) ∨ ∃ g, a = some ⟨g, 0, none⟩ ∧ lo ≤ g ∧ g < hi ∧ QRow w g l
theorem LR.lq {lo hi : Nat} {w : World} {a : Option Addr} {l : List PQ} (h : LR lo hi w a l) : LQ w a l := by
  rcases h with h | ⟨g, e, _, _, r⟩
  · exact .inl h
  · exact .inr ⟨g, e, r⟩
theorem LR.below {lo hi : Nat} {w w' : World} {a : Option Addr} {l : List PQ} (h : LR lo hi w a l) (hb : Below w.heap.size w w') : LR lo hi w' a l := by
  rcases h with h | ⟨g, e, q1, q2, r⟩
  · exact .inl h
  · exact .inr ⟨g, e, q1, q2, r.below hb⟩
theorem LR.drew {lo hi : Nat} {w : World} {a : Option Addr} {l : List PQ} (h : LR lo hi w a l) : LR lo hi w.drew a l := h.below (Below.refl _ _).drew
theorem LR.same {lo hi lo2 hi2 : Nat} {w w' : World} {a : Option Addr} {l : List PQ} (h : LR lo2 hi2 w a l) (hs : Same lo hi w w') (hd : hi2 ≤ lo ∨ hi ≤ lo2) : LR lo2 hi2 w' a l := by
  rcases h with h | ⟨g, e, q1, q2, r⟩
  · exact .inl h
  · exact .inr ⟨g, e, q1, q2, VRow.same r hs (by omega)⟩
theorem QAll.same {lo hi lo2 hi2 : Nat} {w w' : World} {l : List PQ} (h : QAll lo2 hi2 w l) (hs : Same lo hi w w') (hd : hi2 ≤ lo ∨ hi ≤ lo2) : QAll lo2 hi2 w' l := fun x hx => by
  obtain ⟨q1, q2, cur, hB, r⟩ := h x hx
  exact ⟨q1, q2, cur, Blk.same hB hs (by omega), r⟩
theorem QRow.apart {lo hi : Nat} {w : World} {g : Nat} {l m : List PQ} (h : QRow w g l) (hA : QAll lo hi w m) : ∀ x ∈ m, x.1 ≠ g := fun x hx e => by
  obtain ⟨_, _, cur, hB, _⟩ := hA x hx
  obtain ⟨cur2, hB2, _⟩ := h
  rw [e] at hB
  have := hB.symm.trans hB2
  simp at this
theorem QAll.rows {lo hi : Nat} {w : World} {l : List PQ} (h : QAll lo hi w l) (hn : ∀ x ∈ l, x.2.2.length ≤ 24) : ∀ x ∈ l, Row w x.1 x.2.2 ∧ x.2.2.length ≤ 1048576 := fun x hx => ⟨(h x hx).2.2, by have := hn x hx; omega⟩
theorem QAll.rows1 {lo hi : Nat} {w : World} {l : List PQ} (h : QAll lo hi w l) : ∀ x ∈ l, Row w x.1 x.2.2 := fun x hx => (h x hx).2.2
theorem szQ_le {l : List PQ} (hn : ∀ x ∈ l, x.2.2.length ≤ 24) : szQ l ≤ 24 * l.length := by
  induction l with
  | nil => simp [szQ]
  | cons x l ih =>
    have h1 := ih (fun y hy => hn y (by simp [hy]))
    have h2 := hn x (by simp)
    simp only [szQ, List.map_cons, List.sum_cons, List.length_cons] at h1 ⊢
    omega
theorem markSS_own (lo hi : Nat) (a : Option Addr) (N k1 : Nat) (l : List PQ) (w : World) (hl : l.length = N) (hN : N ≤ 1048576) (kb : (1 : Int) + szQ l ≤ 1000000000) (h : LR lo hi w a l) (hA : QAll lo hi w l) (hD : QDis l) (hlen : ∀ x ∈ l, x.2.2.length ≤ 24) :
    Calls Try.prog 25 #[.slice a N k1, .int .i64 1] w fun e w' => e = .returned (.int .i64 (1 + szQ l)) ∧ LR lo hi w' a l ∧ QAll lo hi w' (mkQ 1 l) ∧ Same lo hi w w' := by
  have hne : ∀ g, a = some ⟨g, 0, none⟩ → ∀ x ∈ l, x.1 ≠ g := fun g e => by
    rcases h with ⟨h1, h2⟩ | ⟨g', e', _, _, r⟩
    · rw [h2]; simp
    · rw [e'] at e
      simp at e
      subst e
      exact r.apart hA
  refine (markInt64SS_any lo hi a N k1 l 1 w hl hN (by omega) kb h.lq hA hD (fun x hx => by have := hlen x hx; omega) hne).mono ?_
  rintro e w' ⟨rfl, q1, q2, q3⟩
  refine ⟨rfl, ?_, q2, q3⟩
  rcases h with h | ⟨g, e, b1, b2, r⟩
  · exact .inl h
  · rcases q1 with ⟨q, _⟩ | ⟨g', e', r'⟩
    · rw [q] at e; simp at e
    · rw [e'] at e
      simp at e
      subst e
      exact .inr ⟨_, e', b1, b2, r'⟩
end Go.Proofs.Ytpalokkcmpjcmaa
