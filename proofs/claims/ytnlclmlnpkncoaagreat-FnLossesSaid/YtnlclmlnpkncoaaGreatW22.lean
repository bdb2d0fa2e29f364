/- Texts of a proof, laid together. -/
import Derived.Test.YtnlclmlnpkncoaaGreatW13
import Derived.Test.YtnlclmlnpkncoaaGreatW21
import Derived.Test.YtnlclmlnpkncoaaGreatW20
import Derived.Test.YtnlclmlnpkncoaaGreatW19
import Derived.Test.YtnlclmlnpkncoaaGreatW02
namespace Go.Proofs.YtnlclmlnpkncoaaGreat
open Go.ChangeShapes Go.WideShapes Go.ChangeAt Go.RowKit
set_option linter.unusedVariables false
set_option linter.unusedSimpArgs false
set_option maxRecDepth 4000
theorem WaysAt.grown {w w' : World} {g g' : Nat} (h : WaysAt w g) (hg : w.grownBy w' (some g')) (hne : g ≠ g') : WaysAt w' g := by
  obtain ⟨cur, hB, h1, h2⟩ := h
  exact ⟨cur, hB.grown hg hne, h1, h2⟩
theorem nats_reverse (ns : List Nat) (xs : List Int) (hl : ns.length = xs.length) (hx : ∀ k, k < xs.length → xs.getD k 0 = (ns.getD k 0 : Int)) : ∀ k, k < xs.reverse.length → xs.reverse.getD k 0 = (ns.reverse.getD k 0 : Int) := by
  intro k hk
  rw [List.length_reverse] at hk
  have h := hx (xs.length - 1 - k) (by omega)
  simp only [List.getD_eq_getElem?_getD] at h ⊢
  rw [List.getElem?_reverse hk, List.getElem?_reverse (by omega), hl]
  exact h
set_option maxHeartbeats 1000000 in
theorem bearoffNumberM_any (p h s : Int) (C g : Nat) (a : Option Addr) (n cap : Nat) (ns : List Nat) (xs : List Int) (w : World) (n1 : 1 ≤ n) (hn : n ≤ 24) (c1 : C ≤ 15) (hl : xs.length = n) (hln : ns.length = n) (hs : ns.sum ≤ C)
    (hx : ∀ k, k < xs.length → xs.getD k 0 = (ns.getD k 0 : Int)) (hr : IRow w a xs) (hw : WaysAt w g) :
    Calls Tryz.prog 62 #[.pointer (some ⟨g, 0, none⟩), .agg #[.int .i64 p, .int .i64 (C : Int), .int .i64 h, .int .i64 s], .slice a n cap] w fun e w' => e = .returned (.int .i64 (bnN ns C)) ∧ Below w.heap.size w w' := by
  obtain ⟨b, o, rfl, _⟩ := hr 0 (by omega)
  have BV := Blk.new w #[.int .i64 p, .int .i64 (C : Int), .int .i64 h, .int .i64 s] 25
  have hb : Below w.heap.size w (w.alloc (.cells #[.int .i64 p, .int .i64 (C : Int), .int .i64 h, .int .i64 s] 25)) := (Below.refl _ _).alloc (Nat.le_refl _) _
  have hgl := hw.lt
  have hbl := BV.lt
  have hC := fun W (r : IRow W (some ⟨b, o, none⟩) xs) => clone_any b o n cap xs W hl n1 (by omega) r
  have hR := fun W gg k (r : Row W gg xs) => reverse_any gg xs.length k xs W rfl (by omega) r
  have hN := fun W gg k (r : Row W gg xs.reverse) (q : WaysAt W g) => numberOf_any g C (some ⟨gg, 0, none⟩) xs.length k ns.reverse xs.reverse W (by omega) c1 (by simp) (by simp; omega) (by simpa using hs) (nats_reverse ns xs (by omega) hx) r.irow q
  have HC := Lib.hid hC
  have HR := Lib.hid hR
  have HN := Lib.hid hN
  replace hr := hr.below hb
  replace hw := hw.below hb
  clear hC hR hN hl hln hx
  obtain ⟨x0, x1, x2, x3, xf, xl⟩ := BV.four
  go_enter Tryz.func62, Tryz.ntmps62
  go_wp2_with (first
    | (go_at_call 88; refine (HC.out _ hr).mono ?_; rintro e w1 ⟨g1, k1, rfl, hg1, R1, hb1⟩; clear x0 x1 x2 x3 xf xl; replace BV := BV.below hb1; replace hw := hw.below hb1; replace hb := chain hb hb1; have hgg : w.heap.size < g1 := Nat.lt_of_lt_of_le hbl hg1; clear hb1 hg1; obtain ⟨x0, x1, x2, x3, xf, xl⟩ := BV.four)
    | (go_at_call 89; refine (HR.out _ _ _ R1).mono ?_; rintro e w2 ⟨rfl, R2, hG⟩; clear x0 x1 x2 x3 xf xl R1; replace BV := BV.grown hG (by omega); replace hw := hw.grown hG (by omega); replace hb := hb.grown hG hb.size (fun k hk => by simp at hk; omega); obtain ⟨x0, x1, x2, x3, xf, xl⟩ := BV.four)
    | (go_at_call 90; refine (HN.out _ _ _ R2 hw).mono ?_; rintro e w3 ⟨rfl, hb3⟩; replace hb := chain hb hb3))
  go_ret
  exact ⟨rfl, hb⟩
set_option maxHeartbeats 1000000 in
theorem bearoffAtM_any (p s : Int) (C H K g : Nat) (w : World) (h1 : 1 ≤ H) (hH : H ≤ 24) (c1 : C ≤ 15) (hK : K < cnt H C) (hw : WaysAt w g) :
    Calls Tryz.prog 80 #[.pointer (some ⟨g, 0, none⟩), .agg #[.int .i64 p, .int .i64 (C : Int), .int .i64 (H : Int), .int .i64 s], .int .i64 K] w fun e w' => ∃ gL, e = .returned (.slice (some ⟨gL, 0, none⟩) H H) ∧ w.heap.size ≤ gL ∧ Row w' gL (unrI H K C).reverse ∧ Below w.heap.size w w' := by
  have BV := Blk.new w #[.int .i64 p, .int .i64 (C : Int), .int .i64 (H : Int), .int .i64 s] 25
  have hb : Below w.heap.size w (w.alloc (.cells #[.int .i64 p, .int .i64 (C : Int), .int .i64 (H : Int), .int .i64 s] 25)) := (Below.refl _ _).alloc (Nat.le_refl _) _
  have hbl := BV.lt
  have hlen := unrI_length H K C hK
  have hA := fun W (q : WaysAt W g) => listAt_any g K H C W h1 (by omega) c1 hK q
  have hR := fun W gg (r : Row W gg (unrI H K C)) => reverse_any gg H H _ W hlen (by omega) r
  have HA := Lib.hid hA
  have HR := Lib.hid hR
  replace hw := hw.below hb
  clear hA hR hlen hK
  obtain ⟨x0, x1, x2, x3, xf, xl⟩ := BV.four
  go_enter Tryz.func80, Tryz.ntmps80
  go_wp2_with (first
    | (go_at_call 111; refine (HA.out _ hw).mono ?_; rintro e w1 ⟨g1, rfl, hg1, R1, hb1⟩; clear x0 x1 x2 x3 xf xl; replace BV := BV.below hb1; replace hb := chain hb hb1; have hgg : w.heap.size < g1 := Nat.lt_of_lt_of_le hbl hg1; clear hb1 hg1 hw; obtain ⟨x0, x1, x2, x3, xf, xl⟩ := BV.four)
    | (go_at_call 89; refine (HR.out _ _ R1).mono ?_; rintro e w2 ⟨rfl, R2, hG⟩; clear x0 x1 x2 x3 xf xl R1; replace hb := hb.grown hG hb.size (fun k hk => by simp at hk; omega)))
  go_ret
  exact ⟨_, rfl, by omega, R2, hb⟩
def fewB (c h : Int) : Bool := decide (cnt h.toNat c.toNat ≤ 1000000)
def bnI (p c h s : Int) (xs : List Int) : Int := if okP p c h s xs = true ∧ fewB c h = true then (bnN (nats xs) c.toNat : Int) else 0
def bnE (p c h s : Int) (xs : List Int) : Int := if okP p c h s xs = true then (if fewB c h = true then 0 else 3) else bcE p c h s xs
def okK (c h k : Int) : Bool := decide (0 ≤ k ∧ k < (cnt h.toNat c.toNat : Int))
def baL (p c h s k : Int) : List Int := if vB p c h s = true ∧ fewB c h = true ∧ okK c h k = true then (unrI h.toNat k.toNat c.toNat).reverse else []
def baE (p c h s k : Int) : Int := if vB p c h s = true then (if fewB c h = true then (if okK c h k = true then 0 else 4) else 3) else 1
theorem wyI_few {c h : Int} (e : fewB c h = true) : wyI h.toNat c.toNat = (cnt h.toNat c.toNat : Int) := by
  simp only [fewB, decide_eq_true_eq] at e
  rw [wyI, if_pos e]
theorem okP_v {p c h s : Int} {xs : List Int} (g : okP p c h s xs = true) : vB p c h s = true ∧ sideB (h - 1) c xs = true := by simpa [okP] using g
def fpos : List Int → Nat
  | [] => 0
  | x :: l => if 0 < x then 0 else fpos l + 1
theorem fpos_le : ∀ l : List Int, fpos l ≤ l.length
  | [] => Nat.le_refl _
  | x :: l => by
    have := fpos_le l
    rw [fpos, List.length_cons]
    split <;> omega
theorem fpos_none : ∀ (l : List Int) (j : Nat), j < fpos l → l.getD j 0 ≤ 0
  | [], j, h => by simp [fpos] at h
  | x :: l, j, h => by
    rw [fpos] at h
    split at h
    · omega
    · cases j with
      | zero => simp; omega
      | succ j => simpa using fpos_none l j (by omega)
theorem sum_none : ∀ (l : List Int), (∀ x ∈ l, x ≤ 0) → l.sum ≤ 0
  | [], _ => by simp
  | x :: l, h => by
    have h1 := h x (by simp)
    have h2 := sum_none l (fun y hy => h y (by simp [hy]))
    rw [List.sum_cons]
    omega
theorem fpos_sum (l : List Int) (h : 1 ≤ l.sum) : fpos l < l.length := by
  rcases Nat.lt_or_ge (fpos l) l.length with q | q
  · exact q
  · have hq : fpos l = l.length := by have := fpos_le l; omega
    have := sum_none l (fun x hx => by
      obtain ⟨j, hj, rfl⟩ := List.mem_iff_getElem.1 hx
      have := fpos_none l j (by omega)
      simpa [hj] using this)
    omega
def nxR (c : Int) (xs : List Int) : List Int := if xs.sum < c then xs.set 0 (xs.getD 0 0 + 1) else (xs.set (fpos xs) 0).set (fpos xs + 1) (xs.getD (fpos xs + 1) 0 + 1)
def nxB (c : Int) (xs : List Int) : Bool := decide (xs.sum < c) || decide (fpos xs + 1 < xs.length)
def nxL (p c h s : Int) (xs : List Int) : List Int := if okP p c h s xs = true ∧ nxB c xs = true then nxR c xs else []
def nxE (p c h s : Int) (xs : List Int) : Int := if okP p c h s xs = true then (if nxB c xs = true then 0 else 4) else bcE p c h s xs
theorem okP_iff {p c h s : Int} {xs : List Int} : okP p c h s xs = true ↔ vB p c h s = true ∧ (xs.length : Int) = h ∧ (∀ x ∈ xs, 0 ≤ x ∧ x ≤ c) ∧ xs.sum ≤ c := by
  simp only [okP, Bool.and_eq_true, sideB_iff]
  constructor
  · rintro ⟨a, b, d, e⟩
    exact ⟨a, by omega, d, e⟩
  · rintro ⟨a, b, d, e⟩
    exact ⟨a, by omega, d, e⟩
theorem cast_nats : ∀ (xs : List Int), (∀ x ∈ xs, 0 ≤ x) → (nats xs).map (fun (x : Nat) => (x : Int)) = xs
  | [], _ => rfl
  | x :: r, h => by
    have h1 := h x (by simp)
    have ih := cast_nats r (fun y hy => h y (by simp [hy]))
    show ((x.toNat : Nat) : Int) :: (nats r).map _ = x :: r
    rw [ih, show ((x.toNat : Nat) : Int) = x by omega]
theorem sum_nn : ∀ (l : List Int), (∀ x ∈ l, 0 ≤ x) → 0 ≤ l.sum
  | [], _ => by simp
  | x :: r, h => by
    have h1 := h x (by simp)
    have ih := sum_nn r (fun y hy => h y (by simp [hy]))
    rw [List.sum_cons]
    omega
theorem sum_mem : ∀ (l : List Int), (∀ x ∈ l, 0 ≤ x) → ∀ x ∈ l, x ≤ l.sum
  | [], _, x, hx => by simp at hx
  | y :: r, h, x, hx => by
    have h1 := h y (by simp)
    have h2 := sum_nn r (fun z hz => h z (by simp [hz]))
    rw [List.sum_cons]
    rcases List.mem_cons.1 hx with rfl | hx
    · omega
    · have := sum_mem r (fun z hz => h z (by simp [hz])) x hx
      omega
theorem fpos_split : ∀ (l : List Int), (∀ x ∈ l, 0 ≤ x) → fpos l < l.length → ∃ x r, l = List.replicate (fpos l) 0 ++ x :: r ∧ 0 < x
  | [], _, h => by simp at h
  | y :: l, hl, h => by
    have hy := hl y (by simp)
    rw [fpos] at h ⊢
    by_cases q : 0 < y
    · rw [if_pos q]
      exact ⟨y, l, rfl, q⟩
    · rw [if_neg q] at h ⊢
      obtain ⟨x, r, e, hx⟩ := fpos_split l (fun z hz => hl z (by simp [hz])) (by simpa using h)
      refine ⟨x, r, ?_, hx⟩
      rw [List.replicate_succ, List.cons_append, ← e, show y = 0 by omega]
theorem sum_zeros (i : Nat) (l : List Int) : (List.replicate i 0 ++ l).sum = l.sum := by simp
theorem nats_app (a b : List Int) : nats (a ++ b) = nats a ++ nats b := by simp [nats]
theorem nats_zeros (i : Nat) : nats (List.replicate i 0) = List.replicate i 0 := by simp [nats]
theorem nats_cons (x : Int) (l : List Int) : nats (x :: l) = x.toNat :: nats l := rfl
theorem numbers_law {p c h s : Int} {xs : List Int} (g : okP p c h s xs = true) (f : fewB c h = true) : ∃ n N : Int, bnI p c h s xs = n ∧ bcI p c h s = N ∧ 0 ≤ n ∧ n < N ∧ N ≤ 1000000 ∧ bnE p c h s xs = 0 ∧
    baE p c h s n = 0 ∧ baL p c h s n = xs ∧ ((nxE p c h s xs = 4 ∧ n = N - 1) ∨ (nxE p c h s xs = 0 ∧ bnE p c h s (nxL p c h s xs) = 0 ∧ bnI p c h s (nxL p c h s xs) = n + 1)) := by
  obtain ⟨hv, hl, hx, hs⟩ := okP_iff.1 g
  have hvv := vB_iff.1 hv
  obtain ⟨C, hC⟩ := Int.eq_ofNat_of_zero_le (show 0 ≤ c by omega)
  have hCt : c.toNat = C := by omega
  have hht : h.toNat = xs.length := by omega
  have hx0 : ∀ x ∈ xs, 0 ≤ x := fun x hm => (hx x hm).1
  have hns := nats_sum xs hx0
  have hnl := nats_length xs
  have hlt := bnN_lt (nats xs) C (by omega)
  rw [hnl] at hlt
  have hf : cnt xs.length C ≤ 1000000 := by
    have := f
    simp only [fewB, decide_eq_true_eq] at this
    rwa [hht, hCt] at this
  have e1 : bnI p c h s xs = (bnN (nats xs) C : Int) := by rw [bnI, if_pos ⟨g, f⟩, hCt]
  have e2 : bcI p c h s = (cnt xs.length C : Int) := by rw [bcI, if_pos hv, wyI_few f, hht, hCt]
  have hk : okK c h (bnN (nats xs) C : Int) = true := by
    unfold okK
    rw [hht, hCt, decide_eq_true_eq]
    omega
  have e3 : bnE p c h s xs = 0 := by rw [bnE, if_pos g, if_pos f]
  have e4 : baE p c h s (bnN (nats xs) C : Int) = 0 := by rw [baE, if_pos hv, if_pos f, if_pos hk]
  have e5 : baL p c h s (bnN (nats xs) C : Int) = xs := by
    rw [baL, if_pos ⟨hv, f, hk⟩, hht, hCt, Int.toNat_natCast]
    have hu := unr_numL (nats xs).reverse C (by simpa using (show (nats xs).sum ≤ C by omega))
    rw [List.length_reverse, hnl] at hu
    unfold unrI bnN
    rw [hu, ← List.map_reverse, List.reverse_reverse, cast_nats xs hx0]
  refine ⟨_, _, e1, e2, by omega, by omega, by omega, e3, e4, e5, ?_⟩
  have key : ∀ ys : List Int, nxR c xs = ys → nxB c xs = true → ys.length = xs.length → (∀ y ∈ ys, 0 ≤ y) → ys.sum ≤ c → bnN (nats ys) C = bnN (nats xs) C + 1 →
      nxE p c h s xs = 0 ∧ bnE p c h s (nxL p c h s xs) = 0 ∧ bnI p c h s (nxL p c h s xs) = (bnN (nats xs) C : Int) + 1 := by
    intro ys h1 h2 h3 h4 h5 h6
    have hok : okP p c h s ys = true := okP_iff.2 ⟨hv, by omega, fun y hy => ⟨h4 y hy, by have := sum_mem ys h4 y hy; omega⟩, h5⟩
    have hL : nxL p c h s xs = ys := by rw [nxL, if_pos ⟨g, h2⟩, h1]
    refine ⟨by rw [nxE, if_pos g, if_pos h2], ?_, ?_⟩
    · rw [hL, bnE, if_pos hok, if_pos f]
    · rw [hL, bnI, if_pos ⟨hok, f⟩, hCt, h6]
      omega
  by_cases hsum : xs.sum < c
  · right
    cases xs with
    | nil => simp at hl; omega
    | cons x r =>
      have hx1 := hx0 x (by simp)
      have hsr := sum_nn r (fun y hy => hx0 y (by simp [hy]))
      rw [List.sum_cons] at hsum
      refine key ((x + 1) :: r) (by rw [nxR, if_pos (by rw [List.sum_cons]; exact hsum)]; simp) (by simp [nxB, hsum]) (by simp) ?_ (by rw [List.sum_cons]; omega) ?_
      · intro y hy
        rcases List.mem_cons.1 hy with rfl | hy
        · omega
        · exact hx0 y (by simp [hy])
      · rw [nats_cons, nats_cons, show (x + 1).toNat = x.toNat + 1 by omega]
        exact bnN_more _ _ _
  · have hfp := fpos_sum xs (by omega)
    obtain ⟨x, r, e, hxp⟩ := fpos_split xs hx0 hfp
    obtain ⟨i, hi⟩ : ∃ i, fpos xs = i := ⟨_, rfl⟩
    rw [hi] at e
    have hsx : x + r.sum = c := by
      have : xs.sum = x + r.sum := by rw [e, sum_zeros, List.sum_cons]
      omega
    have hr0 : ∀ y ∈ r, 0 ≤ y := fun y hy => hx0 y (by rw [e]; simp [hy])
    have hrs := sum_nn r hr0
    cases r with
    | nil =>
      left
      have hlen : xs.length = i + 1 := by rw [e]; simp
      have hb : nxB c xs = false := by simp [nxB, hsum, hi]; omega
      refine ⟨by rw [nxE, if_pos g, if_neg (by simp [hb])], ?_⟩
      have hq : bnN (nats xs) C + 1 = cnt xs.length C := by
        have hxc : x.toNat = C := by simp at hsx; omega
        rw [hlen, e, nats_app, nats_zeros, nats_cons, hxc]
        exact bnN_last i C
      omega
    | cons y t =>
      right
      have hy0 := hr0 y (by simp)
      have ht0 : ∀ z ∈ t, 0 ≤ z := fun z hz => hr0 z (by simp [hz])
      have hts := sum_nn t ht0
      have htn := nats_sum t ht0
      rw [List.sum_cons] at hsx hrs
      have hlen : xs.length = i + (t.length + 2) := by rw [e]; simp
      have hgy : xs.getD (i + 1) 0 = y := by
        rw [e, List.getD_eq_getElem?_getD, List.getElem?_append_right (by simp)]
        simp
      refine key (List.replicate i 0 ++ 0 :: (y + 1) :: t) ?_ (by simp [nxB, hi]; omega) (by rw [hlen]; simp) ?_ (by rw [sum_zeros, List.sum_cons, List.sum_cons]; omega) ?_
      · rw [nxR, if_neg hsum, hi, hgy, e, List.set_append_right _ _ (by simp), List.set_append_right _ _ (by simp)]
        simp
      · intro z hz
        rcases List.mem_append.1 hz with hz | hz
        · have := List.eq_of_mem_replicate hz
          omega
        · rcases List.mem_cons.1 hz with rfl | hz
          · omega
          · rcases List.mem_cons.1 hz with rfl | hz
            · omega
            · exact ht0 z hz
      · rw [e, nats_app, nats_app, nats_zeros, nats_cons, nats_cons, nats_cons, nats_cons, show (y + 1).toNat = y.toNat + 1 by omega]
        exact bnN_turn i x.toNat y.toNat (nats t) C (by omega) (by omega)
end Go.Proofs.YtnlclmlnpkncoaaGreat
namespace Go.Proofs.YtnlclmlnpkncoaaGreat
set_option maxRecDepth 8000
set_option linter.unusedVariables false
set_option linter.unusedSimpArgs false
def LexLt : List Nat → List Nat → Prop
  | x :: xs, y :: ys => x < y ∨ (x = y ∧ LexLt xs ys)
  | _, _ => False
theorem lex_pre {a b : Nat} (h : a < b) (A A' : List Nat) : ∀ B : List Nat, LexLt (B ++ a :: A) (B ++ b :: A')
  | [] => .inl h
  | x :: B => .inr ⟨rfl, lex_pre h A A' B⟩
theorem lex_num : ∀ (xs ys : List Nat) (l : Nat), xs.length = ys.length → xs.sum ≤ l → ys.sum ≤ l → LexLt xs ys → numL xs l < numL ys l
  | [], _, _, _, _, _, h => by simp [LexLt] at h
  | x :: xs, [], _, h, _, _, _ => by simp at h
  | x :: xs, y :: ys, l, hl, h1, h2, h => by
    simp only [List.length_cons, List.sum_cons] at hl h1 h2
    have e : xs.length = ys.length := by omega
    rw [numL, numL, e]
    rcases h with h | ⟨rfl, h⟩
    · have a1 := blk_mono ys.length l h
      have a2 := numL_lt xs (l - x) (by omega)
      rw [e] at a2
      omega
    · have := lex_num xs ys (l - x) e (by omega) (by omega) h
      omega
theorem split_at {α : Type} {l : List α} {i : Nat} {x : α} (h : l[i]? = some x) : l = l.take i ++ x :: l.drop (i + 1) := by
  obtain ⟨hi, rfl⟩ := List.getElem?_eq_some_iff.1 h
  rw [← List.drop_eq_getElem_cons hi, List.take_append_drop]
theorem nats_len (l : List Int) : (nats l).length = l.length := by simp [nats]
theorem numb_step {p : List Int} {i : Nat} {d : Int} {C : Nat} (h : NN p) (hi : i < p.length) (h0 : 0 < p.getD i 0) (hd : 1 ≤ d) (hs : (nats p).sum ≤ C) (hz : (nats (asL p i d)).sum ≤ C) : bnN (nats (asL p i d)) C < bnN (nats p) C := by
  have hl := asL_len p i d
  have hzi : (asL p i d)[i]? = some (p.getD i 0 - 1) := by
    have hq : (p.set i (p.getD i 0 - 1))[i]? = some (p.getD i 0 - 1) := by rw [List.getElem?_set_self hi]
    unfold asL
    split
    · rw [List.getElem?_set_ne (by omega)]
      exact hq
    · exact hq
  have hdr : (asL p i d).drop (i + 1) = p.drop (i + 1) := by
    apply List.ext_getElem?
    intro j
    rw [List.getElem?_drop, List.getElem?_drop]
    unfold asL
    split
    · rw [List.getElem?_set_ne (by omega), List.getElem?_set_ne (by omega)]
    · rw [List.getElem?_set_ne (by omega)]
  have hpi : p[i]? = some (p.getD i 0) := by
    rw [List.getD_eq_getElem?_getD, List.getElem?_eq_getElem hi]
    rfl
  unfold bnN
  refine lex_num _ _ _ (by simp [nats_len, hl]) (by rw [List.sum_reverse]; exact hz) (by rw [List.sum_reverse]; exact hs) ?_
  have e1 : (nats (asL p i d)).reverse = (nats (p.drop (i + 1))).reverse ++ (p.getD i 0 - 1).toNat :: (nats ((asL p i d).take i)).reverse := by
    conv => lhs; rw [split_at hzi, nats_app, nats_cons, hdr]
    simp
  have e2 : (nats p).reverse = (nats (p.drop (i + 1))).reverse ++ (p.getD i 0).toNat :: (nats (p.take i)).reverse := by
    conv => lhs; rw [split_at hpi, nats_app, nats_cons]
    simp
  rw [e1, e2]
  exact lex_pre (by omega) _ _ _
theorem nats_le {p : List Int} {c : Int} (h : NN p) (hs : p.sum ≤ c) : (nats p).sum ≤ c.toNat := by
  have := nats_sum p h
  omega
theorem num_die {p z : List Int} {d c : Int} (h : NN p) (hd : 1 ≤ d) (hs : p.sum ≤ c) (hz : z ∈ adL p d) : bnN (nats z) c.toNat ≤ bnN (nats p) c.toNat := by
  have hf := adL_facts h hd hz
  have hp := adL_pips h hd hz
  by_cases e : p.sum = 0
  · rw [adL_zero h e] at hz
    simp at hz
    subst hz
    exact Nat.le_refl _
  · obtain ⟨i, hi, h0, hok, rfl⟩ := (steps_mem h).1 ((adL_mem h e z).1 hz)
    exact Nat.le_of_lt (numb_step h hi h0 hd (nats_le h hs) (nats_le hf.1 (by omega)))
theorem num_dice {c : Int} : ∀ {ds : List Int} {p z : List Int}, NN p → (∀ d ∈ ds, 1 ≤ d) → p.sum ≤ c → RM ds p z → bnN (nats z) c.toNat ≤ bnN (nats p) c.toNat
  | [], p, z, _, _, _, e => by rw [RM] at e; subst e; exact Nat.le_refl _
  | d :: ds, p, z, h, hd, hs, ⟨q, h1, h2⟩ => by
    have a := num_die h (hd d (by simp)) hs h1
    have b := adL_pips h (hd d (by simp)) h1
    have hq : q.sum ≤ c := by have := b.2.2.1; omega
    have e := num_dice (p := q) (z := z) (adL_facts h (hd d (by simp)) h1).1 (fun x hx => hd x (by simp [hx])) hq h2
    omega
def nm (c : Int) (xs : List Int) : Nat := bnN (nats xs) c.toNat
def Ps (p c h s : Int) (xs : List Int) : Prop := okP p c h s xs = true
theorem Ps.po {p c h s : Int} {xs : List Int} (g : Ps p c h s xs) : PO h.toNat xs ∧ 1 ≤ h.toNat ∧ h.toNat ≤ 24 ∧ xs.length = h.toNat ∧ xs.sum ≤ c ∧ 1 ≤ c ∧ c ≤ 15 ∧ (h.toNat : Int) = h := by
  have q := okP_PO g
  have r := okP_parts g
  have e : xs.length = h.toNat := by omega
  rw [e] at q
  exact ⟨q.1, q.2.1, q.2.2, e, r.2.2.2.1, by omega, by omega, by omega⟩
theorem Ps.res {p c h s : Int} {xs : List Int} (g : Ps p c h s xs) {r : Rl} (r1 : 1 ≤ r.2) (r2 : r.2 ≤ r.1) (r3 : r.1 ≤ 6) : ∀ z ∈ resI xs (ordersP r.1 r.2), Ps p c h s z ∧ nm c z ≤ nm c xs ∧ pwT z ≤ pwT xs ∧ (xs.sum ≠ 0 → pwT z < pwT xs) := fun z hz => by
  obtain ⟨a1, a2, a3, a4, a5, a6, a7, a8⟩ := g.po
  obtain ⟨o1, o2, o3⟩ := orders_in r1 r2 r3
  have hp := resI_pips a1 r1 r2 r3 z hz
  have hz1 := resI_PO a2 a3 a1 r1 r2 r3 z hz
  obtain ⟨o, ho, hm⟩ := ((resI_facts (p := xs) (os := ordersP r.1 r.2) a1.1 (fun o ho d hd => ((o3 o ho).2.2 d hd).1)).2.1 z).1 hz
  refine ⟨okP_iff.2 ⟨(okP_iff.1 g).1, by have := hz1.2.1; omega, fun x hx => ⟨hz1.1 x hx, ?_⟩, by omega⟩, num_dice a1.1 (fun d hd => ((o3 o ho).2.2 d hd).1) a5 hm, hp.1, hp.2.2.2⟩
  obtain ⟨j, hj, rfl⟩ := List.mem_iff_getElem.1 hx
  have := sum_ge hz1.1 j
  rw [List.getD_eq_getElem?_getD, List.getElem?_eq_getElem hj] at this
  simp at this
  omega
theorem nats_inj : ∀ {xs ys : List Int}, NN xs → NN ys → nats xs = nats ys → xs = ys
  | [], [], _, _, _ => rfl
  | [], y :: ys, _, _, h => by simp [nats] at h
  | x :: xs, [], _, _, h => by simp [nats] at h
  | x :: xs, y :: ys, h1, h2, h => by
    rw [nats_cons, nats_cons] at h
    injection h with a b
    have := h1.tail.1
    have := h2.tail.1
    rw [nats_inj h1.tail.2 h2.tail.2 b, show x = y by omega]
theorem nm_inj {p c h s : Int} {xs ys : List Int} (g : Ps p c h s xs) (k : Ps p c h s ys) (e : nm c xs = nm c ys) : xs = ys := by
  obtain ⟨a1, a2, a3, a4, a5, a6, a7, a8⟩ := g.po
  obtain ⟨b1, b2, b3, b4, b5, b6, b7, b8⟩ := k.po
  have := numL_inj (nats xs).reverse (nats ys).reverse c.toNat (by simp [nats_len, a4, b4]) (by rw [List.sum_reverse]; exact nats_le a1.1 a5) (by rw [List.sum_reverse]; exact nats_le b1.1 b5) e
  exact nats_inj a1.1 b1.1 (List.reverse_inj.1 this)
theorem nm_zero {p c h s : Int} {xs : List Int} (g : Ps p c h s xs) : nm c xs = 0 ↔ xs.sum = 0 := by
  obtain ⟨a1, a2, a3, a4, a5, a6, a7, a8⟩ := g.po
  have hz : ∀ ys : List Int, NN ys → ys.sum = 0 → nm c ys = 0 := fun ys h1 h2 => by
    have : ys = List.replicate ys.length 0 := List.eq_replicate_of_mem (fun x hx => zero_all h1 h2 x hx)
    unfold nm bnN
    rw [this, nats_zeros, List.reverse_replicate]
    exact numL_zeros _ _
  refine ⟨fun e => ?_, hz xs a1.1⟩
  have hN : NN (List.replicate h.toNat (0 : Int)) := fun x hx => by rw [(List.mem_replicate.1 hx).2]; exact Int.le_refl _
  have hs : (List.replicate h.toNat (0 : Int)).sum = 0 := by
    simp
  have k : Ps p c h s (List.replicate h.toNat 0) := okP_iff.2 ⟨(okP_iff.1 g).1, by rw [List.length_replicate]; exact a8, fun x hx => by rw [(List.mem_replicate.1 hx).2]; omega, by rw [hs]; omega⟩
  rw [nm_inj g k (by rw [e, hz _ hN hs]), hs]
theorem nm_lt {p c h s : Int} {xs : List Int} (g : Ps p c h s xs) : nm c xs < cnt h.toNat c.toNat := by
  obtain ⟨a1, a2, a3, a4, a5, a6, a7, a8⟩ := g.po
  have := bnN_lt (nats xs) c.toNat (nats_le a1.1 a5)
  rw [nats_len, a4] at this
  exact this
theorem nm_at {p c h s : Int} {xs : List Int} (g : Ps p c h s xs) (f : fewB c h = true) : (unrI h.toNat (nm c xs) c.toNat).reverse = xs := by
  obtain ⟨n, N, h1, h2, h3, h4, h5, h6, h7, h8, h9⟩ := numbers_law (xs := xs) g f
  have e : n = (nm c xs : Int) := by
    rw [← h1, bnI, if_pos ⟨g, f⟩]
    rfl
  rw [e] at h8
  unfold baL at h8
  split at h8
  · rw [Int.toNat_natCast] at h8
    exact h8
  · rename_i q
    rw [baE, if_pos (okP_iff.1 g).1, if_pos f] at h7
    split at h7
    · rename_i z
      rw [e] at z
      exact absurd ⟨(okP_iff.1 g).1, f, z⟩ q
    · omega
end Go.Proofs.YtnlclmlnpkncoaaGreat
namespace Go.Proofs.YtnlclmlnpkncoaaGreat
open Go.ChangeShapes Go.WideShapes Go.ChangeAt Go.RowKit
set_option linter.unusedVariables false
set_option linter.unusedSimpArgs false
set_option maxRecDepth 4000
theorem Blk.five {w : World} {g : Nat} {v0 v1 v2 v3 v4 : Value} {t : TypeId} (h : Blk w g #[v0, v1, v2, v3, v4] t) :
    w.cell? ⟨g, 0, none⟩ = some v0 ∧ w.cell? ⟨g, 1, none⟩ = some v1 ∧ w.cell? ⟨g, 2, none⟩ = some v2 ∧ w.cell? ⟨g, 3, none⟩ = some v3 ∧ w.cell? ⟨g, 4, none⟩ = some v4 ∧ (∀ i, w.frozen? ⟨g, i, none⟩ = false) ∧ g < w.heap.size :=
  ⟨by rw [h.cell 0]; rfl, by rw [h.cell 1]; rfl, by rw [h.cell 2]; rfl, by rw [h.cell 3]; rfl, by rw [h.cell 4]; rfl, fun i => h.free i, h.lt⟩
theorem WaysAt.far5 {w : World} {g : Nat} (h : WaysAt w g) (B : Nat) (hne : g ≠ B) (u0 u1 u2 u3 u4 : Value) : WaysAt (((((w.setCell ⟨B, 0, none⟩ u0).setCell ⟨B, 1, none⟩ u1).setCell ⟨B, 2, none⟩ u2).setCell ⟨B, 3, none⟩ u3).setCell ⟨B, 4, none⟩ u4) g :=
  TabN.other (TabN.other (TabN.other (TabN.other (TabN.other h hne) hne) hne) hne) hne
set_option maxRecDepth 8000 in
set_option maxHeartbeats 1000000 in
theorem numberTable_any (p c h s : Int) (w : World) :
    Calls Tryz.prog 58 #[.agg #[.int .i64 p, .int .i64 c, .int .i64 h, .int .i64 s]] w fun e w' => ∃ gw, e = .returned (.agg #[.int .i64 p, .int .i64 c, .int .i64 h, .int .i64 s, .pointer (some ⟨gw, 0, none⟩)]) ∧ w.heap.size ≤ gw ∧ WaysAt w' gw ∧ Below w.heap.size w w' := by
  obtain ⟨BV, BZ, hb, hz⟩ := two_new w #[.int .i64 p, .int .i64 c, .int .i64 h, .int .i64 s] #[.int .i64 0, .int .i64 0, .int .i64 0, .int .i64 0, .pointer none] 25 63
  have hz0 : w.heap.size + 1 < ((w.alloc (.cells #[.int .i64 p, .int .i64 c, .int .i64 h, .int .i64 s] 25)).alloc (.cells #[.int .i64 0, .int .i64 0, .int .i64 0, .int .i64 0, .pointer none] 63)).heap.size := by rw [hz]; omega
  clear hz
  go_enter Tryz.func58, Tryz.ntmps58
  go_wp2_with fail
  generalize ((w.alloc (.cells #[.int .i64 p, .int .i64 c, .int .i64 h, .int .i64 s] 25)).alloc (.cells #[.int .i64 0, .int .i64 0, .int .i64 0, .int .i64 0, .pointer none] 63)) = w1 at *
  have hd_ : w1.drew.heap.size = w1.heap.size := rfl
  replace BV := BV.drew
  replace BZ := BZ.drew
  replace hb := hb.drew
  refine wp_region_held_drew (S := fun w' => w'.cell? ⟨w.heap.size, 0, none⟩ = some (.int .i64 p) ∧ w'.cell? ⟨w.heap.size, 1, none⟩ = some (.int .i64 c) ∧ w'.cell? ⟨w.heap.size, 2, none⟩ = some (.int .i64 h) ∧ w'.cell? ⟨w.heap.size, 3, none⟩ = some (.int .i64 s)) (by kernel_rfl) ⟨BV.four.1, BV.four.2.1, BV.four.2.2.1, BV.four.2.2.2.1⟩ (fun hHeld => ?_)
  clear hHeld
  generalize w1.drew = vd at *
  have hHeld : vd.cell? ⟨w.heap.size, 0, none⟩ = some (.int .i64 p) ∧ vd.cell? ⟨w.heap.size, 1, none⟩ = some (.int .i64 c) ∧ vd.cell? ⟨w.heap.size, 2, none⟩ = some (.int .i64 h) ∧ vd.cell? ⟨w.heap.size, 3, none⟩ = some (.int .i64 s) := ⟨BV.four.1, BV.four.2.1, BV.four.2.2.1, BV.four.2.2.2.1⟩
  refine tk 0 3 ?_
  refine rdk 1 4 fun K hK => ?_
  go_simp
  refine (countWays_any _).mono ?_
  rintro e w2 ⟨gw, rfl, hg, hW, hb2⟩
  have hz2 := hb2.size
  replace BV := BV.below hb2
  replace BZ := BZ.below hb2
  replace hb := chain hb hb2
  clear hb2
  (try go_wp2_with fail)
  refine hko hK (Blk.l4 BV) fun hHeld => ?_
  clear hK K
  refine tk 2 5 ?_
  refine rdn 3 fun K hK => ?_
  have z0 := BZ.five.1
  have z1 := BZ.five.2.1
  have z2 := BZ.five.2.2.1
  have z3 := BZ.five.2.2.2.1
  have z4 := BZ.five.2.2.2.2.1
  have zf := BZ.five.2.2.2.2.2.1
  have zl := BZ.five.2.2.2.2.2.2
  go_simp
  (try go_wp2_with fail)
  refine hko hK (Blk.l4 (((((BV.other (by omega)).other (by omega)).other (by omega)).other (by omega)).other (by omega))) fun hHeld => ?_
  clear hK K
  refine wpAnyH_done (by kernel_rfl) ?_ _
  clear hHeld
  go_wp2_with fail
  have BZn := (((((BZ.set (i := 0) (.int .i64 p)).set (i := 1) (.int .i64 c)).set (i := 2) (.int .i64 h)).set (i := 3) (.int .i64 s)).set (i := 4) (.pointer (some ⟨gw, 0, none⟩)))
  simp only [List.setIfInBounds_toArray, List.set_cons_zero, List.set_cons_succ] at BZn
  obtain ⟨t0, t1, t2, t3, t4, tf, tl⟩ := BZn.five
  have hWn : WaysAt _ gw := WaysAt.far5 hW (w.heap.size + 1) (by omega) (.int .i64 p) (.int .i64 c) (.int .i64 h) (.int .i64 s) (.pointer (some ⟨gw, 0, none⟩))
  have hbn := (((((hb.setCell (p := ⟨(w.heap.size + 1), 0, none⟩) (by dsimp only; omega) (.int .i64 p)).setCell (p := ⟨(w.heap.size + 1), 1, none⟩) (by dsimp only; omega) (.int .i64 c)).setCell (p := ⟨(w.heap.size + 1), 2, none⟩) (by dsimp only; omega) (.int .i64 h)).setCell (p := ⟨(w.heap.size + 1), 3, none⟩) (by dsimp only; omega) (.int .i64 s)).setCell (p := ⟨(w.heap.size + 1), 4, none⟩) (by dsimp only; omega) (.pointer (some ⟨gw, 0, none⟩)))
  refine bodyPost_ret (v := .agg #[.int .i64 p, .int .i64 c, .int .i64 h, .int .i64 s, .pointer (some ⟨gw, 0, none⟩)]) (by simp [results, Tryz.results58, go_sem, t0, t1, t2, t3, t4]) rfl ?_
  exact ⟨gw, rfl, by omega, hWn, hbn⟩
set_option maxHeartbeats 1000000 in
theorem numOf_any (p c h s : Int) (gw : Nat) (a : Option Addr) (n cap : Nat) (xs : List Int) (w : World) (g : Ps p c h s xs) (hn : xs.length = n) (hr : IRow w a xs) (hw : WaysAt w gw) :
    Calls Tryz.prog 25 #[.agg #[.int .i64 p, .int .i64 c, .int .i64 h, .int .i64 s, .pointer (some ⟨gw, 0, none⟩)], .slice a n cap] w fun e w' => e = .returned (.int .i64 (nm c xs)) ∧ Below w.heap.size w w' := by
  have BN := Blk.new w #[.int .i64 p, .int .i64 c, .int .i64 h, .int .i64 s, .pointer (some ⟨gw, 0, none⟩)] 63
  have hb : Below w.heap.size w (w.alloc (.cells #[.int .i64 p, .int .i64 c, .int .i64 h, .int .i64 s, .pointer (some ⟨gw, 0, none⟩)] 63)) := (Below.refl _ _).alloc (Nat.le_refl _) _
  obtain ⟨a1, a2, a3, a4, a5, a6, a7, a8⟩ := g.po
  have hvs := okP_v g
  obtain ⟨s1, s2, s3⟩ := side_nats hvs.2 (by omega)
  have hK := fun W (r : IRow W a xs) (q : WaysAt W gw) => bearoffNumberM_any p h s c.toNat gw a n cap (nats xs) xs W (by omega) (by omega) (by omega) hn (by omega) s2 s3 r q
  rw [show ((c.toNat : Nat) : Int) = c by omega] at hK
  have hN : bnN (nats xs) c.toNat = nm c xs := rfl
  rw [hN] at hK
  obtain ⟨K, hKK⟩ : ∃ K, nm c xs = K := ⟨_, rfl⟩
  rw [hKK] at hK ⊢
  replace hr := hr.below hb
  replace hw := hw.below hb
  have HK := Lib.hid hK
  clear hK hN hKK s1 s2 s3 hvs a1 a2 a3 a4 a5 a6 a7 a8 g hn
  obtain ⟨x0, x1, x2, x3, x4, xf, xl⟩ := BN.five
  go_enter Tryz.func25, Tryz.ntmps25
  go_wp2_with (go_at_call 62; refine (HK.out _ hr hw).mono ?_; rintro e w1 ⟨rfl, hb1⟩)
  go_ret
  exact ⟨rfl, chain hb hb1⟩
set_option maxHeartbeats 1000000 in
theorem posAt_any (p c h s : Int) (gw : Nat) (xs : List Int) (K : Nat) (w : World) (g : Ps p c h s xs) (f : fewB c h = true) (hK : nm c xs = K) (hw : WaysAt w gw) :
    Calls Tryz.prog 44 #[.agg #[.int .i64 p, .int .i64 c, .int .i64 h, .int .i64 s, .pointer (some ⟨gw, 0, none⟩)], .int .i64 K] w fun e w' => ∃ gL, e = .returned (.slice (some ⟨gL, 0, none⟩) xs.length xs.length) ∧ w.heap.size ≤ gL ∧ Row w' gL xs ∧ Below w.heap.size w w' := by
  have BN := Blk.new w #[.int .i64 p, .int .i64 c, .int .i64 h, .int .i64 s, .pointer (some ⟨gw, 0, none⟩)] 63
  have hb : Below w.heap.size w (w.alloc (.cells #[.int .i64 p, .int .i64 c, .int .i64 h, .int .i64 s, .pointer (some ⟨gw, 0, none⟩)] 63)) := (Below.refl _ _).alloc (Nat.le_refl _) _
  obtain ⟨a1, a2, a3, a4, a5, a6, a7, a8⟩ := g.po
  have hA := fun W (q : WaysAt W gw) => bearoffAtM_any p s c.toNat h.toNat K gw W (by omega) (by omega) (by omega) (by rw [← hK]; exact nm_lt g) q
  rw [show ((c.toNat : Nat) : Int) = c by omega, show ((h.toNat : Nat) : Int) = h by omega, ← hK, nm_at g f, ← a4] at hA
  rw [hK] at hA
  replace hw := hw.below hb
  have HA := Lib.hid hA
  have hz := hb.size
  clear hA a1 a2 a3 a4 a5 a6 a7 a8 g f hK
  obtain ⟨x0, x1, x2, x3, x4, xf, xl⟩ := BN.five
  go_enter Tryz.func44, Tryz.ntmps44
  go_wp2_with (go_at_call 80; refine (HA.out _ hw).mono ?_; rintro e w1 ⟨gL, rfl, hg, hR, hb1⟩)
  go_ret
  exact ⟨gL, rfl, by omega, hR, chain hb hb1⟩
end Go.Proofs.YtnlclmlnpkncoaaGreat
