/- Texts of a proof, laid together. -/
import Derived.Test.YtlnljfbdicgkcaaGreatV03
import Derived.Test.YtlnljfbdicgkcaaGreatV04
import Derived.Test.YtlnljfbdicgkcaaGreatV01
import Derived.Test.YtlnljfbdicgkcaaGreatV02
import Derived.IntWalk
import Derived.BigGuard
import Derived.BigGuardPart
namespace Go.Proofs.YtlnljfbdicgkcaaGreat
open Go.ChangeShapes Go.WideShapes Go.ChangeAt Go.RowKit
set_option linter.unusedVariables false
set_option linter.unusedSimpArgs false
set_option maxRecDepth 4000
theorem WaysAt.grown {w w' : World} {g g' : Nat} (h : WaysAt w g) (hg : w.grownBy w' (some g')) (hne : g ≠ g') : WaysAt w' g := by
  obtain ⟨cur, hB, h1, h2⟩ := h
  exact ⟨cur, hB.grown hg hne, h1, h2⟩
theorem nats_reverse (ns : List Nat) (xs : List Int) (hl : ns.length = xs.length) (hx : ∀ k, k < xs.length → xs.getD k 0 = (ns.getD k 0 : Int)) : ∀ k, k < xs.reverse.length → xs.reverse.getD k 0 = (ns.reverse.getD k 0 : Int) := by
  intro k hk
  rw [List.length_reverse] at hk
  have h := hx (xs.length - 1 - k) (by omega)
  simp only [List.getD_eq_getElem?_getD] at h ⊢
  rw [List.getElem?_reverse hk, List.getElem?_reverse (by omega), hl]
  exact h
set_option maxHeartbeats 1000000 in
theorem bearoffNumberM_any (p h s : Int) (C g : Nat) (a : Option Addr) (n cap : Nat) (ns : List Nat) (xs : List Int) (w : World) (n1 : 1 ≤ n) (hn : n ≤ 24) (c1 : C ≤ 15) (hl : xs.length = n) (hln : ns.length = n) (hs : ns.sum ≤ C)
    (hx : ∀ k, k < xs.length → xs.getD k 0 = (ns.getD k 0 : Int)) (hr : IRow w a xs) (hw : WaysAt w g) :
    Calls Tryz.prog 101 #[.pointer (some ⟨g, 0, none⟩), .agg #[.int .i64 p, .int .i64 (C : Int), .int .i64 h, .int .i64 s], .slice a n cap] w fun e w' => e = .returned (.int .i64 (bnN ns C)) ∧ Below w.heap.size w w' := by
  obtain ⟨b, o, rfl, _⟩ := hr 0 (by omega)
  have BV := Blk.new w #[.int .i64 p, .int .i64 (C : Int), .int .i64 h, .int .i64 s] 25
  have hb : Below w.heap.size w (w.alloc (.cells #[.int .i64 p, .int .i64 (C : Int), .int .i64 h, .int .i64 s] 25)) := (Below.refl _ _).alloc (Nat.le_refl _) _
  have hgl := hw.lt
  have hbl := BV.lt
  have hC := fun W (r : IRow W (some ⟨b, o, none⟩) xs) => clone_any b o n cap xs W hl n1 (by omega) r
  have hR := fun W gg k (r : Row W gg xs) => reverse_any gg xs.length k xs W rfl (by omega) r
  have hN := fun W gg k (r : Row W gg xs.reverse) (q : WaysAt W g) => numberOf_any g C (some ⟨gg, 0, none⟩) xs.length k ns.reverse xs.reverse W (by omega) c1 (by simp) (by simp; omega) (by simpa using hs) (nats_reverse ns xs (by omega) hx) r.irow q
  have HC := Lib.hid hC
  have HR := Lib.hid hR
  have HN := Lib.hid hN
  replace hr := hr.below hb
  replace hw := hw.below hb
  clear hC hR hN hl hln hx
  obtain ⟨x0, x1, x2, x3, xf, xl⟩ := BV.four
  go_enter Tryz.func101, Tryz.ntmps101
  go_wp2_with (first
    | (go_at_call 142; refine (HC.out _ hr).mono ?_; rintro e w1 ⟨g1, k1, rfl, hg1, R1, hb1⟩; clear x0 x1 x2 x3 xf xl; replace BV := BV.below hb1; replace hw := hw.below hb1; replace hb := chain hb hb1; have hgg : w.heap.size < g1 := Nat.lt_of_lt_of_le hbl hg1; clear hb1 hg1; obtain ⟨x0, x1, x2, x3, xf, xl⟩ := BV.four)
    | (go_at_call 143; refine (HR.out _ _ _ R1).mono ?_; rintro e w2 ⟨rfl, R2, hG⟩; clear x0 x1 x2 x3 xf xl R1; replace BV := BV.grown hG (by omega); replace hw := hw.grown hG (by omega); replace hb := hb.grown hG hb.size (fun k hk => by simp at hk; omega); obtain ⟨x0, x1, x2, x3, xf, xl⟩ := BV.four)
    | (go_at_call 144; refine (HN.out _ _ _ R2 hw).mono ?_; rintro e w3 ⟨rfl, hb3⟩; replace hb := chain hb hb3))
  go_ret
  exact ⟨rfl, hb⟩
set_option maxHeartbeats 1000000 in
theorem bearoffAtM_any (p s : Int) (C H K g : Nat) (w : World) (h1 : 1 ≤ H) (hH : H ≤ 24) (c1 : C ≤ 15) (hK : K < cnt H C) (hw : WaysAt w g) :
    Calls Tryz.prog 117 #[.pointer (some ⟨g, 0, none⟩), .agg #[.int .i64 p, .int .i64 (C : Int), .int .i64 (H : Int), .int .i64 s], .int .i64 K] w fun e w' => ∃ gL, e = .returned (.slice (some ⟨gL, 0, none⟩) H H) ∧ w.heap.size ≤ gL ∧ Row w' gL (unrI H K C).reverse ∧ Below w.heap.size w w' := by
  have BV := Blk.new w #[.int .i64 p, .int .i64 (C : Int), .int .i64 (H : Int), .int .i64 s] 25
  have hb : Below w.heap.size w (w.alloc (.cells #[.int .i64 p, .int .i64 (C : Int), .int .i64 (H : Int), .int .i64 s] 25)) := (Below.refl _ _).alloc (Nat.le_refl _) _
  have hbl := BV.lt
  have hlen := unrI_length H K C hK
  have hA := fun W (q : WaysAt W g) => listAt_any g K H C W h1 (by omega) c1 hK q
  have hR := fun W gg (r : Row W gg (unrI H K C)) => reverse_any gg H H _ W hlen (by omega) r
  have HA := Lib.hid hA
  have HR := Lib.hid hR
  replace hw := hw.below hb
  clear hA hR hlen hK
  obtain ⟨x0, x1, x2, x3, xf, xl⟩ := BV.four
  go_enter Tryz.func117, Tryz.ntmps117
  go_wp2_with (first
    | (go_at_call 164; refine (HA.out _ hw).mono ?_; rintro e w1 ⟨g1, rfl, hg1, R1, hb1⟩; clear x0 x1 x2 x3 xf xl; replace BV := BV.below hb1; replace hb := chain hb hb1; have hgg : w.heap.size < g1 := Nat.lt_of_lt_of_le hbl hg1; clear hb1 hg1 hw; obtain ⟨x0, x1, x2, x3, xf, xl⟩ := BV.four)
    | (go_at_call 143; refine (HR.out _ _ R1).mono ?_; rintro e w2 ⟨rfl, R2, hG⟩; clear x0 x1 x2 x3 xf xl R1; replace hb := hb.grown hG hb.size (fun k hk => by simp at hk; omega)))
  go_ret
  exact ⟨_, rfl, by omega, R2, hb⟩
def fewB (c h : Int) : Bool := decide (cnt h.toNat c.toNat ≤ 1000000)
def bnI (p c h s : Int) (xs : List Int) : Int := if okP p c h s xs = true ∧ fewB c h = true then (bnN (nats xs) c.toNat : Int) else 0
def bnE (p c h s : Int) (xs : List Int) : Int := if okP p c h s xs = true then (if fewB c h = true then 0 else 3) else bcE p c h s xs
def okK (c h k : Int) : Bool := decide (0 ≤ k ∧ k < (cnt h.toNat c.toNat : Int))
def baL (p c h s k : Int) : List Int := if vB p c h s = true ∧ fewB c h = true ∧ okK c h k = true then (unrI h.toNat k.toNat c.toNat).reverse else []
def baE (p c h s k : Int) : Int := if vB p c h s = true then (if fewB c h = true then (if okK c h k = true then 0 else 4) else 3) else 1
theorem wyI_few {c h : Int} (e : fewB c h = true) : wyI h.toNat c.toNat = (cnt h.toNat c.toNat : Int) := by
  simp only [fewB, decide_eq_true_eq] at e
  rw [wyI, if_pos e]
theorem okP_v {p c h s : Int} {xs : List Int} (g : okP p c h s xs = true) : vB p c h s = true ∧ sideB (h - 1) c xs = true := by simpa [okP] using g
def fpos : List Int → Nat
  | [] => 0
  | x :: l => if 0 < x then 0 else fpos l + 1
theorem fpos_le : ∀ l : List Int, fpos l ≤ l.length
  | [] => Nat.le_refl _
  | x :: l => by
    have := fpos_le l
    rw [fpos, List.length_cons]
    split <;> omega
theorem fpos_none : ∀ (l : List Int) (j : Nat), j < fpos l → l.getD j 0 ≤ 0
  | [], j, h => by simp [fpos] at h
  | x :: l, j, h => by
    rw [fpos] at h
    split at h
    · omega
    · cases j with
      | zero => simp; omega
      | succ j => simpa using fpos_none l j (by omega)
theorem sum_none : ∀ (l : List Int), (∀ x ∈ l, x ≤ 0) → l.sum ≤ 0
  | [], _ => by simp
  | x :: l, h => by
    have h1 := h x (by simp)
    have h2 := sum_none l (fun y hy => h y (by simp [hy]))
    rw [List.sum_cons]
    omega
theorem fpos_sum (l : List Int) (h : 1 ≤ l.sum) : fpos l < l.length := by
  rcases Nat.lt_or_ge (fpos l) l.length with q | q
  · exact q
  · have hq : fpos l = l.length := by have := fpos_le l; omega
    have := sum_none l (fun x hx => by
      obtain ⟨j, hj, rfl⟩ := List.mem_iff_getElem.1 hx
      have := fpos_none l j (by omega)
      simpa [hj] using this)
    omega
def nxR (c : Int) (xs : List Int) : List Int := if xs.sum < c then xs.set 0 (xs.getD 0 0 + 1) else (xs.set (fpos xs) 0).set (fpos xs + 1) (xs.getD (fpos xs + 1) 0 + 1)
def nxB (c : Int) (xs : List Int) : Bool := decide (xs.sum < c) || decide (fpos xs + 1 < xs.length)
def nxL (p c h s : Int) (xs : List Int) : List Int := if okP p c h s xs = true ∧ nxB c xs = true then nxR c xs else []
def nxE (p c h s : Int) (xs : List Int) : Int := if okP p c h s xs = true then (if nxB c xs = true then 0 else 4) else bcE p c h s xs
theorem okP_iff {p c h s : Int} {xs : List Int} : okP p c h s xs = true ↔ vB p c h s = true ∧ (xs.length : Int) = h ∧ (∀ x ∈ xs, 0 ≤ x ∧ x ≤ c) ∧ xs.sum ≤ c := by
  simp only [okP, Bool.and_eq_true, sideB_iff]
  constructor
  · rintro ⟨a, b, d, e⟩
    exact ⟨a, by omega, d, e⟩
  · rintro ⟨a, b, d, e⟩
    exact ⟨a, by omega, d, e⟩
theorem cast_nats : ∀ (xs : List Int), (∀ x ∈ xs, 0 ≤ x) → (nats xs).map (fun (x : Nat) => (x : Int)) = xs
  | [], _ => rfl
  | x :: r, h => by
    have h1 := h x (by simp)
    have ih := cast_nats r (fun y hy => h y (by simp [hy]))
    show ((x.toNat : Nat) : Int) :: (nats r).map _ = x :: r
    rw [ih, show ((x.toNat : Nat) : Int) = x by omega]
theorem sum_nn : ∀ (l : List Int), (∀ x ∈ l, 0 ≤ x) → 0 ≤ l.sum
  | [], _ => by simp
  | x :: r, h => by
    have h1 := h x (by simp)
    have ih := sum_nn r (fun y hy => h y (by simp [hy]))
    rw [List.sum_cons]
    omega
theorem sum_mem : ∀ (l : List Int), (∀ x ∈ l, 0 ≤ x) → ∀ x ∈ l, x ≤ l.sum
  | [], _, x, hx => by simp at hx
  | y :: r, h, x, hx => by
    have h1 := h y (by simp)
    have h2 := sum_nn r (fun z hz => h z (by simp [hz]))
    rw [List.sum_cons]
    rcases List.mem_cons.1 hx with rfl | hx
    · omega
    · have := sum_mem r (fun z hz => h z (by simp [hz])) x hx
      omega
theorem fpos_split : ∀ (l : List Int), (∀ x ∈ l, 0 ≤ x) → fpos l < l.length → ∃ x r, l = List.replicate (fpos l) 0 ++ x :: r ∧ 0 < x
  | [], _, h => by simp at h
  | y :: l, hl, h => by
    have hy := hl y (by simp)
    rw [fpos] at h ⊢
    by_cases q : 0 < y
    · rw [if_pos q]
      exact ⟨y, l, rfl, q⟩
    · rw [if_neg q] at h ⊢
      obtain ⟨x, r, e, hx⟩ := fpos_split l (fun z hz => hl z (by simp [hz])) (by simpa using h)
      refine ⟨x, r, ?_, hx⟩
      rw [List.replicate_succ, List.cons_append, ← e, show y = 0 by omega]
theorem sum_zeros (i : Nat) (l : List Int) : (List.replicate i 0 ++ l).sum = l.sum := by simp
theorem nats_app (a b : List Int) : nats (a ++ b) = nats a ++ nats b := by simp [nats]
theorem nats_zeros (i : Nat) : nats (List.replicate i 0) = List.replicate i 0 := by simp [nats]
theorem nats_cons (x : Int) (l : List Int) : nats (x :: l) = x.toNat :: nats l := rfl
theorem numbers_law {p c h s : Int} {xs : List Int} (g : okP p c h s xs = true) (f : fewB c h = true) : ∃ n N : Int, bnI p c h s xs = n ∧ bcI p c h s = N ∧ 0 ≤ n ∧ n < N ∧ N ≤ 1000000 ∧ bnE p c h s xs = 0 ∧
    baE p c h s n = 0 ∧ baL p c h s n = xs ∧ ((nxE p c h s xs = 4 ∧ n = N - 1) ∨ (nxE p c h s xs = 0 ∧ bnE p c h s (nxL p c h s xs) = 0 ∧ bnI p c h s (nxL p c h s xs) = n + 1)) := by
  obtain ⟨hv, hl, hx, hs⟩ := okP_iff.1 g
  have hvv := vB_iff.1 hv
  obtain ⟨C, hC⟩ := Int.eq_ofNat_of_zero_le (show 0 ≤ c by omega)
  have hCt : c.toNat = C := by omega
  have hht : h.toNat = xs.length := by omega
  have hx0 : ∀ x ∈ xs, 0 ≤ x := fun x hm => (hx x hm).1
  have hns := nats_sum xs hx0
  have hnl := nats_length xs
  have hlt := bnN_lt (nats xs) C (by omega)
  rw [hnl] at hlt
  have hf : cnt xs.length C ≤ 1000000 := by
    have := f
    simp only [fewB, decide_eq_true_eq] at this
    rwa [hht, hCt] at this
  have e1 : bnI p c h s xs = (bnN (nats xs) C : Int) := by rw [bnI, if_pos ⟨g, f⟩, hCt]
  have e2 : bcI p c h s = (cnt xs.length C : Int) := by rw [bcI, if_pos hv, wyI_few f, hht, hCt]
  have hk : okK c h (bnN (nats xs) C : Int) = true := by
    unfold okK
    rw [hht, hCt, decide_eq_true_eq]
    omega
  have e3 : bnE p c h s xs = 0 := by rw [bnE, if_pos g, if_pos f]
  have e4 : baE p c h s (bnN (nats xs) C : Int) = 0 := by rw [baE, if_pos hv, if_pos f, if_pos hk]
  have e5 : baL p c h s (bnN (nats xs) C : Int) = xs := by
    rw [baL, if_pos ⟨hv, f, hk⟩, hht, hCt, Int.toNat_natCast]
    have hu := unr_numL (nats xs).reverse C (by simpa using (show (nats xs).sum ≤ C by omega))
    rw [List.length_reverse, hnl] at hu
    unfold unrI bnN
    rw [hu, ← List.map_reverse, List.reverse_reverse, cast_nats xs hx0]
  refine ⟨_, _, e1, e2, by omega, by omega, by omega, e3, e4, e5, ?_⟩
  have key : ∀ ys : List Int, nxR c xs = ys → nxB c xs = true → ys.length = xs.length → (∀ y ∈ ys, 0 ≤ y) → ys.sum ≤ c → bnN (nats ys) C = bnN (nats xs) C + 1 →
      nxE p c h s xs = 0 ∧ bnE p c h s (nxL p c h s xs) = 0 ∧ bnI p c h s (nxL p c h s xs) = (bnN (nats xs) C : Int) + 1 := by
    intro ys h1 h2 h3 h4 h5 h6
    have hok : okP p c h s ys = true := okP_iff.2 ⟨hv, by omega, fun y hy => ⟨h4 y hy, by have := sum_mem ys h4 y hy; omega⟩, h5⟩
    have hL : nxL p c h s xs = ys := by rw [nxL, if_pos ⟨g, h2⟩, h1]
    refine ⟨by rw [nxE, if_pos g, if_pos h2], ?_, ?_⟩
    · rw [hL, bnE, if_pos hok, if_pos f]
    · rw [hL, bnI, if_pos ⟨hok, f⟩, hCt, h6]
      omega
  by_cases hsum : xs.sum < c
  · right
    cases xs with
    | nil => simp at hl; omega
    | cons x r =>
      have hx1 := hx0 x (by simp)
      have hsr := sum_nn r (fun y hy => hx0 y (by simp [hy]))
      rw [List.sum_cons] at hsum
      refine key ((x + 1) :: r) (by rw [nxR, if_pos (by rw [List.sum_cons]; exact hsum)]; simp) (by simp [nxB, hsum]) (by simp) ?_ (by rw [List.sum_cons]; omega) ?_
      · intro y hy
        rcases List.mem_cons.1 hy with rfl | hy
        · omega
        · exact hx0 y (by simp [hy])
      · rw [nats_cons, nats_cons, show (x + 1).toNat = x.toNat + 1 by omega]
        exact bnN_more _ _ _
  · have hfp := fpos_sum xs (by omega)
    obtain ⟨x, r, e, hxp⟩ := fpos_split xs hx0 hfp
    obtain ⟨i, hi⟩ : ∃ i, fpos xs = i := ⟨_, rfl⟩
    rw [hi] at e
    have hsx : x + r.sum = c := by
      have : xs.sum = x + r.sum := by rw [e, sum_zeros, List.sum_cons]
      omega
    have hr0 : ∀ y ∈ r, 0 ≤ y := fun y hy => hx0 y (by rw [e]; simp [hy])
    have hrs := sum_nn r hr0
    cases r with
    | nil =>
      left
      have hlen : xs.length = i + 1 := by rw [e]; simp
      have hb : nxB c xs = false := by simp [nxB, hsum, hi]; omega
      refine ⟨by rw [nxE, if_pos g, if_neg (by simp [hb])], ?_⟩
      have hq : bnN (nats xs) C + 1 = cnt xs.length C := by
        have hxc : x.toNat = C := by simp at hsx; omega
        rw [hlen, e, nats_app, nats_zeros, nats_cons, hxc]
        exact bnN_last i C
      omega
    | cons y t =>
      right
      have hy0 := hr0 y (by simp)
      have ht0 : ∀ z ∈ t, 0 ≤ z := fun z hz => hr0 z (by simp [hz])
      have hts := sum_nn t ht0
      have htn := nats_sum t ht0
      rw [List.sum_cons] at hsx hrs
      have hlen : xs.length = i + (t.length + 2) := by rw [e]; simp
      have hgy : xs.getD (i + 1) 0 = y := by
        rw [e, List.getD_eq_getElem?_getD, List.getElem?_append_right (by simp)]
        simp
      refine key (List.replicate i 0 ++ 0 :: (y + 1) :: t) ?_ (by simp [nxB, hi]; omega) (by rw [hlen]; simp) ?_ (by rw [sum_zeros, List.sum_cons, List.sum_cons]; omega) ?_
      · rw [nxR, if_neg hsum, hi, hgy, e, List.set_append_right _ _ (by simp), List.set_append_right _ _ (by simp)]
        simp
      · intro z hz
        rcases List.mem_append.1 hz with hz | hz
        · have := List.eq_of_mem_replicate hz
          omega
        · rcases List.mem_cons.1 hz with rfl | hz
          · omega
          · rcases List.mem_cons.1 hz with rfl | hz
            · omega
            · exact ht0 z hz
      · rw [e, nats_app, nats_app, nats_zeros, nats_cons, nats_cons, nats_cons, nats_cons, show (y + 1).toNat = y.toNat + 1 by omega]
        exact bnN_turn i x.toNat y.toNat (nats t) C (by omega) (by omega)
end Go.Proofs.YtlnljfbdicgkcaaGreat
namespace Go.Proofs.YtlnljfbdicgkcaaGreat
set_option maxRecDepth 20000
set_option linter.unusedVariables false
set_option linter.unusedSimpArgs false
/-! Division of two words by one. -/
theorem kd_init (u a b c : Nat) (ha : 0 < a) (hc : c < 4294967296) : (u * 4294967296 + c) / (a * 4294967296 + b) ≤ u / a := by
  rw [Nat.le_div_iff_mul_le ha]
  have h1 : (u * 4294967296 + c) / (a * 4294967296 + b) * (a * 4294967296 + b) ≤ u * 4294967296 + c := Nat.div_mul_le_self _ _
  generalize (u * 4294967296 + c) / (a * 4294967296 + b) = t at *
  rw [Nat.mul_add, ← Nat.mul_assoc] at h1
  omega
theorem kd_le (q a b c r u : Nat) (he : q * a + r = u) (h : q * b ≤ 4294967296 * r + c) : q * (a * 4294967296 + b) ≤ u * 4294967296 + c := by
  subst he
  rw [Nat.mul_add, ← Nat.mul_assoc, Nat.add_mul]
  omega
theorem kd_lt (q a b c r u : Nat) (he : q * a + r = u) (h : 4294967296 * r + c < q * b) : u * 4294967296 + c < q * (a * 4294967296 + b) := by
  subst he
  rw [Nat.mul_add, ← Nat.mul_assoc, Nat.add_mul]
  omega
theorem kd_exit (q a b c r u : Nat) (ha : 0 < a) (he : q * a + r = u) (hq : (u * 4294967296 + c) / (a * 4294967296 + b) ≤ q) (h : q * b ≤ 4294967296 * r + c) :
    (u * 4294967296 + c) / (a * 4294967296 + b) = q := by
  refine Nat.le_antisymm hq ?_
  rw [Nat.le_div_iff_mul_le (by omega)]
  exact kd_le q a b c r u he h
theorem kd_dec (q a b c r u : Nat) (ha : 0 < a) (he : q * a + r = u) (hq : (u * 4294967296 + c) / (a * 4294967296 + b) ≤ q) (h : 4294967296 * r + c < q * b) :
    (u * 4294967296 + c) / (a * 4294967296 + b) < q := by
  rw [Nat.div_lt_iff_lt_mul (by omega)]
  exact kd_lt q a b c r u he h
theorem kd_small (a b c u : Nat) (hc : c < 4294967296) (hu : u < a * 4294967296 + b) : (u * 4294967296 + c) / (a * 4294967296 + b) < 4294967296 := by
  rw [Nat.div_lt_iff_lt_mul (by omega)]
  omega
theorem kd_word (q a b r u : Nat) (hb : b < 4294967296) (he : q * a + r = u) (hu : u < a * 4294967296 + b) (hr : 4294967296 ≤ r) : q < 4294967296 := by
  rcases Nat.lt_or_ge q 4294967296 with h | h
  · exact h
  · have := Nat.mul_le_mul_right a h
    omega
theorem kd_break (q a b c r u : Nat) (ha : 0 < a) (hb : b < 4294967296) (he : q * a + r = u) (hq : (u * 4294967296 + c) / (a * 4294967296 + b) ≤ q) (hu : u < a * 4294967296 + b) (hr : 4294967296 ≤ r) :
    (u * 4294967296 + c) / (a * 4294967296 + b) = q := by
  refine kd_exit q a b c r u ha he hq ?_
  have h1 := kd_word q a b r u hb he hu hr
  have h2 : q * b ≤ 4294967295 * 4294967295 := Nat.mul_le_mul (by omega) (by omega)
  omega
theorem kd_rest (U V : Nat) : U - U / V * V = U % V := by
  have := Nat.mod_add_div U V
  rw [Nat.mul_comm] at this
  omega
theorem kd_two (A c V : Nat) (hV : 0 < V) : A / V * 4294967296 + (A % V * 4294967296 + c) / V = (A * 4294967296 + c) / V ∧ (A % V * 4294967296 + c) % V = (A * 4294967296 + c) % V := by
  have h : A * 4294967296 + c = A % V * 4294967296 + c + V * (A / V * 4294967296) := by
    have := Nat.mod_add_div A V
    have h2 : V * (A / V * 4294967296) = V * (A / V) * 4294967296 := by rw [Nat.mul_assoc]
    rw [h2]
    omega
  rw [h]
  refine ⟨?_, ?_⟩
  · rw [Nat.add_mul_div_left _ _ hV, Nat.add_comm]
  · rw [Nat.add_mul_mod_self_left]
theorem kd_all (N y s : Nat) (hs : 0 < s) : N * s / (y * s) = N / y ∧ N * s % (y * s) / s = N % y := by
  refine ⟨Nat.mul_div_mul_right _ _ hs, ?_⟩
  rw [Nat.mul_mod_mul_right, Nat.mul_div_cancel _ hs]
/-! Reduction of a number. -/
def rdN (B : Nat) : Nat → Nat → Nat × Nat
  | m, 0 => (m, 0)
  | m, D + 1 => if m % B = 0 then rdN B (m / B) D else (m, D + 1)
theorem rdN_stop {B m D : Nat} (h : m % B ≠ 0) : rdN B m D = (m, D) := by
  cases D with
  | zero => rfl
  | succ D => rw [rdN, if_neg h]
theorem rdN_go {B m D : Nat} (h : m % B = 0) : rdN B m (D + 1) = rdN B (m / B) D := by
  rw [rdN, if_pos h]
theorem rdN_le (B : Nat) : ∀ D m : Nat, (rdN B m D).2 ≤ D ∧ (rdN B m D).1 ≤ m
  | 0, m => ⟨Nat.le_refl _, Nat.le_refl _⟩
  | D + 1, m => by
    by_cases h : m % B = 0
    · rw [rdN_go h]
      have := rdN_le B D (m / B)
      have h2 := Nat.div_le_self m B
      omega
    · rw [rdN_stop h]
      exact ⟨Nat.le_refl _, Nat.le_refl _⟩
theorem rdN_spec (B : Nat) : ∀ D m : Nat, m = (rdN B m D).1 * B ^ (D - (rdN B m D).2) ∧ ((rdN B m D).2 = 0 ∨ (rdN B m D).1 % B ≠ 0)
  | 0, m => ⟨by simp [rdN], .inl rfl⟩
  | D + 1, m => by
    by_cases h : m % B = 0
    · rw [rdN_go h]
      have hl := (rdN_le B D (m / B)).1
      obtain ⟨h1, h2⟩ := rdN_spec B D (m / B)
      refine ⟨?_, h2⟩
      rw [show D + 1 - (rdN B (m / B) D).2 = D - (rdN B (m / B) D).2 + 1 by omega, Nat.pow_succ, ← Nat.mul_assoc, ← h1]
      exact (Nat.div_mul_cancel (Nat.dvd_of_mod_eq_zero h)).symm
    · rw [rdN_stop h]
      exact ⟨by simp, .inr h⟩
theorem rdN_uniq {B : Nat} (hB : 0 < B) : ∀ {D m q k : Nat}, k ≤ D → m = q * B ^ (D - k) → (k = 0 ∨ q % B ≠ 0) → rdN B m D = (q, k)
  | 0, m, q, k, h1, h2, h3 => by
    obtain rfl : k = 0 := by omega
    rw [rdN, h2]
    simp
  | D + 1, m, q, k, h1, h2, h3 => by
    by_cases hk : k = D + 1
    · subst hk
      rw [Nat.sub_self, Nat.pow_zero, Nat.mul_one] at h2
      subst h2
      exact rdN_stop (by omega)
    · have e : D + 1 - k = D - k + 1 := by omega
      rw [e, Nat.pow_succ, ← Nat.mul_assoc] at h2
      have hd : m % B = 0 := by rw [h2]; exact Nat.mul_mod_left _ _
      rw [rdN_go hd]
      refine rdN_uniq hB (by omega) ?_ h3
      rw [h2, Nat.mul_div_cancel _ hB]
theorem fit_iff {B a b N D k : Nat} (hB : 0 < B) (hb : 0 < b) (hco : Nat.Coprime a b) (h : a * B ^ D = N * b) (hk : k ≤ D) : B ^ k % b = 0 ↔ N % B ^ (D - k) = 0 := by
  have e : B ^ D = B ^ k * B ^ (D - k) := by rw [← Nat.pow_add]; congr 1; omega
  have hp : 0 < B ^ (D - k) := Nat.pow_pos hB
  constructor
  · intro h1
    obtain ⟨t, ht⟩ := Nat.dvd_of_mod_eq_zero h1
    have h2 : N * b = (a * t * B ^ (D - k)) * b := by
      rw [← h, e, ht]
      simp only [Nat.mul_assoc, Nat.mul_comm, Nat.mul_left_comm]
    have h3 := Nat.eq_of_mul_eq_mul_right hb h2
    rw [h3]
    exact Nat.mul_mod_left _ _
  · intro h1
    obtain ⟨q, hq⟩ := Nat.dvd_of_mod_eq_zero h1
    have h2 : (a * B ^ k) * B ^ (D - k) = (q * b) * B ^ (D - k) := by
      rw [Nat.mul_assoc, ← e, h, hq]
      simp only [Nat.mul_assoc, Nat.mul_comm, Nat.mul_left_comm]
    have h3 := Nat.eq_of_mul_eq_mul_right hp h2
    have h4 : b ∣ a * B ^ k := ⟨q, by rw [h3, Nat.mul_comm]⟩
    exact Nat.mod_eq_zero_of_dvd (hco.symm.dvd_of_dvd_mul_left h4)
theorem fit_end {B a b N D k : Nat} (hB : 0 < B) (hb : 0 < b) (hco : Nat.Coprime a b) (h : a * B ^ D = N * b) (hk : k ≤ D) (h1 : B ^ k % b = 0) (h0 : ∀ j, j < k → B ^ j % b ≠ 0) :
    rdN B N D = (a * (B ^ k / b), k) := by
  have e : B ^ D = B ^ k * B ^ (D - k) := by rw [← Nat.pow_add]; congr 1; omega
  have hN : N = a * (B ^ k / b) * B ^ (D - k) := by
    obtain ⟨t, ht⟩ := Nat.dvd_of_mod_eq_zero h1
    rw [ht, Nat.mul_div_cancel_left _ hb]
    refine Nat.eq_of_mul_eq_mul_right hb ?_
    rw [← h, e, ht]
    simp only [Nat.mul_assoc, Nat.mul_comm, Nat.mul_left_comm]
  refine rdN_uniq hB hk hN ?_
  rcases Nat.eq_zero_or_pos k with hk0 | hk0
  · exact .inl hk0
  · refine .inr fun hz => ?_
    refine h0 (k - 1) (by omega) ?_
    rw [fit_iff hB hb hco h (by omega)]
    obtain ⟨q, hq⟩ := Nat.dvd_of_mod_eq_zero hz
    rw [hN, hq, show D - (k - 1) = D - k + 1 by omega, Nat.pow_succ]
    refine Nat.mod_eq_zero_of_dvd ⟨q, ?_⟩
    simp only [Nat.mul_assoc, Nat.mul_comm, Nat.mul_left_comm]
/-! Numbers of a variant of S sides: the base is S * S. -/
def nn : Nat → Nat
  | 1 => 61
  | 2 => 25
  | 3 => 16
  | 4 => 13
  | 5 => 11
  | 6 => 10
  | _ => 0
def scN (S k : Nat) : Nat := (S * S) ^ k
theorem scN_zero (S : Nat) : scN S 0 = 1 := rfl
theorem scN_succ (S k : Nat) : scN S (k + 1) = scN S k * (S * S) := Nat.pow_succ ..
theorem scN_add (S j k : Nat) : scN S (j + k) = scN S j * scN S k := Nat.pow_add ..
theorem scN_pos {S : Nat} (hS : 1 ≤ S) (k : Nat) : 1 ≤ scN S k := Nat.pow_pos (Nat.mul_pos hS hS)
theorem nn_range {S : Nat} (hS : 1 ≤ S ∧ S ≤ 6) : 10 ≤ nn S ∧ nn S ≤ 61 := by
  have h : S = 1 ∨ S = 2 ∨ S = 3 ∨ S = 4 ∨ S = 5 ∨ S = 6 := by omega
  rcases h with rfl | rfl | rfl | rfl | rfl | rfl <;> decide
theorem base_range {S : Nat} (hS : 1 ≤ S ∧ S ≤ 6) : 1 ≤ S * S ∧ S * S ≤ 36 := by
  have h : S = 1 ∨ S = 2 ∨ S = 3 ∨ S = 4 ∨ S = 5 ∨ S = 6 := by omega
  rcases h with rfl | rfl | rfl | rfl | rfl | rfl <;> decide
theorem scN_top {S : Nat} (hS : 1 ≤ S ∧ S ≤ 6) : scN S (nn S - 1) ≤ 1000000000000000 ∧ (2 ≤ S → 1000000000000000 < scN S (nn S)) := by
  have h : S = 1 ∨ S = 2 ∨ S = 3 ∨ S = 4 ∨ S = 5 ∨ S = 6 := by omega
  rcases h with rfl | rfl | rfl | rfl | rfl | rfl <;> decide
theorem scN_mono {S j k : Nat} (hS : 1 ≤ S) (h : j ≤ k) : scN S j ≤ scN S k := Nat.pow_le_pow_right (Nat.mul_pos hS hS) h
theorem scN_in {S k : Nat} (hS : 1 ≤ S ∧ S ≤ 6) (h : k < nn S) : scN S k ≤ 1000000000000000 :=
  Nat.le_trans (scN_mono hS.1 (by omega)) (scN_top hS).1
theorem scN_dvd (S : Nat) {j k : Nat} (h : j ≤ k) : scN S k = scN S j * scN S (k - j) := by
  rw [← scN_add]; congr 1; omega
def xvB (S : Nat) (n d : Int) : Bool := decide (0 ≤ d ∧ d < nn S ∧ -1000000000000000000 ≤ n ∧ n ≤ 1000000000000000000 ∧ (d = 0 ∨ n % ((S * S : Nat) : Int) ≠ 0))
def sgI (n : Int) (m : Nat) : Int := if n < 0 then -(m : Int) else m
def rdX (S : Nat) (N : Int) (D : Nat) : Option (Int × Int) :=
  if (rdN (S * S) N.natAbs D).2 < nn S ∧ (rdN (S * S) N.natAbs D).1 ≤ 1000000000000000000 then some (sgI N (rdN (S * S) N.natAbs D).1, ((rdN (S * S) N.natAbs D).2 : Int)) else none
def xoN (o : Option (Int × Int)) : Int := match o with | some r => r.1 | none => 0
def xoD (o : Option (Int × Int)) : Int := match o with | some r => r.2 | none => 0
def xoE (o : Option (Int × Int)) (c : Int) : Int := match o with | some _ => 0 | none => c
def adX (S : Nat) (a : Int) (i : Nat) (b : Int) (j : Nat) : Option (Int × Int) :=
  if i ≤ j then (if 2000000000000000000 < (a * (scN S (j - i) : Int)).natAbs then none else rdX S (a * (scN S (j - i) : Int) + b) j)
  else (if 2000000000000000000 < (b * (scN S (i - j) : Int)).natAbs then none else rdX S (b * (scN S (i - j) : Int) + a) i)
end Go.Proofs.YtlnljfbdicgkcaaGreat
