/- Contracts of chapter 11: the greedy one of some positions, of the program and of its model. -/
import Derived.Test.Ytpalokkcmpjcmaa10a
import Derived.Test.Ytpalokkcmpjcmaa10s
import Derived.Test.YtpalokkcmpjcmaaPos
import Derived.Test.YtpalokkcmpjcmaaOwn4
import Derived.Deep.LoopGhost
namespace Go.Proofs.Ytpalokkcmpjcmaa
open Go.ChangeShapes Go.WideShapes Go.ChangeAt Go.RowKit
set_option linter.unusedVariables false
set_option linter.unusedSimpArgs false
set_option maxRecDepth 4000

/-- The comparison of two positions: checkers, then pips. -/
def grC (xs ys : List Int) : Int := if sg3 xs.sum ys.sum ≠ 0 then sg3 xs.sum ys.sum else sg3 (pipsL xs xs.length) (pipsL ys ys.length)
def grF (m q : List Int) : List Int := if grC q m < 0 then q else m
/-- The first smallest one. -/
def grL : List (List Int) → List Int
  | [] => []
  | x :: l => l.foldl grF x
theorem grL_step {L : List (List Int)} {k : Nat} {q : List Int} (h1 : 1 ≤ k) (hq : L[k]? = some q) : grL (L.take (k + 1)) = grF (grL (L.take k)) q := by
  cases L with
  | nil => simp at hq
  | cons x l =>
    obtain ⟨j, rfl⟩ : ∃ j, k = j + 1 := ⟨k - 1, by omega⟩
    have hq2 : l[j]? = some q := by simpa using hq
    rw [List.take_succ_cons, List.take_succ_cons, grL, grL, List.take_add_one, hq2]
    simp
theorem grL_one {L : List (List Int)} {q : List Int} (hq : L[0]? = some q) : grL (L.take 1) = q := by
  cases L with
  | nil => simp at hq
  | cons x l =>
    have : x = q := by simpa using hq
    simp [grL, this]
theorem grF_mem {L : List (List Int)} {a b : List Int} (ha : a ∈ L) (hb : b ∈ L) : grF a b ∈ L := by
  unfold grF
  split
  · exact hb
  · exact ha
theorem grL_mem : ∀ {L : List (List Int)}, L ≠ [] → grL L ∈ L
  | [], h => absurd rfl h
  | x :: l, _ => by
    have gen : ∀ (l M : List (List Int)) (x : List Int), x ∈ M → (∀ y ∈ l, y ∈ M) → l.foldl grF x ∈ M := by
      intro l
      induction l with
      | nil => intro M x hx _; exact hx
      | cons y l ih => intro M x hx hl; exact ih M _ (grF_mem hx (hl y (by simp))) (fun z hz => hl z (by simp [hz]))
    exact gen l (x :: l) x (by simp) (fun y hy => by simp [hy])
theorem sg3_neg (a b : Int) : sg3 a b < 0 ↔ a < b := by
  unfold sg3
  split
  · simp_all
  · split <;> omega
theorem sg3_zero (a b : Int) : sg3 a b = 0 ↔ a = b := by
  unfold sg3
  split
  · omega
  · split <;> omega
theorem grC_neg (xs ys : List Int) : grC xs ys < 0 ↔ (xs.sum < ys.sum ∨ (xs.sum = ys.sum ∧ pipsL xs xs.length < pipsL ys ys.length)) := by
  unfold grC
  split
  · rename_i h
    rw [sg3_neg]
    have : ¬ xs.sum = ys.sum := fun e => h ((sg3_zero _ _).2 e)
    omega
  · rename_i h
    rw [sg3_neg]
    have : xs.sum = ys.sum := (sg3_zero _ _).1 (by omega)
    omega
set_option maxRecDepth 8000 in
theorem or2_any (g : Nat) (q r : Int) (w : World) (HB : Blk w g #[.int .i64 q, .int .i64 r] 3) :
    Calls Try.prog 68 #[.slice (some ⟨g, 0, none⟩) 2 2] w fun e w' => e = .returned (.int .i64 (if q ≠ 0 then q else r)) ∧ w = w' := by
  obtain ⟨x0, x1, xf, xl⟩ := HB.two
  by_cases hq : q = 0
  · rw [if_neg (by simpa using hq)]
    have fq : (q != 0) = false := by rw [hq]; rfl
    by_cases hr : r = 0
    · subst hr
      clear hq
      go_enter Try.func68, Try.ntmps68
      go_wp2_with fail
      refine wp_loop_rounds 3 ?_
      rw [rounds_succ]; go_wp2
      rw [rounds_succ]; go_wp2
      rw [rounds_succ]; go_wp2
      go_ret
      exact ⟨rfl, rfl⟩
    · have fr : (r != 0) = true := by simpa using hr
      clear hq hr
      go_enter Try.func68, Try.ntmps68
      go_wp2_with fail
      refine wp_loop_rounds 2 ?_
      rw [rounds_succ]; go_wp2
      rw [rounds_succ]; go_wp2
      go_ret
      exact ⟨rfl, rfl⟩
  · rw [if_pos hq]
    have fq : (q != 0) = true := by simpa using hq
    clear hq
    go_enter Try.func68, Try.ntmps68
    go_wp2_with fail
    refine wp_loop_rounds 1 ?_
    rw [rounds_succ]; go_wp2
    go_ret
    exact ⟨rfl, rfl⟩
set_option maxRecDepth 8000 in
set_option maxHeartbeats 1000000 in
theorem compareGreedily_any (a b : Option Addr) (n m ca cb : Nat) (xs ys : List Int) (w : World) (hx : xs.length = n) (hy : ys.length = m) (hn : n ≤ 1000) (hm : m ≤ 1000) (bx : ∀ x ∈ xs, 0 ≤ x ∧ x ≤ 1000) (by_ : ∀ x ∈ ys, 0 ≤ x ∧ x ≤ 1000) (ra : IRow w a xs) (rb : IRow w b ys) :
    Calls Try.prog 57 #[.slice a n ca, .slice b m cb] w fun e w' => e = .returned (.int .i64 (grC xs ys)) ∧ Below w.heap.size w w' := by
  have hs1 := checkersOf_any a n ca xs w hx hn bx ra
  have hs2 := checkersOf_any b m cb ys w hy hm by_ rb
  have hp1 := pipsOf_any a n ca xs w hx hn bx ra
  have hp2 := pipsOf_any b m cb ys w hy hm by_ rb
  have e0 : grC xs ys = if sg3 xs.sum ys.sum ≠ 0 then sg3 xs.sum ys.sum else sg3 (pipsL xs n) (pipsL ys m) := by rw [← hx, ← hy]; rfl
  rw [e0]
  obtain ⟨S1, hS1⟩ : ∃ x, xs.sum = x := ⟨_, rfl⟩
  obtain ⟨S2, hS2⟩ : ∃ x, ys.sum = x := ⟨_, rfl⟩
  obtain ⟨P1, hP1⟩ : ∃ x, pipsL xs n = x := ⟨_, rfl⟩
  obtain ⟨P2, hP2⟩ : ∃ x, pipsL ys m = x := ⟨_, rfl⟩
  rw [hS1] at hs1 ⊢
  rw [hS2] at hs2 ⊢
  rw [hP1] at hp1 ⊢
  rw [hP2] at hp2 ⊢
  have hc1 := compare64_any S1 S2 w
  have hc2 := compare64_any P1 P2 w
  obtain ⟨Q1, hQ1⟩ : ∃ x, sg3 S1 S2 = x := ⟨_, rfl⟩
  obtain ⟨Q2, hQ2⟩ : ∃ x, sg3 P1 P2 = x := ⟨_, rfl⟩
  rw [hQ1] at hc1 ⊢
  rw [hQ2] at hc2 ⊢
  have hO := fun W (HB : Blk W w.heap.size #[.int .i64 Q1, .int .i64 Q2] 3) => or2_any w.heap.size Q1 Q2 W HB
  obtain ⟨R, hR⟩ : ∃ x, (if Q1 ≠ 0 then Q1 else Q2) = x := ⟨_, rfl⟩
  rw [hR] at hO ⊢
  have B8 := Blk.new w #[.int .i64 Q1, .int .i64 Q2] 3
  have hb8 : Below w.heap.size w (w.alloc (.cells #[.int .i64 Q1, .int .i64 Q2] 3)) := (Below.refl _ _).alloc (Nat.le_refl _) _
  have S1H := Lib.hid hs1
  have S2H := Lib.hid hs2
  have P1H := Lib.hid hp1
  have P2H := Lib.hid hp2
  have C1H := Lib.hid hc1
  have C2H := Lib.hid hc2
  have OH := Lib.hid hO
  clear hs1 hs2 hp1 hp2 hc1 hc2 hO hR hQ1 hQ2 hP1 hP2 hS1 hS2 e0 hx hy bx by_ ra rb
  go_enter Try.func57, Try.ntmps57
  go_wp2_with fail
  refine (S1H.out).mono ?_
  rintro e w1 ⟨rfl, rfl⟩
  go_wp2_with fail
  refine (S2H.out).mono ?_
  rintro e w1 ⟨rfl, rfl⟩
  go_wp2_with fail
  refine (C1H.out).mono ?_
  rintro e w1 ⟨rfl, rfl⟩
  go_wp2_with fail
  refine (P1H.out).mono ?_
  rintro e w1 ⟨rfl, rfl⟩
  go_wp2_with fail
  refine (P2H.out).mono ?_
  rintro e w1 ⟨rfl, rfl⟩
  go_wp2_with fail
  refine (C2H.out).mono ?_
  rintro e w1 ⟨rfl, rfl⟩
  go_wp2_with fail
  refine (OH.out _ B8).mono ?_
  rintro e w1 ⟨rfl, rfl⟩
  go_wp2
  go_ret
  exact ⟨rfl, hb8⟩
set_option maxRecDepth 8000 in
set_option maxHeartbeats 1000000 in
theorem minGreedy_any (g k n : Nat) (l : List PQ) (w : World) (h0 : 0 < l.length) (hle : l.length ≤ 1048576) (hQ : QRow w g l) (hn : n ≤ 1000) (hx : ∀ x ∈ l, Row w x.1 x.2.2 ∧ x.2.2.length = n ∧ ∀ z ∈ x.2.2, 0 ≤ z ∧ z ≤ 1000) :
    Calls Try.prog 56 #[.slice (some ⟨g, 0, none⟩) l.length k, .func (.func 57) #[] #[]] w fun e w' => ∃ x ∈ l, e = .returned (pqV x) ∧ x.2.2 = grL (nmQ l) ∧ Below w.heap.size w w' := by
  obtain ⟨N, hN⟩ : ∃ N, l.length = N := ⟨_, rfl⟩
  rw [hN] at h0 hle
  have HN := Lib.hid hN
  have HX := Lib.hid hx
  have m0 : (N : Int) ≤ 1048576 := by omega
  have m1 : (0 : Int) < (N : Int) := by omega
  have m2 : ¬ (N : Int) < 1 := by omega
  obtain ⟨⟨g0, k0, x0⟩, hx0⟩ : ∃ x, l[0]? = some x := ⟨_, List.getElem?_eq_getElem (by rw [hN]; exact h0)⟩
  have hm0 : (⟨g0, k0, x0⟩ : PQ) ∈ l := List.mem_of_getElem? hx0
  have u0 := QRow.at hQ 0 _ hx0
  have hg0 := Lib.hid (show x0 = grL ((nmQ l).take 1) from (grL_one (by rw [List.getElem?_map, hx0]; rfl)).symm)
  rw [hN]
  clear hx hx0 hN
  go_enter Try.func56, Try.ntmps56
  go_wp2_with fail
  go_loopg [5, 6] (N - 1) (fun mm bv i wr => ∃ (W : World) (j : Nat) (x : PQ), W = wr ∧ 1 ≤ j ∧ j ≤ N ∧ mm = N - j ∧ i = .int .i64 j ∧ x ∈ l ∧ bv = pqV x ∧ x.2.2 = grL ((nmQ l).take j) ∧ Below w.heap.size w W)
  case atStart => exact ⟨w, 1, (g0, k0, x0), rfl, by omega, by omega, by omega, by go_num, hm0, rfl, hg0.out, Below.refl _ _⟩
  case round =>
    clear hm0 hg0 u0
    obtain ⟨wr, j, x, hW, hj1, hj, hm, rfl, hxm, rfl, hxg, hb⟩ := hrel
    subst hW
    by_cases hlt : j < N
    · have hlt' : (j : Int) < (N : Int) := by omega
      have j0 : (0 : Int) ≤ (j : Int) := by omega
      obtain ⟨⟨gy, ky, ys⟩, hy⟩ : ∃ y, l[j]? = some y := ⟨_, List.getElem?_eq_getElem (by rw [HN.out]; exact hlt)⟩
      have hym := List.mem_of_getElem? hy
      have hst := grL_step (L := nmQ l) hj1 (q := ys) (by rw [List.getElem?_map, hy]; rfl)
      obtain ⟨gx, kx, xs⟩ := x
      dsimp only at hxg
      rw [← hxg] at hst
      have HYM := Lib.hid hym
      have HXM := Lib.hid hxm
      have HST := Lib.hid hst
      have HXG := Lib.hid hxg
      have u1 : CellIs wr g j (.slice (some ⟨gy, 0, none⟩) ys.length ky) := QRow.at (VRow.below hQ hb) j _ hy
      have hc := Lib.hid (compareGreedily_any (some ⟨gy, 0, none⟩) (some ⟨gx, 0, none⟩) ys.length xs.length ky kx ys xs wr rfl rfl (by have := (HX.out _ hym).2.1; dsimp only at this; omega) (by have := (HX.out _ hxm).2.1; dsimp only at this; omega) (HX.out _ hym).2.2 (HX.out _ hxm).2.2 ((HX.out _ hym).1.below hb).irow ((HX.out _ hxm).1.below hb).irow)
      have hsel : grF xs ys = if grC ys xs < 0 then ys else xs := rfl
      obtain ⟨C, hC⟩ : ∃ C, grC ys xs = C := ⟨_, rfl⟩
      rw [hC] at hc hsel
      have HSEL := Lib.hid hsel
      clear hy hym hxm hst hxg hC hsel
      unfold CellIs at u1
      by_cases hc0 : C < 0
      · have s1 : grF xs ys = ys := by rw [HSEL.out, if_pos hc0]
        have HS1 := Lib.hid s1
        clear s1 HSEL
        go_wp2_with fail
        refine (hc.out).mono ?_
        rintro e w5 ⟨rfl, hb5⟩
        have u2 := CellIs.below (b := g) (o := j) u1 hb5
        unfold CellIs at u2
        go_wp2
        go_roundg (N - (j + 1))
        case measure => omega
        case rel => exact ⟨w5, j + 1, (gy, ky, ys), rfl, by omega, by omega, rfl, by go_num, HYM.out, rfl, by rw [HST.out, HS1.out], chain hb hb5⟩
      · have s1 : grF xs ys = xs := by rw [HSEL.out, if_neg hc0]
        have HS1 := Lib.hid s1
        clear s1 HSEL
        go_wp2_with fail
        refine (hc.out).mono ?_
        rintro e w5 ⟨rfl, hb5⟩
        have u2 := CellIs.below (b := g) (o := j) u1 hb5
        unfold CellIs at u2
        go_wp2
        go_roundg (N - (j + 1))
        case measure => omega
        case rel => exact ⟨w5, j + 1, (gx, kx, xs), rfl, by omega, by omega, rfl, by go_num, HXM.out, rfl, by rw [HST.out, HS1.out], chain hb hb5⟩
    · obtain rfl : j = N := by omega
      rw [List.take_of_length_le (by rw [List.length_map, HN.out]; exact Nat.le_refl _)] at hxg
      obtain ⟨gx, kx, xs⟩ := x
      have HXG := Lib.hid hxg
      have HXM := Lib.hid hxm
      clear hxg hxm
      go_wp2
      go_ret
      exact ⟨gx, kx, xs, HXM.out, rfl, HXG.out, hb⟩
theorem greedyOf_any (g k n : Nat) (l : List PQ) (w : World) (h0 : 0 < l.length) (hle : l.length ≤ 1048576) (hQ : QRow w g l) (hn : n ≤ 1000) (hx : ∀ x ∈ l, Row w x.1 x.2.2 ∧ x.2.2.length = n ∧ ∀ z ∈ x.2.2, 0 ≤ z ∧ z ≤ 1000) :
    Calls Try.prog 41 #[.slice (some ⟨g, 0, none⟩) l.length k] w fun e w' => ∃ x ∈ l, e = .returned (pqV x) ∧ x.2.2 = grL (nmQ l) ∧ Below w.heap.size w w' := by
  have H := Lib.hid (minGreedy_any g k n l w h0 hle hQ hn hx)
  clear hx hQ
  go_enter Try.func41, Try.ntmps41
  go_wp2_with (go_at_call 56; refine H.out.mono ?_; rintro e w1 ⟨⟨gx, kx, xs⟩, hxm, rfl, hxg, hb1⟩; have HXG := Lib.hid hxg; clear hxg)
  go_ret
  exact ⟨(gx, kx, xs), hxm, rfl, HXG.out, hb1⟩
set_option maxRecDepth 8000 in
set_option maxHeartbeats 1000000 in
theorem l11Greedy_any (g k n : Nat) (l : List PQ) (w : World) (h0 : 0 < l.length) (hle : l.length ≤ 1048576) (hQ : QRow w g l) (hn : n ≤ 1000) (hx : ∀ x ∈ l, Row w x.1 x.2.2 ∧ x.2.2.length = n ∧ ∀ z ∈ x.2.2, 0 ≤ z ∧ z ≤ 1000) :
    Calls Try.prog 42 #[.slice (some ⟨g, 0, none⟩) l.length k] w fun e w' => ∃ x ∈ l, e = .returned (pqV x) ∧ x.2.2 = grL (nmQ l) ∧ w = w' := by
  obtain ⟨N, hN⟩ : ∃ N, l.length = N := ⟨_, rfl⟩
  rw [hN] at h0 hle
  have HN := Lib.hid hN
  have HX := Lib.hid hx
  have m0 : (N : Int) ≤ 1048576 := by omega
  have m1 : (0 : Int) < (N : Int) := by omega
  have m2 : ¬ (N : Int) < 1 := by omega
  obtain ⟨⟨g0, k0, x0⟩, hx0⟩ : ∃ x, l[0]? = some x := ⟨_, List.getElem?_eq_getElem (by rw [hN]; exact h0)⟩
  have hm0 : (⟨g0, k0, x0⟩ : PQ) ∈ l := List.mem_of_getElem? hx0
  have u0 := QRow.at hQ 0 _ hx0
  have hg0 := Lib.hid (show x0 = grL ((nmQ l).take 1) from (grL_one (by rw [List.getElem?_map, hx0]; rfl)).symm)
  rw [hN]
  clear hx hx0 hN
  go_enter Try.func42, Try.ntmps42
  go_wp2_with fail
  go_loopg [3, 4] (N - 1) (fun mm bv i wr => ∃ (j : Nat) (x : PQ), w = wr ∧ 1 ≤ j ∧ j ≤ N ∧ mm = N - j ∧ i = .int .i64 j ∧ x ∈ l ∧ bv = pqV x ∧ x.2.2 = grL ((nmQ l).take j))
  case atStart => exact ⟨1, (g0, k0, x0), rfl, by omega, by omega, by omega, by go_num, hm0, rfl, hg0.out⟩
  case round =>
    clear hm0 hg0 u0
    obtain ⟨j, x, rfl, hj1, hj, hm, rfl, hxm, rfl, hxg⟩ := hrel
    by_cases hlt : j < N
    · have hlt' : (j : Int) < (N : Int) := by omega
      have j0 : (0 : Int) ≤ (j : Int) := by omega
      obtain ⟨⟨gy, ky, ys⟩, hy⟩ : ∃ y, l[j]? = some y := ⟨_, List.getElem?_eq_getElem (by rw [HN.out]; exact hlt)⟩
      have hym := List.mem_of_getElem? hy
      have hst := grL_step (L := nmQ l) hj1 (q := ys) (by rw [List.getElem?_map, hy]; rfl)
      obtain ⟨gx, kx, xs⟩ := x
      dsimp only at hxg
      rw [← hxg] at hst
      have HYM := Lib.hid hym
      have HXM := Lib.hid hxm
      have HST := Lib.hid hst
      have HXG := Lib.hid hxg
      have u1 : CellIs w g j (.slice (some ⟨gy, 0, none⟩) ys.length ky) := QRow.at hQ j _ hy
      have t1 := Lib.hid (l10Sum_any (some ⟨gy, 0, none⟩) ys.length ky ys w rfl (by have := (HX.out _ hym).2.1; dsimp only at this; omega) (HX.out _ hym).2.2 (HX.out _ hym).1.irow)
      have t2 := Lib.hid (l10Sum_any (some ⟨gx, 0, none⟩) xs.length kx xs w rfl (by have := (HX.out _ hxm).2.1; dsimp only at this; omega) (HX.out _ hxm).2.2 (HX.out _ hxm).1.irow)
      have t3 := Lib.hid (l10Pips_any (some ⟨gy, 0, none⟩) ys.length ky ys w rfl (by have := (HX.out _ hym).2.1; dsimp only at this; omega) (HX.out _ hym).2.2 (HX.out _ hym).1.irow)
      have t4 := Lib.hid (l10Pips_any (some ⟨gx, 0, none⟩) xs.length kx xs w rfl (by have := (HX.out _ hxm).2.1; dsimp only at this; omega) (HX.out _ hxm).2.2 (HX.out _ hxm).1.irow)
      have hsel : (ys.sum < xs.sum ∨ (ys.sum = xs.sum ∧ pipsL ys ys.length < pipsL xs xs.length)) → grF xs ys = ys := fun q => by rw [grF, if_pos ((grC_neg _ _).2 q)]
      have hsel2 : ¬ (ys.sum < xs.sum ∨ (ys.sum = xs.sum ∧ pipsL ys ys.length < pipsL xs xs.length)) → grF xs ys = xs := fun q => by rw [grF, if_neg (fun h => q ((grC_neg _ _).1 h))]
      obtain ⟨S1, hS1⟩ : ∃ x, ys.sum = x := ⟨_, rfl⟩
      obtain ⟨S2, hS2⟩ : ∃ x, xs.sum = x := ⟨_, rfl⟩
      obtain ⟨P1, hP1⟩ : ∃ x, pipsL ys ys.length = x := ⟨_, rfl⟩
      obtain ⟨P2, hP2⟩ : ∃ x, pipsL xs xs.length = x := ⟨_, rfl⟩
      rw [hS1] at t1 hsel hsel2
      rw [hS2] at t2 hsel hsel2
      rw [hP1] at t3 hsel hsel2
      rw [hP2] at t4 hsel hsel2
      have HSEL := Lib.hid hsel
      have HSEL2 := Lib.hid hsel2
      clear hy hym hxm hst hxg hsel hsel2 hS1 hS2 hP1 hP2
      unfold CellIs at u1
      by_cases c1 : S1 < S2
      · have HS1 := Lib.hid (HSEL.out (.inl c1))
        clear HSEL HSEL2
        go_wp2_with fail
        refine (t1.out).mono ?_
        rintro e w5 ⟨rfl, rfl⟩
        go_wp2_with fail
        refine (t2.out).mono ?_
        rintro e w5 ⟨rfl, rfl⟩
        go_wp2
        go_roundg (N - (j + 1))
        case measure => omega
        case rel => exact ⟨j + 1, (gy, ky, ys), rfl, by omega, by omega, rfl, by go_num, HYM.out, rfl, by rw [HST.out, HS1.out]⟩
      · by_cases c2 : S1 = S2
        · have f2 : (S1 == S2) = true := by simpa using c2
          by_cases c3 : P1 < P2
          · have HS1 := Lib.hid (HSEL.out (.inr ⟨c2, c3⟩))
            clear HSEL HSEL2
            go_wp2_with fail
            refine (t1.out).mono ?_
            rintro e w5 ⟨rfl, rfl⟩
            go_wp2_with fail
            refine (t2.out).mono ?_
            rintro e w5 ⟨rfl, rfl⟩
            go_wp2_with fail
            refine (t1.out).mono ?_
            rintro e w5 ⟨rfl, rfl⟩
            go_wp2_with fail
            refine (t2.out).mono ?_
            rintro e w5 ⟨rfl, rfl⟩
            go_wp2_with fail
            refine (t3.out).mono ?_
            rintro e w5 ⟨rfl, rfl⟩
            go_wp2_with fail
            refine (t4.out).mono ?_
            rintro e w5 ⟨rfl, rfl⟩
            go_wp2
            go_roundg (N - (j + 1))
            case measure => omega
            case rel => exact ⟨j + 1, (gy, ky, ys), rfl, by omega, by omega, rfl, by go_num, HYM.out, rfl, by rw [HST.out, HS1.out]⟩
          · have HS1 := Lib.hid (HSEL2.out (fun q => by omega))
            clear HSEL HSEL2
            go_wp2_with fail
            refine (t1.out).mono ?_
            rintro e w5 ⟨rfl, rfl⟩
            go_wp2_with fail
            refine (t2.out).mono ?_
            rintro e w5 ⟨rfl, rfl⟩
            go_wp2_with fail
            refine (t1.out).mono ?_
            rintro e w5 ⟨rfl, rfl⟩
            go_wp2_with fail
            refine (t2.out).mono ?_
            rintro e w5 ⟨rfl, rfl⟩
            go_wp2_with fail
            refine (t3.out).mono ?_
            rintro e w5 ⟨rfl, rfl⟩
            go_wp2_with fail
            refine (t4.out).mono ?_
            rintro e w5 ⟨rfl, rfl⟩
            go_wp2
            go_roundg (N - (j + 1))
            case measure => omega
            case rel => exact ⟨j + 1, (gx, kx, xs), rfl, by omega, by omega, rfl, by go_num, HXM.out, rfl, by rw [HST.out, HS1.out]⟩
        · have f2 : (S1 == S2) = false := by simpa using c2
          have HS1 := Lib.hid (HSEL2.out (fun q => by omega))
          clear HSEL HSEL2
          go_wp2_with fail
          refine (t1.out).mono ?_
          rintro e w5 ⟨rfl, rfl⟩
          go_wp2_with fail
          refine (t2.out).mono ?_
          rintro e w5 ⟨rfl, rfl⟩
          go_wp2_with fail
          refine (t1.out).mono ?_
          rintro e w5 ⟨rfl, rfl⟩
          go_wp2_with fail
          refine (t2.out).mono ?_
          rintro e w5 ⟨rfl, rfl⟩
          go_wp2
          go_roundg (N - (j + 1))
          case measure => omega
          case rel => exact ⟨j + 1, (gx, kx, xs), rfl, by omega, by omega, rfl, by go_num, HXM.out, rfl, by rw [HST.out, HS1.out]⟩
    · obtain rfl : j = N := by omega
      rw [List.take_of_length_le (by rw [List.length_map, HN.out]; exact Nat.le_refl _)] at hxg
      obtain ⟨gx, kx, xs⟩ := x
      have HXG := Lib.hid hxg
      have HXM := Lib.hid hxm
      clear hxg hxm
      go_wp2
      go_ret
      exact ⟨gx, kx, xs, HXM.out, rfl, HXG.out, rfl⟩
end Go.Proofs.Ytpalokkcmpjcmaa
