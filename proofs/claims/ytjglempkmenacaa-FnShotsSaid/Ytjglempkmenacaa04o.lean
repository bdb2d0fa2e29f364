/- Contracts of the lists of blots, of the program and of its model. -/
import Derived.Test.Ytjglempkmenacaa04k
import Derived.Test.YtjglempkmenacaaOwnS
namespace Go.Proofs.Ytjglempkmenacaa
open Go.ChangeShapes Go.WideShapes Go.ChangeAt Go.RowKit
set_option linter.unusedVariables false
set_option linter.unusedSimpArgs false
set_option maxRecDepth 4000

/-- The blots below k. -/
def blotsTo (xs : List Int) : Nat → List Int
  | 0 => []
  | k + 1 => blotsTo xs k ++ (if xs.getD k 0 = 1 then [(k : Int)] else [])
theorem blotsTo_length (xs : List Int) : ∀ k, (blotsTo xs k).length ≤ k
  | 0 => by simp [blotsTo]
  | k + 1 => by
    have := blotsTo_length xs k
    rw [blotsTo, List.length_append]
    split <;> simp <;> omega
def blL (p c h s : Int) (xs ys : List Int) : List Int := if isB p c h s xs ys = true then blotsTo xs p.toNat else []
def blR (p c h s : Int) (xs ys : List Int) : Int := if isB p c h s xs ys = true then 0 else 1
theorem blL_length (p c h s : Int) (xs ys : List Int) : (blL p c h s xs ys).length ≤ 1048576 := by
  unfold blL
  split
  · rename_i g
    obtain ⟨p0, p1, k0, k1, k2, k3, N1, N2, hx, hy, s0, s1, s2, s3⟩ := isB_parts g
    have := blotsTo_length xs p.toNat
    omega
  · simp
theorem OSl.new (w : World) (B : Nat) (hB : B ≤ w.heap.size) : OSl B (w.alloc (.cells #[] 2)).heap.size (w.alloc (.cells #[] 2)) (some ⟨w.heap.size, 0, none⟩) [] :=
  .inr ⟨w.heap.size, rfl, hB, by simp, #[], Blk.new w #[] _, by simp, rfl⟩
set_option maxRecDepth 8000 in
set_option maxHeartbeats 2000000 in
theorem blotsOf_any (p c h s : Int) (a1 a2 : Option Addr) (n1 n2 c1 c2 : Nat) (xs ys : List Int) (w : World) (h1 : xs.length = n1) (h2 : ys.length = n2) (l1 : n1 ≤ 1048576) (l2 : n2 ≤ 1048576) (r1 : IRow w a1 xs) (r2 : IRow w a2 ys) :
    Calls Try.prog 32 #[.agg #[.int .i64 p, .int .i64 c, .int .i64 h, .int .i64 s], .agg #[.slice a1 n1 c1, .slice a2 n2 c2]] w (SliceGot2 (blL p c h s xs ys) (blR p c h s xs ys) w) := by
  obtain ⟨BV, BB, hb, hz⟩ := two_new w #[.int .i64 p, .int .i64 c, .int .i64 h, .int .i64 s] #[.slice a1 n1 c1, .slice a2 n2 c2] 25 28
  have hz1 : w.heap.size + 1 < ((w.alloc (.cells #[.int .i64 p, .int .i64 c, .int .i64 h, .int .i64 s] 25)).alloc (.cells #[.slice a1 n1 c1, .slice a2 n2 c2] 28)).heap.size := by rw [hz]; omega
  clear hz
  obtain ⟨x0, x1, x2, x3, xf, xl⟩ := BV.four
  obtain ⟨y0, y1, yf, yl⟩ := BB.two
  unfold blL blR
  by_cases g : isB p c h s xs ys = true
  · rw [if_pos g, if_pos g]
    obtain ⟨p0, p1, k0, k1, k2, k3, N1, N2, hx, hy, s0, s1, s2, s3⟩ := isB_parts g
    obtain ⟨P, rfl⟩ := Int.eq_ofNat_of_zero_le (by omega : 0 ≤ p)
    rw [show (P : Int).toNat = P by simp]
    have hB := fun W (q1 : IRow W a1 xs) (q2 : IRow W a2 ys) => isBoard_any (P : Int) c h s a1 a2 n1 n2 c1 c2 xs ys W h1 h2 l1 l2 q1 q2
    simp only [g] at hB
    have HB := Lib.hid hB
    clear hB
    obtain ⟨L, hL⟩ : ∃ L, blotsTo xs P = L := ⟨_, rfl⟩
    rw [hL]
    have HL := Lib.hid hL
    have hbl := blotsTo_length xs
    have HBL := Lib.hid hbl
    clear hL hbl
    go_enter Try.func32, Try.ntmps32
    go_wp2_with (first | (go_at_call 57; refine (HB.out _ (r1.below hb) (r2.below hb)).mono ?_; rintro e w1 ⟨rfl, hb1⟩; obtain ⟨x0, x1, x2, x3, xf, xl⟩ := (BV.below hb1).four; obtain ⟨y0, y1, yf, yl⟩ := (BB.below hb1).two) | (go_at_call 58; refine (countsOf_any _ c h s a1 a2 n1 c1 n2 c2 xs ys _ h1 h2 (r1.below (chain hb hb1)) (r2.below (chain hb hb1))).mono ?_; rintro e w2 ⟨B, rfl, q1, q2, hb2⟩; obtain ⟨x0, x1, x2, x3, xf, xl⟩ := (BV.below (chain hb1 hb2)).four))
    have BT := Blk.new w2 #[.int .i64 (P : Int), fv 97 B, fv 98 B] 74
    have ha : Below w2.heap.size w2 (w2.alloc (.cells #[.int .i64 (P : Int), fv 97 B, fv 98 B] 74)) := (Below.refl _ _).alloc (Nat.le_refl _) _
    replace hb := chain (chain (chain hb hb1) hb2) ha
    replace BV := (BV.below (chain hb1 hb2)).below ha
    replace q1 := q1.below ha
    clear x0 x1 x2 x3 xf xl y0 y1 yf yl HB hz1 hb1 hb2 ha q2
    generalize (w2.alloc (.cells #[.int .i64 (P : Int), fv 97 B, fv 98 B] 74)) = v0 at *
    go_loopg [7, 18] P (fun m q i wr => ∃ k : Nat, k ≤ P ∧ m = P - k ∧ i = .int .i64 k ∧ Own wr v0.heap.size q (blotsTo xs k) ∧ Below v0.heap.size v0 wr)
    case atStart => exact ⟨0, by omega, by omega, rfl, Own.nil _ _, Below.refl _ _⟩
    case round =>
      obtain ⟨k, hk, hm, rfl, hO, hbel⟩ := hrel
      obtain ⟨x0, x1, x2, x3, xf, xl⟩ := (BV.below hbel).four
      obtain ⟨z0, z1, z2, zf, zl⟩ := (BT.below hbel).tri
      have hsz := hbel.size
      by_cases hlt : k < P
      · have hlt' : (k : Int) < (P : Int) := by omega
        have hbk := isBlot_any P 97 98 B xs (k : Int) wr (by omega) (by omega) (q1.below hbel)
        have eb : blotB P xs (k : Int) = decide (xs.getD k 0 = 1) := by
          unfold blotB
          rw [decide_eq_true (show (0 : Int) ≤ (k : Int) by omega), decide_eq_true hlt']
          simp
        have hbl1 : (blotsTo xs k).length ≤ 1048576 := by have := HBL.out k; omega
        have hst : blotsTo xs (k + 1) = blotsTo xs k ++ (if xs.getD k 0 = 1 then [(k : Int)] else []) := rfl
        rw [eb] at hbk
        clear eb
        by_cases h1 : xs.getD k 0 = 1
        · rw [decide_eq_true h1] at hbk
          rw [if_pos h1] at hst
          have HK := Lib.hid hbk
          have HST := Lib.hid hst
          clear hbk hst h1
          go_wp2_with (first | (go_at_call 76; refine HK.out.mono ?_; rintro e w5 ⟨rfl, hb5⟩) | (at_builtin; refine wp_push rfl _ _ rfl v0.heap.size _ (blotsTo xs k) rfl (hO.kept hb5) (k : Int) rfl hbl1 (chain hbel hb5).size ?_; intro v2 w6 hO2 hb6))
          go_roundg (P - (k + 1))
          case measure => omega
          case rel => exact ⟨k + 1, by omega, rfl, by go_num, by rw [HST.out]; exact hO2, (chain hbel hb5).trans hb6⟩
        · rw [decide_eq_false h1] at hbk
          rw [if_neg h1, List.append_nil] at hst
          have HK := Lib.hid hbk
          have HST := Lib.hid hst
          clear hbk hst h1
          go_wp2_with (go_at_call 76; refine HK.out.mono ?_; rintro e w5 ⟨rfl, hb5⟩)
          go_roundg (P - (k + 1))
          case measure => omega
          case rel => exact ⟨k + 1, by omega, rfl, by go_num, by rw [HST.out]; exact hO.kept hb5, chain hbel hb5⟩
      · obtain rfl : k = P := by omega
        obtain ⟨a, cp, rfl⟩ := hO.form
        have hos := hO.osl
        have hE := HL.out
        rw [hE] at hos
        have hEl : (blotsTo xs k).length = L.length := by rw [hE]
        rw [hEl]
        clear hE hEl hO
        go_wp2
        refine bodyPost_ret (v := .tuple #[.slice a L.length cp, .int .i64 0]) (by simp [results, Try.results32, go_sem]) rfl ?_
        exact ⟨a, cp, rfl, hos.mono hb.size (Nat.le_refl _), chain hb hbel⟩
  · rw [if_neg g, if_neg g]
    replace g : isB p c h s xs ys = false := by simpa using g
    have hB := fun W (q1 : IRow W a1 xs) (q2 : IRow W a2 ys) => isBoard_any p c h s a1 a2 n1 n2 c1 c2 xs ys W h1 h2 l1 l2 q1 q2
    simp only [g] at hB
    have HB := Lib.hid hB
    clear hB
    go_enter Try.func32, Try.ntmps32
    go_wp2_with (go_at_call 57; refine (HB.out _ (r1.below hb) (r2.below hb)).mono ?_; rintro e w1 ⟨rfl, hb1⟩; obtain ⟨x0, x1, x2, x3, xf, xl⟩ := (BV.below hb1).four; obtain ⟨y0, y1, yf, yl⟩ := (BB.below hb1).two)
    refine bodyPost_ret (v := .tuple #[.slice none 0 0, .int .i64 1]) (by simp [results, Try.results32, go_sem]) rfl ?_
    exact ⟨none, 0, rfl, .inl ⟨rfl, rfl⟩, chain hb hb1⟩
set_option maxRecDepth 8000 in
set_option maxHeartbeats 2000000 in
theorem specBlotsOf_any (p c h s : Int) (a1 a2 : Option Addr) (n1 n2 c1 c2 : Nat) (xs ys : List Int) (w : World) (h1 : xs.length = n1) (h2 : ys.length = n2) (l1 : n1 ≤ 1048576) (l2 : n2 ≤ 1048576) (r1 : IRow w a1 xs) (r2 : IRow w a2 ys) :
    Calls Try.prog 50 #[.agg #[.int .i64 p, .int .i64 c, .int .i64 h, .int .i64 s], .agg #[.slice a1 n1 c1, .slice a2 n2 c2]] w (SliceGot2 (blL p c h s xs ys) (blR p c h s xs ys) w) := by
  obtain ⟨BV, BB, hb, hz⟩ := two_new w #[.int .i64 p, .int .i64 c, .int .i64 h, .int .i64 s] #[.slice a1 n1 c1, .slice a2 n2 c2] 25 28
  have hz1 : w.heap.size + 1 < ((w.alloc (.cells #[.int .i64 p, .int .i64 c, .int .i64 h, .int .i64 s] 25)).alloc (.cells #[.slice a1 n1 c1, .slice a2 n2 c2] 28)).heap.size := by rw [hz]; omega
  clear hz
  obtain ⟨x0, x1, x2, x3, xf, xl⟩ := BV.four
  obtain ⟨y0, y1, yf, yl⟩ := BB.two
  unfold blL blR
  by_cases g : isB p c h s xs ys = true
  · rw [if_pos g, if_pos g]
    obtain ⟨p0, p1, k0, k1, k2, k3, N1, N2, hx, hy, s0, s1, s2, s3⟩ := isB_parts g
    obtain ⟨P, rfl⟩ := Int.eq_ofNat_of_zero_le (by omega : 0 ≤ p)
    rw [show (P : Int).toNat = P by simp]
    have hB := fun W (q1 : IRow W a1 xs) (q2 : IRow W a2 ys) => specIsBoard_any (P : Int) c h s a1 a2 n1 n2 c1 c2 xs ys W h1 h2 l1 l2 q1 q2
    simp only [g] at hB
    have HB := Lib.hid hB
    clear hB
    obtain ⟨L, hL⟩ : ∃ L, blotsTo xs P = L := ⟨_, rfl⟩
    rw [hL]
    have HL := Lib.hid hL
    have hbl := blotsTo_length xs
    have HBL := Lib.hid hbl
    clear hL hbl
    go_enter Try.func50, Try.ntmps50
    go_wp2_with (go_at_call 21; refine (HB.out _ (r1.below hb) (r2.below hb)).mono ?_; rintro e w1 ⟨rfl, hb1⟩; obtain ⟨x0, x1, x2, x3, xf, xl⟩ := (BV.below hb1).four; obtain ⟨y0, y1, yf, yl⟩ := (BB.below hb1).two)
    have hO0 := Own.start w1
    have ha : Below w1.heap.size w1 (w1.alloc (.cells #[] 2)) := (Below.refl _ _).alloc (Nat.le_refl _) _
    replace hb := chain hb hb1
    replace BV := BV.below hb1
    replace BB := BB.below hb1
    clear x0 x1 x2 x3 xf xl y0 y1 yf yl HB hz1 hb1
    generalize (w1.alloc (.cells #[] 2)) = v0 at *
    go_loopg [6, 7] P (fun m q i wr => ∃ k : Nat, k ≤ P ∧ m = P - k ∧ i = .int .i64 k ∧ Own wr w1.heap.size q (blotsTo xs k) ∧ Below w1.heap.size w1 wr)
    case atStart => exact ⟨0, by omega, by omega, rfl, hO0, ha⟩
    case round =>
      obtain ⟨k, hk, hm, rfl, hO, hbel⟩ := hrel
      obtain ⟨x0, x1, x2, x3, xf, xl⟩ := (BV.below hbel).four
      obtain ⟨y0, y1, yf, yl⟩ := (BB.below hbel).two
      have hsz := hbel.size
      by_cases hlt : k < P
      · have hlt' : (k : Int) < (P : Int) := by omega
        have hkn : k < n1 := by omega
        have hkI : (k : Int) < (n1 : Int) := by omega
        obtain ⟨b, ob, rfl, hc⟩ := r1.below (chain hb hbel) k (by omega)
        have hbl1 : (blotsTo xs k).length ≤ 1048576 := by have := HBL.out k; omega
        have hst : blotsTo xs (k + 1) = blotsTo xs k ++ (if xs.getD k 0 = 1 then [(k : Int)] else []) := rfl
        by_cases g1 : xs.getD k 0 = 1
        · rw [if_pos g1] at hst
          rw [g1] at hc
          have HST := Lib.hid hst
          clear hst g1
          go_wp2_with (at_builtin; refine wp_push rfl _ _ rfl w1.heap.size _ (blotsTo xs k) rfl hO (k : Int) rfl hbl1 hsz ?_; intro v2 w6 hO2 hb6)
          go_roundg (P - (k + 1))
          case measure => omega
          case rel => exact ⟨k + 1, by omega, rfl, by go_num, by rw [HST.out]; exact hO2, hbel.trans hb6⟩
        · rw [if_neg g1, List.append_nil] at hst
          obtain ⟨u, hu⟩ : ∃ u, xs.getD k 0 = u := ⟨_, rfl⟩
          rw [hu] at hc g1
          have eu : (u == 1) = false := by simpa using g1
          have HST := Lib.hid hst
          clear hst hu
          go_wp2
          go_roundg (P - (k + 1))
          case measure => omega
          case rel => exact ⟨k + 1, by omega, rfl, by go_num, by rw [HST.out]; exact hO, hbel⟩
      · obtain rfl : k = P := by omega
        obtain ⟨a, cp, rfl⟩ := hO.form
        have hos := hO.osl
        have hE := HL.out
        rw [hE] at hos
        have hEl : (blotsTo xs k).length = L.length := by rw [hE]
        rw [hEl]
        clear hE hEl hO
        go_wp2
        refine bodyPost_ret (v := .tuple #[.slice a L.length cp, .int .i64 0]) (by simp [results, Try.results50, go_sem]) rfl ?_
        exact ⟨a, cp, rfl, hos.mono hb.size (Nat.le_refl _), chain hb hbel⟩
  · rw [if_neg g, if_neg g]
    replace g : isB p c h s xs ys = false := by simpa using g
    have hB := fun W (q1 : IRow W a1 xs) (q2 : IRow W a2 ys) => specIsBoard_any p c h s a1 a2 n1 n2 c1 c2 xs ys W h1 h2 l1 l2 q1 q2
    simp only [g] at hB
    have HB := Lib.hid hB
    clear hB
    go_enter Try.func50, Try.ntmps50
    go_wp2_with (go_at_call 21; refine (HB.out _ (r1.below hb) (r2.below hb)).mono ?_; rintro e w1 ⟨rfl, hb1⟩; obtain ⟨x0, x1, x2, x3, xf, xl⟩ := (BV.below hb1).four; obtain ⟨y0, y1, yf, yl⟩ := (BB.below hb1).two)
    refine bodyPost_ret (v := .tuple #[.slice (some ⟨w1.heap.size, 0, none⟩) 0 0, .int .i64 1]) (by simp [results, Try.results50, go_sem]) rfl ?_
    exact ⟨_, _, rfl, OSl.new _ _ (chain hb hb1).size, (chain hb hb1).alloc (chain hb hb1).size _⟩
end Go.Proofs.Ytjglempkmenacaa
