/- Contract of the program's board on which a checker has gone the way of a step. -/
import Derived.Test.Ytokjkcnjmfbfiaa04k
import Derived.Test.YtokjkcnjmfbfiaaSwapI
namespace Go.Proofs.Ytokjkcnjmfbfiaa
open Go.ChangeShapes Go.WideShapes Go.ChangeAt Go.RowKit
set_option linter.unusedVariables false
set_option linter.unusedSimpArgs false
set_option maxRecDepth 4000

/-- The owner's checkers when n of them have gone from f to t. -/
def mvX (xs : List Int) (f t n : Int) : List Int := if t = -1 then xs.set f.toNat (xs.getD f.toNat 0 - n) else (xs.set f.toNat (xs.getD f.toNat 0 - n)).set t.toNat ((xs.set f.toNat (xs.getD f.toNat 0 - n)).getD t.toNat 0 + n)
/-- The other player's checkers when n of them have been hit at t. -/
def mvY (P : Nat) (ys : List Int) (t : Int) (q : Bool) (n : Int) : List Int :=
  if q = true then (ys.set ((P : Int) - 1 - t).toNat (ys.getD ((P : Int) - 1 - t).toNat 0 - n)).set P ((ys.set ((P : Int) - 1 - t).toNat (ys.getD ((P : Int) - 1 - t).toNat 0 - n)).getD P 0 + n) else ys
theorem getD_set_ne (l : List Int) {i j : Nat} (v : Int) (h : ¬ j = i) : (l.set i v).getD j 0 = l.getD j 0 := by
  rw [List.getD_eq_getElem?_getD, List.getD_eq_getElem?_getD, List.getElem?_set_ne (fun e => h e.symm)]
theorem getD_set_eq (l : List Int) {i : Nat} (v : Int) (h : i < l.length) : (l.set i v).getD i 0 = v := by
  rw [List.getD_eq_getElem?_getD, List.getElem?_set_self h]
  rfl
theorem mvX_length (xs : List Int) (f t n : Int) : (mvX xs f t n).length = xs.length := by unfold mvX; split <;> simp
theorem mvY_length (P : Nat) (ys : List Int) (t : Int) (q : Bool) (n : Int) : (mvY P ys t q n).length = ys.length := by unfold mvY; split <;> simp
set_option maxRecDepth 8000 in
set_option maxHeartbeats 4000000 in
theorem moved_far_false (P : Nat) (f1 f2 B1 B2 : Nat) (xs ys : List Int) (w : World) (p0 : 2 ≤ P) (p1 : P ≤ 24) (n1 : xs.length = P + 1) (n2 : ys.length = P + 1) (hx : ∀ x ∈ xs, 0 ≤ x ∧ x ≤ 1000) (hyy : ∀ y ∈ ys, 0 ≤ y ∧ y ≤ 1000) (q1 : Pays f1 B1 xs w) (q2 : Pays f2 B2 ys w) (f : Nat) (td n : Int) (m0 : -1 ≤ n) (m1 : n ≤ 1) (fP : f ≤ P) (t : Nat) (tP : t < P) (hne : ¬ t = f) :
    Calls Try.prog 134 #[.agg #[.int .i64 (P : Int), fv f1 B1, fv f2 B2], stV ((f : Int), (t : Int), td, false), .int .i64 n] w (BoardMade (mvX xs f ((t : Int)) n) (mvY P ys ((t : Int)) false n) w) := by
  have hK := fun W (hW : Below w.heap.size w W) => board_any P f1 f2 B1 B2 xs ys W p1 n1 n2 (q1.below hW) (q2.below hW)
  have HB := Lib.hid hK
  obtain ⟨BT, BS, BR, hb, hzz⟩ := three_new w #[.int .i64 (P : Int), fv f1 B1, fv f2 B2] #[.int .i64 (f : Int), .int .i64 ((t : Int)), .int .i64 td, .bool false] #[.slice none 0 0, .slice none 0 0] 151 112 34
  obtain ⟨x0, x1, x2, xf, xl⟩ := BT.tri
  obtain ⟨s0, s1, s2, s3, sf, sl⟩ := BS.four
  have hft : (f : Int) < ((P + 1 : Nat) : Int) := by omega
  have hPt : (P : Int) < ((P + 1 : Nat) : Int) := by omega
  have m9 : -1000 ≤ n := by omega
  obtain ⟨u, hu⟩ : ∃ u, xs.getD f 0 = u := ⟨_, rfl⟩
  have ub := hx _ (getD_mem (show f < xs.length by omega))
  rw [hu] at ub
  have ua : 0 ≤ u := ub.1
  have uz : u ≤ 1000 := ub.2
  have hm1 : ((t : Int) != -1) = true := by simp
  have htt : (t : Int) < ((P + 1 : Nat) : Int) := by omega
  have hne3 : ¬ f = t := fun e => hne e.symm
  obtain ⟨v, hv⟩ : ∃ v, xs.getD t 0 = v := ⟨_, rfl⟩
  have vb := hx _ (getD_mem (show t < xs.length by omega))
  rw [hv] at vb
  have va : 0 ≤ v := vb.1
  have vz : v ≤ 1000 := vb.2
  obtain ⟨X, hX⟩ : ∃ X, mvX xs (f : Int) ((t : Int)) n = X := ⟨_, rfl⟩
  obtain ⟨Y, hY⟩ : ∃ Y, mvY P ys ((t : Int)) false n = Y := ⟨_, rfl⟩
  have eX : (xs.set f (u - n)).set t (v + n) = X := by
    rw [← hX]
    unfold mvX
    rw [if_neg (by omega)]
    simp only [Int.toNat_natCast]
    rw [hu, getD_set_ne xs _ hne, hv]
  have eY : ys = Y := by
    rw [← hY]
    unfold mvY
    rw [if_neg (by simp)]
  have hXl : X.length = P + 1 := by rw [← hX, mvX_length, n1]
  have hYl : Y.length = P + 1 := by rw [← hY, mvY_length, n2]
  rw [hX, hY]
  have Hu := Lib.hid hu
  have Hv := Lib.hid hv
  have EX := Lib.hid eX
  have EY := Lib.hid eY
  have HXl := Lib.hid hXl
  have HYl := Lib.hid hYl
  clear hX hY hK q1 q2 eX eY hXl hYl
  clear hu ub
  clear hv vb
  go_enter Try.func134, Try.ntmps134
  go_wp2_with (go_at_call 141; refine (HB.out _ hb).mono ?_; rintro e w1 ⟨g1, g2, rfl, gg1, gg2, R1, R2, hb1⟩; obtain ⟨x0, x1, x2, xf, xl⟩ := (BT.below hb1).tri; obtain ⟨s0, s1, s2, s3, sf, sl⟩ := (BS.below hb1).four; obtain ⟨u0, u1, uf, ul⟩ := (BR.below hb1).two; have hne1 : ¬ g1 = g2 := (by omega); have hne2 : ¬ g2 = g1 := (by omega); have fr1 := (fun i => R1.free i); have fr2 := (fun i => R2.free i); have gl1 := R1.lt; have gl2 := R2.lt; have gs := hb.size; have cu := R1.cell f (by omega); rw [Hu.out] at cu; have cv := R1.cell t (by omega); rw [Hv.out] at cv)
  refine bodyPost_ret (v := .agg #[.slice (some ⟨g1, 0, none⟩) (P + 1) (P + 1), .slice (some ⟨g2, 0, none⟩) (P + 1) (P + 1)]) (by first | (simp [results, Try.results134, go_sem, u0, u1]; done) | (simp [results, Try.results134, go_sem, *]; done)) rfl ?_
  exact ⟨g1, g2, by rw [HXl.out, HYl.out], by omega, by omega, (((((R1.set f (u - n)).set t (v + n)).other (by omega)).other (by omega)).alloc _).wf EX.out, (((((R2.other (by omega)).other (by omega)).other (by omega)).other (by omega)).alloc _).wf EY.out, ((((((chain hb hb1).setCell (by simp; omega) _).setCell (by simp; omega) _).setCell (by simp; omega) _).setCell (by simp; omega) _).alloc (by simp; omega) _)⟩
set_option maxRecDepth 8000 in
set_option maxHeartbeats 4000000 in
theorem moved_far_true (P : Nat) (f1 f2 B1 B2 : Nat) (xs ys : List Int) (w : World) (p0 : 2 ≤ P) (p1 : P ≤ 24) (n1 : xs.length = P + 1) (n2 : ys.length = P + 1) (hx : ∀ x ∈ xs, 0 ≤ x ∧ x ≤ 1000) (hyy : ∀ y ∈ ys, 0 ≤ y ∧ y ≤ 1000) (q1 : Pays f1 B1 xs w) (q2 : Pays f2 B2 ys w) (f : Nat) (td n : Int) (m0 : -1 ≤ n) (m1 : n ≤ 1) (fP : f ≤ P) (t : Nat) (tP : t < P) (hne : ¬ t = f) :
    Calls Try.prog 134 #[.agg #[.int .i64 (P : Int), fv f1 B1, fv f2 B2], stV ((f : Int), (t : Int), td, true), .int .i64 n] w (BoardMade (mvX xs f ((t : Int)) n) (mvY P ys ((t : Int)) true n) w) := by
  have hK := fun W (hW : Below w.heap.size w W) => board_any P f1 f2 B1 B2 xs ys W p1 n1 n2 (q1.below hW) (q2.below hW)
  have HB := Lib.hid hK
  obtain ⟨BT, BS, BR, hb, hzz⟩ := three_new w #[.int .i64 (P : Int), fv f1 B1, fv f2 B2] #[.int .i64 (f : Int), .int .i64 ((t : Int)), .int .i64 td, .bool true] #[.slice none 0 0, .slice none 0 0] 151 112 34
  obtain ⟨x0, x1, x2, xf, xl⟩ := BT.tri
  obtain ⟨s0, s1, s2, s3, sf, sl⟩ := BS.four
  have hft : (f : Int) < ((P + 1 : Nat) : Int) := by omega
  have hPt : (P : Int) < ((P + 1 : Nat) : Int) := by omega
  have m9 : -1000 ≤ n := by omega
  obtain ⟨u, hu⟩ : ∃ u, xs.getD f 0 = u := ⟨_, rfl⟩
  have ub := hx _ (getD_mem (show f < xs.length by omega))
  rw [hu] at ub
  have ua : 0 ≤ u := ub.1
  have uz : u ≤ 1000 := ub.2
  have hm1 : ((t : Int) != -1) = true := by simp
  have htt : (t : Int) < ((P + 1 : Nat) : Int) := by omega
  have hne3 : ¬ f = t := fun e => hne e.symm
  obtain ⟨v, hv⟩ : ∃ v, xs.getD t 0 = v := ⟨_, rfl⟩
  have vb := hx _ (getD_mem (show t < xs.length by omega))
  rw [hv] at vb
  have va : 0 ≤ v := vb.1
  have vz : v ≤ 1000 := vb.2
  obtain ⟨K, hKK⟩ : ∃ K, P - 1 - t = K := ⟨_, rfl⟩
  have eK : (P : Int) - 1 - (t : Int) = (K : Int) := by omega
  have hKP : ¬ K = P := by omega
  have hPK : ¬ P = K := by omega
  have hKt : (K : Int) < ((P + 1 : Nat) : Int) := by omega
  have wz : IntKind.i64.wrap (IntKind.i64.wrap ((P : Int) - 1) - (t : Int)) = (K : Int) := by rw [IntWalk.i64_in ((P : Int) - 1) (by omega), eK]; exact IntWalk.i64_in _ (by omega)
  obtain ⟨y, hy⟩ : ∃ y, ys.getD K 0 = y := ⟨_, rfl⟩
  have yb := hyy _ (getD_mem (show K < ys.length by omega))
  rw [hy] at yb
  have ya : 0 ≤ y := yb.1
  have yz : y ≤ 1000 := yb.2
  obtain ⟨z, hz⟩ : ∃ z, ys.getD P 0 = z := ⟨_, rfl⟩
  have zb := hyy _ (getD_mem (show P < ys.length by omega))
  rw [hz] at zb
  have za : 0 ≤ z := zb.1
  have zz : z ≤ 1000 := zb.2
  obtain ⟨X, hX⟩ : ∃ X, mvX xs (f : Int) ((t : Int)) n = X := ⟨_, rfl⟩
  obtain ⟨Y, hY⟩ : ∃ Y, mvY P ys ((t : Int)) true n = Y := ⟨_, rfl⟩
  have eX : (xs.set f (u - n)).set t (v + n) = X := by
    rw [← hX]
    unfold mvX
    rw [if_neg (by omega)]
    simp only [Int.toNat_natCast]
    rw [hu, getD_set_ne xs _ hne, hv]
  have eY : (ys.set K (y - n)).set P (z + n) = Y := by
    rw [← hY]
    unfold mvY
    rw [if_pos rfl, eK, Int.toNat_natCast, hy, getD_set_ne ys _ hPK, hz]
  have hXl : X.length = P + 1 := by rw [← hX, mvX_length, n1]
  have hYl : Y.length = P + 1 := by rw [← hY, mvY_length, n2]
  rw [hX, hY]
  have Hu := Lib.hid hu
  have Hv := Lib.hid hv
  have Hy := Lib.hid hy
  have Hz := Lib.hid hz
  have EX := Lib.hid eX
  have EY := Lib.hid eY
  have HXl := Lib.hid hXl
  have HYl := Lib.hid hYl
  clear hX hY hK q1 q2 eX eY hXl hYl
  clear hu ub
  clear hv vb
  clear hy yb
  clear hz zb
  go_enter Try.func134, Try.ntmps134
  go_wp2_with (go_at_call 141; refine (HB.out _ hb).mono ?_; rintro e w1 ⟨g1, g2, rfl, gg1, gg2, R1, R2, hb1⟩; obtain ⟨x0, x1, x2, xf, xl⟩ := (BT.below hb1).tri; obtain ⟨s0, s1, s2, s3, sf, sl⟩ := (BS.below hb1).four; obtain ⟨u0, u1, uf, ul⟩ := (BR.below hb1).two; have hne1 : ¬ g1 = g2 := (by omega); have hne2 : ¬ g2 = g1 := (by omega); have fr1 := (fun i => R1.free i); have fr2 := (fun i => R2.free i); have gl1 := R1.lt; have gl2 := R2.lt; have gs := hb.size; have cu := R1.cell f (by omega); rw [Hu.out] at cu; have cv := R1.cell t (by omega); rw [Hv.out] at cv; have cy := R2.cell K (by omega); rw [Hy.out] at cy; have cz := R2.cell P (by omega); rw [Hz.out] at cz)
  refine bodyPost_ret (v := .agg #[.slice (some ⟨g1, 0, none⟩) (P + 1) (P + 1), .slice (some ⟨g2, 0, none⟩) (P + 1) (P + 1)]) (by first | (simp [results, Try.results134, go_sem, u0, u1]; done) | (simp [results, Try.results134, go_sem, *]; done)) rfl ?_
  exact ⟨g1, g2, by rw [HXl.out, HYl.out], by omega, by omega, (((((((R1.set f (u - n)).set t (v + n)).other (by omega)).other (by omega)).other (by omega)).other (by omega)).alloc _).wf EX.out, (((((((R2.other (by omega)).other (by omega)).set K (y - n)).set P (z + n)).other (by omega)).other (by omega)).alloc _).wf EY.out, ((((((((chain hb hb1).setCell (by simp; omega) _).setCell (by simp; omega) _).setCell (by simp; omega) _).setCell (by simp; omega) _).setCell (by simp; omega) _).setCell (by simp; omega) _).alloc (by simp; omega) _)⟩
set_option maxRecDepth 8000 in
set_option maxHeartbeats 4000000 in
theorem moved_same_false (P : Nat) (f1 f2 B1 B2 : Nat) (xs ys : List Int) (w : World) (p0 : 2 ≤ P) (p1 : P ≤ 24) (n1 : xs.length = P + 1) (n2 : ys.length = P + 1) (hx : ∀ x ∈ xs, 0 ≤ x ∧ x ≤ 1000) (hyy : ∀ y ∈ ys, 0 ≤ y ∧ y ≤ 1000) (q1 : Pays f1 B1 xs w) (q2 : Pays f2 B2 ys w) (f : Nat) (td n : Int) (m0 : -1 ≤ n) (m1 : n ≤ 1) (fP : f ≤ P) (tP : f < P) :
    Calls Try.prog 134 #[.agg #[.int .i64 (P : Int), fv f1 B1, fv f2 B2], stV ((f : Int), (f : Int), td, false), .int .i64 n] w (BoardMade (mvX xs f ((f : Int)) n) (mvY P ys ((f : Int)) false n) w) := by
  have hK := fun W (hW : Below w.heap.size w W) => board_any P f1 f2 B1 B2 xs ys W p1 n1 n2 (q1.below hW) (q2.below hW)
  have HB := Lib.hid hK
  obtain ⟨BT, BS, BR, hb, hzz⟩ := three_new w #[.int .i64 (P : Int), fv f1 B1, fv f2 B2] #[.int .i64 (f : Int), .int .i64 ((f : Int)), .int .i64 td, .bool false] #[.slice none 0 0, .slice none 0 0] 151 112 34
  obtain ⟨x0, x1, x2, xf, xl⟩ := BT.tri
  obtain ⟨s0, s1, s2, s3, sf, sl⟩ := BS.four
  have hft : (f : Int) < ((P + 1 : Nat) : Int) := by omega
  have hPt : (P : Int) < ((P + 1 : Nat) : Int) := by omega
  have m9 : -1000 ≤ n := by omega
  obtain ⟨u, hu⟩ : ∃ u, xs.getD f 0 = u := ⟨_, rfl⟩
  have ub := hx _ (getD_mem (show f < xs.length by omega))
  rw [hu] at ub
  have ua : 0 ≤ u := ub.1
  have uz : u ≤ 1000 := ub.2
  have hm1 : ((f : Int) != -1) = true := by simp
  have htt : (f : Int) < ((P + 1 : Nat) : Int) := by omega
  obtain ⟨X, hX⟩ : ∃ X, mvX xs (f : Int) ((f : Int)) n = X := ⟨_, rfl⟩
  obtain ⟨Y, hY⟩ : ∃ Y, mvY P ys ((f : Int)) false n = Y := ⟨_, rfl⟩
  have eX : (xs.set f (u - n)).set f u = X := by
    rw [← hX]
    unfold mvX
    rw [if_neg (by omega)]
    simp only [Int.toNat_natCast]
    rw [hu, getD_set_eq xs _ (by omega), show u - n + n = u by omega]
  have eY : ys = Y := by
    rw [← hY]
    unfold mvY
    rw [if_neg (by simp)]
  have hXl : X.length = P + 1 := by rw [← hX, mvX_length, n1]
  have hYl : Y.length = P + 1 := by rw [← hY, mvY_length, n2]
  rw [hX, hY]
  have Hu := Lib.hid hu
  have EX := Lib.hid eX
  have EY := Lib.hid eY
  have HXl := Lib.hid hXl
  have HYl := Lib.hid hYl
  clear hX hY hK q1 q2 eX eY hXl hYl
  clear hu ub
  go_enter Try.func134, Try.ntmps134
  go_wp2_with (go_at_call 141; refine (HB.out _ hb).mono ?_; rintro e w1 ⟨g1, g2, rfl, gg1, gg2, R1, R2, hb1⟩; obtain ⟨x0, x1, x2, xf, xl⟩ := (BT.below hb1).tri; obtain ⟨s0, s1, s2, s3, sf, sl⟩ := (BS.below hb1).four; obtain ⟨u0, u1, uf, ul⟩ := (BR.below hb1).two; have hne1 : ¬ g1 = g2 := (by omega); have hne2 : ¬ g2 = g1 := (by omega); have fr1 := (fun i => R1.free i); have fr2 := (fun i => R2.free i); have gl1 := R1.lt; have gl2 := R2.lt; have gs := hb.size; have cu := R1.cell f (by omega); rw [Hu.out] at cu)
  refine bodyPost_ret (v := .agg #[.slice (some ⟨g1, 0, none⟩) (P + 1) (P + 1), .slice (some ⟨g2, 0, none⟩) (P + 1) (P + 1)]) (by first | (simp [results, Try.results134, go_sem, u0, u1]; done) | (simp [results, Try.results134, go_sem, *]; done)) rfl ?_
  exact ⟨g1, g2, by rw [HXl.out, HYl.out], by omega, by omega, (((((R1.set f (u - n)).set f u).other (by omega)).other (by omega)).alloc _).wf EX.out, (((((R2.other (by omega)).other (by omega)).other (by omega)).other (by omega)).alloc _).wf EY.out, ((((((chain hb hb1).setCell (by simp; omega) _).setCell (by simp; omega) _).setCell (by simp; omega) _).setCell (by simp; omega) _).alloc (by simp; omega) _)⟩
set_option maxRecDepth 8000 in
set_option maxHeartbeats 4000000 in
theorem moved_same_true (P : Nat) (f1 f2 B1 B2 : Nat) (xs ys : List Int) (w : World) (p0 : 2 ≤ P) (p1 : P ≤ 24) (n1 : xs.length = P + 1) (n2 : ys.length = P + 1) (hx : ∀ x ∈ xs, 0 ≤ x ∧ x ≤ 1000) (hyy : ∀ y ∈ ys, 0 ≤ y ∧ y ≤ 1000) (q1 : Pays f1 B1 xs w) (q2 : Pays f2 B2 ys w) (f : Nat) (td n : Int) (m0 : -1 ≤ n) (m1 : n ≤ 1) (fP : f ≤ P) (tP : f < P) :
    Calls Try.prog 134 #[.agg #[.int .i64 (P : Int), fv f1 B1, fv f2 B2], stV ((f : Int), (f : Int), td, true), .int .i64 n] w (BoardMade (mvX xs f ((f : Int)) n) (mvY P ys ((f : Int)) true n) w) := by
  have hK := fun W (hW : Below w.heap.size w W) => board_any P f1 f2 B1 B2 xs ys W p1 n1 n2 (q1.below hW) (q2.below hW)
  have HB := Lib.hid hK
  obtain ⟨BT, BS, BR, hb, hzz⟩ := three_new w #[.int .i64 (P : Int), fv f1 B1, fv f2 B2] #[.int .i64 (f : Int), .int .i64 ((f : Int)), .int .i64 td, .bool true] #[.slice none 0 0, .slice none 0 0] 151 112 34
  obtain ⟨x0, x1, x2, xf, xl⟩ := BT.tri
  obtain ⟨s0, s1, s2, s3, sf, sl⟩ := BS.four
  have hft : (f : Int) < ((P + 1 : Nat) : Int) := by omega
  have hPt : (P : Int) < ((P + 1 : Nat) : Int) := by omega
  have m9 : -1000 ≤ n := by omega
  obtain ⟨u, hu⟩ : ∃ u, xs.getD f 0 = u := ⟨_, rfl⟩
  have ub := hx _ (getD_mem (show f < xs.length by omega))
  rw [hu] at ub
  have ua : 0 ≤ u := ub.1
  have uz : u ≤ 1000 := ub.2
  have hm1 : ((f : Int) != -1) = true := by simp
  have htt : (f : Int) < ((P + 1 : Nat) : Int) := by omega
  obtain ⟨K, hKK⟩ : ∃ K, P - 1 - f = K := ⟨_, rfl⟩
  have eK : (P : Int) - 1 - (f : Int) = (K : Int) := by omega
  have hKP : ¬ K = P := by omega
  have hPK : ¬ P = K := by omega
  have hKt : (K : Int) < ((P + 1 : Nat) : Int) := by omega
  have wz : IntKind.i64.wrap (IntKind.i64.wrap ((P : Int) - 1) - (f : Int)) = (K : Int) := by rw [IntWalk.i64_in ((P : Int) - 1) (by omega), eK]; exact IntWalk.i64_in _ (by omega)
  obtain ⟨y, hy⟩ : ∃ y, ys.getD K 0 = y := ⟨_, rfl⟩
  have yb := hyy _ (getD_mem (show K < ys.length by omega))
  rw [hy] at yb
  have ya : 0 ≤ y := yb.1
  have yz : y ≤ 1000 := yb.2
  obtain ⟨z, hz⟩ : ∃ z, ys.getD P 0 = z := ⟨_, rfl⟩
  have zb := hyy _ (getD_mem (show P < ys.length by omega))
  rw [hz] at zb
  have za : 0 ≤ z := zb.1
  have zz : z ≤ 1000 := zb.2
  obtain ⟨X, hX⟩ : ∃ X, mvX xs (f : Int) ((f : Int)) n = X := ⟨_, rfl⟩
  obtain ⟨Y, hY⟩ : ∃ Y, mvY P ys ((f : Int)) true n = Y := ⟨_, rfl⟩
  have eX : (xs.set f (u - n)).set f u = X := by
    rw [← hX]
    unfold mvX
    rw [if_neg (by omega)]
    simp only [Int.toNat_natCast]
    rw [hu, getD_set_eq xs _ (by omega), show u - n + n = u by omega]
  have eY : (ys.set K (y - n)).set P (z + n) = Y := by
    rw [← hY]
    unfold mvY
    rw [if_pos rfl, eK, Int.toNat_natCast, hy, getD_set_ne ys _ hPK, hz]
  have hXl : X.length = P + 1 := by rw [← hX, mvX_length, n1]
  have hYl : Y.length = P + 1 := by rw [← hY, mvY_length, n2]
  rw [hX, hY]
  have Hu := Lib.hid hu
  have Hy := Lib.hid hy
  have Hz := Lib.hid hz
  have EX := Lib.hid eX
  have EY := Lib.hid eY
  have HXl := Lib.hid hXl
  have HYl := Lib.hid hYl
  clear hX hY hK q1 q2 eX eY hXl hYl
  clear hu ub
  clear hy yb
  clear hz zb
  go_enter Try.func134, Try.ntmps134
  go_wp2_with (go_at_call 141; refine (HB.out _ hb).mono ?_; rintro e w1 ⟨g1, g2, rfl, gg1, gg2, R1, R2, hb1⟩; obtain ⟨x0, x1, x2, xf, xl⟩ := (BT.below hb1).tri; obtain ⟨s0, s1, s2, s3, sf, sl⟩ := (BS.below hb1).four; obtain ⟨u0, u1, uf, ul⟩ := (BR.below hb1).two; have hne1 : ¬ g1 = g2 := (by omega); have hne2 : ¬ g2 = g1 := (by omega); have fr1 := (fun i => R1.free i); have fr2 := (fun i => R2.free i); have gl1 := R1.lt; have gl2 := R2.lt; have gs := hb.size; have cu := R1.cell f (by omega); rw [Hu.out] at cu; have cy := R2.cell K (by omega); rw [Hy.out] at cy; have cz := R2.cell P (by omega); rw [Hz.out] at cz)
  refine bodyPost_ret (v := .agg #[.slice (some ⟨g1, 0, none⟩) (P + 1) (P + 1), .slice (some ⟨g2, 0, none⟩) (P + 1) (P + 1)]) (by first | (simp [results, Try.results134, go_sem, u0, u1]; done) | (simp [results, Try.results134, go_sem, *]; done)) rfl ?_
  exact ⟨g1, g2, by rw [HXl.out, HYl.out], by omega, by omega, (((((((R1.set f (u - n)).set f u).other (by omega)).other (by omega)).other (by omega)).other (by omega)).alloc _).wf EX.out, (((((((R2.other (by omega)).other (by omega)).set K (y - n)).set P (z + n)).other (by omega)).other (by omega)).alloc _).wf EY.out, ((((((((chain hb hb1).setCell (by simp; omega) _).setCell (by simp; omega) _).setCell (by simp; omega) _).setCell (by simp; omega) _).setCell (by simp; omega) _).setCell (by simp; omega) _).alloc (by simp; omega) _)⟩
set_option maxRecDepth 8000 in
set_option maxHeartbeats 4000000 in
theorem moved_off_false (P : Nat) (f1 f2 B1 B2 : Nat) (xs ys : List Int) (w : World) (p0 : 2 ≤ P) (p1 : P ≤ 24) (n1 : xs.length = P + 1) (n2 : ys.length = P + 1) (hx : ∀ x ∈ xs, 0 ≤ x ∧ x ≤ 1000) (hyy : ∀ y ∈ ys, 0 ≤ y ∧ y ≤ 1000) (q1 : Pays f1 B1 xs w) (q2 : Pays f2 B2 ys w) (f : Nat) (td n : Int) (m0 : -1 ≤ n) (m1 : n ≤ 1) (fP : f ≤ P)  :
    Calls Try.prog 134 #[.agg #[.int .i64 (P : Int), fv f1 B1, fv f2 B2], stV ((f : Int), -1, td, false), .int .i64 n] w (BoardMade (mvX xs f (-1) n) (mvY P ys (-1) false n) w) := by
  have hK := fun W (hW : Below w.heap.size w W) => board_any P f1 f2 B1 B2 xs ys W p1 n1 n2 (q1.below hW) (q2.below hW)
  have HB := Lib.hid hK
  obtain ⟨BT, BS, BR, hb, hzz⟩ := three_new w #[.int .i64 (P : Int), fv f1 B1, fv f2 B2] #[.int .i64 (f : Int), .int .i64 (-1), .int .i64 td, .bool false] #[.slice none 0 0, .slice none 0 0] 151 112 34
  obtain ⟨x0, x1, x2, xf, xl⟩ := BT.tri
  obtain ⟨s0, s1, s2, s3, sf, sl⟩ := BS.four
  have hft : (f : Int) < ((P + 1 : Nat) : Int) := by omega
  have hPt : (P : Int) < ((P + 1 : Nat) : Int) := by omega
  have m9 : -1000 ≤ n := by omega
  obtain ⟨u, hu⟩ : ∃ u, xs.getD f 0 = u := ⟨_, rfl⟩
  have ub := hx _ (getD_mem (show f < xs.length by omega))
  rw [hu] at ub
  have ua : 0 ≤ u := ub.1
  have uz : u ≤ 1000 := ub.2
  obtain ⟨X, hX⟩ : ∃ X, mvX xs (f : Int) (-1) n = X := ⟨_, rfl⟩
  obtain ⟨Y, hY⟩ : ∃ Y, mvY P ys (-1) false n = Y := ⟨_, rfl⟩
  have eX : xs.set f (u - n) = X := by
    rw [← hX]
    unfold mvX
    rw [if_pos rfl]
    simp only [Int.toNat_natCast]
    rw [hu]
  have eY : ys = Y := by
    rw [← hY]
    unfold mvY
    rw [if_neg (by simp)]
  have hXl : X.length = P + 1 := by rw [← hX, mvX_length, n1]
  have hYl : Y.length = P + 1 := by rw [← hY, mvY_length, n2]
  rw [hX, hY]
  have Hu := Lib.hid hu
  have EX := Lib.hid eX
  have EY := Lib.hid eY
  have HXl := Lib.hid hXl
  have HYl := Lib.hid hYl
  clear hX hY hK q1 q2 eX eY hXl hYl
  clear hu ub
  go_enter Try.func134, Try.ntmps134
  go_wp2_with (go_at_call 141; refine (HB.out _ hb).mono ?_; rintro e w1 ⟨g1, g2, rfl, gg1, gg2, R1, R2, hb1⟩; obtain ⟨x0, x1, x2, xf, xl⟩ := (BT.below hb1).tri; obtain ⟨s0, s1, s2, s3, sf, sl⟩ := (BS.below hb1).four; obtain ⟨u0, u1, uf, ul⟩ := (BR.below hb1).two; have hne1 : ¬ g1 = g2 := (by omega); have hne2 : ¬ g2 = g1 := (by omega); have fr1 := (fun i => R1.free i); have fr2 := (fun i => R2.free i); have gl1 := R1.lt; have gl2 := R2.lt; have gs := hb.size; have cu := R1.cell f (by omega); rw [Hu.out] at cu)
  refine bodyPost_ret (v := .agg #[.slice (some ⟨g1, 0, none⟩) (P + 1) (P + 1), .slice (some ⟨g2, 0, none⟩) (P + 1) (P + 1)]) (by first | (simp [results, Try.results134, go_sem, u0, u1]; done) | (simp [results, Try.results134, go_sem, *]; done)) rfl ?_
  exact ⟨g1, g2, by rw [HXl.out, HYl.out], by omega, by omega, ((((R1.set f (u - n)).other (by omega)).other (by omega)).alloc _).wf EX.out, ((((R2.other (by omega)).other (by omega)).other (by omega)).alloc _).wf EY.out, (((((chain hb hb1).setCell (by simp; omega) _).setCell (by simp; omega) _).setCell (by simp; omega) _).alloc (by simp; omega) _)⟩
set_option maxRecDepth 8000 in
set_option maxHeartbeats 4000000 in
theorem moved_off_true (P : Nat) (f1 f2 B1 B2 : Nat) (xs ys : List Int) (w : World) (p0 : 2 ≤ P) (p1 : P ≤ 24) (n1 : xs.length = P + 1) (n2 : ys.length = P + 1) (hx : ∀ x ∈ xs, 0 ≤ x ∧ x ≤ 1000) (hyy : ∀ y ∈ ys, 0 ≤ y ∧ y ≤ 1000) (q1 : Pays f1 B1 xs w) (q2 : Pays f2 B2 ys w) (f : Nat) (td n : Int) (m0 : -1 ≤ n) (m1 : n ≤ 1) (fP : f ≤ P)  :
    Calls Try.prog 134 #[.agg #[.int .i64 (P : Int), fv f1 B1, fv f2 B2], stV ((f : Int), -1, td, true), .int .i64 n] w (BoardMade (mvX xs f (-1) n) (mvY P ys (-1) true n) w) := by
  have hK := fun W (hW : Below w.heap.size w W) => board_any P f1 f2 B1 B2 xs ys W p1 n1 n2 (q1.below hW) (q2.below hW)
  have HB := Lib.hid hK
  obtain ⟨BT, BS, BR, hb, hzz⟩ := three_new w #[.int .i64 (P : Int), fv f1 B1, fv f2 B2] #[.int .i64 (f : Int), .int .i64 (-1), .int .i64 td, .bool true] #[.slice none 0 0, .slice none 0 0] 151 112 34
  obtain ⟨x0, x1, x2, xf, xl⟩ := BT.tri
  obtain ⟨s0, s1, s2, s3, sf, sl⟩ := BS.four
  have hft : (f : Int) < ((P + 1 : Nat) : Int) := by omega
  have hPt : (P : Int) < ((P + 1 : Nat) : Int) := by omega
  have m9 : -1000 ≤ n := by omega
  obtain ⟨u, hu⟩ : ∃ u, xs.getD f 0 = u := ⟨_, rfl⟩
  have ub := hx _ (getD_mem (show f < xs.length by omega))
  rw [hu] at ub
  have ua : 0 ≤ u := ub.1
  have uz : u ≤ 1000 := ub.2
  obtain ⟨z, hz⟩ : ∃ z, ys.getD P 0 = z := ⟨_, rfl⟩
  have zb := hyy _ (getD_mem (show P < ys.length by omega))
  rw [hz] at zb
  have za : 0 ≤ z := zb.1
  have zz : z ≤ 1000 := zb.2
  have eP : (P : Int) - 1 - -1 = (P : Int) := by omega
  obtain ⟨X, hX⟩ : ∃ X, mvX xs (f : Int) (-1) n = X := ⟨_, rfl⟩
  obtain ⟨Y, hY⟩ : ∃ Y, mvY P ys (-1) true n = Y := ⟨_, rfl⟩
  have eX : xs.set f (u - n) = X := by
    rw [← hX]
    unfold mvX
    rw [if_pos rfl]
    simp only [Int.toNat_natCast]
    rw [hu]
  have eY : (ys.set P (z - n)).set P z = Y := by
    rw [← hY]
    unfold mvY
    rw [if_pos rfl, show ((P : Int) - 1 - -1).toNat = P by omega, hz, getD_set_eq ys _ (by omega), show z - n + n = z by omega]
  have hXl : X.length = P + 1 := by rw [← hX, mvX_length, n1]
  have hYl : Y.length = P + 1 := by rw [← hY, mvY_length, n2]
  rw [hX, hY]
  have Hu := Lib.hid hu
  have Hz := Lib.hid hz
  have EX := Lib.hid eX
  have EY := Lib.hid eY
  have HXl := Lib.hid hXl
  have HYl := Lib.hid hYl
  clear hX hY hK q1 q2 eX eY hXl hYl
  clear hu ub
  clear hz zb
  go_enter Try.func134, Try.ntmps134
  go_wp2_with (go_at_call 141; refine (HB.out _ hb).mono ?_; rintro e w1 ⟨g1, g2, rfl, gg1, gg2, R1, R2, hb1⟩; obtain ⟨x0, x1, x2, xf, xl⟩ := (BT.below hb1).tri; obtain ⟨s0, s1, s2, s3, sf, sl⟩ := (BS.below hb1).four; obtain ⟨u0, u1, uf, ul⟩ := (BR.below hb1).two; have hne1 : ¬ g1 = g2 := (by omega); have hne2 : ¬ g2 = g1 := (by omega); have fr1 := (fun i => R1.free i); have fr2 := (fun i => R2.free i); have gl1 := R1.lt; have gl2 := R2.lt; have gs := hb.size; have cu := R1.cell f (by omega); rw [Hu.out] at cu; have cz := R2.cell P (by omega); rw [Hz.out] at cz)
  refine bodyPost_ret (v := .agg #[.slice (some ⟨g1, 0, none⟩) (P + 1) (P + 1), .slice (some ⟨g2, 0, none⟩) (P + 1) (P + 1)]) (by first | (simp [results, Try.results134, go_sem, u0, u1]; done) | (simp [results, Try.results134, go_sem, *]; done)) rfl ?_
  exact ⟨g1, g2, by rw [HXl.out, HYl.out], by omega, by omega, ((((((R1.set f (u - n)).other (by omega)).other (by omega)).other (by omega)).other (by omega)).alloc _).wf EX.out, ((((((R2.other (by omega)).set P (z - n)).set P z).other (by omega)).other (by omega)).alloc _).wf EY.out, (((((((chain hb hb1).setCell (by simp; omega) _).setCell (by simp; omega) _).setCell (by simp; omega) _).setCell (by simp; omega) _).setCell (by simp; omega) _).alloc (by simp; omega) _)⟩
end Go.Proofs.Ytokjkcnjmfbfiaa
