/- Texts of a proof, laid together. -/
import Derived.Test.YtciljbnailobgaaGreatV05
import Derived.Test.YtciljbnailobgaaGreatV02
import Derived.Test.YtciljbnailobgaaGreatV04
import Derived.ArgAppend
namespace Go.Proofs.YtciljbnailobgaaGreat
open Go.ChangeShapes Go.WideShapes Go.ChangeAt Go.RowKit
set_option linter.unusedVariables false
set_option linter.unusedSimpArgs false
set_option maxRecDepth 4000
def mvX (xs : List Int) (f t n : Int) : List Int := if t = -1 then xs.set f.toNat (xs.getD f.toNat 0 - n) else (xs.set f.toNat (xs.getD f.toNat 0 - n)).set t.toNat ((xs.set f.toNat (xs.getD f.toNat 0 - n)).getD t.toNat 0 + n)
def mvY (P : Nat) (ys : List Int) (t : Int) (q : Bool) (n : Int) : List Int :=
  if q = true then (ys.set ((P : Int) - 1 - t).toNat (ys.getD ((P : Int) - 1 - t).toNat 0 - n)).set P ((ys.set ((P : Int) - 1 - t).toNat (ys.getD ((P : Int) - 1 - t).toNat 0 - n)).getD P 0 + n) else ys
theorem getD_set_ne (l : List Int) {i j : Nat} (v : Int) (h : ¬ j = i) : (l.set i v).getD j 0 = l.getD j 0 := by
  rw [List.getD_eq_getElem?_getD, List.getD_eq_getElem?_getD, List.getElem?_set_ne (fun e => h e.symm)]
theorem getD_set_eq (l : List Int) {i : Nat} (v : Int) (h : i < l.length) : (l.set i v).getD i 0 = v := by
  rw [List.getD_eq_getElem?_getD, List.getElem?_set_self h]
  rfl
theorem mvX_length (xs : List Int) (f t n : Int) : (mvX xs f t n).length = xs.length := by unfold mvX; split <;> simp
theorem mvY_length (P : Nat) (ys : List Int) (t : Int) (q : Bool) (n : Int) : (mvY P ys t q n).length = ys.length := by unfold mvY; split <;> simp
set_option maxRecDepth 8000 in
set_option maxHeartbeats 4000000 in
theorem moved_far_false (P : Nat) (f1 f2 B1 B2 : Nat) (xs ys : List Int) (w : World) (p0 : 2 ≤ P) (p1 : P ≤ 24) (n1 : xs.length = P + 1) (n2 : ys.length = P + 1) (hx : ∀ x ∈ xs, 0 ≤ x ∧ x ≤ 1000) (hyy : ∀ y ∈ ys, 0 ≤ y ∧ y ≤ 1000) (q1 : Pays f1 B1 xs w) (q2 : Pays f2 B2 ys w) (f : Nat) (td n : Int) (m0 : -1 ≤ n) (m1 : n ≤ 1) (fP : f ≤ P) (t : Nat) (tP : t < P) (hne : ¬ t = f) :
    Calls Tryz.prog 60 #[.agg #[.int .i64 (P : Int), fv f1 B1, fv f2 B2], stV ((f : Int), (t : Int), td, false), .int .i64 n] w (BoardMade (mvX xs f ((t : Int)) n) (mvY P ys ((t : Int)) false n) w) := by
  have hK := fun W (hW : Below w.heap.size w W) => board_any P f1 f2 B1 B2 xs ys W p1 n1 n2 (q1.below hW) (q2.below hW)
  have HB := Lib.hid hK
  obtain ⟨BT, BS, BR, hb, hzz⟩ := three_new w #[.int .i64 (P : Int), fv f1 B1, fv f2 B2] #[.int .i64 (f : Int), .int .i64 ((t : Int)), .int .i64 td, .bool false] #[.slice none 0 0, .slice none 0 0] 109 55 28
  obtain ⟨x0, x1, x2, xf, xl⟩ := BT.tri
  obtain ⟨s0, s1, s2, s3, sf, sl⟩ := BS.four
  have hft : (f : Int) < ((P + 1 : Nat) : Int) := by omega
  have hPt : (P : Int) < ((P + 1 : Nat) : Int) := by omega
  have m9 : -1000 ≤ n := by omega
  obtain ⟨u, hu⟩ : ∃ u, xs.getD f 0 = u := ⟨_, rfl⟩
  have ub := hx _ (getD_mem (show f < xs.length by omega))
  rw [hu] at ub
  have ua : 0 ≤ u := ub.1
  have uz : u ≤ 1000 := ub.2
  have hm1 : ((t : Int) != -1) = true := by simp
  have htt : (t : Int) < ((P + 1 : Nat) : Int) := by omega
  have hne3 : ¬ f = t := fun e => hne e.symm
  obtain ⟨v, hv⟩ : ∃ v, xs.getD t 0 = v := ⟨_, rfl⟩
  have vb := hx _ (getD_mem (show t < xs.length by omega))
  rw [hv] at vb
  have va : 0 ≤ v := vb.1
  have vz : v ≤ 1000 := vb.2
  obtain ⟨X, hX⟩ : ∃ X, mvX xs (f : Int) ((t : Int)) n = X := ⟨_, rfl⟩
  obtain ⟨Y, hY⟩ : ∃ Y, mvY P ys ((t : Int)) false n = Y := ⟨_, rfl⟩
  have eX : (xs.set f (u - n)).set t (v + n) = X := by
    rw [← hX]
    unfold mvX
    rw [if_neg (by omega)]
    simp only [Int.toNat_natCast]
    rw [hu, getD_set_ne xs _ hne, hv]
  have eY : ys = Y := by
    rw [← hY]
    unfold mvY
    rw [if_neg (by simp)]
  have hXl : X.length = P + 1 := by rw [← hX, mvX_length, n1]
  have hYl : Y.length = P + 1 := by rw [← hY, mvY_length, n2]
  rw [hX, hY]
  have Hu := Lib.hid hu
  have Hv := Lib.hid hv
  have EX := Lib.hid eX
  have EY := Lib.hid eY
  have HXl := Lib.hid hXl
  have HYl := Lib.hid hYl
  clear hX hY hK q1 q2 eX eY hXl hYl
  clear hu ub
  clear hv vb
  go_enter Tryz.func60, Tryz.ntmps60
  go_wp2_with (go_at_call 93; refine (HB.out _ hb).mono ?_; rintro e w1 ⟨g1, g2, rfl, gg1, gg2, R1, R2, hb1⟩; obtain ⟨x0, x1, x2, xf, xl⟩ := (BT.below hb1).tri; obtain ⟨s0, s1, s2, s3, sf, sl⟩ := (BS.below hb1).four; obtain ⟨u0, u1, uf, ul⟩ := (BR.below hb1).two; have hne1 : ¬ g1 = g2 := (by omega); have hne2 : ¬ g2 = g1 := (by omega); have fr1 := (fun i => R1.free i); have fr2 := (fun i => R2.free i); have gl1 := R1.lt; have gl2 := R2.lt; have gs := hb.size; have cu := R1.cell f (by omega); rw [Hu.out] at cu; have cv := R1.cell t (by omega); rw [Hv.out] at cv)
  refine bodyPost_ret (v := .agg #[.slice (some ⟨g1, 0, none⟩) (P + 1) (P + 1), .slice (some ⟨g2, 0, none⟩) (P + 1) (P + 1)]) (by first | (simp [results, Tryz.results60, go_sem, u0, u1]; done) | (simp [results, Tryz.results60, go_sem, *]; done)) rfl ?_
  exact ⟨g1, g2, by rw [HXl.out, HYl.out], by omega, by omega, (((((R1.set f (u - n)).set t (v + n)).other (by omega)).other (by omega)).alloc _).wf EX.out, (((((R2.other (by omega)).other (by omega)).other (by omega)).other (by omega)).alloc _).wf EY.out, ((((((chain hb hb1).setCell (by simp; omega) _).setCell (by simp; omega) _).setCell (by simp; omega) _).setCell (by simp; omega) _).alloc (by simp; omega) _)⟩
set_option maxRecDepth 8000 in
set_option maxHeartbeats 4000000 in
theorem moved_far_true (P : Nat) (f1 f2 B1 B2 : Nat) (xs ys : List Int) (w : World) (p0 : 2 ≤ P) (p1 : P ≤ 24) (n1 : xs.length = P + 1) (n2 : ys.length = P + 1) (hx : ∀ x ∈ xs, 0 ≤ x ∧ x ≤ 1000) (hyy : ∀ y ∈ ys, 0 ≤ y ∧ y ≤ 1000) (q1 : Pays f1 B1 xs w) (q2 : Pays f2 B2 ys w) (f : Nat) (td n : Int) (m0 : -1 ≤ n) (m1 : n ≤ 1) (fP : f ≤ P) (t : Nat) (tP : t < P) (hne : ¬ t = f) :
    Calls Tryz.prog 60 #[.agg #[.int .i64 (P : Int), fv f1 B1, fv f2 B2], stV ((f : Int), (t : Int), td, true), .int .i64 n] w (BoardMade (mvX xs f ((t : Int)) n) (mvY P ys ((t : Int)) true n) w) := by
  have hK := fun W (hW : Below w.heap.size w W) => board_any P f1 f2 B1 B2 xs ys W p1 n1 n2 (q1.below hW) (q2.below hW)
  have HB := Lib.hid hK
  obtain ⟨BT, BS, BR, hb, hzz⟩ := three_new w #[.int .i64 (P : Int), fv f1 B1, fv f2 B2] #[.int .i64 (f : Int), .int .i64 ((t : Int)), .int .i64 td, .bool true] #[.slice none 0 0, .slice none 0 0] 109 55 28
  obtain ⟨x0, x1, x2, xf, xl⟩ := BT.tri
  obtain ⟨s0, s1, s2, s3, sf, sl⟩ := BS.four
  have hft : (f : Int) < ((P + 1 : Nat) : Int) := by omega
  have hPt : (P : Int) < ((P + 1 : Nat) : Int) := by omega
  have m9 : -1000 ≤ n := by omega
  obtain ⟨u, hu⟩ : ∃ u, xs.getD f 0 = u := ⟨_, rfl⟩
  have ub := hx _ (getD_mem (show f < xs.length by omega))
  rw [hu] at ub
  have ua : 0 ≤ u := ub.1
  have uz : u ≤ 1000 := ub.2
  have hm1 : ((t : Int) != -1) = true := by simp
  have htt : (t : Int) < ((P + 1 : Nat) : Int) := by omega
  have hne3 : ¬ f = t := fun e => hne e.symm
  obtain ⟨v, hv⟩ : ∃ v, xs.getD t 0 = v := ⟨_, rfl⟩
  have vb := hx _ (getD_mem (show t < xs.length by omega))
  rw [hv] at vb
  have va : 0 ≤ v := vb.1
  have vz : v ≤ 1000 := vb.2
  obtain ⟨K, hKK⟩ : ∃ K, P - 1 - t = K := ⟨_, rfl⟩
  have eK : (P : Int) - 1 - (t : Int) = (K : Int) := by omega
  have hKP : ¬ K = P := by omega
  have hPK : ¬ P = K := by omega
  have hKt : (K : Int) < ((P + 1 : Nat) : Int) := by omega
  have wz : IntKind.i64.wrap (IntKind.i64.wrap ((P : Int) - 1) - (t : Int)) = (K : Int) := by rw [IntWalk.i64_in ((P : Int) - 1) (by omega), eK]; exact IntWalk.i64_in _ (by omega)
  obtain ⟨y, hy⟩ : ∃ y, ys.getD K 0 = y := ⟨_, rfl⟩
  have yb := hyy _ (getD_mem (show K < ys.length by omega))
  rw [hy] at yb
  have ya : 0 ≤ y := yb.1
  have yz : y ≤ 1000 := yb.2
  obtain ⟨z, hz⟩ : ∃ z, ys.getD P 0 = z := ⟨_, rfl⟩
  have zb := hyy _ (getD_mem (show P < ys.length by omega))
  rw [hz] at zb
  have za : 0 ≤ z := zb.1
  have zz : z ≤ 1000 := zb.2
  obtain ⟨X, hX⟩ : ∃ X, mvX xs (f : Int) ((t : Int)) n = X := ⟨_, rfl⟩
  obtain ⟨Y, hY⟩ : ∃ Y, mvY P ys ((t : Int)) true n = Y := ⟨_, rfl⟩
  have eX : (xs.set f (u - n)).set t (v + n) = X := by
    rw [← hX]
    unfold mvX
    rw [if_neg (by omega)]
    simp only [Int.toNat_natCast]
    rw [hu, getD_set_ne xs _ hne, hv]
  have eY : (ys.set K (y - n)).set P (z + n) = Y := by
    rw [← hY]
    unfold mvY
    rw [if_pos rfl, eK, Int.toNat_natCast, hy, getD_set_ne ys _ hPK, hz]
  have hXl : X.length = P + 1 := by rw [← hX, mvX_length, n1]
  have hYl : Y.length = P + 1 := by rw [← hY, mvY_length, n2]
  rw [hX, hY]
  have Hu := Lib.hid hu
  have Hv := Lib.hid hv
  have Hy := Lib.hid hy
  have Hz := Lib.hid hz
  have EX := Lib.hid eX
  have EY := Lib.hid eY
  have HXl := Lib.hid hXl
  have HYl := Lib.hid hYl
  clear hX hY hK q1 q2 eX eY hXl hYl
  clear hu ub
  clear hv vb
  clear hy yb
  clear hz zb
  go_enter Tryz.func60, Tryz.ntmps60
  go_wp2_with (go_at_call 93; refine (HB.out _ hb).mono ?_; rintro e w1 ⟨g1, g2, rfl, gg1, gg2, R1, R2, hb1⟩; obtain ⟨x0, x1, x2, xf, xl⟩ := (BT.below hb1).tri; obtain ⟨s0, s1, s2, s3, sf, sl⟩ := (BS.below hb1).four; obtain ⟨u0, u1, uf, ul⟩ := (BR.below hb1).two; have hne1 : ¬ g1 = g2 := (by omega); have hne2 : ¬ g2 = g1 := (by omega); have fr1 := (fun i => R1.free i); have fr2 := (fun i => R2.free i); have gl1 := R1.lt; have gl2 := R2.lt; have gs := hb.size; have cu := R1.cell f (by omega); rw [Hu.out] at cu; have cv := R1.cell t (by omega); rw [Hv.out] at cv; have cy := R2.cell K (by omega); rw [Hy.out] at cy; have cz := R2.cell P (by omega); rw [Hz.out] at cz)
  refine bodyPost_ret (v := .agg #[.slice (some ⟨g1, 0, none⟩) (P + 1) (P + 1), .slice (some ⟨g2, 0, none⟩) (P + 1) (P + 1)]) (by first | (simp [results, Tryz.results60, go_sem, u0, u1]; done) | (simp [results, Tryz.results60, go_sem, *]; done)) rfl ?_
  exact ⟨g1, g2, by rw [HXl.out, HYl.out], by omega, by omega, (((((((R1.set f (u - n)).set t (v + n)).other (by omega)).other (by omega)).other (by omega)).other (by omega)).alloc _).wf EX.out, (((((((R2.other (by omega)).other (by omega)).set K (y - n)).set P (z + n)).other (by omega)).other (by omega)).alloc _).wf EY.out, ((((((((chain hb hb1).setCell (by simp; omega) _).setCell (by simp; omega) _).setCell (by simp; omega) _).setCell (by simp; omega) _).setCell (by simp; omega) _).setCell (by simp; omega) _).alloc (by simp; omega) _)⟩
set_option maxRecDepth 8000 in
set_option maxHeartbeats 4000000 in
theorem moved_same_false (P : Nat) (f1 f2 B1 B2 : Nat) (xs ys : List Int) (w : World) (p0 : 2 ≤ P) (p1 : P ≤ 24) (n1 : xs.length = P + 1) (n2 : ys.length = P + 1) (hx : ∀ x ∈ xs, 0 ≤ x ∧ x ≤ 1000) (hyy : ∀ y ∈ ys, 0 ≤ y ∧ y ≤ 1000) (q1 : Pays f1 B1 xs w) (q2 : Pays f2 B2 ys w) (f : Nat) (td n : Int) (m0 : -1 ≤ n) (m1 : n ≤ 1) (fP : f ≤ P) (tP : f < P) :
    Calls Tryz.prog 60 #[.agg #[.int .i64 (P : Int), fv f1 B1, fv f2 B2], stV ((f : Int), (f : Int), td, false), .int .i64 n] w (BoardMade (mvX xs f ((f : Int)) n) (mvY P ys ((f : Int)) false n) w) := by
  have hK := fun W (hW : Below w.heap.size w W) => board_any P f1 f2 B1 B2 xs ys W p1 n1 n2 (q1.below hW) (q2.below hW)
  have HB := Lib.hid hK
  obtain ⟨BT, BS, BR, hb, hzz⟩ := three_new w #[.int .i64 (P : Int), fv f1 B1, fv f2 B2] #[.int .i64 (f : Int), .int .i64 ((f : Int)), .int .i64 td, .bool false] #[.slice none 0 0, .slice none 0 0] 109 55 28
  obtain ⟨x0, x1, x2, xf, xl⟩ := BT.tri
  obtain ⟨s0, s1, s2, s3, sf, sl⟩ := BS.four
  have hft : (f : Int) < ((P + 1 : Nat) : Int) := by omega
  have hPt : (P : Int) < ((P + 1 : Nat) : Int) := by omega
  have m9 : -1000 ≤ n := by omega
  obtain ⟨u, hu⟩ : ∃ u, xs.getD f 0 = u := ⟨_, rfl⟩
  have ub := hx _ (getD_mem (show f < xs.length by omega))
  rw [hu] at ub
  have ua : 0 ≤ u := ub.1
  have uz : u ≤ 1000 := ub.2
  have hm1 : ((f : Int) != -1) = true := by simp
  have htt : (f : Int) < ((P + 1 : Nat) : Int) := by omega
  obtain ⟨X, hX⟩ : ∃ X, mvX xs (f : Int) ((f : Int)) n = X := ⟨_, rfl⟩
  obtain ⟨Y, hY⟩ : ∃ Y, mvY P ys ((f : Int)) false n = Y := ⟨_, rfl⟩
  have eX : (xs.set f (u - n)).set f u = X := by
    rw [← hX]
    unfold mvX
    rw [if_neg (by omega)]
    simp only [Int.toNat_natCast]
    rw [hu, getD_set_eq xs _ (by omega), show u - n + n = u by omega]
  have eY : ys = Y := by
    rw [← hY]
    unfold mvY
    rw [if_neg (by simp)]
  have hXl : X.length = P + 1 := by rw [← hX, mvX_length, n1]
  have hYl : Y.length = P + 1 := by rw [← hY, mvY_length, n2]
  rw [hX, hY]
  have Hu := Lib.hid hu
  have EX := Lib.hid eX
  have EY := Lib.hid eY
  have HXl := Lib.hid hXl
  have HYl := Lib.hid hYl
  clear hX hY hK q1 q2 eX eY hXl hYl
  clear hu ub
  go_enter Tryz.func60, Tryz.ntmps60
  go_wp2_with (go_at_call 93; refine (HB.out _ hb).mono ?_; rintro e w1 ⟨g1, g2, rfl, gg1, gg2, R1, R2, hb1⟩; obtain ⟨x0, x1, x2, xf, xl⟩ := (BT.below hb1).tri; obtain ⟨s0, s1, s2, s3, sf, sl⟩ := (BS.below hb1).four; obtain ⟨u0, u1, uf, ul⟩ := (BR.below hb1).two; have hne1 : ¬ g1 = g2 := (by omega); have hne2 : ¬ g2 = g1 := (by omega); have fr1 := (fun i => R1.free i); have fr2 := (fun i => R2.free i); have gl1 := R1.lt; have gl2 := R2.lt; have gs := hb.size; have cu := R1.cell f (by omega); rw [Hu.out] at cu)
  refine bodyPost_ret (v := .agg #[.slice (some ⟨g1, 0, none⟩) (P + 1) (P + 1), .slice (some ⟨g2, 0, none⟩) (P + 1) (P + 1)]) (by first | (simp [results, Tryz.results60, go_sem, u0, u1]; done) | (simp [results, Tryz.results60, go_sem, *]; done)) rfl ?_
  exact ⟨g1, g2, by rw [HXl.out, HYl.out], by omega, by omega, (((((R1.set f (u - n)).set f u).other (by omega)).other (by omega)).alloc _).wf EX.out, (((((R2.other (by omega)).other (by omega)).other (by omega)).other (by omega)).alloc _).wf EY.out, ((((((chain hb hb1).setCell (by simp; omega) _).setCell (by simp; omega) _).setCell (by simp; omega) _).setCell (by simp; omega) _).alloc (by simp; omega) _)⟩
set_option maxRecDepth 8000 in
set_option maxHeartbeats 4000000 in
theorem moved_same_true (P : Nat) (f1 f2 B1 B2 : Nat) (xs ys : List Int) (w : World) (p0 : 2 ≤ P) (p1 : P ≤ 24) (n1 : xs.length = P + 1) (n2 : ys.length = P + 1) (hx : ∀ x ∈ xs, 0 ≤ x ∧ x ≤ 1000) (hyy : ∀ y ∈ ys, 0 ≤ y ∧ y ≤ 1000) (q1 : Pays f1 B1 xs w) (q2 : Pays f2 B2 ys w) (f : Nat) (td n : Int) (m0 : -1 ≤ n) (m1 : n ≤ 1) (fP : f ≤ P) (tP : f < P) :
    Calls Tryz.prog 60 #[.agg #[.int .i64 (P : Int), fv f1 B1, fv f2 B2], stV ((f : Int), (f : Int), td, true), .int .i64 n] w (BoardMade (mvX xs f ((f : Int)) n) (mvY P ys ((f : Int)) true n) w) := by
  have hK := fun W (hW : Below w.heap.size w W) => board_any P f1 f2 B1 B2 xs ys W p1 n1 n2 (q1.below hW) (q2.below hW)
  have HB := Lib.hid hK
  obtain ⟨BT, BS, BR, hb, hzz⟩ := three_new w #[.int .i64 (P : Int), fv f1 B1, fv f2 B2] #[.int .i64 (f : Int), .int .i64 ((f : Int)), .int .i64 td, .bool true] #[.slice none 0 0, .slice none 0 0] 109 55 28
  obtain ⟨x0, x1, x2, xf, xl⟩ := BT.tri
  obtain ⟨s0, s1, s2, s3, sf, sl⟩ := BS.four
  have hft : (f : Int) < ((P + 1 : Nat) : Int) := by omega
  have hPt : (P : Int) < ((P + 1 : Nat) : Int) := by omega
  have m9 : -1000 ≤ n := by omega
  obtain ⟨u, hu⟩ : ∃ u, xs.getD f 0 = u := ⟨_, rfl⟩
  have ub := hx _ (getD_mem (show f < xs.length by omega))
  rw [hu] at ub
  have ua : 0 ≤ u := ub.1
  have uz : u ≤ 1000 := ub.2
  have hm1 : ((f : Int) != -1) = true := by simp
  have htt : (f : Int) < ((P + 1 : Nat) : Int) := by omega
  obtain ⟨K, hKK⟩ : ∃ K, P - 1 - f = K := ⟨_, rfl⟩
  have eK : (P : Int) - 1 - (f : Int) = (K : Int) := by omega
  have hKP : ¬ K = P := by omega
  have hPK : ¬ P = K := by omega
  have hKt : (K : Int) < ((P + 1 : Nat) : Int) := by omega
  have wz : IntKind.i64.wrap (IntKind.i64.wrap ((P : Int) - 1) - (f : Int)) = (K : Int) := by rw [IntWalk.i64_in ((P : Int) - 1) (by omega), eK]; exact IntWalk.i64_in _ (by omega)
  obtain ⟨y, hy⟩ : ∃ y, ys.getD K 0 = y := ⟨_, rfl⟩
  have yb := hyy _ (getD_mem (show K < ys.length by omega))
  rw [hy] at yb
  have ya : 0 ≤ y := yb.1
  have yz : y ≤ 1000 := yb.2
  obtain ⟨z, hz⟩ : ∃ z, ys.getD P 0 = z := ⟨_, rfl⟩
  have zb := hyy _ (getD_mem (show P < ys.length by omega))
  rw [hz] at zb
  have za : 0 ≤ z := zb.1
  have zz : z ≤ 1000 := zb.2
  obtain ⟨X, hX⟩ : ∃ X, mvX xs (f : Int) ((f : Int)) n = X := ⟨_, rfl⟩
  obtain ⟨Y, hY⟩ : ∃ Y, mvY P ys ((f : Int)) true n = Y := ⟨_, rfl⟩
  have eX : (xs.set f (u - n)).set f u = X := by
    rw [← hX]
    unfold mvX
    rw [if_neg (by omega)]
    simp only [Int.toNat_natCast]
    rw [hu, getD_set_eq xs _ (by omega), show u - n + n = u by omega]
  have eY : (ys.set K (y - n)).set P (z + n) = Y := by
    rw [← hY]
    unfold mvY
    rw [if_pos rfl, eK, Int.toNat_natCast, hy, getD_set_ne ys _ hPK, hz]
  have hXl : X.length = P + 1 := by rw [← hX, mvX_length, n1]
  have hYl : Y.length = P + 1 := by rw [← hY, mvY_length, n2]
  rw [hX, hY]
  have Hu := Lib.hid hu
  have Hy := Lib.hid hy
  have Hz := Lib.hid hz
  have EX := Lib.hid eX
  have EY := Lib.hid eY
  have HXl := Lib.hid hXl
  have HYl := Lib.hid hYl
  clear hX hY hK q1 q2 eX eY hXl hYl
  clear hu ub
  clear hy yb
  clear hz zb
  go_enter Tryz.func60, Tryz.ntmps60
  go_wp2_with (go_at_call 93; refine (HB.out _ hb).mono ?_; rintro e w1 ⟨g1, g2, rfl, gg1, gg2, R1, R2, hb1⟩; obtain ⟨x0, x1, x2, xf, xl⟩ := (BT.below hb1).tri; obtain ⟨s0, s1, s2, s3, sf, sl⟩ := (BS.below hb1).four; obtain ⟨u0, u1, uf, ul⟩ := (BR.below hb1).two; have hne1 : ¬ g1 = g2 := (by omega); have hne2 : ¬ g2 = g1 := (by omega); have fr1 := (fun i => R1.free i); have fr2 := (fun i => R2.free i); have gl1 := R1.lt; have gl2 := R2.lt; have gs := hb.size; have cu := R1.cell f (by omega); rw [Hu.out] at cu; have cy := R2.cell K (by omega); rw [Hy.out] at cy; have cz := R2.cell P (by omega); rw [Hz.out] at cz)
  refine bodyPost_ret (v := .agg #[.slice (some ⟨g1, 0, none⟩) (P + 1) (P + 1), .slice (some ⟨g2, 0, none⟩) (P + 1) (P + 1)]) (by first | (simp [results, Tryz.results60, go_sem, u0, u1]; done) | (simp [results, Tryz.results60, go_sem, *]; done)) rfl ?_
  exact ⟨g1, g2, by rw [HXl.out, HYl.out], by omega, by omega, (((((((R1.set f (u - n)).set f u).other (by omega)).other (by omega)).other (by omega)).other (by omega)).alloc _).wf EX.out, (((((((R2.other (by omega)).other (by omega)).set K (y - n)).set P (z + n)).other (by omega)).other (by omega)).alloc _).wf EY.out, ((((((((chain hb hb1).setCell (by simp; omega) _).setCell (by simp; omega) _).setCell (by simp; omega) _).setCell (by simp; omega) _).setCell (by simp; omega) _).setCell (by simp; omega) _).alloc (by simp; omega) _)⟩
set_option maxRecDepth 8000 in
set_option maxHeartbeats 4000000 in
theorem moved_off_false (P : Nat) (f1 f2 B1 B2 : Nat) (xs ys : List Int) (w : World) (p0 : 2 ≤ P) (p1 : P ≤ 24) (n1 : xs.length = P + 1) (n2 : ys.length = P + 1) (hx : ∀ x ∈ xs, 0 ≤ x ∧ x ≤ 1000) (hyy : ∀ y ∈ ys, 0 ≤ y ∧ y ≤ 1000) (q1 : Pays f1 B1 xs w) (q2 : Pays f2 B2 ys w) (f : Nat) (td n : Int) (m0 : -1 ≤ n) (m1 : n ≤ 1) (fP : f ≤ P)  :
    Calls Tryz.prog 60 #[.agg #[.int .i64 (P : Int), fv f1 B1, fv f2 B2], stV ((f : Int), -1, td, false), .int .i64 n] w (BoardMade (mvX xs f (-1) n) (mvY P ys (-1) false n) w) := by
  have hK := fun W (hW : Below w.heap.size w W) => board_any P f1 f2 B1 B2 xs ys W p1 n1 n2 (q1.below hW) (q2.below hW)
  have HB := Lib.hid hK
  obtain ⟨BT, BS, BR, hb, hzz⟩ := three_new w #[.int .i64 (P : Int), fv f1 B1, fv f2 B2] #[.int .i64 (f : Int), .int .i64 (-1), .int .i64 td, .bool false] #[.slice none 0 0, .slice none 0 0] 109 55 28
  obtain ⟨x0, x1, x2, xf, xl⟩ := BT.tri
  obtain ⟨s0, s1, s2, s3, sf, sl⟩ := BS.four
  have hft : (f : Int) < ((P + 1 : Nat) : Int) := by omega
  have hPt : (P : Int) < ((P + 1 : Nat) : Int) := by omega
  have m9 : -1000 ≤ n := by omega
  obtain ⟨u, hu⟩ : ∃ u, xs.getD f 0 = u := ⟨_, rfl⟩
  have ub := hx _ (getD_mem (show f < xs.length by omega))
  rw [hu] at ub
  have ua : 0 ≤ u := ub.1
  have uz : u ≤ 1000 := ub.2
  obtain ⟨X, hX⟩ : ∃ X, mvX xs (f : Int) (-1) n = X := ⟨_, rfl⟩
  obtain ⟨Y, hY⟩ : ∃ Y, mvY P ys (-1) false n = Y := ⟨_, rfl⟩
  have eX : xs.set f (u - n) = X := by
    rw [← hX]
    unfold mvX
    rw [if_pos rfl]
    simp only [Int.toNat_natCast]
    rw [hu]
  have eY : ys = Y := by
    rw [← hY]
    unfold mvY
    rw [if_neg (by simp)]
  have hXl : X.length = P + 1 := by rw [← hX, mvX_length, n1]
  have hYl : Y.length = P + 1 := by rw [← hY, mvY_length, n2]
  rw [hX, hY]
  have Hu := Lib.hid hu
  have EX := Lib.hid eX
  have EY := Lib.hid eY
  have HXl := Lib.hid hXl
  have HYl := Lib.hid hYl
  clear hX hY hK q1 q2 eX eY hXl hYl
  clear hu ub
  go_enter Tryz.func60, Tryz.ntmps60
  go_wp2_with (go_at_call 93; refine (HB.out _ hb).mono ?_; rintro e w1 ⟨g1, g2, rfl, gg1, gg2, R1, R2, hb1⟩; obtain ⟨x0, x1, x2, xf, xl⟩ := (BT.below hb1).tri; obtain ⟨s0, s1, s2, s3, sf, sl⟩ := (BS.below hb1).four; obtain ⟨u0, u1, uf, ul⟩ := (BR.below hb1).two; have hne1 : ¬ g1 = g2 := (by omega); have hne2 : ¬ g2 = g1 := (by omega); have fr1 := (fun i => R1.free i); have fr2 := (fun i => R2.free i); have gl1 := R1.lt; have gl2 := R2.lt; have gs := hb.size; have cu := R1.cell f (by omega); rw [Hu.out] at cu)
  refine bodyPost_ret (v := .agg #[.slice (some ⟨g1, 0, none⟩) (P + 1) (P + 1), .slice (some ⟨g2, 0, none⟩) (P + 1) (P + 1)]) (by first | (simp [results, Tryz.results60, go_sem, u0, u1]; done) | (simp [results, Tryz.results60, go_sem, *]; done)) rfl ?_
  exact ⟨g1, g2, by rw [HXl.out, HYl.out], by omega, by omega, ((((R1.set f (u - n)).other (by omega)).other (by omega)).alloc _).wf EX.out, ((((R2.other (by omega)).other (by omega)).other (by omega)).alloc _).wf EY.out, (((((chain hb hb1).setCell (by simp; omega) _).setCell (by simp; omega) _).setCell (by simp; omega) _).alloc (by simp; omega) _)⟩
set_option maxRecDepth 8000 in
set_option maxHeartbeats 4000000 in
theorem moved_off_true (P : Nat) (f1 f2 B1 B2 : Nat) (xs ys : List Int) (w : World) (p0 : 2 ≤ P) (p1 : P ≤ 24) (n1 : xs.length = P + 1) (n2 : ys.length = P + 1) (hx : ∀ x ∈ xs, 0 ≤ x ∧ x ≤ 1000) (hyy : ∀ y ∈ ys, 0 ≤ y ∧ y ≤ 1000) (q1 : Pays f1 B1 xs w) (q2 : Pays f2 B2 ys w) (f : Nat) (td n : Int) (m0 : -1 ≤ n) (m1 : n ≤ 1) (fP : f ≤ P)  :
    Calls Tryz.prog 60 #[.agg #[.int .i64 (P : Int), fv f1 B1, fv f2 B2], stV ((f : Int), -1, td, true), .int .i64 n] w (BoardMade (mvX xs f (-1) n) (mvY P ys (-1) true n) w) := by
  have hK := fun W (hW : Below w.heap.size w W) => board_any P f1 f2 B1 B2 xs ys W p1 n1 n2 (q1.below hW) (q2.below hW)
  have HB := Lib.hid hK
  obtain ⟨BT, BS, BR, hb, hzz⟩ := three_new w #[.int .i64 (P : Int), fv f1 B1, fv f2 B2] #[.int .i64 (f : Int), .int .i64 (-1), .int .i64 td, .bool true] #[.slice none 0 0, .slice none 0 0] 109 55 28
  obtain ⟨x0, x1, x2, xf, xl⟩ := BT.tri
  obtain ⟨s0, s1, s2, s3, sf, sl⟩ := BS.four
  have hft : (f : Int) < ((P + 1 : Nat) : Int) := by omega
  have hPt : (P : Int) < ((P + 1 : Nat) : Int) := by omega
  have m9 : -1000 ≤ n := by omega
  obtain ⟨u, hu⟩ : ∃ u, xs.getD f 0 = u := ⟨_, rfl⟩
  have ub := hx _ (getD_mem (show f < xs.length by omega))
  rw [hu] at ub
  have ua : 0 ≤ u := ub.1
  have uz : u ≤ 1000 := ub.2
  obtain ⟨z, hz⟩ : ∃ z, ys.getD P 0 = z := ⟨_, rfl⟩
  have zb := hyy _ (getD_mem (show P < ys.length by omega))
  rw [hz] at zb
  have za : 0 ≤ z := zb.1
  have zz : z ≤ 1000 := zb.2
  have eP : (P : Int) - 1 - -1 = (P : Int) := by omega
  obtain ⟨X, hX⟩ : ∃ X, mvX xs (f : Int) (-1) n = X := ⟨_, rfl⟩
  obtain ⟨Y, hY⟩ : ∃ Y, mvY P ys (-1) true n = Y := ⟨_, rfl⟩
  have eX : xs.set f (u - n) = X := by
    rw [← hX]
    unfold mvX
    rw [if_pos rfl]
    simp only [Int.toNat_natCast]
    rw [hu]
  have eY : (ys.set P (z - n)).set P z = Y := by
    rw [← hY]
    unfold mvY
    rw [if_pos rfl, show ((P : Int) - 1 - -1).toNat = P by omega, hz, getD_set_eq ys _ (by omega), show z - n + n = z by omega]
  have hXl : X.length = P + 1 := by rw [← hX, mvX_length, n1]
  have hYl : Y.length = P + 1 := by rw [← hY, mvY_length, n2]
  rw [hX, hY]
  have Hu := Lib.hid hu
  have Hz := Lib.hid hz
  have EX := Lib.hid eX
  have EY := Lib.hid eY
  have HXl := Lib.hid hXl
  have HYl := Lib.hid hYl
  clear hX hY hK q1 q2 eX eY hXl hYl
  clear hu ub
  clear hz zb
  go_enter Tryz.func60, Tryz.ntmps60
  go_wp2_with (go_at_call 93; refine (HB.out _ hb).mono ?_; rintro e w1 ⟨g1, g2, rfl, gg1, gg2, R1, R2, hb1⟩; obtain ⟨x0, x1, x2, xf, xl⟩ := (BT.below hb1).tri; obtain ⟨s0, s1, s2, s3, sf, sl⟩ := (BS.below hb1).four; obtain ⟨u0, u1, uf, ul⟩ := (BR.below hb1).two; have hne1 : ¬ g1 = g2 := (by omega); have hne2 : ¬ g2 = g1 := (by omega); have fr1 := (fun i => R1.free i); have fr2 := (fun i => R2.free i); have gl1 := R1.lt; have gl2 := R2.lt; have gs := hb.size; have cu := R1.cell f (by omega); rw [Hu.out] at cu; have cz := R2.cell P (by omega); rw [Hz.out] at cz)
  refine bodyPost_ret (v := .agg #[.slice (some ⟨g1, 0, none⟩) (P + 1) (P + 1), .slice (some ⟨g2, 0, none⟩) (P + 1) (P + 1)]) (by first | (simp [results, Tryz.results60, go_sem, u0, u1]; done) | (simp [results, Tryz.results60, go_sem, *]; done)) rfl ?_
  exact ⟨g1, g2, by rw [HXl.out, HYl.out], by omega, by omega, ((((((R1.set f (u - n)).other (by omega)).other (by omega)).other (by omega)).other (by omega)).alloc _).wf EX.out, ((((((R2.other (by omega)).set P (z - n)).set P z).other (by omega)).other (by omega)).alloc _).wf EY.out, (((((((chain hb hb1).setCell (by simp; omega) _).setCell (by simp; omega) _).setCell (by simp; omega) _).setCell (by simp; omega) _).setCell (by simp; omega) _).alloc (by simp; omega) _)⟩
theorem moved_any (P : Nat) (f1 f2 B : Nat) (xs ys : List Int) (w : World) (p0 : 2 ≤ P) (p1 : P ≤ 24) (n1 : xs.length = P + 1) (n2 : ys.length = P + 1) (hx : ∀ x ∈ xs, 0 ≤ x ∧ x ≤ 1000) (hy : ∀ y ∈ ys, 0 ≤ y ∧ y ≤ 1000) (q1 : Pays f1 B xs w) (q2 : Pays f2 B ys w) (t : Stp) (n : Int) (m0 : -1 ≤ n) (m1 : n ≤ 1) (hp : placesB (P : Int) t = true) :
    Calls Tryz.prog 60 #[tv (P : Int) f1 f2 B, stV t, .int .i64 n] w (BoardMade (mvX xs t.1 t.2.1 n) (mvY P ys t.2.1 t.2.2.2 n) w) := by
  obtain ⟨a, b, d, q⟩ := t
  simp only [placesB, Bool.and_eq_true, decide_eq_true_eq] at hp
  obtain ⟨h1, h2, h3, h4⟩ := hp
  obtain ⟨f, rfl⟩ := Int.eq_ofNat_of_zero_le h1
  dsimp only
  by_cases hb : b = -1
  · subst hb
    cases q with
    | false => exact moved_off_false P f1 f2 B B xs ys w p0 p1 n1 n2 hx hy q1 q2 f d n m0 m1 (by omega)
    | true => exact moved_off_true P f1 f2 B B xs ys w p0 p1 n1 n2 hx hy q1 q2 f d n m0 m1 (by omega)
  · obtain ⟨t, rfl⟩ := Int.eq_ofNat_of_zero_le (by omega : 0 ≤ b)
    by_cases hne : t = f
    · subst hne
      cases q with
      | false => exact moved_same_false P f1 f2 B B xs ys w p0 p1 n1 n2 hx hy q1 q2 t d n m0 m1 (by omega) (by omega)
      | true => exact moved_same_true P f1 f2 B B xs ys w p0 p1 n1 n2 hx hy q1 q2 t d n m0 m1 (by omega) (by omega)
    · cases q with
      | false => exact moved_far_false P f1 f2 B B xs ys w p0 p1 n1 n2 hx hy q1 q2 f d n m0 m1 (by omega) t (by omega) hne
      | true => exact moved_far_true P f1 f2 B B xs ys w p0 p1 n1 n2 hx hy q1 q2 f d n m0 m1 (by omega) t (by omega) hne
theorem four_new (w : World) (v1 v2 v3 v4 : Array Value) (t1 t2 t3 t4 : TypeId) :
    Blk ((((w.alloc (.cells v1 t1)).alloc (.cells v2 t2)).alloc (.cells v3 t3)).alloc (.cells v4 t4)) w.heap.size v1 t1 ∧ Blk ((((w.alloc (.cells v1 t1)).alloc (.cells v2 t2)).alloc (.cells v3 t3)).alloc (.cells v4 t4)) (w.heap.size + 1) v2 t2 ∧
    Blk ((((w.alloc (.cells v1 t1)).alloc (.cells v2 t2)).alloc (.cells v3 t3)).alloc (.cells v4 t4)) (w.heap.size + 1 + 1) v3 t3 ∧ Blk ((((w.alloc (.cells v1 t1)).alloc (.cells v2 t2)).alloc (.cells v3 t3)).alloc (.cells v4 t4)) (w.heap.size + 1 + 1 + 1) v4 t4 ∧
    Below w.heap.size w ((((w.alloc (.cells v1 t1)).alloc (.cells v2 t2)).alloc (.cells v3 t3)).alloc (.cells v4 t4)) ∧ ((((w.alloc (.cells v1 t1)).alloc (.cells v2 t2)).alloc (.cells v3 t3)).alloc (.cells v4 t4)).heap.size = w.heap.size + 1 + 1 + 1 + 1 := by
  obtain ⟨b1, b2, b3, hb, hz⟩ := three_new w v1 v2 v3 t1 t2 t3
  have b4 := Blk.new (((w.alloc (.cells v1 t1)).alloc (.cells v2 t2)).alloc (.cells v3 t3)) v4 t4
  rw [hz] at b4
  exact ⟨b1.alloc _, b2.alloc _, b3.alloc _, b4, hb.alloc hb.size _, by simp⟩
theorem legB_places {P : Nat} {h s : Int} {xs ys : List Int} {t : Stp} (g : legB P h s xs ys t = true) : placesB (P : Int) t = true := by
  unfold legB at g
  simp only [Bool.and_eq_true] at g
  exact g.2.1
end Go.Proofs.YtciljbnailobgaaGreat
namespace Go.Proofs.YtciljbnailobgaaGreat
open Go.ChangeShapes Go.WideShapes Go.ChangeAt Go.RowKit
set_option linter.unusedVariables false
set_option linter.unusedSimpArgs false
abbrev Ply := List Stp × List Int × List Int
structure PD where
  sa : Option Addr
  sc : Nat
  b1 : Option Addr
  k1 : Nat
  b2 : Option Addr
  k2 : Nat
abbrev PP := PD × Ply
abbrev pl0 (x : PP) : Value := .slice x.1.sa x.2.1.length x.1.sc
abbrev pl1 (x : PP) : Value := .slice x.1.b1 x.2.2.1.length x.1.k1
abbrev pl2 (x : PP) : Value := .slice x.1.b2 x.2.2.2.length x.1.k2
abbrev plV (x : PP) : Value := .agg #[pl0 x, pl1 x, pl2 x]
def plC (x : PP) : List Value := [pl0 x, pl1 x, pl2 x]
def plsC : List PP → List Value
  | [] => []
  | x :: l => plC x ++ plsC l
theorem plsC_length : ∀ l : List PP, (plsC l).length = l.length * 3
  | [] => rfl
  | s :: l => by simp [plsC, plC, plsC_length l]; omega
theorem plsC_append : ∀ l m : List PP, plsC (l ++ m) = plsC l ++ plsC m
  | [], m => rfl
  | s :: l, m => by simp [plsC, plsC_append l m]
theorem plsC_at : ∀ (l : List PP) (k : Nat) (s : PP), l[k]? = some s → ∀ j, j < 3 → (plsC l)[k * 3 + j]? = (plC s)[j]?
  | [], k, s, h, j, hj => by simp at h
  | x :: l, 0, s, h, j, hj => by
    simp at h
    subst h
    rw [plsC, List.getElem?_append_left (by simp [plC]; omega), Nat.zero_mul, Nat.zero_add]
  | x :: l, k + 1, s, h, j, hj => by
    rw [plsC, List.getElem?_append_right (by simp [plC]; omega)]
    have := plsC_at l k s (by simpa using h) j hj
    rw [← this]
    congr 1
    simp [plC]
    omega
abbrev PRow (w : World) (g : Nat) (l : List PP) : Prop := VRow w g (plsC l) 44
theorem PRow.three {w : World} {g : Nat} {l : List PP} (h : PRow w g l) (k : Nat) (s : PP) (hk : l[k]? = some s) :
    w.cell? ⟨g, k * 3, none⟩ = some (pl0 s) ∧ w.cell? ⟨g, k * 3 + 1, none⟩ = some (pl1 s) ∧ w.cell? ⟨g, k * 3 + 2, none⟩ = some (pl2 s) :=
  ⟨h.cell _ _ (by have := plsC_at l k s hk 0 (by omega); simpa [plC] using this), h.cell _ _ (by have := plsC_at l k s hk 1 (by omega); simpa [plC] using this), h.cell _ _ (by have := plsC_at l k s hk 2 (by omega); simpa [plC] using this)⟩
def PAt (lo hi : Nat) (w : World) (x : PP) : Prop := OSt lo hi w x.1.sa x.2.1 ∧ OBd lo hi w x.1.b1 x.1.b2 x.2.2.1 x.2.2.2
def PAll (lo hi : Nat) (w : World) (l : List PP) : Prop := ∀ x ∈ l, PAt lo hi w x
theorem OBd.mono {lo hi lo' hi' : Nat} {w : World} {a1 a2 : Option Addr} {xs ys : List Int} (h : OBd lo hi w a1 a2 xs ys) (h1 : lo' ≤ lo) (h2 : hi ≤ hi') : OBd lo' hi' w a1 a2 xs ys := by
  rcases h with h | ⟨g1, g2, e1, e2, hne, b1, b2, b3, b4, r1, r2⟩
  · exact .inl h
  · exact .inr ⟨g1, g2, e1, e2, hne, by omega, by omega, by omega, by omega, r1, r2⟩
theorem PAt.below {lo hi : Nat} {w w' : World} {x : PP} (h : PAt lo hi w x) (hb : Below w.heap.size w w') : PAt lo hi w' x := ⟨h.1.below hb, h.2.below hb⟩
theorem PAt.mono {lo hi lo' hi' : Nat} {w : World} {x : PP} (h : PAt lo hi w x) (h1 : lo' ≤ lo) (h2 : hi ≤ hi') : PAt lo' hi' w x := ⟨h.1.mono h1 h2, h.2.mono h1 h2⟩
theorem PAll.below {lo hi : Nat} {w w' : World} {l : List PP} (h : PAll lo hi w l) (hb : Below w.heap.size w w') : PAll lo hi w' l := fun x hx => (h x hx).below hb
theorem PAll.drew {lo hi : Nat} {w : World} {l : List PP} (h : PAll lo hi w l) : PAll lo hi w.drew l := h.below (Below.refl _ _).drew
theorem PAll.mono {lo hi lo' hi' : Nat} {w : World} {l : List PP} (h : PAll lo hi w l) (h1 : lo' ≤ lo) (h2 : hi ≤ hi') : PAll lo' hi' w l := fun x hx => (h x hx).mono h1 h2
theorem PAll.nil (lo hi : Nat) (w : World) : PAll lo hi w [] := fun x hx => by simp at hx
theorem PAll.snoc {lo hi : Nat} {w : World} {l : List PP} {x : PP} (h : PAll lo hi w l) (hx : PAt lo hi w x) : PAll lo hi w (l ++ [x]) := fun y hy => by
  rcases List.mem_append.1 hy with hy | hy
  · exact h y hy
  · simp at hy; subst hy; exact hx
def OPl (lo hi : Nat) (w : World) (a : Option Addr) (l : List PP) : Prop := (a = none ∧ l = []) ∨ ∃ g, a = some ⟨g, 0, none⟩ ∧ lo ≤ g ∧ g < hi ∧ PRow w g l
theorem OPl.below {lo hi : Nat} {w w' : World} {a : Option Addr} {l : List PP} (h : OPl lo hi w a l) (hb : Below w.heap.size w w') : OPl lo hi w' a l := by
  rcases h with h | ⟨g, e, h1, h2, r⟩
  · exact .inl h
  · exact .inr ⟨g, e, h1, h2, r.below hb⟩
theorem OPl.drew {lo hi : Nat} {w : World} {a : Option Addr} {l : List PP} (h : OPl lo hi w a l) : OPl lo hi w.drew a l := h
theorem OPl.mono {lo hi lo' hi' : Nat} {w : World} {a : Option Addr} {l : List PP} (h : OPl lo hi w a l) (h1 : lo' ≤ lo) (h2 : hi ≤ hi') : OPl lo' hi' w a l := by
  rcases h with h | ⟨g, e, q1, q2, r⟩
  · exact .inl h
  · exact .inr ⟨g, e, by omega, by omega, r⟩
theorem OPl.row {lo hi : Nat} {w : World} {a : Option Addr} {l : List PP} (h : OPl lo hi w a l) {k : Nat} (hk : k < l.length) : ∃ g, a = some ⟨g, 0, none⟩ ∧ PRow w g l := by
  rcases h with ⟨_, rfl⟩ | ⟨g, e, q1, q2, r⟩
  · simp at hk
  · exact ⟨g, e, r⟩
theorem PRow.drew {w : World} {g : Nat} {l : List PP} (h : PRow w g l) : PRow w.drew g l := h.below (Below.refl _ _).drew
def OwnP (w : World) (base : Nat) (v : Value) (l : List PP) : Prop := w.ownsRow base 44 3 v l.length (plsC l)
theorem OwnP.form {w : World} {base : Nat} {v : Value} {l : List PP} (h : OwnP w base v l) : ∃ a k, v = .slice a l.length k := by
  rcases h.2 with ⟨h1, h2⟩ | ⟨g, cap, cur, h1, _⟩
  · exact ⟨none, 0, by rw [h1, h2]⟩
  · exact ⟨some ⟨g, 0, none⟩, cap, h1⟩
theorem OwnP.opl {w : World} {base : Nat} {a : Option Addr} {n k : Nat} {l : List PP} (h : OwnP w base (.slice a n k) l) : OPl base w.heap.size w a l := by
  obtain ⟨hl, h1 | ⟨g, cap, cur, hv, hb, hh, hc, hm, hs, ht⟩⟩ := h
  · obtain ⟨h1, h2⟩ := h1
    simp at h1
    exact .inl ⟨h1.1, List.eq_nil_of_length_eq_zero h2⟩
  · simp at hv
    obtain ⟨rfl, _, rfl⟩ := hv
    exact .inr ⟨g, rfl, hb, (Array.getElem?_eq_some_iff.1 hh).1, cur, hh, by rw [hl, hs]; exact Nat.mul_le_mul_right _ hc, by rw [hl]; exact ht⟩
theorem OwnP.alloc {w : World} {base : Nat} {v : Value} {l : List PP} (h : OwnP w base v l) (o : Obj) : OwnP (w.alloc o) base v l := World.ownsRow.alloc h o
theorem OwnP.drew {w : World} {base : Nat} {v : Value} {l : List PP} (h : OwnP w base v l) : OwnP w.drew base v l := h
theorem OwnP.below {w w' : World} {base : Nat} {v : Value} {l : List PP} (h : OwnP w base v l) (hb : Below w.heap.size w w') : OwnP w' base v l :=
  World.ownsRow.kept (row := none) h ⟨hb.os, hb.tape, hb.output, hb.size, fun k hk _ => hb.block k hk⟩ (by
    cases hv : v.ownBlock with
    | none => exact .inl rfl
    | some g => exact .inr (by simp))
theorem OwnP.start (w : World) : OwnP (w.alloc (.cells #[] 44)) w.heap.size (.slice (some ⟨w.heap.size, 0, none⟩) 0 0) [] :=
  ⟨rfl, .inr ⟨w.heap.size, 0, #[], rfl, Nat.le_refl _, Blk.new w #[] _, Nat.le_refl _, by unfold maxLen; omega, rfl, rfl⟩⟩
theorem OwnP.nil (w : World) (base : Nat) : OwnP w base (.slice none 0 0) [] := World.ownsRow_nil w base _ _
theorem OwnP.mono {w : World} {base base' : Nat} {v : Value} {l : List PP} (h : OwnP w base v l) (hb : base' ≤ base) : OwnP w base' v l := by
  obtain ⟨h1, h2 | ⟨g, cap, cur, q1, q2, q3⟩⟩ := h
  · exact ⟨h1, .inl h2⟩
  · exact ⟨h1, .inr ⟨g, cap, cur, q1, by omega, q3⟩⟩
theorem OwnP.ne {w : World} {base g : Nat} {v : Value} {l : List PP} {cur : Array Value} {t : TypeId} (h : OwnP w base v l) (hB : Blk w g cur t) (ht : t ≠ 44) : v.ownBlock ≠ some g := by
  intro e
  obtain ⟨_, ⟨h1, _⟩ | ⟨g', cap, cur', rfl, _, hh, _⟩⟩ := h
  · rw [h1] at e
    simp [Value.ownBlock] at e
  · simp [Value.ownBlock] at e
    subst e
    have hB' : w.heap[g']? = some (.cells cur t (0, 0)) := hB
    rw [hB'] at hh
    simp at hh
    exact ht hh.2
theorem VRow.push {w w' : World} {base g : Nat} {v : Value} {l : List PP} {vs : List Value} {t : TypeId} (h : VRow w g vs t) (hO : OwnP w base v l) (ht : t ≠ 44) (hk : ∀ k, k < w.heap.size → v.ownBlock ≠ some k → w'.heap[k]? = w.heap[k]?) : VRow w' g vs t := by
  obtain ⟨cur, hB, h1, h2⟩ := h
  exact ⟨cur, (hk g hB.lt (hO.ne hB ht)).trans hB, h1, h2⟩
theorem Row.push {w w' : World} {base g : Nat} {v : Value} {l : List PP} {xs : List Int} (h : Row w g xs) (hO : OwnP w base v l) (hk : ∀ k, k < w.heap.size → v.ownBlock ≠ some k → w'.heap[k]? = w.heap[k]?) : Row w' g xs := by
  obtain ⟨cur, hB, h1, h2⟩ := h
  exact ⟨cur, (hk g hB.lt (hO.ne hB (by decide))).trans hB, h1, h2⟩
theorem PAt.push {lo hi : Nat} {w w' : World} {base : Nat} {v : Value} {l : List PP} {x : PP} (h : PAt lo hi w x) (hO : OwnP w base v l) (hk : ∀ k, k < w.heap.size → v.ownBlock ≠ some k → w'.heap[k]? = w.heap[k]?) : PAt lo hi w' x := by
  refine ⟨?_, ?_⟩
  · rcases h.1 with h | ⟨g, e, h1, h2, r⟩
    · exact .inl h
    · exact .inr ⟨g, e, h1, h2, r.push hO (by decide) hk⟩
  · rcases h.2 with h | ⟨g1, g2, e1, e2, hne, b1, b2, b3, b4, r1, r2⟩
    · exact .inl h
    · exact .inr ⟨g1, g2, e1, e2, hne, b1, b2, b3, b4, r1.push hO hk, r2.push hO hk⟩
theorem PAll.push {lo hi : Nat} {w w' : World} {base : Nat} {v : Value} {l m : List PP} (h : PAll lo hi w m) (hO : OwnP w base v l) (hk : ∀ k, k < w.heap.size → v.ownBlock ≠ some k → w'.heap[k]? = w.heap[k]?) : PAll lo hi w' m := fun x hx => (h x hx).push hO hk
theorem infoPly : (Tryz.prog.info? 44).map (fun i => (i.zero, i.size, i.bytes)) = some (some (.agg #[.slice none 0 0, .slice none 0 0, .slice none 0 0]), 3, 72) := by kernel_rfl
end Go.Proofs.YtciljbnailobgaaGreat
namespace Go.Proofs.YtciljbnailobgaaGreat
open Go.ChangeShapes Go.WideShapes Go.ChangeAt Go.RowKit
set_option linter.unusedVariables false
set_option linter.unusedSimpArgs false
set_option maxRecDepth 4000
theorem OSt.new (w : World) (B : Nat) (hB : B ≤ w.heap.size) : OSt B (w.alloc (.cells #[] 55)).heap.size (w.alloc (.cells #[] 55)) (some ⟨w.heap.size, 0, none⟩) [] :=
  .inr ⟨w.heap.size, rfl, hB, by simp, #[], Blk.new w #[] _, by simp [stepsC], rfl⟩
theorem nonneg_getD {l : List Int} (h : ∀ x ∈ l, 0 ≤ x) (j : Nat) : 0 ≤ l.getD j 0 := by
  by_cases hj : j < l.length
  · exact h _ (getD_mem hj)
  · rw [getD_out (by omega)]
    omega
theorem stepI_form {P : Nat} {h : Int} {xs ys : List Int} {k : Nat} {d : Int} {t : Stp} (e : stepI P h xs ys k d = some t) : t.1 = (k : Int) ∧ t.2.1 = max (-1) ((k : Int) - d) ∧ t.2.2.1 = d ∧ xs.getD k 0 ≠ 0 ∧ t.2.1 = toI P k d ∧ alB P h xs ys k d = true := by
  unfold stepI at e
  split at e
  · simp at e
  · split at e
    · rename_i h0 ha
      simp only [Option.some.injEq] at e
      subst e
      refine ⟨rfl, ?_, rfl, h0, rfl, ha⟩
      dsimp only
      unfold toI
      split
      · rename_i hk
        by_cases hp : k = P
        · unfold alB at ha
          rw [if_pos hp] at ha
          simp only [openB, Bool.and_eq_true, decide_eq_true_eq] at ha
          omega
        · omega
      · omega
    · simp at e
theorem apart_iff {P : Nat} {xs ys : List Int} : apartB P xs ys = true ↔ ∀ i, i < P → ¬ (0 < xs.getD i 0 ∧ 0 < ys.getD (P - 1 - i) 0) := by
  rw [apartB, List.all_eq_true]
  constructor
  · intro h i hi
    have := h i (by simpa using hi)
    intro ⟨a, b⟩
    rw [decide_eq_true a, decide_eq_true b] at this
    simp at this
  · intro h i hi
    have := h i (by simpa using hi)
    by_cases a : 0 < xs.getD i 0
    · rw [decide_eq_false (show ¬ 0 < ys.getD (P - 1 - i) 0 from fun b => this ⟨a, b⟩)]
      simp
    · rw [decide_eq_false a]
      simp
theorem stepI_hitA {P : Nat} {h : Int} {A B : List Int} {k : Nat} {d : Int} {t : Stp} (e : stepI P h A B k d = some t) : t.2.2.2 = (decide (t.2.1 ≠ -1) && decide (0 < B.getD (P - 1 - t.2.1.toNat) 0)) := by
  unfold stepI at e
  split at e
  · simp at e
  · split at e
    · simp only [Option.some.injEq] at e
      rw [← e]
    · simp at e
def OwnCopied (xs : List Int) (w : World) (e : Ending) (w' : World) : Prop :=
  ∃ g k, e = .returned (.slice (some ⟨g, 0, none⟩) xs.length k) ∧ w.heap.size ≤ g ∧ Row w' g xs ∧ Below w.heap.size w w'
theorem Row.of_owns {w : World} {base g n k : Nat} {xs : List Int} (h : w.ownsRow base 2 1 (.slice (some ⟨g, 0, none⟩) n k) n (ints xs)) : Row w g xs ∧ base ≤ g := by
  obtain ⟨hl, h | ⟨g', cap, cur, hv, hb, hh, hc, hm, hs, ht⟩⟩ := h
  · exact absurd h.1 (by simp)
  · simp at hv
    obtain ⟨rfl, rfl⟩ := hv
    rw [ints_length] at hl
    exact ⟨⟨cur, hh, by omega, by rw [hl]; exact ht⟩, hb⟩
set_option maxRecDepth 8000 in
set_option maxHeartbeats 1000000 in
theorem l02Own_any (a : Option Addr) (n cap : Nat) (xs : List Int) (w : World) (hn : xs.length = n) (h0 : 0 < n) (hle : n ≤ 1048576) (hr : IRow w a xs) :
    Calls Tryz.prog 66 #[.slice a n cap] w (OwnCopied xs w) := by
  obtain ⟨i0, hi, hz0, hz1, hz2⟩ := info_parts infoI64
  obtain ⟨b, o, rfl, -⟩ := hr 0 (by omega)
  go_enter Tryz.func66, Tryz.ntmps66
  have hrow : ∀ (W : World), IRow W (some ⟨b, o, none⟩) xs → ∀ (j : Nat) (u : Value), (ints xs)[j]? = some u → W.cell? ((⟨b, o, none⟩ : Addr).add j) = some u := by
    intro W hW j u hj
    obtain ⟨hlt, rfl⟩ := List.getElem?_eq_some_iff.1 hj
    have hlt2 : j < xs.length := by simpa [ints] using hlt
    obtain ⟨b', o', e, hc⟩ := hW j hlt2
    simp at e
    obtain ⟨rfl, rfl⟩ := e
    rw [show (⟨b, o, none⟩ : Addr).add j = ⟨b, o + j, none⟩ from by unfold Addr.add; split <;> simp_all, hc]
    simp [ints, hlt2]
  have hone : ∀ u ∈ ints xs, u.oneCell' = true := fun u hu => by
    simp [ints] at hu
    obtain ⟨x, _, rfl⟩ := hu
    rfl
  have hint : (ints xs).length = n * 1 := by simp [ints, hn]
  have HRW := Lib.hid hrow
  have HON := Lib.hid hone
  have HIN := Lib.hid hint
  have HR := Lib.hid hr
  have HX := Lib.hid hn
  clear hrow hone hint hr hn
  go_wp2_with (at_builtin; refine wpList_append_grows _ rfl _ _ 26 rfl 2 i0 (.int .i64 0) 1 8 Tryz.underlying26 hi hz0 hz1 hz2 rfl (by decide) _ 0 0 [] rfl (by simp) rfl (by simp) ⟨b, o, none⟩ n cap (ints xs) rfl HIN.out (HRW.out _ (HR.out.alloc _)) HON.out (by omega) (by unfold maxLen; omega) (by omega) ?_)
  intro v' w' hown hgrow
  obtain ⟨g, k, rfl⟩ := Joins.ownsRow_form hown (by omega)
  obtain ⟨hR, hg⟩ := Row.of_owns hown
  go_wp2
  go_ret
  exact ⟨g, k, by simp [HX.out], by omega, hR, from_alloc ⟨hgrow.os, hgrow.tape, hgrow.output, hgrow.size, fun k hk => hgrow.block k hk (by simp)⟩⟩
end Go.Proofs.YtciljbnailobgaaGreat
