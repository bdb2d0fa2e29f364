/- Texts of a proof, laid together: Contracts of the program's functions that make boards: a side, the exchange of sides. Contract of the program's board on which a checker has gone the way of a step. Contracts on legal steps and on the board behind a step, of the program and of its model. Contracts of the program's board behind a step. Contract of the program's board ahead of a step. Plays as values, and slices of plays in memory: how they lie, how they grow. Contracts of the lists of legal steps, of the program and of its model. -/
import Derived.Test.YtknkbhmgdddjkaaGreatY04
import Derived.Test.YtknkbhmgdddjkaaGreatY01
import Derived.Test.YtknkbhmgdddjkaaGreatY07
import Derived.Test.YtknkbhmgdddjkaaGreatY03
namespace Go.Proofs.YtknkbhmgdddjkaaGreat
open Go.ChangeShapes Go.WideShapes Go.ChangeAt Go.RowKit
set_option linter.unusedVariables false
set_option linter.unusedSimpArgs false
set_option maxRecDepth 4000

set_option maxRecDepth 8000 in
set_option maxHeartbeats 1000000 in
theorem side_any (P : Nat) (f1 f2 B1 B2 fn B : Nat) (xs : List Int) (w : World) (p1 : P ≤ 24) (hn : xs.length = P + 1) (hp : Pays fn B xs w) :
    Calls Tryz.prog 97 #[.agg #[.int .i64 (P : Int), fv f1 B1, fv f2 B2], fv fn B] w (Copied xs w) := by
  obtain ⟨i0, hi, hz0, hz1, hz2⟩ := info_parts infoI64
  have hb : Below w.heap.size w (w.alloc (.cells #[.int .i64 (P : Int), fv f1 B1, fv f2 B2] 75)) := (Below.refl _ _).alloc (Nat.le_refl _) _
  have hp0 := hp.below hb
  have e199 := hp.1
  obtain ⟨z0, z1, z2, zf, zl⟩ := (Blk.new w #[.int .i64 (P : Int), fv f1 B1, fv f2 B2] 75).tri
  go_enter Tryz.func97, Tryz.ntmps97
  go_wp2_with (at_make; refine wpList_make_row _ rfl _ _ 26 rfl 2 i0 (.int .i64 0) Tryz.underlying26 hi hz0 hz1 rfl .i64 .i64 (P + 1) (by rfl) (by rfl) (by rw [hz2]; omega) (by omega) ?_)
  clear z0 z1 z2 zf zl
  have hmade := made_row (w.alloc (.cells #[.int .i64 (P : Int), fv f1 B1, fv f2 B2] 75)) (P + 1)
  have hsz : (w.alloc (.cells #[.int .i64 (P : Int), fv f1 B1, fv f2 B2] 75)).heap.size = w.heap.size + 1 := by simp
  rw [hsz] at hmade
  generalize (w.alloc (.cells #[.int .i64 (P : Int), fv f1 B1, fv f2 B2] 75)) = v0 at *
  go_loopg [13] xs.length (fun m i wr => ∃ k : Nat, k ≤ xs.length ∧ m = xs.length - k ∧ i = .int .i64 k ∧ Row wr (w.heap.size + 1) (xs.take k ++ List.replicate (xs.length - k) 0) ∧ Below (w.heap.size + 1) v0 wr)
  case atStart => exact ⟨0, by omega, by omega, rfl, by simpa [hn] using hmade, (Below.refl _ _).alloc (by omega) _⟩
  case round =>
    clear hmade
    obtain ⟨k, hk, hm, rfl, hR, hbk⟩ := hrel
    have hsz2 : w.heap.size + 1 < wr.heap.size := hR.lt
    by_cases hlt : k < xs.length
    · have hlt' : (k : Int) < (P : Int) + 1 := by omega
      have hpk := hp0.2 wr (hbk.mono (by omega)) k hlt
      obtain ⟨v, hv⟩ : ∃ v, xs.getD k 0 = v := ⟨_, rfl⟩
      rw [hv] at hpk
      have hcs := copy_step xs k hlt
      rw [hv] at hcs
      have HP := Lib.hid hpk
      have HC := Lib.hid hcs
      have HN := Lib.hid hn
      clear hpk hv hcs hn
      go_wp2_with (go_at_fn fn; refine HP.out.mono ?_; rintro e w5 ⟨rfl, hb5⟩; have R5 := hR.below hb5; have f0 := R5.free k; have c0 := R5.cell k (by simp; omega))
      go_roundg (xs.length - (k + 1))
      case measure => omega
      case rel => exact ⟨k + 1, by omega, rfl, by go_num, (R5.set k v).wf HC.out, (hbk.trans (hb5.mono (by omega))).setCell (Nat.le_refl _) _⟩
    · obtain rfl : k = xs.length := by omega
      have hlt' : ¬ ((xs.length : Nat) : Int) < (P : Int) + 1 := by omega
      have hend := hR.wf (show xs.take xs.length ++ List.replicate (xs.length - xs.length) 0 = xs by simp)
      have HE := Lib.hid hend
      have HN := Lib.hid hn
      clear hend hn hR
      go_wp2
      go_ret
      exact ⟨w.heap.size + 1, by simp [HN.out], by omega, HE.out, hb.trans (hbk.mono (by omega))⟩
theorem heldTB {w W w2 : World} {P f1 f2 B1 B2 : Nat} (hS : W.cell? ⟨w.heap.size, 0, none⟩ = some (.int .i64 (P : Int)) ∧ W.cell? ⟨w.heap.size, 1, none⟩ = some (fv f1 B1) ∧ W.cell? ⟨w.heap.size, 2, none⟩ = some (fv f2 B2) ∧ Below w.heap.size w W ∧ ∃ u0 u1, Blk W (w.heap.size + 1) #[u0, u1] 28) (hb : Below W.heap.size W w2) : w2.cell? ⟨w.heap.size, 0, none⟩ = some (.int .i64 (P : Int)) ∧ w2.cell? ⟨w.heap.size, 1, none⟩ = some (fv f1 B1) ∧ w2.cell? ⟨w.heap.size, 2, none⟩ = some (fv f2 B2) ∧ Below w.heap.size w w2 ∧ ∃ u0 u1, Blk w2 (w.heap.size + 1) #[u0, u1] 28 := by
  obtain ⟨h0, h1, h2, h3, u0, u1, h4⟩ := hS
  obtain ⟨hc, _⟩ := bcell hb
  have hl : w.heap.size < W.heap.size := by have := h4.lt; omega
  exact ⟨by rw [hc _ _ hl]; exact h0, by rw [hc _ _ hl]; exact h1, by rw [hc _ _ hl]; exact h2, chain h3 hb, u0, u1, h4.below hb⟩
theorem storeTB {w W : World} {P f1 f2 B1 B2 : Nat} (hS : W.cell? ⟨w.heap.size, 0, none⟩ = some (.int .i64 (P : Int)) ∧ W.cell? ⟨w.heap.size, 1, none⟩ = some (fv f1 B1) ∧ W.cell? ⟨w.heap.size, 2, none⟩ = some (fv f2 B2) ∧ Below w.heap.size w W ∧ ∃ u0 u1, Blk W (w.heap.size + 1) #[u0, u1] 28) (v0 v1 : Value) : ((W.setCell ⟨w.heap.size + 1, 0, none⟩ v0).setCell ⟨w.heap.size + 1, 1, none⟩ v1).cell? ⟨w.heap.size, 0, none⟩ = some (.int .i64 (P : Int)) ∧ ((W.setCell ⟨w.heap.size + 1, 0, none⟩ v0).setCell ⟨w.heap.size + 1, 1, none⟩ v1).cell? ⟨w.heap.size, 1, none⟩ = some (fv f1 B1) ∧ ((W.setCell ⟨w.heap.size + 1, 0, none⟩ v0).setCell ⟨w.heap.size + 1, 1, none⟩ v1).cell? ⟨w.heap.size, 2, none⟩ = some (fv f2 B2) ∧ Below w.heap.size w ((W.setCell ⟨w.heap.size + 1, 0, none⟩ v0).setCell ⟨w.heap.size + 1, 1, none⟩ v1) ∧ ∃ u0 u1, Blk ((W.setCell ⟨w.heap.size + 1, 0, none⟩ v0).setCell ⟨w.heap.size + 1, 1, none⟩ v1) (w.heap.size + 1) #[u0, u1] 28 := by
  obtain ⟨h0, h1, h2, h3, u0, u1, h4⟩ := hS
  refine ⟨?_, ?_, ?_, (h3.setCell (by simp) _).setCell (by simp) _, v0, v1, (h4.set v0).set v1⟩ <;> (rw [World.cell?_setCell_far _ _ _ _ (by simp), World.cell?_setCell_far _ _ _ _ (by simp)]; assumption)
set_option maxRecDepth 8000 in
set_option maxHeartbeats 1000000 in
theorem board_any (P : Nat) (f1 f2 B1 B2 : Nat) (xs ys : List Int) (w : World) (p1 : P ≤ 24) (n1 : xs.length = P + 1) (n2 : ys.length = P + 1) (q1 : Pays f1 B1 xs w) (q2 : Pays f2 B2 ys w) :
    Calls Tryz.prog 96 #[.agg #[.int .i64 (P : Int), fv f1 B1, fv f2 B2]] w (BoardMade xs ys w) := by
  obtain ⟨BT, BR, hb, hz⟩ := two_new w #[.int .i64 (P : Int), fv f1 B1, fv f2 B2] #[.slice none 0 0, .slice none 0 0] 75 28
  obtain ⟨x0, x1, x2, xf, xl⟩ := BT.tri
  have hK1 := fun W (hW : Below w.heap.size w W) => side_any P f1 f2 B1 B2 f1 B1 xs W p1 n1 (q1.below hW)
  have hK2 := fun W (hW : Below w.heap.size w W) => side_any P f1 f2 B1 B2 f2 B2 ys W p1 n2 (q2.below hW)
  have HK1 := Lib.hid hK1
  have HK2 := Lib.hid hK2
  clear hK1 hK2
  go_enter Tryz.func96, Tryz.ntmps96
  go_wp2_with fail
  generalize ((w.alloc (.cells #[.int .i64 (P : Int), fv f1 B1, fv f2 B2] 75)).alloc (.cells #[.slice none 0 0, .slice none 0 0] 28)) = v0 at *
  refine wp_region_held_drew (S := fun w' => w'.cell? ⟨w.heap.size, 0, none⟩ = some (.int .i64 (P : Int)) ∧ w'.cell? ⟨w.heap.size, 1, none⟩ = some (fv f1 B1) ∧ w'.cell? ⟨w.heap.size, 2, none⟩ = some (fv f2 B2) ∧ Below w.heap.size w w' ∧ ∃ u0 u1, Blk w' (w.heap.size + 1) #[u0, u1] 28) (by kernel_rfl) ⟨x0, x1, x2, hb.drew, _, _, BR.drew⟩ (fun hHeld => ?_)
  refine wpAnyH_take (i := 0) (oi := { dst := some 3, op := _, type := _, pos := _, after := _, guard := _ }) (v := ?_) rfl (by kernel_rfl) (by kernel_rfl) (by kernel_rfl) (fun _ _ _ h => h) (Or.inl ⟨by rfl, ?_⟩) (by assumption) ?_
  rotate_left
  · intro w hSw
    (try dsimp only at hSw)
    go_simp
    (try (with_reducible rfl))
  try simp only [Act.put, List.setIfInBounds_toArray, List.set_cons_zero, List.set_cons_succ]
  refine wpAnyH_take (i := 1) (oi := { dst := some 4, op := _, type := _, pos := _, after := _, guard := _ }) (v := ?_) rfl (by kernel_rfl) (by kernel_rfl) (by kernel_rfl) (fun _ _ _ h => h) (Or.inl ⟨by rfl, ?_⟩) (by assumption) ?_
  rotate_left
  · intro w hSw
    (try dsimp only at hSw)
    go_simp
    (try (with_reducible rfl))
  try simp only [Act.put, List.setIfInBounds_toArray, List.set_cons_zero, List.set_cons_succ]
  refine wpAnyH_take (i := 2) (oi := { dst := some 5, op := _, type := _, pos := _, after := _, guard := _ }) (v := ?_) rfl (by kernel_rfl) (by kernel_rfl) (by kernel_rfl) (fun _ _ _ h => h) (Or.inl ⟨by rfl, ?_⟩) (by assumption) ?_
  rotate_left
  · intro w hSw
    (try dsimp only at hSw)
    go_simp
    (try (with_reducible rfl))
  try simp only [Act.put, List.setIfInBounds_toArray, List.set_cons_zero, List.set_cons_succ]
  refine wpAnyH_take (i := 4) (oi := { dst := some 7, op := _, type := _, pos := _, after := _, guard := _ }) (v := ?_) rfl (by kernel_rfl) (by kernel_rfl) (by kernel_rfl) (fun _ _ _ h => h) (Or.inl ⟨by rfl, ?_⟩) (by assumption) ?_
  rotate_left
  · intro w hSw
    (try dsimp only at hSw)
    go_simp
    (try (with_reducible rfl))
  try simp only [Act.put, List.setIfInBounds_toArray, List.set_cons_zero, List.set_cons_succ]
  refine wpAnyH_take (i := 5) (oi := { dst := some 8, op := _, type := _, pos := _, after := _, guard := _ }) (v := ?_) rfl (by kernel_rfl) (by kernel_rfl) (by kernel_rfl) (fun _ _ _ h => h) (Or.inl ⟨by rfl, ?_⟩) (by assumption) ?_
  rotate_left
  · intro w hSw
    (try dsimp only at hSw)
    go_simp
    (try (with_reducible rfl))
  try simp only [Act.put, List.setIfInBounds_toArray, List.set_cons_zero, List.set_cons_succ]
  refine wpAnyH_take (i := 6) (oi := { dst := some 9, op := _, type := _, pos := _, after := _, guard := _ }) (v := ?_) rfl (by kernel_rfl) (by kernel_rfl) (by kernel_rfl) (fun _ _ _ h => h) (Or.inl ⟨by rfl, ?_⟩) (by assumption) ?_
  rotate_left
  · intro w hSw
    (try dsimp only at hSw)
    go_simp
    (try (with_reducible rfl))
  try simp only [Act.put, List.setIfInBounds_toArray, List.set_cons_zero, List.set_cons_succ]
  refine wpAnyH_ready (rs := [3]) (by kernel_rfl) (by simp) ?_
  refine AllReadyH.cons (o := { dst := some 6, op := _, type := _, pos := _, after := _, guard := _ }) rfl (fun K hK => ?_) AllReadyH.nil
  go_simp
  refine (HK1.out _ hHeld.2.2.2.1).mono ?_
  rintro e w5 ⟨g1, rfl, hg1, R1, hb1⟩
  have hS := heldTB hHeld hb1
  (try go_wp2_with fail)
  refine hK.out _ _ hS (fun hHeld => ?_)
  clear hK K
  try simp only [Act.put, List.setIfInBounds_toArray, List.set_cons_zero, List.set_cons_succ]
  refine wpAnyH_ready (rs := [7]) (by kernel_rfl) (by simp) ?_
  refine AllReadyH.cons (o := { dst := some 10, op := _, type := _, pos := _, after := _, guard := _ }) rfl (fun K hK => ?_) AllReadyH.nil
  go_simp
  refine (HK2.out _ hHeld.2.2.2.1).mono ?_
  rintro e w6 ⟨g2, rfl, hg2, R2, hb2⟩
  have R1b := R1.below hb2
  have hS := heldTB hHeld hb2
  (try go_wp2_with fail)
  refine hK.out _ _ hS (fun hHeld => ?_)
  clear hK K
  try simp only [Act.put, List.setIfInBounds_toArray, List.set_cons_zero, List.set_cons_succ]
  refine wpAnyH_take (i := 8) (oi := { dst := some 11, op := _, type := _, pos := _, after := _, guard := _ }) (v := ?_) rfl (by kernel_rfl) (by kernel_rfl) (by kernel_rfl) (fun _ _ _ h => h) (Or.inl ⟨by rfl, ?_⟩) (by assumption) ?_
  rotate_left
  · intro w hSw
    (try dsimp only at hSw)
    go_simp
    (try (with_reducible rfl))
  try simp only [Act.put, List.setIfInBounds_toArray, List.set_cons_zero, List.set_cons_succ]
  refine wpAnyH_ready (rs := [9]) (by kernel_rfl) (by simp) ?_
  refine AllReadyH.cons (o := { dst := none, op := _, type := _, pos := _, after := _, guard := _ }) rfl (fun K hK => ?_) AllReadyH.nil
  obtain ⟨u0, u1, BU⟩ := hHeld.2.2.2.2
  have y0 := BU.two.1
  have y1 := BU.two.2.1
  have yf := BU.two.2.2.1
  have yl := BU.two.2.2.2
  go_simp
  (try go_wp2_with fail)
  refine hK.out _ _ (storeTB hHeld _ _) (fun hHeld => ?_)
  clear hK K
  try simp only [Act.put, List.setIfInBounds_toArray, List.set_cons_zero, List.set_cons_succ]
  refine wpAnyH_done (by kernel_rfl) ?_ _
  go_wp2
  have hl1 := R1.lt
  have hd : v0.drew.heap.size = w.heap.size + 1 + 1 := hz
  have hb56 := hHeld.2.2.2.1
  refine bodyPost_ret (v := .agg #[.slice (some ⟨g1, 0, none⟩) (P + 1) (P + 1), .slice (some ⟨g2, 0, none⟩) (P + 1) (P + 1)]) (by simp [results, Tryz.results96, go_sem, y0, y1]) rfl ?_
  exact ⟨g1, g2, by rw [n1, n2], by omega, by omega, (R1b.other (by omega)).other (by omega), (R2.other (by omega)).other (by omega), hb56⟩
end Go.Proofs.YtknkbhmgdddjkaaGreat
namespace Go.Proofs.YtknkbhmgdddjkaaGreat
open Go.ChangeShapes Go.WideShapes Go.ChangeAt Go.RowKit
set_option linter.unusedVariables false
set_option linter.unusedSimpArgs false
set_option maxRecDepth 4000

/-- The owner's checkers when n of them have gone from f to t. -/
def mvX (xs : List Int) (f t n : Int) : List Int := if t = -1 then xs.set f.toNat (xs.getD f.toNat 0 - n) else (xs.set f.toNat (xs.getD f.toNat 0 - n)).set t.toNat ((xs.set f.toNat (xs.getD f.toNat 0 - n)).getD t.toNat 0 + n)
/-- The other player's checkers when n of them have been hit at t. -/
def mvY (P : Nat) (ys : List Int) (t : Int) (q : Bool) (n : Int) : List Int :=
  if q = true then (ys.set ((P : Int) - 1 - t).toNat (ys.getD ((P : Int) - 1 - t).toNat 0 - n)).set P ((ys.set ((P : Int) - 1 - t).toNat (ys.getD ((P : Int) - 1 - t).toNat 0 - n)).getD P 0 + n) else ys
theorem getD_set_ne (l : List Int) {i j : Nat} (v : Int) (h : ¬ j = i) : (l.set i v).getD j 0 = l.getD j 0 := by
  rw [List.getD_eq_getElem?_getD, List.getD_eq_getElem?_getD, List.getElem?_set_ne (fun e => h e.symm)]
theorem getD_set_eq (l : List Int) {i : Nat} (v : Int) (h : i < l.length) : (l.set i v).getD i 0 = v := by
  rw [List.getD_eq_getElem?_getD, List.getElem?_set_self h]
  rfl
theorem mvX_length (xs : List Int) (f t n : Int) : (mvX xs f t n).length = xs.length := by unfold mvX; split <;> simp
theorem mvY_length (P : Nat) (ys : List Int) (t : Int) (q : Bool) (n : Int) : (mvY P ys t q n).length = ys.length := by unfold mvY; split <;> simp
set_option maxRecDepth 8000 in
set_option maxHeartbeats 4000000 in
theorem moved_far_false (P : Nat) (f1 f2 B1 B2 : Nat) (xs ys : List Int) (w : World) (p0 : 2 ≤ P) (p1 : P ≤ 24) (n1 : xs.length = P + 1) (n2 : ys.length = P + 1) (hx : ∀ x ∈ xs, 0 ≤ x ∧ x ≤ 1000) (hyy : ∀ y ∈ ys, 0 ≤ y ∧ y ≤ 1000) (q1 : Pays f1 B1 xs w) (q2 : Pays f2 B2 ys w) (f : Nat) (td n : Int) (m0 : -1 ≤ n) (m1 : n ≤ 1) (fP : f ≤ P) (t : Nat) (tP : t < P) (hne : ¬ t = f) :
    Calls Tryz.prog 92 #[.agg #[.int .i64 (P : Int), fv f1 B1, fv f2 B2], stV ((f : Int), (t : Int), td, false), .int .i64 n] w (BoardMade (mvX xs f ((t : Int)) n) (mvY P ys ((t : Int)) false n) w) := by
  have hK := fun W (hW : Below w.heap.size w W) => board_any P f1 f2 B1 B2 xs ys W p1 n1 n2 (q1.below hW) (q2.below hW)
  have HB := Lib.hid hK
  obtain ⟨BT, BS, BR, hb, hzz⟩ := three_new w #[.int .i64 (P : Int), fv f1 B1, fv f2 B2] #[.int .i64 (f : Int), .int .i64 ((t : Int)), .int .i64 td, .bool false] #[.slice none 0 0, .slice none 0 0] 75 112 28
  obtain ⟨x0, x1, x2, xf, xl⟩ := BT.tri
  obtain ⟨s0, s1, s2, s3, sf, sl⟩ := BS.four
  have hft : (f : Int) < ((P + 1 : Nat) : Int) := by omega
  have hPt : (P : Int) < ((P + 1 : Nat) : Int) := by omega
  have m9 : -1000 ≤ n := by omega
  obtain ⟨u, hu⟩ : ∃ u, xs.getD f 0 = u := ⟨_, rfl⟩
  have ub := hx _ (getD_mem (show f < xs.length by omega))
  rw [hu] at ub
  have ua : 0 ≤ u := ub.1
  have uz : u ≤ 1000 := ub.2
  have hm1 : ((t : Int) != -1) = true := by simp
  have htt : (t : Int) < ((P + 1 : Nat) : Int) := by omega
  have hne3 : ¬ f = t := fun e => hne e.symm
  obtain ⟨v, hv⟩ : ∃ v, xs.getD t 0 = v := ⟨_, rfl⟩
  have vb := hx _ (getD_mem (show t < xs.length by omega))
  rw [hv] at vb
  have va : 0 ≤ v := vb.1
  have vz : v ≤ 1000 := vb.2
  obtain ⟨X, hX⟩ : ∃ X, mvX xs (f : Int) ((t : Int)) n = X := ⟨_, rfl⟩
  obtain ⟨Y, hY⟩ : ∃ Y, mvY P ys ((t : Int)) false n = Y := ⟨_, rfl⟩
  have eX : (xs.set f (u - n)).set t (v + n) = X := by
    rw [← hX]
    unfold mvX
    rw [if_neg (by omega)]
    simp only [Int.toNat_natCast]
    rw [hu, getD_set_ne xs _ hne, hv]
  have eY : ys = Y := by
    rw [← hY]
    unfold mvY
    rw [if_neg (by simp)]
  have hXl : X.length = P + 1 := by rw [← hX, mvX_length, n1]
  have hYl : Y.length = P + 1 := by rw [← hY, mvY_length, n2]
  rw [hX, hY]
  have Hu := Lib.hid hu
  have Hv := Lib.hid hv
  have EX := Lib.hid eX
  have EY := Lib.hid eY
  have HXl := Lib.hid hXl
  have HYl := Lib.hid hYl
  clear hX hY hK q1 q2 eX eY hXl hYl
  clear hu ub
  clear hv vb
  go_enter Tryz.func92, Tryz.ntmps92
  go_wp2_with (go_at_call 96; refine (HB.out _ hb).mono ?_; rintro e w1 ⟨g1, g2, rfl, gg1, gg2, R1, R2, hb1⟩; obtain ⟨x0, x1, x2, xf, xl⟩ := (BT.below hb1).tri; obtain ⟨s0, s1, s2, s3, sf, sl⟩ := (BS.below hb1).four; obtain ⟨u0, u1, uf, ul⟩ := (BR.below hb1).two; have hne1 : ¬ g1 = g2 := (by omega); have hne2 : ¬ g2 = g1 := (by omega); have fr1 := (fun i => R1.free i); have fr2 := (fun i => R2.free i); have gl1 := R1.lt; have gl2 := R2.lt; have gs := hb.size; have cu := R1.cell f (by omega); rw [Hu.out] at cu; have cv := R1.cell t (by omega); rw [Hv.out] at cv)
  refine bodyPost_ret (v := .agg #[.slice (some ⟨g1, 0, none⟩) (P + 1) (P + 1), .slice (some ⟨g2, 0, none⟩) (P + 1) (P + 1)]) (by first | (simp [results, Tryz.results92, go_sem, u0, u1]; done) | (simp [results, Tryz.results92, go_sem, *]; done)) rfl ?_
  exact ⟨g1, g2, by rw [HXl.out, HYl.out], by omega, by omega, (((((R1.set f (u - n)).set t (v + n)).other (by omega)).other (by omega)).alloc _).wf EX.out, (((((R2.other (by omega)).other (by omega)).other (by omega)).other (by omega)).alloc _).wf EY.out, ((((((chain hb hb1).setCell (by simp; omega) _).setCell (by simp; omega) _).setCell (by simp; omega) _).setCell (by simp; omega) _).alloc (by simp; omega) _)⟩
set_option maxRecDepth 8000 in
set_option maxHeartbeats 4000000 in
theorem moved_far_true (P : Nat) (f1 f2 B1 B2 : Nat) (xs ys : List Int) (w : World) (p0 : 2 ≤ P) (p1 : P ≤ 24) (n1 : xs.length = P + 1) (n2 : ys.length = P + 1) (hx : ∀ x ∈ xs, 0 ≤ x ∧ x ≤ 1000) (hyy : ∀ y ∈ ys, 0 ≤ y ∧ y ≤ 1000) (q1 : Pays f1 B1 xs w) (q2 : Pays f2 B2 ys w) (f : Nat) (td n : Int) (m0 : -1 ≤ n) (m1 : n ≤ 1) (fP : f ≤ P) (t : Nat) (tP : t < P) (hne : ¬ t = f) :
    Calls Tryz.prog 92 #[.agg #[.int .i64 (P : Int), fv f1 B1, fv f2 B2], stV ((f : Int), (t : Int), td, true), .int .i64 n] w (BoardMade (mvX xs f ((t : Int)) n) (mvY P ys ((t : Int)) true n) w) := by
  have hK := fun W (hW : Below w.heap.size w W) => board_any P f1 f2 B1 B2 xs ys W p1 n1 n2 (q1.below hW) (q2.below hW)
  have HB := Lib.hid hK
  obtain ⟨BT, BS, BR, hb, hzz⟩ := three_new w #[.int .i64 (P : Int), fv f1 B1, fv f2 B2] #[.int .i64 (f : Int), .int .i64 ((t : Int)), .int .i64 td, .bool true] #[.slice none 0 0, .slice none 0 0] 75 112 28
  obtain ⟨x0, x1, x2, xf, xl⟩ := BT.tri
  obtain ⟨s0, s1, s2, s3, sf, sl⟩ := BS.four
  have hft : (f : Int) < ((P + 1 : Nat) : Int) := by omega
  have hPt : (P : Int) < ((P + 1 : Nat) : Int) := by omega
  have m9 : -1000 ≤ n := by omega
  obtain ⟨u, hu⟩ : ∃ u, xs.getD f 0 = u := ⟨_, rfl⟩
  have ub := hx _ (getD_mem (show f < xs.length by omega))
  rw [hu] at ub
  have ua : 0 ≤ u := ub.1
  have uz : u ≤ 1000 := ub.2
  have hm1 : ((t : Int) != -1) = true := by simp
  have htt : (t : Int) < ((P + 1 : Nat) : Int) := by omega
  have hne3 : ¬ f = t := fun e => hne e.symm
  obtain ⟨v, hv⟩ : ∃ v, xs.getD t 0 = v := ⟨_, rfl⟩
  have vb := hx _ (getD_mem (show t < xs.length by omega))
  rw [hv] at vb
  have va : 0 ≤ v := vb.1
  have vz : v ≤ 1000 := vb.2
  obtain ⟨K, hKK⟩ : ∃ K, P - 1 - t = K := ⟨_, rfl⟩
  have eK : (P : Int) - 1 - (t : Int) = (K : Int) := by omega
  have hKP : ¬ K = P := by omega
  have hPK : ¬ P = K := by omega
  have hKt : (K : Int) < ((P + 1 : Nat) : Int) := by omega
  have wz : IntKind.i64.wrap (IntKind.i64.wrap ((P : Int) - 1) - (t : Int)) = (K : Int) := by rw [IntWalk.i64_in ((P : Int) - 1) (by omega), eK]; exact IntWalk.i64_in _ (by omega)
  obtain ⟨y, hy⟩ : ∃ y, ys.getD K 0 = y := ⟨_, rfl⟩
  have yb := hyy _ (getD_mem (show K < ys.length by omega))
  rw [hy] at yb
  have ya : 0 ≤ y := yb.1
  have yz : y ≤ 1000 := yb.2
  obtain ⟨z, hz⟩ : ∃ z, ys.getD P 0 = z := ⟨_, rfl⟩
  have zb := hyy _ (getD_mem (show P < ys.length by omega))
  rw [hz] at zb
  have za : 0 ≤ z := zb.1
  have zz : z ≤ 1000 := zb.2
  obtain ⟨X, hX⟩ : ∃ X, mvX xs (f : Int) ((t : Int)) n = X := ⟨_, rfl⟩
  obtain ⟨Y, hY⟩ : ∃ Y, mvY P ys ((t : Int)) true n = Y := ⟨_, rfl⟩
  have eX : (xs.set f (u - n)).set t (v + n) = X := by
    rw [← hX]
    unfold mvX
    rw [if_neg (by omega)]
    simp only [Int.toNat_natCast]
    rw [hu, getD_set_ne xs _ hne, hv]
  have eY : (ys.set K (y - n)).set P (z + n) = Y := by
    rw [← hY]
    unfold mvY
    rw [if_pos rfl, eK, Int.toNat_natCast, hy, getD_set_ne ys _ hPK, hz]
  have hXl : X.length = P + 1 := by rw [← hX, mvX_length, n1]
  have hYl : Y.length = P + 1 := by rw [← hY, mvY_length, n2]
  rw [hX, hY]
  have Hu := Lib.hid hu
  have Hv := Lib.hid hv
  have Hy := Lib.hid hy
  have Hz := Lib.hid hz
  have EX := Lib.hid eX
  have EY := Lib.hid eY
  have HXl := Lib.hid hXl
  have HYl := Lib.hid hYl
  clear hX hY hK q1 q2 eX eY hXl hYl
  clear hu ub
  clear hv vb
  clear hy yb
  clear hz zb
  go_enter Tryz.func92, Tryz.ntmps92
  go_wp2_with (go_at_call 96; refine (HB.out _ hb).mono ?_; rintro e w1 ⟨g1, g2, rfl, gg1, gg2, R1, R2, hb1⟩; obtain ⟨x0, x1, x2, xf, xl⟩ := (BT.below hb1).tri; obtain ⟨s0, s1, s2, s3, sf, sl⟩ := (BS.below hb1).four; obtain ⟨u0, u1, uf, ul⟩ := (BR.below hb1).two; have hne1 : ¬ g1 = g2 := (by omega); have hne2 : ¬ g2 = g1 := (by omega); have fr1 := (fun i => R1.free i); have fr2 := (fun i => R2.free i); have gl1 := R1.lt; have gl2 := R2.lt; have gs := hb.size; have cu := R1.cell f (by omega); rw [Hu.out] at cu; have cv := R1.cell t (by omega); rw [Hv.out] at cv; have cy := R2.cell K (by omega); rw [Hy.out] at cy; have cz := R2.cell P (by omega); rw [Hz.out] at cz)
  refine bodyPost_ret (v := .agg #[.slice (some ⟨g1, 0, none⟩) (P + 1) (P + 1), .slice (some ⟨g2, 0, none⟩) (P + 1) (P + 1)]) (by first | (simp [results, Tryz.results92, go_sem, u0, u1]; done) | (simp [results, Tryz.results92, go_sem, *]; done)) rfl ?_
  exact ⟨g1, g2, by rw [HXl.out, HYl.out], by omega, by omega, (((((((R1.set f (u - n)).set t (v + n)).other (by omega)).other (by omega)).other (by omega)).other (by omega)).alloc _).wf EX.out, (((((((R2.other (by omega)).other (by omega)).set K (y - n)).set P (z + n)).other (by omega)).other (by omega)).alloc _).wf EY.out, ((((((((chain hb hb1).setCell (by simp; omega) _).setCell (by simp; omega) _).setCell (by simp; omega) _).setCell (by simp; omega) _).setCell (by simp; omega) _).setCell (by simp; omega) _).alloc (by simp; omega) _)⟩
set_option maxRecDepth 8000 in
set_option maxHeartbeats 4000000 in
theorem moved_same_false (P : Nat) (f1 f2 B1 B2 : Nat) (xs ys : List Int) (w : World) (p0 : 2 ≤ P) (p1 : P ≤ 24) (n1 : xs.length = P + 1) (n2 : ys.length = P + 1) (hx : ∀ x ∈ xs, 0 ≤ x ∧ x ≤ 1000) (hyy : ∀ y ∈ ys, 0 ≤ y ∧ y ≤ 1000) (q1 : Pays f1 B1 xs w) (q2 : Pays f2 B2 ys w) (f : Nat) (td n : Int) (m0 : -1 ≤ n) (m1 : n ≤ 1) (fP : f ≤ P) (tP : f < P) :
    Calls Tryz.prog 92 #[.agg #[.int .i64 (P : Int), fv f1 B1, fv f2 B2], stV ((f : Int), (f : Int), td, false), .int .i64 n] w (BoardMade (mvX xs f ((f : Int)) n) (mvY P ys ((f : Int)) false n) w) := by
  have hK := fun W (hW : Below w.heap.size w W) => board_any P f1 f2 B1 B2 xs ys W p1 n1 n2 (q1.below hW) (q2.below hW)
  have HB := Lib.hid hK
  obtain ⟨BT, BS, BR, hb, hzz⟩ := three_new w #[.int .i64 (P : Int), fv f1 B1, fv f2 B2] #[.int .i64 (f : Int), .int .i64 ((f : Int)), .int .i64 td, .bool false] #[.slice none 0 0, .slice none 0 0] 75 112 28
  obtain ⟨x0, x1, x2, xf, xl⟩ := BT.tri
  obtain ⟨s0, s1, s2, s3, sf, sl⟩ := BS.four
  have hft : (f : Int) < ((P + 1 : Nat) : Int) := by omega
  have hPt : (P : Int) < ((P + 1 : Nat) : Int) := by omega
  have m9 : -1000 ≤ n := by omega
  obtain ⟨u, hu⟩ : ∃ u, xs.getD f 0 = u := ⟨_, rfl⟩
  have ub := hx _ (getD_mem (show f < xs.length by omega))
  rw [hu] at ub
  have ua : 0 ≤ u := ub.1
  have uz : u ≤ 1000 := ub.2
  have hm1 : ((f : Int) != -1) = true := by simp
  have htt : (f : Int) < ((P + 1 : Nat) : Int) := by omega
  obtain ⟨X, hX⟩ : ∃ X, mvX xs (f : Int) ((f : Int)) n = X := ⟨_, rfl⟩
  obtain ⟨Y, hY⟩ : ∃ Y, mvY P ys ((f : Int)) false n = Y := ⟨_, rfl⟩
  have eX : (xs.set f (u - n)).set f u = X := by
    rw [← hX]
    unfold mvX
    rw [if_neg (by omega)]
    simp only [Int.toNat_natCast]
    rw [hu, getD_set_eq xs _ (by omega), show u - n + n = u by omega]
  have eY : ys = Y := by
    rw [← hY]
    unfold mvY
    rw [if_neg (by simp)]
  have hXl : X.length = P + 1 := by rw [← hX, mvX_length, n1]
  have hYl : Y.length = P + 1 := by rw [← hY, mvY_length, n2]
  rw [hX, hY]
  have Hu := Lib.hid hu
  have EX := Lib.hid eX
  have EY := Lib.hid eY
  have HXl := Lib.hid hXl
  have HYl := Lib.hid hYl
  clear hX hY hK q1 q2 eX eY hXl hYl
  clear hu ub
  go_enter Tryz.func92, Tryz.ntmps92
  go_wp2_with (go_at_call 96; refine (HB.out _ hb).mono ?_; rintro e w1 ⟨g1, g2, rfl, gg1, gg2, R1, R2, hb1⟩; obtain ⟨x0, x1, x2, xf, xl⟩ := (BT.below hb1).tri; obtain ⟨s0, s1, s2, s3, sf, sl⟩ := (BS.below hb1).four; obtain ⟨u0, u1, uf, ul⟩ := (BR.below hb1).two; have hne1 : ¬ g1 = g2 := (by omega); have hne2 : ¬ g2 = g1 := (by omega); have fr1 := (fun i => R1.free i); have fr2 := (fun i => R2.free i); have gl1 := R1.lt; have gl2 := R2.lt; have gs := hb.size; have cu := R1.cell f (by omega); rw [Hu.out] at cu)
  refine bodyPost_ret (v := .agg #[.slice (some ⟨g1, 0, none⟩) (P + 1) (P + 1), .slice (some ⟨g2, 0, none⟩) (P + 1) (P + 1)]) (by first | (simp [results, Tryz.results92, go_sem, u0, u1]; done) | (simp [results, Tryz.results92, go_sem, *]; done)) rfl ?_
  exact ⟨g1, g2, by rw [HXl.out, HYl.out], by omega, by omega, (((((R1.set f (u - n)).set f u).other (by omega)).other (by omega)).alloc _).wf EX.out, (((((R2.other (by omega)).other (by omega)).other (by omega)).other (by omega)).alloc _).wf EY.out, ((((((chain hb hb1).setCell (by simp; omega) _).setCell (by simp; omega) _).setCell (by simp; omega) _).setCell (by simp; omega) _).alloc (by simp; omega) _)⟩
set_option maxRecDepth 8000 in
set_option maxHeartbeats 4000000 in
theorem moved_same_true (P : Nat) (f1 f2 B1 B2 : Nat) (xs ys : List Int) (w : World) (p0 : 2 ≤ P) (p1 : P ≤ 24) (n1 : xs.length = P + 1) (n2 : ys.length = P + 1) (hx : ∀ x ∈ xs, 0 ≤ x ∧ x ≤ 1000) (hyy : ∀ y ∈ ys, 0 ≤ y ∧ y ≤ 1000) (q1 : Pays f1 B1 xs w) (q2 : Pays f2 B2 ys w) (f : Nat) (td n : Int) (m0 : -1 ≤ n) (m1 : n ≤ 1) (fP : f ≤ P) (tP : f < P) :
    Calls Tryz.prog 92 #[.agg #[.int .i64 (P : Int), fv f1 B1, fv f2 B2], stV ((f : Int), (f : Int), td, true), .int .i64 n] w (BoardMade (mvX xs f ((f : Int)) n) (mvY P ys ((f : Int)) true n) w) := by
  have hK := fun W (hW : Below w.heap.size w W) => board_any P f1 f2 B1 B2 xs ys W p1 n1 n2 (q1.below hW) (q2.below hW)
  have HB := Lib.hid hK
  obtain ⟨BT, BS, BR, hb, hzz⟩ := three_new w #[.int .i64 (P : Int), fv f1 B1, fv f2 B2] #[.int .i64 (f : Int), .int .i64 ((f : Int)), .int .i64 td, .bool true] #[.slice none 0 0, .slice none 0 0] 75 112 28
  obtain ⟨x0, x1, x2, xf, xl⟩ := BT.tri
  obtain ⟨s0, s1, s2, s3, sf, sl⟩ := BS.four
  have hft : (f : Int) < ((P + 1 : Nat) : Int) := by omega
  have hPt : (P : Int) < ((P + 1 : Nat) : Int) := by omega
  have m9 : -1000 ≤ n := by omega
  obtain ⟨u, hu⟩ : ∃ u, xs.getD f 0 = u := ⟨_, rfl⟩
  have ub := hx _ (getD_mem (show f < xs.length by omega))
  rw [hu] at ub
  have ua : 0 ≤ u := ub.1
  have uz : u ≤ 1000 := ub.2
  have hm1 : ((f : Int) != -1) = true := by simp
  have htt : (f : Int) < ((P + 1 : Nat) : Int) := by omega
  obtain ⟨K, hKK⟩ : ∃ K, P - 1 - f = K := ⟨_, rfl⟩
  have eK : (P : Int) - 1 - (f : Int) = (K : Int) := by omega
  have hKP : ¬ K = P := by omega
  have hPK : ¬ P = K := by omega
  have hKt : (K : Int) < ((P + 1 : Nat) : Int) := by omega
  have wz : IntKind.i64.wrap (IntKind.i64.wrap ((P : Int) - 1) - (f : Int)) = (K : Int) := by rw [IntWalk.i64_in ((P : Int) - 1) (by omega), eK]; exact IntWalk.i64_in _ (by omega)
  obtain ⟨y, hy⟩ : ∃ y, ys.getD K 0 = y := ⟨_, rfl⟩
  have yb := hyy _ (getD_mem (show K < ys.length by omega))
  rw [hy] at yb
  have ya : 0 ≤ y := yb.1
  have yz : y ≤ 1000 := yb.2
  obtain ⟨z, hz⟩ : ∃ z, ys.getD P 0 = z := ⟨_, rfl⟩
  have zb := hyy _ (getD_mem (show P < ys.length by omega))
  rw [hz] at zb
  have za : 0 ≤ z := zb.1
  have zz : z ≤ 1000 := zb.2
  obtain ⟨X, hX⟩ : ∃ X, mvX xs (f : Int) ((f : Int)) n = X := ⟨_, rfl⟩
  obtain ⟨Y, hY⟩ : ∃ Y, mvY P ys ((f : Int)) true n = Y := ⟨_, rfl⟩
  have eX : (xs.set f (u - n)).set f u = X := by
    rw [← hX]
    unfold mvX
    rw [if_neg (by omega)]
    simp only [Int.toNat_natCast]
    rw [hu, getD_set_eq xs _ (by omega), show u - n + n = u by omega]
  have eY : (ys.set K (y - n)).set P (z + n) = Y := by
    rw [← hY]
    unfold mvY
    rw [if_pos rfl, eK, Int.toNat_natCast, hy, getD_set_ne ys _ hPK, hz]
  have hXl : X.length = P + 1 := by rw [← hX, mvX_length, n1]
  have hYl : Y.length = P + 1 := by rw [← hY, mvY_length, n2]
  rw [hX, hY]
  have Hu := Lib.hid hu
  have Hy := Lib.hid hy
  have Hz := Lib.hid hz
  have EX := Lib.hid eX
  have EY := Lib.hid eY
  have HXl := Lib.hid hXl
  have HYl := Lib.hid hYl
  clear hX hY hK q1 q2 eX eY hXl hYl
  clear hu ub
  clear hy yb
  clear hz zb
  go_enter Tryz.func92, Tryz.ntmps92
  go_wp2_with (go_at_call 96; refine (HB.out _ hb).mono ?_; rintro e w1 ⟨g1, g2, rfl, gg1, gg2, R1, R2, hb1⟩; obtain ⟨x0, x1, x2, xf, xl⟩ := (BT.below hb1).tri; obtain ⟨s0, s1, s2, s3, sf, sl⟩ := (BS.below hb1).four; obtain ⟨u0, u1, uf, ul⟩ := (BR.below hb1).two; have hne1 : ¬ g1 = g2 := (by omega); have hne2 : ¬ g2 = g1 := (by omega); have fr1 := (fun i => R1.free i); have fr2 := (fun i => R2.free i); have gl1 := R1.lt; have gl2 := R2.lt; have gs := hb.size; have cu := R1.cell f (by omega); rw [Hu.out] at cu; have cy := R2.cell K (by omega); rw [Hy.out] at cy; have cz := R2.cell P (by omega); rw [Hz.out] at cz)
  refine bodyPost_ret (v := .agg #[.slice (some ⟨g1, 0, none⟩) (P + 1) (P + 1), .slice (some ⟨g2, 0, none⟩) (P + 1) (P + 1)]) (by first | (simp [results, Tryz.results92, go_sem, u0, u1]; done) | (simp [results, Tryz.results92, go_sem, *]; done)) rfl ?_
  exact ⟨g1, g2, by rw [HXl.out, HYl.out], by omega, by omega, (((((((R1.set f (u - n)).set f u).other (by omega)).other (by omega)).other (by omega)).other (by omega)).alloc _).wf EX.out, (((((((R2.other (by omega)).other (by omega)).set K (y - n)).set P (z + n)).other (by omega)).other (by omega)).alloc _).wf EY.out, ((((((((chain hb hb1).setCell (by simp; omega) _).setCell (by simp; omega) _).setCell (by simp; omega) _).setCell (by simp; omega) _).setCell (by simp; omega) _).setCell (by simp; omega) _).alloc (by simp; omega) _)⟩
set_option maxRecDepth 8000 in
set_option maxHeartbeats 4000000 in
theorem moved_off_false (P : Nat) (f1 f2 B1 B2 : Nat) (xs ys : List Int) (w : World) (p0 : 2 ≤ P) (p1 : P ≤ 24) (n1 : xs.length = P + 1) (n2 : ys.length = P + 1) (hx : ∀ x ∈ xs, 0 ≤ x ∧ x ≤ 1000) (hyy : ∀ y ∈ ys, 0 ≤ y ∧ y ≤ 1000) (q1 : Pays f1 B1 xs w) (q2 : Pays f2 B2 ys w) (f : Nat) (td n : Int) (m0 : -1 ≤ n) (m1 : n ≤ 1) (fP : f ≤ P)  :
    Calls Tryz.prog 92 #[.agg #[.int .i64 (P : Int), fv f1 B1, fv f2 B2], stV ((f : Int), -1, td, false), .int .i64 n] w (BoardMade (mvX xs f (-1) n) (mvY P ys (-1) false n) w) := by
  have hK := fun W (hW : Below w.heap.size w W) => board_any P f1 f2 B1 B2 xs ys W p1 n1 n2 (q1.below hW) (q2.below hW)
  have HB := Lib.hid hK
  obtain ⟨BT, BS, BR, hb, hzz⟩ := three_new w #[.int .i64 (P : Int), fv f1 B1, fv f2 B2] #[.int .i64 (f : Int), .int .i64 (-1), .int .i64 td, .bool false] #[.slice none 0 0, .slice none 0 0] 75 112 28
  obtain ⟨x0, x1, x2, xf, xl⟩ := BT.tri
  obtain ⟨s0, s1, s2, s3, sf, sl⟩ := BS.four
  have hft : (f : Int) < ((P + 1 : Nat) : Int) := by omega
  have hPt : (P : Int) < ((P + 1 : Nat) : Int) := by omega
  have m9 : -1000 ≤ n := by omega
  obtain ⟨u, hu⟩ : ∃ u, xs.getD f 0 = u := ⟨_, rfl⟩
  have ub := hx _ (getD_mem (show f < xs.length by omega))
  rw [hu] at ub
  have ua : 0 ≤ u := ub.1
  have uz : u ≤ 1000 := ub.2
  obtain ⟨X, hX⟩ : ∃ X, mvX xs (f : Int) (-1) n = X := ⟨_, rfl⟩
  obtain ⟨Y, hY⟩ : ∃ Y, mvY P ys (-1) false n = Y := ⟨_, rfl⟩
  have eX : xs.set f (u - n) = X := by
    rw [← hX]
    unfold mvX
    rw [if_pos rfl]
    simp only [Int.toNat_natCast]
    rw [hu]
  have eY : ys = Y := by
    rw [← hY]
    unfold mvY
    rw [if_neg (by simp)]
  have hXl : X.length = P + 1 := by rw [← hX, mvX_length, n1]
  have hYl : Y.length = P + 1 := by rw [← hY, mvY_length, n2]
  rw [hX, hY]
  have Hu := Lib.hid hu
  have EX := Lib.hid eX
  have EY := Lib.hid eY
  have HXl := Lib.hid hXl
  have HYl := Lib.hid hYl
  clear hX hY hK q1 q2 eX eY hXl hYl
  clear hu ub
  go_enter Tryz.func92, Tryz.ntmps92
  go_wp2_with (go_at_call 96; refine (HB.out _ hb).mono ?_; rintro e w1 ⟨g1, g2, rfl, gg1, gg2, R1, R2, hb1⟩; obtain ⟨x0, x1, x2, xf, xl⟩ := (BT.below hb1).tri; obtain ⟨s0, s1, s2, s3, sf, sl⟩ := (BS.below hb1).four; obtain ⟨u0, u1, uf, ul⟩ := (BR.below hb1).two; have hne1 : ¬ g1 = g2 := (by omega); have hne2 : ¬ g2 = g1 := (by omega); have fr1 := (fun i => R1.free i); have fr2 := (fun i => R2.free i); have gl1 := R1.lt; have gl2 := R2.lt; have gs := hb.size; have cu := R1.cell f (by omega); rw [Hu.out] at cu)
  refine bodyPost_ret (v := .agg #[.slice (some ⟨g1, 0, none⟩) (P + 1) (P + 1), .slice (some ⟨g2, 0, none⟩) (P + 1) (P + 1)]) (by first | (simp [results, Tryz.results92, go_sem, u0, u1]; done) | (simp [results, Tryz.results92, go_sem, *]; done)) rfl ?_
  exact ⟨g1, g2, by rw [HXl.out, HYl.out], by omega, by omega, ((((R1.set f (u - n)).other (by omega)).other (by omega)).alloc _).wf EX.out, ((((R2.other (by omega)).other (by omega)).other (by omega)).alloc _).wf EY.out, (((((chain hb hb1).setCell (by simp; omega) _).setCell (by simp; omega) _).setCell (by simp; omega) _).alloc (by simp; omega) _)⟩
set_option maxRecDepth 8000 in
set_option maxHeartbeats 4000000 in
theorem moved_off_true (P : Nat) (f1 f2 B1 B2 : Nat) (xs ys : List Int) (w : World) (p0 : 2 ≤ P) (p1 : P ≤ 24) (n1 : xs.length = P + 1) (n2 : ys.length = P + 1) (hx : ∀ x ∈ xs, 0 ≤ x ∧ x ≤ 1000) (hyy : ∀ y ∈ ys, 0 ≤ y ∧ y ≤ 1000) (q1 : Pays f1 B1 xs w) (q2 : Pays f2 B2 ys w) (f : Nat) (td n : Int) (m0 : -1 ≤ n) (m1 : n ≤ 1) (fP : f ≤ P)  :
    Calls Tryz.prog 92 #[.agg #[.int .i64 (P : Int), fv f1 B1, fv f2 B2], stV ((f : Int), -1, td, true), .int .i64 n] w (BoardMade (mvX xs f (-1) n) (mvY P ys (-1) true n) w) := by
  have hK := fun W (hW : Below w.heap.size w W) => board_any P f1 f2 B1 B2 xs ys W p1 n1 n2 (q1.below hW) (q2.below hW)
  have HB := Lib.hid hK
  obtain ⟨BT, BS, BR, hb, hzz⟩ := three_new w #[.int .i64 (P : Int), fv f1 B1, fv f2 B2] #[.int .i64 (f : Int), .int .i64 (-1), .int .i64 td, .bool true] #[.slice none 0 0, .slice none 0 0] 75 112 28
  obtain ⟨x0, x1, x2, xf, xl⟩ := BT.tri
  obtain ⟨s0, s1, s2, s3, sf, sl⟩ := BS.four
  have hft : (f : Int) < ((P + 1 : Nat) : Int) := by omega
  have hPt : (P : Int) < ((P + 1 : Nat) : Int) := by omega
  have m9 : -1000 ≤ n := by omega
  obtain ⟨u, hu⟩ : ∃ u, xs.getD f 0 = u := ⟨_, rfl⟩
  have ub := hx _ (getD_mem (show f < xs.length by omega))
  rw [hu] at ub
  have ua : 0 ≤ u := ub.1
  have uz : u ≤ 1000 := ub.2
  obtain ⟨z, hz⟩ : ∃ z, ys.getD P 0 = z := ⟨_, rfl⟩
  have zb := hyy _ (getD_mem (show P < ys.length by omega))
  rw [hz] at zb
  have za : 0 ≤ z := zb.1
  have zz : z ≤ 1000 := zb.2
  have eP : (P : Int) - 1 - -1 = (P : Int) := by omega
  obtain ⟨X, hX⟩ : ∃ X, mvX xs (f : Int) (-1) n = X := ⟨_, rfl⟩
  obtain ⟨Y, hY⟩ : ∃ Y, mvY P ys (-1) true n = Y := ⟨_, rfl⟩
  have eX : xs.set f (u - n) = X := by
    rw [← hX]
    unfold mvX
    rw [if_pos rfl]
    simp only [Int.toNat_natCast]
    rw [hu]
  have eY : (ys.set P (z - n)).set P z = Y := by
    rw [← hY]
    unfold mvY
    rw [if_pos rfl, show ((P : Int) - 1 - -1).toNat = P by omega, hz, getD_set_eq ys _ (by omega), show z - n + n = z by omega]
  have hXl : X.length = P + 1 := by rw [← hX, mvX_length, n1]
  have hYl : Y.length = P + 1 := by rw [← hY, mvY_length, n2]
  rw [hX, hY]
  have Hu := Lib.hid hu
  have Hz := Lib.hid hz
  have EX := Lib.hid eX
  have EY := Lib.hid eY
  have HXl := Lib.hid hXl
  have HYl := Lib.hid hYl
  clear hX hY hK q1 q2 eX eY hXl hYl
  clear hu ub
  clear hz zb
  go_enter Tryz.func92, Tryz.ntmps92
  go_wp2_with (go_at_call 96; refine (HB.out _ hb).mono ?_; rintro e w1 ⟨g1, g2, rfl, gg1, gg2, R1, R2, hb1⟩; obtain ⟨x0, x1, x2, xf, xl⟩ := (BT.below hb1).tri; obtain ⟨s0, s1, s2, s3, sf, sl⟩ := (BS.below hb1).four; obtain ⟨u0, u1, uf, ul⟩ := (BR.below hb1).two; have hne1 : ¬ g1 = g2 := (by omega); have hne2 : ¬ g2 = g1 := (by omega); have fr1 := (fun i => R1.free i); have fr2 := (fun i => R2.free i); have gl1 := R1.lt; have gl2 := R2.lt; have gs := hb.size; have cu := R1.cell f (by omega); rw [Hu.out] at cu; have cz := R2.cell P (by omega); rw [Hz.out] at cz)
  refine bodyPost_ret (v := .agg #[.slice (some ⟨g1, 0, none⟩) (P + 1) (P + 1), .slice (some ⟨g2, 0, none⟩) (P + 1) (P + 1)]) (by first | (simp [results, Tryz.results92, go_sem, u0, u1]; done) | (simp [results, Tryz.results92, go_sem, *]; done)) rfl ?_
  exact ⟨g1, g2, by rw [HXl.out, HYl.out], by omega, by omega, ((((((R1.set f (u - n)).other (by omega)).other (by omega)).other (by omega)).other (by omega)).alloc _).wf EX.out, ((((((R2.other (by omega)).set P (z - n)).set P z).other (by omega)).other (by omega)).alloc _).wf EY.out, (((((((chain hb hb1).setCell (by simp; omega) _).setCell (by simp; omega) _).setCell (by simp; omega) _).setCell (by simp; omega) _).setCell (by simp; omega) _).alloc (by simp; omega) _)⟩
end Go.Proofs.YtknkbhmgdddjkaaGreat
namespace Go.Proofs.YtknkbhmgdddjkaaGreat
open Go.ChangeShapes Go.WideShapes Go.ChangeAt Go.RowKit
set_option linter.unusedVariables false
set_option linter.unusedSimpArgs false
set_option maxRecDepth 4000

theorem moved_any (P : Nat) (f1 f2 B : Nat) (xs ys : List Int) (w : World) (p0 : 2 ≤ P) (p1 : P ≤ 24) (n1 : xs.length = P + 1) (n2 : ys.length = P + 1) (hx : ∀ x ∈ xs, 0 ≤ x ∧ x ≤ 1000) (hy : ∀ y ∈ ys, 0 ≤ y ∧ y ≤ 1000) (q1 : Pays f1 B xs w) (q2 : Pays f2 B ys w) (t : Stp) (n : Int) (m0 : -1 ≤ n) (m1 : n ≤ 1) (hp : placesB (P : Int) t = true) :
    Calls Tryz.prog 92 #[tv (P : Int) f1 f2 B, stV t, .int .i64 n] w (BoardMade (mvX xs t.1 t.2.1 n) (mvY P ys t.2.1 t.2.2.2 n) w) := by
  obtain ⟨a, b, d, q⟩ := t
  simp only [placesB, Bool.and_eq_true, decide_eq_true_eq] at hp
  obtain ⟨h1, h2, h3, h4⟩ := hp
  obtain ⟨f, rfl⟩ := Int.eq_ofNat_of_zero_le h1
  dsimp only
  by_cases hb : b = -1
  · subst hb
    cases q with
    | false => exact moved_off_false P f1 f2 B B xs ys w p0 p1 n1 n2 hx hy q1 q2 f d n m0 m1 (by omega)
    | true => exact moved_off_true P f1 f2 B B xs ys w p0 p1 n1 n2 hx hy q1 q2 f d n m0 m1 (by omega)
  · obtain ⟨t, rfl⟩ := Int.eq_ofNat_of_zero_le (by omega : 0 ≤ b)
    by_cases hne : t = f
    · subst hne
      cases q with
      | false => exact moved_same_false P f1 f2 B B xs ys w p0 p1 n1 n2 hx hy q1 q2 t d n m0 m1 (by omega) (by omega)
      | true => exact moved_same_true P f1 f2 B B xs ys w p0 p1 n1 n2 hx hy q1 q2 t d n m0 m1 (by omega) (by omega)
    · cases q with
      | false => exact moved_far_false P f1 f2 B B xs ys w p0 p1 n1 n2 hx hy q1 q2 f d n m0 m1 (by omega) t (by omega) hne
      | true => exact moved_far_true P f1 f2 B B xs ys w p0 p1 n1 n2 hx hy q1 q2 f d n m0 m1 (by omega) t (by omega) hne
end Go.Proofs.YtknkbhmgdddjkaaGreat
namespace Go.Proofs.YtknkbhmgdddjkaaGreat
open Go.ChangeShapes Go.WideShapes Go.ChangeAt Go.RowKit
set_option linter.unusedVariables false
set_option linter.unusedSimpArgs false
set_option maxRecDepth 4000

theorem four_new (w : World) (v1 v2 v3 v4 : Array Value) (t1 t2 t3 t4 : TypeId) :
    Blk ((((w.alloc (.cells v1 t1)).alloc (.cells v2 t2)).alloc (.cells v3 t3)).alloc (.cells v4 t4)) w.heap.size v1 t1 ∧ Blk ((((w.alloc (.cells v1 t1)).alloc (.cells v2 t2)).alloc (.cells v3 t3)).alloc (.cells v4 t4)) (w.heap.size + 1) v2 t2 ∧
    Blk ((((w.alloc (.cells v1 t1)).alloc (.cells v2 t2)).alloc (.cells v3 t3)).alloc (.cells v4 t4)) (w.heap.size + 1 + 1) v3 t3 ∧ Blk ((((w.alloc (.cells v1 t1)).alloc (.cells v2 t2)).alloc (.cells v3 t3)).alloc (.cells v4 t4)) (w.heap.size + 1 + 1 + 1) v4 t4 ∧
    Below w.heap.size w ((((w.alloc (.cells v1 t1)).alloc (.cells v2 t2)).alloc (.cells v3 t3)).alloc (.cells v4 t4)) ∧ ((((w.alloc (.cells v1 t1)).alloc (.cells v2 t2)).alloc (.cells v3 t3)).alloc (.cells v4 t4)).heap.size = w.heap.size + 1 + 1 + 1 + 1 := by
  obtain ⟨b1, b2, b3, hb, hz⟩ := three_new w v1 v2 v3 t1 t2 t3
  have b4 := Blk.new (((w.alloc (.cells v1 t1)).alloc (.cells v2 t2)).alloc (.cells v3 t3)) v4 t4
  rw [hz] at b4
  exact ⟨b1.alloc _, b2.alloc _, b3.alloc _, b4, hb.alloc hb.size _, by simp⟩
/-- A board and a number have been made and are handed back. -/
def BoardGotN (xs ys : List Int) (r : Int) (w : World) (e : Ending) (w' : World) : Prop :=
  ∃ a1 a2 k1 k2, e = .returned (.tuple #[.agg #[.slice a1 xs.length k1, .slice a2 ys.length k2], .int .i64 r]) ∧ OBd w.heap.size w'.heap.size w' a1 a2 xs ys ∧ Below w.heap.size w w'
def asX (p c h s : Int) (xs ys : List Int) (t : Stp) : List Int := if isB p c h s xs ys = true then (if legB p.toNat h s xs ys t = true then mvX xs t.1 t.2.1 1 else []) else []
def asY (p c h s : Int) (xs ys : List Int) (t : Stp) : List Int := if isB p c h s xs ys = true then (if legB p.toNat h s xs ys t = true then mvY p.toNat ys t.2.1 t.2.2.2 1 else []) else []
def asR (p c h s : Int) (xs ys : List Int) (t : Stp) : Int := if isB p c h s xs ys = true then (if legB p.toNat h s xs ys t = true then 0 else 5) else 1
theorem as_length (p c h s : Int) (xs ys : List Int) (t : Stp) : (asX p c h s xs ys t).length ≤ 1048576 ∧ (asY p c h s xs ys t).length ≤ 1048576 := by
  unfold asX asY
  split
  · rename_i g
    obtain ⟨p0, p1, k0, k1, k2, k3, N1, N2, hx, hy, s0, s1, s2, s3⟩ := isB_parts g
    split
    · rw [mvX_length, mvY_length]
      omega
    · simp
  · simp
theorem legB_places {P : Nat} {h s : Int} {xs ys : List Int} {t : Stp} (g : legB P h s xs ys t = true) : placesB (P : Int) t = true := by
  unfold legB at g
  simp only [Bool.and_eq_true] at g
  exact g.2.1
end Go.Proofs.YtknkbhmgdddjkaaGreat
namespace Go.Proofs.YtknkbhmgdddjkaaGreat
open Go.ChangeShapes Go.WideShapes Go.ChangeAt Go.RowKit
set_option linter.unusedVariables false
set_option linter.unusedSimpArgs false
set_option maxRecDepth 4000

/-- The board ahead of a step is the one from which it leads here. -/
def udOk (p c h s : Int) (xs ys : List Int) (t : Stp) : Bool := placesB p t && lgB p c h s (mvX xs t.1 t.2.1 (-1)) (mvY p.toNat ys t.2.1 t.2.2.2 (-1)) t
def udX (p c h s : Int) (xs ys : List Int) (t : Stp) : List Int := if isB p c h s xs ys = true then (if udOk p c h s xs ys t = true then mvX xs t.1 t.2.1 (-1) else []) else []
def udY (p c h s : Int) (xs ys : List Int) (t : Stp) : List Int := if isB p c h s xs ys = true then (if udOk p c h s xs ys t = true then mvY p.toNat ys t.2.1 t.2.2.2 (-1) else []) else []
def udR (p c h s : Int) (xs ys : List Int) (t : Stp) : Int := if isB p c h s xs ys = true then (if udOk p c h s xs ys t = true then 0 else 4) else 1
theorem ud_length (p c h s : Int) (xs ys : List Int) (t : Stp) : (udX p c h s xs ys t).length ≤ 1048576 ∧ (udY p c h s xs ys t).length ≤ 1048576 := by
  unfold udX udY
  split
  · rename_i g
    obtain ⟨p0, p1, k0, k1, k2, k3, N1, N2, hx, hy, s0, s1, s2, s3⟩ := isB_parts g
    split
    · rw [mvX_length, mvY_length]
      omega
    · simp
  · simp
theorem below2u {wS W : World} {B : Nat} {u0 u1 v0 v1 : Value} {t : TypeId} (_ : Blk W B #[u0, u1] t) (h : Below wS.heap.size wS W) (hB : wS.heap.size ≤ B) : Below wS.heap.size wS ((W.setCell ⟨B, 0, none⟩ v0).setCell ⟨B, 1, none⟩ v1) :=
  (h.setCell (p := ⟨B, 0, none⟩) hB _).setCell (p := ⟨B, 1, none⟩) hB _
end Go.Proofs.YtknkbhmgdddjkaaGreat
namespace Go.Proofs.YtknkbhmgdddjkaaGreat
open Go.ChangeShapes Go.WideShapes Go.ChangeAt Go.RowKit
set_option linter.unusedVariables false
set_option linter.unusedSimpArgs false

/-- A play: its steps, and the board after them. -/
abbrev Ply := List Stp × List Int × List Int
/-- Where a play lies: the addresses and capacities of its three slices. -/
structure PD where
  sa : Option Addr
  sc : Nat
  b1 : Option Addr
  k1 : Nat
  b2 : Option Addr
  k2 : Nat
abbrev PP := PD × Ply
abbrev pl0 (x : PP) : Value := .slice x.1.sa x.2.1.length x.1.sc
abbrev pl1 (x : PP) : Value := .slice x.1.b1 x.2.2.1.length x.1.k1
abbrev pl2 (x : PP) : Value := .slice x.1.b2 x.2.2.2.length x.1.k2
abbrev plV (x : PP) : Value := .agg #[pl0 x, pl1 x, pl2 x]
def plC (x : PP) : List Value := [pl0 x, pl1 x, pl2 x]
def plsC : List PP → List Value
  | [] => []
  | x :: l => plC x ++ plsC l
theorem plsC_length : ∀ l : List PP, (plsC l).length = l.length * 3
  | [] => rfl
  | s :: l => by simp [plsC, plC, plsC_length l]; omega
theorem plsC_append : ∀ l m : List PP, plsC (l ++ m) = plsC l ++ plsC m
  | [], m => rfl
  | s :: l, m => by simp [plsC, plsC_append l m]
theorem plsC_at : ∀ (l : List PP) (k : Nat) (s : PP), l[k]? = some s → ∀ j, j < 3 → (plsC l)[k * 3 + j]? = (plC s)[j]?
  | [], k, s, h, j, hj => by simp at h
  | x :: l, 0, s, h, j, hj => by
    simp at h
    subst h
    rw [plsC, List.getElem?_append_left (by simp [plC]; omega), Nat.zero_mul, Nat.zero_add]
  | x :: l, k + 1, s, h, j, hj => by
    rw [plsC, List.getElem?_append_right (by simp [plC]; omega)]
    have := plsC_at l k s (by simpa using h) j hj
    rw [← this]
    congr 1
    simp [plC]
    omega
/-- A row of plays. -/
abbrev PRow (w : World) (g : Nat) (l : List PP) : Prop := VRow w g (plsC l) 93
theorem PRow.three {w : World} {g : Nat} {l : List PP} (h : PRow w g l) (k : Nat) (s : PP) (hk : l[k]? = some s) :
    w.cell? ⟨g, k * 3, none⟩ = some (pl0 s) ∧ w.cell? ⟨g, k * 3 + 1, none⟩ = some (pl1 s) ∧ w.cell? ⟨g, k * 3 + 2, none⟩ = some (pl2 s) :=
  ⟨h.cell _ _ (by have := plsC_at l k s hk 0 (by omega); simpa [plC] using this), h.cell _ _ (by have := plsC_at l k s hk 1 (by omega); simpa [plC] using this), h.cell _ _ (by have := plsC_at l k s hk 2 (by omega); simpa [plC] using this)⟩
/-- What a play's slices hold. -/
def PAt (lo hi : Nat) (w : World) (x : PP) : Prop := OSt lo hi w x.1.sa x.2.1 ∧ OBd lo hi w x.1.b1 x.1.b2 x.2.2.1 x.2.2.2
def PAll (lo hi : Nat) (w : World) (l : List PP) : Prop := ∀ x ∈ l, PAt lo hi w x
theorem OBd.mono {lo hi lo' hi' : Nat} {w : World} {a1 a2 : Option Addr} {xs ys : List Int} (h : OBd lo hi w a1 a2 xs ys) (h1 : lo' ≤ lo) (h2 : hi ≤ hi') : OBd lo' hi' w a1 a2 xs ys := by
  rcases h with h | ⟨g1, g2, e1, e2, hne, b1, b2, b3, b4, r1, r2⟩
  · exact .inl h
  · exact .inr ⟨g1, g2, e1, e2, hne, by omega, by omega, by omega, by omega, r1, r2⟩
theorem PAt.below {lo hi : Nat} {w w' : World} {x : PP} (h : PAt lo hi w x) (hb : Below w.heap.size w w') : PAt lo hi w' x := ⟨h.1.below hb, h.2.below hb⟩
theorem PAt.mono {lo hi lo' hi' : Nat} {w : World} {x : PP} (h : PAt lo hi w x) (h1 : lo' ≤ lo) (h2 : hi ≤ hi') : PAt lo' hi' w x := ⟨h.1.mono h1 h2, h.2.mono h1 h2⟩
theorem PAll.below {lo hi : Nat} {w w' : World} {l : List PP} (h : PAll lo hi w l) (hb : Below w.heap.size w w') : PAll lo hi w' l := fun x hx => (h x hx).below hb
theorem PAll.drew {lo hi : Nat} {w : World} {l : List PP} (h : PAll lo hi w l) : PAll lo hi w.drew l := h.below (Below.refl _ _).drew
theorem PAll.mono {lo hi lo' hi' : Nat} {w : World} {l : List PP} (h : PAll lo hi w l) (h1 : lo' ≤ lo) (h2 : hi ≤ hi') : PAll lo' hi' w l := fun x hx => (h x hx).mono h1 h2
theorem PAll.nil (lo hi : Nat) (w : World) : PAll lo hi w [] := fun x hx => by simp at hx
theorem PAll.snoc {lo hi : Nat} {w : World} {l : List PP} {x : PP} (h : PAll lo hi w l) (hx : PAt lo hi w x) : PAll lo hi w (l ++ [x]) := fun y hy => by
  rcases List.mem_append.1 hy with hy | hy
  · exact h y hy
  · simp at hy; subst hy; exact hx
/-- A slice of plays: a row of its own, or nil. -/
def OPl (lo hi : Nat) (w : World) (a : Option Addr) (l : List PP) : Prop := (a = none ∧ l = []) ∨ ∃ g, a = some ⟨g, 0, none⟩ ∧ lo ≤ g ∧ g < hi ∧ PRow w g l
theorem OPl.below {lo hi : Nat} {w w' : World} {a : Option Addr} {l : List PP} (h : OPl lo hi w a l) (hb : Below w.heap.size w w') : OPl lo hi w' a l := by
  rcases h with h | ⟨g, e, h1, h2, r⟩
  · exact .inl h
  · exact .inr ⟨g, e, h1, h2, r.below hb⟩
theorem OPl.drew {lo hi : Nat} {w : World} {a : Option Addr} {l : List PP} (h : OPl lo hi w a l) : OPl lo hi w.drew a l := h
theorem OPl.mono {lo hi lo' hi' : Nat} {w : World} {a : Option Addr} {l : List PP} (h : OPl lo hi w a l) (h1 : lo' ≤ lo) (h2 : hi ≤ hi') : OPl lo' hi' w a l := by
  rcases h with h | ⟨g, e, q1, q2, r⟩
  · exact .inl h
  · exact .inr ⟨g, e, by omega, by omega, r⟩
theorem OPl.row {lo hi : Nat} {w : World} {a : Option Addr} {l : List PP} (h : OPl lo hi w a l) {k : Nat} (hk : k < l.length) : ∃ g, a = some ⟨g, 0, none⟩ ∧ PRow w g l := by
  rcases h with ⟨_, rfl⟩ | ⟨g, e, q1, q2, r⟩
  · simp at hk
  · exact ⟨g, e, r⟩
theorem PRow.drew {w : World} {g : Nat} {l : List PP} (h : PRow w g l) : PRow w.drew g l := h.below (Below.refl _ _).drew
/-- A slice of plays of the call's own that grows. -/
def OwnP (w : World) (base : Nat) (v : Value) (l : List PP) : Prop := w.ownsRow base 93 3 v l.length (plsC l)
theorem OwnP.form {w : World} {base : Nat} {v : Value} {l : List PP} (h : OwnP w base v l) : ∃ a k, v = .slice a l.length k := by
  rcases h.2 with ⟨h1, h2⟩ | ⟨g, cap, cur, h1, _⟩
  · exact ⟨none, 0, by rw [h1, h2]⟩
  · exact ⟨some ⟨g, 0, none⟩, cap, h1⟩
theorem OwnP.opl {w : World} {base : Nat} {a : Option Addr} {n k : Nat} {l : List PP} (h : OwnP w base (.slice a n k) l) : OPl base w.heap.size w a l := by
  obtain ⟨hl, h1 | ⟨g, cap, cur, hv, hb, hh, hc, hm, hs, ht⟩⟩ := h
  · obtain ⟨h1, h2⟩ := h1
    simp at h1
    exact .inl ⟨h1.1, List.eq_nil_of_length_eq_zero h2⟩
  · simp at hv
    obtain ⟨rfl, _, rfl⟩ := hv
    exact .inr ⟨g, rfl, hb, (Array.getElem?_eq_some_iff.1 hh).1, cur, hh, by rw [hl, hs]; exact Nat.mul_le_mul_right _ hc, by rw [hl]; exact ht⟩
theorem OwnP.alloc {w : World} {base : Nat} {v : Value} {l : List PP} (h : OwnP w base v l) (o : Obj) : OwnP (w.alloc o) base v l := World.ownsRow.alloc h o
theorem OwnP.drew {w : World} {base : Nat} {v : Value} {l : List PP} (h : OwnP w base v l) : OwnP w.drew base v l := h
theorem OwnP.below {w w' : World} {base : Nat} {v : Value} {l : List PP} (h : OwnP w base v l) (hb : Below w.heap.size w w') : OwnP w' base v l :=
  World.ownsRow.kept (row := none) h ⟨hb.os, hb.tape, hb.output, hb.size, fun k hk _ => hb.block k hk⟩ (by
    cases hv : v.ownBlock with
    | none => exact .inl rfl
    | some g => exact .inr (by simp))
theorem OwnP.start (w : World) : OwnP (w.alloc (.cells #[] 93)) w.heap.size (.slice (some ⟨w.heap.size, 0, none⟩) 0 0) [] :=
  ⟨rfl, .inr ⟨w.heap.size, 0, #[], rfl, Nat.le_refl _, Blk.new w #[] _, Nat.le_refl _, by unfold maxLen; omega, rfl, rfl⟩⟩
theorem OwnP.nil (w : World) (base : Nat) : OwnP w base (.slice none 0 0) [] := World.ownsRow_nil w base _ _
theorem OwnP.mono {w : World} {base base' : Nat} {v : Value} {l : List PP} (h : OwnP w base v l) (hb : base' ≤ base) : OwnP w base' v l := by
  obtain ⟨h1, h2 | ⟨g, cap, cur, q1, q2, q3⟩⟩ := h
  · exact ⟨h1, .inl h2⟩
  · exact ⟨h1, .inr ⟨g, cap, cur, q1, by omega, q3⟩⟩
/-- A block of another type is not the one that holds such a slice. -/
theorem OwnP.ne {w : World} {base g : Nat} {v : Value} {l : List PP} {cur : Array Value} {t : TypeId} (h : OwnP w base v l) (hB : Blk w g cur t) (ht : t ≠ 93) : v.ownBlock ≠ some g := by
  intro e
  obtain ⟨_, ⟨h1, _⟩ | ⟨g', cap, cur', rfl, _, hh, _⟩⟩ := h
  · rw [h1] at e
    simp [Value.ownBlock] at e
  · simp [Value.ownBlock] at e
    subst e
    have hB' : w.heap[g']? = some (.cells cur t (0, 0)) := hB
    rw [hB'] at hh
    simp at hh
    exact ht hh.2
/-- What is of other types is kept when such a slice grows. -/
theorem VRow.push {w w' : World} {base g : Nat} {v : Value} {l : List PP} {vs : List Value} {t : TypeId} (h : VRow w g vs t) (hO : OwnP w base v l) (ht : t ≠ 93) (hk : ∀ k, k < w.heap.size → v.ownBlock ≠ some k → w'.heap[k]? = w.heap[k]?) : VRow w' g vs t := by
  obtain ⟨cur, hB, h1, h2⟩ := h
  exact ⟨cur, (hk g hB.lt (hO.ne hB ht)).trans hB, h1, h2⟩
theorem Row.push {w w' : World} {base g : Nat} {v : Value} {l : List PP} {xs : List Int} (h : Row w g xs) (hO : OwnP w base v l) (hk : ∀ k, k < w.heap.size → v.ownBlock ≠ some k → w'.heap[k]? = w.heap[k]?) : Row w' g xs := by
  obtain ⟨cur, hB, h1, h2⟩ := h
  exact ⟨cur, (hk g hB.lt (hO.ne hB (by decide))).trans hB, h1, h2⟩
theorem PAt.push {lo hi : Nat} {w w' : World} {base : Nat} {v : Value} {l : List PP} {x : PP} (h : PAt lo hi w x) (hO : OwnP w base v l) (hk : ∀ k, k < w.heap.size → v.ownBlock ≠ some k → w'.heap[k]? = w.heap[k]?) : PAt lo hi w' x := by
  refine ⟨?_, ?_⟩
  · rcases h.1 with h | ⟨g, e, h1, h2, r⟩
    · exact .inl h
    · exact .inr ⟨g, e, h1, h2, r.push hO (by decide) hk⟩
  · rcases h.2 with h | ⟨g1, g2, e1, e2, hne, b1, b2, b3, b4, r1, r2⟩
    · exact .inl h
    · exact .inr ⟨g1, g2, e1, e2, hne, b1, b2, b3, b4, r1.push hO hk, r2.push hO hk⟩
theorem PAll.push {lo hi : Nat} {w w' : World} {base : Nat} {v : Value} {l m : List PP} (h : PAll lo hi w m) (hO : OwnP w base v l) (hk : ∀ k, k < w.heap.size → v.ownBlock ≠ some k → w'.heap[k]? = w.heap[k]?) : PAll lo hi w' m := fun x hx => (h x hx).push hO hk
theorem infoPly : (Tryz.prog.info? 93).map (fun i => (i.zero, i.size, i.bytes)) = some (some (.agg #[.slice none 0 0, .slice none 0 0, .slice none 0 0]), 3, 72) := by kernel_rfl
/-- One play appended: 'out = append(out, p)'. -/
theorem wp_pushP {ops : Array Oper} {rest : List Oper} {o : Oper} {a : Act} {Q : Exit → Act → World → Prop} (hgd : o.guard = none) (s x : Operand)
    (ho : o.op = .call { callee := .builtin .append, args := #[s, x], argTypes := #[50, 50] })
    (base : Nat) (v : Value) (l : List PP) (hs : a.eval s = v) {w0 : World} (hown : OwnP w0 base v l) (u : PP)
    {zz : Nat} (hx : a.eval x = .slice (some ⟨zz, 0, none⟩) 1 1) (hzz : w0.heap.size = zz) (hl : l.length ≤ 1048576) (hbase : base ≤ w0.heap.size)
    (h : ∀ v' w', OwnP w' base v' (l ++ [u]) → Below base w0 w' → (∀ k, k < w0.heap.size → v.ownBlock ≠ some k → w'.heap[k]? = w0.heap[k]?) → wpList Tryz.prog ops Q rest (a.put o.dst v') w') : wpList Tryz.prog ops Q (o :: rest) a (w0.alloc (.cells #[pl0 u, pl1 u, pl2 u] 93)) := by
  subst hzz
  obtain ⟨i0, hi, hz0, hz1, hz2⟩ := info_parts infoPly
  have hown0 : w0.ownsRow base 93 3 v l.length (plsC l) := hown
  refine wpList_append_own _ hgd s x 50 ho base 93 i0 _ 3 72 Tryz.underlying50 hi hz0 hz1 hz2 rfl (by decide) v l.length (plsC l) hs (hown0.alloc _) ⟨w0.heap.size, 0, none⟩ 1 1 (plC u) hx (by simp [plC])
    (World.news_of_block (cs := #[pl0 u, pl1 u, pl2 u]) (Blk.new w0 _ 93)) (fun y hy => by simp [plC] at hy; rcases hy with rfl | rfl | rfl <;> rfl) (by unfold maxLen; omega) (by omega) (by simp; omega) ?_
  intro v' w' hown' hgrow _
  refine h v' w' ?_ (((Below.refl base w0).alloc hbase _).grown hgrow (by simp; omega) (fun k hk => (hown0.lt k hk).1)) (fun k hk hne => ?_)
  · show w'.ownsRow base 93 3 _ (l ++ [u]).length (plsC (l ++ [u]))
    rw [List.length_append, plsC_append]
    simpa [plsC] using hown'
  · rw [hgrow.block k (by simp; omega) (fun hh => hne hh.symm), Below.heap_alloc _ _ _ hk]
end Go.Proofs.YtknkbhmgdddjkaaGreat
namespace Go.Proofs.YtknkbhmgdddjkaaGreat
open Go.ChangeShapes Go.WideShapes Go.ChangeAt Go.RowKit
set_option linter.unusedVariables false
set_option linter.unusedSimpArgs false
set_option maxRecDepth 4000

def lsL (p c h s : Int) (xs ys : List Int) (d : Int) : List Stp := if isB p c h s xs ys = true then (if inB d 1 s = true then legL p.toNat h xs ys d else []) else []
def lsR (p c h s : Int) (xs ys : List Int) (d : Int) : Int := if isB p c h s xs ys = true then (if inB d 1 s = true then 0 else 2) else 1
theorem lsL_length (p c h s : Int) (xs ys : List Int) (d : Int) : (lsL p c h s xs ys d).length ≤ 1048576 := by
  unfold lsL
  split
  · rename_i g
    split
    · obtain ⟨p0, p1, k0, k1, k2, k3, N1, N2, hx, hy, s0, s1, s2, s3⟩ := isB_parts g
      have := legL_length p.toNat h xs ys d
      omega
    · simp
  · simp
end Go.Proofs.YtknkbhmgdddjkaaGreat
