/- Contracts of the program's functions that make boards: a side, the exchange of sides. -/
import Derived.Test.YtjepbhainidpgaaImpl02d
import Derived.Test.YtjepbhainidpgaaOwnB
import Derived.Test.YtjepbhainidpgaaOwn
namespace Go.Proofs.Ytjepbhainidpgaa
open Go.ChangeShapes Go.WideShapes Go.ChangeAt Go.RowKit
set_option linter.unusedVariables false
set_option linter.unusedSimpArgs false
set_option maxRecDepth 4000

set_option maxRecDepth 8000 in
set_option maxHeartbeats 1000000 in
theorem side_any (P : Nat) (f1 f2 B1 B2 fn B : Nat) (xs : List Int) (w : World) (p1 : P ≤ 24) (hn : xs.length = P + 1) (hp : Pays fn B xs w) :
    Calls Try.prog 81 #[.agg #[.int .i64 (P : Int), fv f1 B1, fv f2 B2], fv fn B] w (Copied xs w) := by
  obtain ⟨i0, hi, hz0, hz1, hz2⟩ := info_parts infoI64
  have hb : Below w.heap.size w (w.alloc (.cells #[.int .i64 (P : Int), fv f1 B1, fv f2 B2] 59)) := (Below.refl _ _).alloc (Nat.le_refl _) _
  have hp0 := hp.below hb
  have e199 := hp.1
  obtain ⟨z0, z1, z2, zf, zl⟩ := (Blk.new w #[.int .i64 (P : Int), fv f1 B1, fv f2 B2] 59).tri
  go_enter Try.func81, Try.ntmps81
  go_wp2_with (at_make; refine wpList_make_row _ rfl _ _ 29 rfl 2 i0 (.int .i64 0) Try.underlying29 hi hz0 hz1 rfl .i64 .i64 (P + 1) (by rfl) (by rfl) (by rw [hz2]; omega) (by omega) ?_)
  clear z0 z1 z2 zf zl
  have hmade := made_row (w.alloc (.cells #[.int .i64 (P : Int), fv f1 B1, fv f2 B2] 59)) (P + 1)
  have hsz : (w.alloc (.cells #[.int .i64 (P : Int), fv f1 B1, fv f2 B2] 59)).heap.size = w.heap.size + 1 := by simp
  rw [hsz] at hmade
  generalize (w.alloc (.cells #[.int .i64 (P : Int), fv f1 B1, fv f2 B2] 59)) = v0 at *
  go_loopg [13] xs.length (fun m i wr => ∃ k : Nat, k ≤ xs.length ∧ m = xs.length - k ∧ i = .int .i64 k ∧ Row wr (w.heap.size + 1) (xs.take k ++ List.replicate (xs.length - k) 0) ∧ Below (w.heap.size + 1) v0 wr)
  case atStart => exact ⟨0, by omega, by omega, rfl, by simpa [hn] using hmade, (Below.refl _ _).alloc (by omega) _⟩
  case round =>
    clear hmade
    obtain ⟨k, hk, hm, rfl, hR, hbk⟩ := hrel
    have hsz2 : w.heap.size + 1 < wr.heap.size := hR.lt
    by_cases hlt : k < xs.length
    · have hlt' : (k : Int) < (P : Int) + 1 := by omega
      have hpk := hp0.2 wr (hbk.mono (by omega)) k hlt
      obtain ⟨v, hv⟩ : ∃ v, xs.getD k 0 = v := ⟨_, rfl⟩
      rw [hv] at hpk
      have hcs := copy_step xs k hlt
      rw [hv] at hcs
      have HP := Lib.hid hpk
      have HC := Lib.hid hcs
      have HN := Lib.hid hn
      clear hpk hv hcs hn
      go_wp2_with (go_at_fn fn; refine HP.out.mono ?_; rintro e w5 ⟨rfl, hb5⟩; have R5 := hR.below hb5; have f0 := R5.free k; have c0 := R5.cell k (by simp; omega))
      go_roundg (xs.length - (k + 1))
      case measure => omega
      case rel => exact ⟨k + 1, by omega, rfl, by go_num, (R5.set k v).wf HC.out, (hbk.trans (hb5.mono (by omega))).setCell (Nat.le_refl _) _⟩
    · obtain rfl : k = xs.length := by omega
      have hlt' : ¬ ((xs.length : Nat) : Int) < (P : Int) + 1 := by omega
      have hend := hR.wf (show xs.take xs.length ++ List.replicate (xs.length - xs.length) 0 = xs by simp)
      have HE := Lib.hid hend
      have HN := Lib.hid hn
      clear hend hn hR
      go_wp2
      go_ret
      exact ⟨w.heap.size + 1, by simp [HN.out], by omega, HE.out, hb.trans (hbk.mono (by omega))⟩
set_option maxRecDepth 8000 in
set_option maxHeartbeats 1000000 in
theorem swapped_any (p : Int) (f1 f2 B1 B2 : Nat) (w : World) :
    Calls Try.prog 50 #[.agg #[.int .i64 p, fv f1 B1, fv f2 B2]] w fun e w' => e = .returned (.agg #[.int .i64 p, fv f2 B2, fv f1 B1]) ∧ Below w.heap.size w w' := by
  go_enter Try.func50, Try.ntmps50
  go_wp2
  refine bodyPost_ret (v := .agg #[.int .i64 p, fv f2 B2, fv f1 B1]) (by simp [results, Try.results50, go_sem]) rfl ⟨rfl, ?_⟩
  exact ((Below.refl _ _).alloc (Nat.le_refl _) _).alloc (by simp) _
theorem heldTB {w W w2 : World} {P f1 f2 B1 B2 : Nat} (hS : W.cell? ⟨w.heap.size, 0, none⟩ = some (.int .i64 (P : Int)) ∧ W.cell? ⟨w.heap.size, 1, none⟩ = some (fv f1 B1) ∧ W.cell? ⟨w.heap.size, 2, none⟩ = some (fv f2 B2) ∧ Below w.heap.size w W ∧ ∃ u0 u1, Blk W (w.heap.size + 1) #[u0, u1] 34) (hb : Below W.heap.size W w2) : w2.cell? ⟨w.heap.size, 0, none⟩ = some (.int .i64 (P : Int)) ∧ w2.cell? ⟨w.heap.size, 1, none⟩ = some (fv f1 B1) ∧ w2.cell? ⟨w.heap.size, 2, none⟩ = some (fv f2 B2) ∧ Below w.heap.size w w2 ∧ ∃ u0 u1, Blk w2 (w.heap.size + 1) #[u0, u1] 34 := by
  obtain ⟨h0, h1, h2, h3, u0, u1, h4⟩ := hS
  obtain ⟨hc, _⟩ := bcell hb
  have hl : w.heap.size < W.heap.size := by have := h4.lt; omega
  exact ⟨by rw [hc _ _ hl]; exact h0, by rw [hc _ _ hl]; exact h1, by rw [hc _ _ hl]; exact h2, chain h3 hb, u0, u1, h4.below hb⟩
theorem storeTB {w W : World} {P f1 f2 B1 B2 : Nat} (hS : W.cell? ⟨w.heap.size, 0, none⟩ = some (.int .i64 (P : Int)) ∧ W.cell? ⟨w.heap.size, 1, none⟩ = some (fv f1 B1) ∧ W.cell? ⟨w.heap.size, 2, none⟩ = some (fv f2 B2) ∧ Below w.heap.size w W ∧ ∃ u0 u1, Blk W (w.heap.size + 1) #[u0, u1] 34) (v0 v1 : Value) : ((W.setCell ⟨w.heap.size + 1, 0, none⟩ v0).setCell ⟨w.heap.size + 1, 1, none⟩ v1).cell? ⟨w.heap.size, 0, none⟩ = some (.int .i64 (P : Int)) ∧ ((W.setCell ⟨w.heap.size + 1, 0, none⟩ v0).setCell ⟨w.heap.size + 1, 1, none⟩ v1).cell? ⟨w.heap.size, 1, none⟩ = some (fv f1 B1) ∧ ((W.setCell ⟨w.heap.size + 1, 0, none⟩ v0).setCell ⟨w.heap.size + 1, 1, none⟩ v1).cell? ⟨w.heap.size, 2, none⟩ = some (fv f2 B2) ∧ Below w.heap.size w ((W.setCell ⟨w.heap.size + 1, 0, none⟩ v0).setCell ⟨w.heap.size + 1, 1, none⟩ v1) ∧ ∃ u0 u1, Blk ((W.setCell ⟨w.heap.size + 1, 0, none⟩ v0).setCell ⟨w.heap.size + 1, 1, none⟩ v1) (w.heap.size + 1) #[u0, u1] 34 := by
  obtain ⟨h0, h1, h2, h3, u0, u1, h4⟩ := hS
  refine ⟨?_, ?_, ?_, (h3.setCell (by simp) _).setCell (by simp) _, v0, v1, (h4.set v0).set v1⟩ <;> (rw [World.cell?_setCell_far _ _ _ _ (by simp), World.cell?_setCell_far _ _ _ _ (by simp)]; assumption)
set_option maxRecDepth 8000 in
set_option maxHeartbeats 1000000 in
theorem board_any (P : Nat) (f1 f2 B1 B2 : Nat) (xs ys : List Int) (w : World) (p1 : P ≤ 24) (n1 : xs.length = P + 1) (n2 : ys.length = P + 1) (q1 : Pays f1 B1 xs w) (q2 : Pays f2 B2 ys w) :
    Calls Try.prog 51 #[.agg #[.int .i64 (P : Int), fv f1 B1, fv f2 B2]] w (BoardMade xs ys w) := by
  obtain ⟨BT, BR, hb, hz⟩ := two_new w #[.int .i64 (P : Int), fv f1 B1, fv f2 B2] #[.slice none 0 0, .slice none 0 0] 59 34
  obtain ⟨x0, x1, x2, xf, xl⟩ := BT.tri
  have hK1 := fun W (hW : Below w.heap.size w W) => side_any P f1 f2 B1 B2 f1 B1 xs W p1 n1 (q1.below hW)
  have hK2 := fun W (hW : Below w.heap.size w W) => side_any P f1 f2 B1 B2 f2 B2 ys W p1 n2 (q2.below hW)
  have HK1 := Lib.hid hK1
  have HK2 := Lib.hid hK2
  clear hK1 hK2
  go_enter Try.func51, Try.ntmps51
  go_wp2_with fail
  generalize ((w.alloc (.cells #[.int .i64 (P : Int), fv f1 B1, fv f2 B2] 59)).alloc (.cells #[.slice none 0 0, .slice none 0 0] 34)) = v0 at *
  refine wp_region_held_drew (S := fun w' => w'.cell? ⟨w.heap.size, 0, none⟩ = some (.int .i64 (P : Int)) ∧ w'.cell? ⟨w.heap.size, 1, none⟩ = some (fv f1 B1) ∧ w'.cell? ⟨w.heap.size, 2, none⟩ = some (fv f2 B2) ∧ Below w.heap.size w w' ∧ ∃ u0 u1, Blk w' (w.heap.size + 1) #[u0, u1] 34) (by kernel_rfl) ⟨x0, x1, x2, hb.drew, _, _, BR.drew⟩ (fun hHeld => ?_)
  refine wpAnyH_take (i := 0) (oi := { dst := some 3, op := _, type := _, pos := _, after := _, guard := _ }) (v := ?_) rfl (by kernel_rfl) (by kernel_rfl) (by kernel_rfl) (fun _ _ _ h => h) (Or.inl ⟨by rfl, ?_⟩) (by assumption) ?_
  rotate_left
  · intro w hSw
    (try dsimp only at hSw)
    go_simp
    (try (with_reducible rfl))
  try simp only [Act.put, List.setIfInBounds_toArray, List.set_cons_zero, List.set_cons_succ]
  refine wpAnyH_take (i := 1) (oi := { dst := some 4, op := _, type := _, pos := _, after := _, guard := _ }) (v := ?_) rfl (by kernel_rfl) (by kernel_rfl) (by kernel_rfl) (fun _ _ _ h => h) (Or.inl ⟨by rfl, ?_⟩) (by assumption) ?_
  rotate_left
  · intro w hSw
    (try dsimp only at hSw)
    go_simp
    (try (with_reducible rfl))
  try simp only [Act.put, List.setIfInBounds_toArray, List.set_cons_zero, List.set_cons_succ]
  refine wpAnyH_take (i := 2) (oi := { dst := some 5, op := _, type := _, pos := _, after := _, guard := _ }) (v := ?_) rfl (by kernel_rfl) (by kernel_rfl) (by kernel_rfl) (fun _ _ _ h => h) (Or.inl ⟨by rfl, ?_⟩) (by assumption) ?_
  rotate_left
  · intro w hSw
    (try dsimp only at hSw)
    go_simp
    (try (with_reducible rfl))
  try simp only [Act.put, List.setIfInBounds_toArray, List.set_cons_zero, List.set_cons_succ]
  refine wpAnyH_take (i := 4) (oi := { dst := some 7, op := _, type := _, pos := _, after := _, guard := _ }) (v := ?_) rfl (by kernel_rfl) (by kernel_rfl) (by kernel_rfl) (fun _ _ _ h => h) (Or.inl ⟨by rfl, ?_⟩) (by assumption) ?_
  rotate_left
  · intro w hSw
    (try dsimp only at hSw)
    go_simp
    (try (with_reducible rfl))
  try simp only [Act.put, List.setIfInBounds_toArray, List.set_cons_zero, List.set_cons_succ]
  refine wpAnyH_take (i := 5) (oi := { dst := some 8, op := _, type := _, pos := _, after := _, guard := _ }) (v := ?_) rfl (by kernel_rfl) (by kernel_rfl) (by kernel_rfl) (fun _ _ _ h => h) (Or.inl ⟨by rfl, ?_⟩) (by assumption) ?_
  rotate_left
  · intro w hSw
    (try dsimp only at hSw)
    go_simp
    (try (with_reducible rfl))
  try simp only [Act.put, List.setIfInBounds_toArray, List.set_cons_zero, List.set_cons_succ]
  refine wpAnyH_take (i := 6) (oi := { dst := some 9, op := _, type := _, pos := _, after := _, guard := _ }) (v := ?_) rfl (by kernel_rfl) (by kernel_rfl) (by kernel_rfl) (fun _ _ _ h => h) (Or.inl ⟨by rfl, ?_⟩) (by assumption) ?_
  rotate_left
  · intro w hSw
    (try dsimp only at hSw)
    go_simp
    (try (with_reducible rfl))
  try simp only [Act.put, List.setIfInBounds_toArray, List.set_cons_zero, List.set_cons_succ]
  refine wpAnyH_ready (rs := [3]) (by kernel_rfl) (by simp) ?_
  refine AllReadyH.cons (o := { dst := some 6, op := _, type := _, pos := _, after := _, guard := _ }) rfl (fun K hK => ?_) AllReadyH.nil
  go_simp
  refine (HK1.out _ hHeld.2.2.2.1).mono ?_
  rintro e w5 ⟨g1, rfl, hg1, R1, hb1⟩
  have hS := heldTB hHeld hb1
  (try go_wp2_with fail)
  refine hK.out _ _ hS (fun hHeld => ?_)
  clear hK K
  try simp only [Act.put, List.setIfInBounds_toArray, List.set_cons_zero, List.set_cons_succ]
  refine wpAnyH_ready (rs := [7]) (by kernel_rfl) (by simp) ?_
  refine AllReadyH.cons (o := { dst := some 10, op := _, type := _, pos := _, after := _, guard := _ }) rfl (fun K hK => ?_) AllReadyH.nil
  go_simp
  refine (HK2.out _ hHeld.2.2.2.1).mono ?_
  rintro e w6 ⟨g2, rfl, hg2, R2, hb2⟩
  have R1b := R1.below hb2
  have hS := heldTB hHeld hb2
  (try go_wp2_with fail)
  refine hK.out _ _ hS (fun hHeld => ?_)
  clear hK K
  try simp only [Act.put, List.setIfInBounds_toArray, List.set_cons_zero, List.set_cons_succ]
  refine wpAnyH_take (i := 8) (oi := { dst := some 11, op := _, type := _, pos := _, after := _, guard := _ }) (v := ?_) rfl (by kernel_rfl) (by kernel_rfl) (by kernel_rfl) (fun _ _ _ h => h) (Or.inl ⟨by rfl, ?_⟩) (by assumption) ?_
  rotate_left
  · intro w hSw
    (try dsimp only at hSw)
    go_simp
    (try (with_reducible rfl))
  try simp only [Act.put, List.setIfInBounds_toArray, List.set_cons_zero, List.set_cons_succ]
  refine wpAnyH_ready (rs := [9]) (by kernel_rfl) (by simp) ?_
  refine AllReadyH.cons (o := { dst := none, op := _, type := _, pos := _, after := _, guard := _ }) rfl (fun K hK => ?_) AllReadyH.nil
  obtain ⟨u0, u1, BU⟩ := hHeld.2.2.2.2
  have y0 := BU.two.1
  have y1 := BU.two.2.1
  have yf := BU.two.2.2.1
  have yl := BU.two.2.2.2
  go_simp
  (try go_wp2_with fail)
  refine hK.out _ _ (storeTB hHeld _ _) (fun hHeld => ?_)
  clear hK K
  try simp only [Act.put, List.setIfInBounds_toArray, List.set_cons_zero, List.set_cons_succ]
  refine wpAnyH_done (by kernel_rfl) ?_ _
  go_wp2
  have hl1 := R1.lt
  have hd : v0.drew.heap.size = w.heap.size + 1 + 1 := hz
  have hb56 := hHeld.2.2.2.1
  refine bodyPost_ret (v := .agg #[.slice (some ⟨g1, 0, none⟩) (P + 1) (P + 1), .slice (some ⟨g2, 0, none⟩) (P + 1) (P + 1)]) (by simp [results, Try.results51, go_sem, y0, y1]) rfl ?_
  exact ⟨g1, g2, by rw [n1, n2], by omega, by omega, (R1b.other (by omega)).other (by omega), (R2.other (by omega)).other (by omega), hb56⟩
/-- The sides that an exchange hands back: none, if the board is not valid. -/
def swL (p c h s : Int) (xs ys zs : List Int) : List Int := if isB p c h s xs ys = true then zs else []
set_option maxRecDepth 8000 in
set_option maxHeartbeats 2000000 in
theorem swapBoard_any (p c h s : Int) (a1 a2 : Option Addr) (n1 n2 c1 c2 : Nat) (xs ys : List Int) (w : World) (h1 : xs.length = n1) (h2 : ys.length = n2) (l1 : n1 ≤ 1048576) (l2 : n2 ≤ 1048576) (r1 : IRow w a1 xs) (r2 : IRow w a2 ys) :
    Calls Try.prog 28 #[.agg #[.int .i64 p, .int .i64 c, .int .i64 h, .int .i64 s], .agg #[.slice a1 n1 c1, .slice a2 n2 c2]] w (BoardGot (swL p c h s xs ys ys) (swL p c h s xs ys xs) w) := by
  obtain ⟨BV, BB, BR, hb, hz⟩ := three_new w #[.int .i64 p, .int .i64 c, .int .i64 h, .int .i64 s] #[.slice a1 n1 c1, .slice a2 n2 c2] #[.slice none 0 0, .slice none 0 0] 26 34 34
  obtain ⟨x0, x1, x2, x3, xf, xl⟩ := BV.four
  obtain ⟨y0, y1, yf, yl⟩ := BB.two
  obtain ⟨u0, u1, uf, ul⟩ := BR.two
  by_cases g : isB p c h s xs ys = true
  · rw [swL, swL, if_pos g, if_pos g]
    obtain ⟨p0, p1, k0, k1, k2, k3, N1, N2, hx, hy, s0, s1, s2, s3⟩ := isB_parts g
    obtain ⟨P, rfl⟩ := Int.eq_ofNat_of_zero_le (by omega : 0 ≤ p)
    have hB := fun W (q1 : IRow W a1 xs) (q2 : IRow W a2 ys) => isBoard_any (P : Int) c h s a1 a2 n1 n2 c1 c2 xs ys W h1 h2 l1 l2 q1 q2
    simp only [g] at hB
    have HB := Lib.hid hB
    clear hB
    go_enter Try.func28, Try.ntmps28
    go_wp2_with (first | (go_at_call 48; refine (HB.out _ (r1.below hb) (r2.below hb)).mono ?_; rintro e w1 ⟨rfl, hb1⟩; obtain ⟨x0, x1, x2, x3, xf, xl⟩ := (BV.below hb1).four; obtain ⟨y0, y1, yf, yl⟩ := (BB.below hb1).two) | (go_at_call 49; refine (countsOf_any _ c h s a1 a2 n1 c1 n2 c2 xs ys _ h1 h2 (r1.below (chain hb hb1)) (r2.below (chain hb hb1))).mono ?_; rintro e w2 ⟨B, rfl, q1, q2, hb2⟩) | (go_at_call 50; refine (swapped_any _ _ _ _ _ _).mono ?_; rintro e w3 ⟨rfl, hb3⟩) | (go_at_call 51; refine (board_any P _ _ _ _ ys xs _ (by omega) (by omega) (by omega) (q2.below hb3) (q1.below hb3)).mono ?_; rintro e w4 ⟨g1, g2, rfl, hg1, hg2, R1, R2, hb4⟩; obtain ⟨u0, u1, uf, ul⟩ := (BR.below (chain (chain (chain hb1 hb2) hb3) hb4)).two))
    have hs1 := (chain (chain hb1 hb2) hb3).size
    have hl1 := R1.lt
    have hl2 := R2.lt
    have hbz := chain (chain (chain (chain hb hb1) hb2) hb3) hb4
    have hsz := hb.size
    refine bodyPost_ret (v := .agg #[.slice (some ⟨g1, 0, none⟩) n2 n2, .slice (some ⟨g2, 0, none⟩) n1 n1]) (by simp [results, Try.results28, go_sem, u0, u1]) rfl ?_
    exact ⟨some ⟨g1, 0, none⟩, some ⟨g2, 0, none⟩, n2, n1, by rw [h1, h2], .inr ⟨g1, g2, rfl, rfl, by omega, by omega, by simpa using hl1, by omega, by simpa using hl2, (R1.other (by omega)).other (by omega), (R2.other (by omega)).other (by omega)⟩, (hbz.setCell (by simp; omega) _).setCell (by simp; omega) _⟩
  · rw [swL, swL, if_neg g, if_neg g]
    replace g : isB p c h s xs ys = false := by simpa using g
    have hB := fun W (q1 : IRow W a1 xs) (q2 : IRow W a2 ys) => isBoard_any p c h s a1 a2 n1 n2 c1 c2 xs ys W h1 h2 l1 l2 q1 q2
    simp only [g] at hB
    have HB := Lib.hid hB
    clear hB
    go_enter Try.func28, Try.ntmps28
    go_wp2_with (go_at_call 48; refine (HB.out _ (r1.below hb) (r2.below hb)).mono ?_; rintro e w1 ⟨rfl, hb1⟩; obtain ⟨x0, x1, x2, x3, xf, xl⟩ := (BV.below hb1).four; obtain ⟨y0, y1, yf, yl⟩ := (BB.below hb1).two; obtain ⟨u0, u1, uf, ul⟩ := (BR.below hb1).two)
    have hbz := chain hb hb1
    refine bodyPost_ret (v := .agg #[.slice none 0 0, .slice none 0 0]) (by simp [results, Try.results28, go_sem, u0, u1]) rfl ?_
    exact ⟨none, none, 0, 0, rfl, .inl ⟨rfl, rfl, rfl, rfl⟩, (hbz.setCell (by simp; omega) _).setCell (by simp; omega) _⟩
end Go.Proofs.Ytjepbhainidpgaa
