/- Comparing two boards; the model's draws of a board and of an identifier. -/
import Derived.Test.YtkddeoifdecniaaDraw4
import Derived.Test.YtkddeoifdecniaaSrc2
import Derived.Test.YtkddeoifdecniaaL03h
import Derived.Test.YtkddeoifdecniaaL03m
import Derived.Deep.RegionWith
import Derived.RegionTactic
namespace Go.Proofs.Ytkddeoifdecniaa
open Go.ChangeShapes Go.WideShapes Go.ChangeAt Go.RowKit
set_option linter.unusedVariables false
set_option linter.unusedSimpArgs false

set_option maxHeartbeats 1000000 in
theorem likeInts_same (a b : Option Addr) (n c1 c2 : Nat) (xs : List Int) (w : World) (hn : xs.length = n) (hle : n ≤ 1048576) (ha : IRow w a xs) (hb : IRow w b xs) :
    Calls Try.prog 65 #[.slice a n c1, .slice b n c2] w fun e w' => e = .returned (.bool true) ∧ Below w.heap.size w w' := by
  subst hn
  go_enter Try.func65, Try.ntmps65
  go_wp2
  go_loopg [5] xs.length (fun m i wr => ∃ k : Nat, k ≤ xs.length ∧ m = xs.length - k ∧ i = .int .i64 k ∧ Below w.heap.size w wr)
  case atStart => exact ⟨0, by omega, by omega, rfl, Below.refl _ _⟩
  case round =>
    obtain ⟨k, hk, hm, rfl, hbel⟩ := hrel
    by_cases hlt : k < xs.length
    · have hlt' : (k : Int) < (xs.length : Int) := by omega
      have hk0 : (0 : Int) ≤ (k : Int) := by omega
      obtain ⟨b1, o1, rfl, hc1⟩ := ha.below hbel k hlt
      obtain ⟨b2, o2, rfl, hc2⟩ := hb.below hbel k hlt
      go_wp2_with fail
      go_quiet (fail)
      go_wp2
      go_roundg (xs.length - (k + 1))
      case measure => omega
      case rel => exact ⟨k + 1, by omega, rfl, by go_num, below_drewN hbel _⟩
    · obtain rfl : k = xs.length := by omega
      go_wp2
      go_ret
      exact ⟨rfl, hbel⟩
set_option maxHeartbeats 1000000 in
theorem w9Boards_same (a1 a2 b1 b2 : Option Addr) (n1 n2 c1 c2 d1 d2 : Nat) (xs ys : List Int) (w : World) (h1 : xs.length = n1) (h2 : ys.length = n2) (l1 : n1 ≤ 1048576) (l2 : n2 ≤ 1048576)
    (r1 : IRow w a1 xs) (r2 : IRow w a2 ys) (s1 : IRow w b1 xs) (s2 : IRow w b2 ys) :
    Calls Try.prog 20 #[.agg #[.slice a1 n1 c1, .slice a2 n2 c2], .agg #[.slice b1 n1 d1, .slice b2 n2 d2]] w fun e w' => e = .returned (.bool true) ∧ Below w.heap.size w w' := by
  obtain ⟨BA, BR, hb, hz⟩ := two_new w #[.slice a1 n1 c1, .slice a2 n2 c2] #[.slice b1 n1 d1, .slice b2 n2 d2] 28 28
  replace r1 := r1.below hb
  replace r2 := r2.below hb
  replace s1 := s1.below hb
  replace s2 := s2.below hb
  have HZ := Lib.hid hz
  clear hz
  go_enter Try.func20, Try.ntmps20
  go_wp2_with fail
  generalize ((w.alloc (.cells #[.slice a1 n1 c1, .slice a2 n2 c2] 28)).alloc (.cells #[.slice b1 n1 d1, .slice b2 n2 d2] 28)) = v0 at *
  refine (likeInts_same a1 b1 n1 c1 d1 xs v0 h1 l1 r1 s1).mono ?_
  rintro e w1 ⟨rfl, hb1⟩
  replace BA := BA.below hb1
  replace BR := BR.below hb1
  have hz1 := HZ.out
  obtain ⟨x0, x1, xf, xl⟩ := BA.two
  obtain ⟨y0, y1, yf, yl⟩ := BR.two
  clear hz1
  go_wp2_with fail
  refine (likeInts_same a2 b2 n2 c2 d2 ys w1 h2 l2 (r2.below hb1) (s2.below hb1)).mono ?_
  rintro e w2 ⟨rfl, hb2⟩
  go_wp2_with fail
  go_ret
  have hz1 := HZ.out
  exact ⟨rfl, (hb.trans (hb1.mono (by omega))).trans (hb2.mono (by have := hb1.size; omega))⟩
/-- A pair has been drawn, all of it in new memory. -/
def PairNew (w : World) (e : Ending) (w' : World) : Prop :=
  ∃ (p c h s : Int) (g1 g2 n1 n2 c1 c2 : Nat) (xs ys : List Int), e = .returned (.tuple #[.agg #[.int .i64 p, .int .i64 c, .int .i64 h, .int .i64 s], .agg #[.slice (some ⟨g1, 0, none⟩) n1 c1, .slice (some ⟨g2, 0, none⟩) n2 c2]]) ∧
    xs.length = n1 ∧ ys.length = n2 ∧ n1 ≤ 1000 ∧ n2 ≤ 1000 ∧ Row w' g1 xs ∧ Row w' g2 ys ∧ Below w.heap.size w w'
set_option maxHeartbeats 2000000 in
theorem drawBoardId_any (B : Nat) (a : Option Addr) (len cap : Nat) (w : World) (hB : B ≤ w.heap.size) (hlen : len ≤ 1048576) (hcode : CodeIn B w a len) :
    Calls Try.prog 33 #[.slice a len cap] w (PairNew w) := by
  obtain ⟨BZ, BN, hb, hz⟩ := two_new w #[.int .i64 0, .int .i64 0, .int .i64 0, .int .i64 0] #[.slice none 0 0, .slice none 0 0] 25 28
  have hc1 := hcode.below (hb.mono hB)
  go_enter Try.func33, Try.ntmps33
  go_wp2_with fail
  generalize ((w.alloc (.cells #[.int .i64 0, .int .i64 0, .int .i64 0, .int .i64 0] 25)).alloc (.cells #[.slice none 0 0, .slice none 0 0] 28)) = v0 at *
  refine (from_any B a len cap _ (by omega) hlen hc1).mono ?_
  rintro e w1 ⟨g, rfl, hg, hS, hb1⟩
  replace BZ := BZ.below hb1
  replace BN := BN.below hb1
  replace hb := chain hb hb1
  go_wp2_with fail
  refine (drawPair_any B g a len cap _ hS).mono ?_
  rintro e w2 ⟨p, c, h, s, g1, g2, n1, n2, c1, c2, xs, ys, rfl, bp, hx, hy, l1, l2, e1, e2, b1, b2, R1, R2, hS2, hG⟩
  replace BZ := BZ.grown hG (by omega)
  replace BN := BN.grown hG (by omega)
  replace hb := chain_grown hb hG (by omega)
  have hz1 := hb1.size
  obtain ⟨z0, z1, z2, z3, zf, zl⟩ := BZ.four
  obtain ⟨n0', n1', nf, nl⟩ := BN.two
  go_wp2_with fail
  refine bodyPost_ret (v := .tuple #[.agg #[.int .i64 p, .int .i64 c, .int .i64 h, .int .i64 s], .agg #[.slice (some ⟨g1, 0, none⟩) n1 c1, .slice (some ⟨g2, 0, none⟩) n2 c2]]) (by simp [results, Try.results33, go_sem, z0, z1, z2, z3, n0', n1']) rfl ?_
  exact ⟨p, c, h, s, g1, g2, n1, n2, c1, c2, xs, ys, rfl, hx, hy, l1, l2, (((((R1.other (by omega)).other (by omega)).other (by omega)).other (by omega)).other (by omega)).other (by omega),
    (((((R2.other (by omega)).other (by omega)).other (by omega)).other (by omega)).other (by omega)).other (by omega), (((((hb.setCell (by simp) _).setCell (by simp) _).setCell (by simp) _).setCell (by simp) _).setCell (by simp) _).setCell (by simp) _⟩
/-- A variant and a text have been drawn. -/
def TextNew (w : World) (e : Ending) (w' : World) : Prop :=
  ∃ (p c h s : Int) (t : ByteArray), e = .returned (.tuple #[.agg #[.int .i64 p, .int .i64 c, .int .i64 h, .int .i64 s], .string t]) ∧ Below w.heap.size w w'
theorem extract_sizeN (t : ByteArray) (i j : Nat) : (t.extract i j).size ≤ t.size := by
  simp [ByteArray.size_extract]; omega
theorem odd_get (k : Nat) (h : k < 4) : ∃ X : ByteArray, (#[.string ⟨#[65]⟩, .string ⟨#[33]⟩, .string ⟨#[56]⟩, .string ⟨#[65, 65, 65, 65, 65, 65, 65, 65, 65, 65, 65, 65, 65, 65]⟩] : Array Value)[k]? = some (.string X) ∧ X.size ≤ 14 := by
  rcases (by omega : k = 0 ∨ k = 1 ∨ k = 2 ∨ k = 3) with rfl | rfl | rfl | rfl <;> exact ⟨_, rfl, by decide⟩
theorem cat_any (S B : ByteArray) (m : Nat) (h1 : S.size ≤ m) (h2 : B.size ≤ 1000) (hm : m ≤ 1000000) : ∃ T : ByteArray, T.size ≤ m + 1000 ∧ ∀ W : World, (Op.stringOp .add S B).run Try.prog W = .ok (.string T) W :=
  ⟨S ++ B, by rw [ByteArray.size_append]; omega, fun W => by rw [run_string_add_sum W S B (by omega)]⟩
theorem let_part (j : Nat) (L : ByteArray) (hL : L.size = 64) (hj : j < 64) (T1 T3 : ByteArray) (z1 : T1.size ≤ 1000) (z3 : T3.size ≤ 1000) : ∃ L1 L2 U1 U2 : ByteArray,
    (∀ W : World, (Instr.slice 9 (.string L) (some (.int .i64 (j : Int))) none none).run Try.prog W = .ok (.string L1) W) ∧
    (∀ W : World, (Instr.slice 9 (.string L1) none (some (.int .i64 1)) none).run Try.prog W = .ok (.string L2) W) ∧
    (∀ W : World, (Op.stringOp .add T1 L2).run Try.prog W = .ok (.string U1) W) ∧ (∀ W : World, (Op.stringOp .add U1 T3).run Try.prog W = .ok (.string U2) W) := by
  have hs : (L.extract j L.size).size = 64 - j := by simp [ByteArray.size_extract, hL]
  obtain ⟨U1, m1, k1⟩ := cat_any T1 ((L.extract j L.size).extract 0 1) 1000 z1 (Nat.le_trans (extract_sizeN _ _ _) (by omega)) (by omega)
  obtain ⟨U2, m2, k2⟩ := cat_any U1 T3 2000 m1 z3 (by omega)
  refine ⟨L.extract j L.size, (L.extract j L.size).extract 0 1, U1, U2, fun W => ?_, fun W => ?_, k1, k2⟩
  · rw [run_slice_string_from_if W 9 L .i64 (j : Int) Try.underlying9, if_pos ⟨by omega, by omega⟩]
    rfl
  · rw [run_slice_string_to_if W 9 _ .i64 1 Try.underlying9, if_pos ⟨by omega, by omega⟩]
    rfl
theorem biS_small (p c h s : Int) (xs ys : List Int) : (biS p c h s xs ys).length ≤ 14 := by
  unfold biS
  split
  · rename_i g
    obtain ⟨-, -, f7, f8⟩ := isB_fit g
    rw [idS_length]
    unfold groupsN
    simp
    omega
  · simp
set_option maxRecDepth 8000 in
set_option maxHeartbeats 2000000 in
theorem drawReadId_any (B : Nat) (a : Option Addr) (len cap : Nat) (w : World) (hB : B ≤ w.heap.size) (hlen : len ≤ 1048576) (hcode : CodeIn B w a len) :
    Calls Try.prog 39 #[.slice a len cap] w (TextNew w) := by
  have BZ := Blk.new w #[.int .i64 0, .int .i64 0, .int .i64 0, .int .i64 0] 25
  have hb : Below w.heap.size w (w.alloc (.cells #[.int .i64 0, .int .i64 0, .int .i64 0, .int .i64 0] 25)) := (Below.refl _ _).alloc (Nat.le_refl _) _
  have hl0 := BZ.lt
  have hc1 := hcode.below (hb.mono hB)
  go_enter Try.func39, Try.ntmps39
  go_wp2_with fail
  generalize (w.alloc (.cells #[.int .i64 0, .int .i64 0, .int .i64 0, .int .i64 0] 25)) = v0 at *
  refine (from_any B a len cap _ (by omega) hlen hc1).mono ?_
  rintro e w1 ⟨g, rfl, hg, hS, hb1⟩
  replace BZ := BZ.below hb1
  replace hb := chain hb hb1
  have hs1 := hb1.size
  clear hb1 hc1 hcode
  go_wp2_with fail
  refine (drawPair_any B g a len cap _ hS).mono ?_
  rintro e w2 ⟨p, c, h, s, g1, g2, n1, n2, c1, c2, xs, ys, rfl, bp, hx, hy, l1, l2, e1, e2, b1, b2, R1, R2, hS, hG⟩
  replace BZ := BZ.grown hG (by omega)
  replace hb := chain_grown hb hG (by omega)
  have hs2 := hG.size
  have hgl := hS.lt
  clear hG
  subst hx hy
  have BV := Blk.new w2 #[.int .i64 p, .int .i64 c, .int .i64 h, .int .i64 s] 25
  have hal : Below w2.heap.size w2 (w2.alloc (.cells #[.int .i64 p, .int .i64 c, .int .i64 h, .int .i64 s] 25)) := (Below.refl _ _).alloc (Nat.le_refl _) _
  have BB := Blk.new (w2.alloc (.cells #[.int .i64 p, .int .i64 c, .int .i64 h, .int .i64 s] 25)) #[.slice (some ⟨g1, 0, none⟩) xs.length c1, .slice (some ⟨g2, 0, none⟩) ys.length c2] 28
  have hz1 : (w2.alloc (.cells #[.int .i64 p, .int .i64 c, .int .i64 h, .int .i64 s] 25)).heap.size = w2.heap.size + 1 := by simp
  rw [hz1] at BB
  replace BV := BV.alloc (.cells #[.slice (some ⟨g1, 0, none⟩) xs.length c1, .slice (some ⟨g2, 0, none⟩) ys.length c2] 28)
  have hal2 := hal.alloc hal.size (.cells #[.slice (some ⟨g1, 0, none⟩) xs.length c1, .slice (some ⟨g2, 0, none⟩) ys.length c2] 28)
  replace BZ := BZ.below hal2
  replace hS := hS.below hal2
  replace hb := chain hb hal2
  have r1 := R1.irow.below hal2
  have r2 := R2.irow.below hal2
  have hs3 := BB.lt
  clear hal hal2 hz1 R1 R2
  obtain ⟨x0, x1, x2, x3, xf, xl⟩ := BV.four
  obtain ⟨y0, y1, yf, yl⟩ := BB.two
  go_wp2_with fail
  generalize ((w2.alloc (.cells #[.int .i64 p, .int .i64 c, .int .i64 h, .int .i64 s] 25)).alloc (.cells #[.slice (some ⟨g1, 0, none⟩) xs.length c1, .slice (some ⟨g2, 0, none⟩) ys.length c2] 28)) = v2 at *
  clear x0 x1 x2 x3 xf xl y0 y1 yf yl
  generalize hbv : w2.heap.size = bv at *
  clear hbv
  have hbi := fun W (q1 : IRow W (some ⟨g1, 0, none⟩) xs) (q2 : IRow W (some ⟨g2, 0, none⟩) ys) => specBoardId_any p c h s (some ⟨g1, 0, none⟩) (some ⟨g2, 0, none⟩) xs.length ys.length c1 c2 xs ys W rfl rfl (by omega) (by omega) q1 q2
  obtain ⟨t, ht⟩ : ∃ t : ByteArray, (⟨(biS p c h s xs ys).toArray⟩ : ByteArray) = t := ⟨_, rfl⟩
  have htz : t.size ≤ 14 := by
    rw [← ht]
    simpa [ByteArray.size] using biS_small p c h s xs ys
  rw [ht] at hbi
  have HBI := Lib.hid hbi
  clear hbi ht
  refine (HBI.out _ r1 r2).mono ?_
  rintro e w3 ⟨rfl, hb3⟩
  replace BZ := BZ.below hb3
  replace BV := BV.below hb3
  replace hS := hS.below hb3
  replace hb := chain hb hb3
  have hs4 := hb3.size
  clear hb3 r1 r2 BB HBI
  have htI : (t.size : Int) ≤ 14 := by omega
  go_wp2_with fail
  refine (next_any B g a len cap ((t.size : Int) + 1) _ hS (by omega)).mono ?_
  rintro e w4 ⟨r0, rfl, q0, u0, hS, hg0⟩
  replace BV := BV.grown hg0 (by omega)
  replace BZ := BZ.grown hg0 (by omega)
  replace hb := chain_grown hb hg0 (by omega)
  have hs5 := hg0.size
  clear hg0
  obtain ⟨k, rfl⟩ := Int.eq_ofNat_of_zero_le q0
  go_wp2_with fail
  refine (next_any B g a len cap 10 _ hS (by omega)).mono ?_
  rintro e w5 ⟨r2, rfl, q2, u2, hS, hg0⟩
  replace BV := BV.grown hg0 (by omega)
  replace BZ := BZ.grown hg0 (by omega)
  replace hb := chain_grown hb hg0 (by omega)
  have hs6 := hg0.size
  clear hg0
  have hk : (k : Int) ≤ (t.size : Int) := by omega
  have hk0 : (0 : Int) ≤ (k : Int) := by omega
  have hgl5 := hS.lt
  obtain ⟨T1, hT1⟩ : ∃ T1, t.extract 0 k = T1 := ⟨_, rfl⟩
  obtain ⟨T2, hT2⟩ : ∃ T2, t.extract k t.size = T2 := ⟨_, rfl⟩
  have z1 : T1.size ≤ 1000 := by rw [← hT1]; exact Nat.le_trans (extract_sizeN _ _ _) (by omega)
  have z2 : T2.size ≤ 1000 := by rw [← hT2]; exact Nat.le_trans (extract_sizeN _ _ _) (by omega)
  have hsl1 : ∀ W : World, (Instr.slice 9 (.string t) none (some (.int .i64 (k : Int))) none).run Try.prog W = .ok (.string T1) W := fun W => by
    rw [run_slice_string_to_if W 9 t .i64 (k : Int) Try.underlying9, if_pos ⟨hk0, hk⟩, ← hT1]
    rfl
  have hsl2 : ∀ W : World, (Instr.slice 9 (.string t) (some (.int .i64 (k : Int))) none none).run Try.prog W = .ok (.string T2) W := fun W => by
    rw [run_slice_string_from_if W 9 t .i64 (k : Int) Try.underlying9, if_pos ⟨hk0, hk⟩, ← hT2]
    rfl
  rcases (by omega : r2 = 0 ∨ r2 = 1 ∨ r2 = 2 ∨ 3 ≤ r2) with rfl | rfl | rfl | hr
  · obtain ⟨x0, x1, x2, x3, xf, xl⟩ := BV.four
    obtain ⟨z0, z1, z2, z3, zf, zl⟩ := BZ.four
    go_wp2_with fail
    have BZn := (((BZ.set (i := 0) (.int .i64 p)).set (i := 1) (.int .i64 c)).set (i := 2) (.int .i64 h)).set (i := 3) (.int .i64 s)
    obtain ⟨t0, t1, t2, t3, tf, tl⟩ := BZn.four
    refine bodyPost_ret (v := .tuple #[.agg #[.int .i64 p, .int .i64 c, .int .i64 h, .int .i64 s], .string T1]) (by simp [results, Try.results39, go_sem, t0, t1, t2, t3]) rfl ?_
    exact ⟨p, c, h, s, T1, rfl, (((hb.setCell (by simp) _).setCell (by simp) _).setCell (by simp) _).setCell (by simp) _⟩
  · go_wp2_with fail
    go_region_with (go_at_call 69; refine (next_any B g a len cap 4 _ (by first | exact hS.drew | exact (hS.alloc _).drew | exact hS.drew.alloc _) (by omega)).mono ?_; rintro e w6 ⟨r3, rfl, q3, u3, hS3, hg3⟩; obtain ⟨j, rfl⟩ := Int.eq_ofNat_of_zero_le q3; obtain ⟨X, hX, hXs⟩ := odd_get j (by omega); obtain ⟨U1, m1, k1⟩ := cat_any T1 X 1000 z1 (by omega) (by omega); obtain ⟨U2, m2, k2⟩ := cat_any U1 T2 2000 m1 z2 (by omega); try have hc : w6.cell? ⟨w5.heap.size, j, none⟩ = some (.string X) := by rw [((Blk.new w5 _ _).drew.grown hg3 (by omega)).cell j]; exact hX)
    · have BV6 := (BV.alloc (.cells #[.string ⟨#[65]⟩, .string ⟨#[33]⟩, .string ⟨#[56]⟩, .string ⟨#[65, 65, 65, 65, 65, 65, 65, 65, 65, 65, 65, 65, 65, 65]⟩] 9)).drew.grown hg3 (by omega)
      have BZ6 := (BZ.alloc (.cells #[.string ⟨#[65]⟩, .string ⟨#[33]⟩, .string ⟨#[56]⟩, .string ⟨#[65, 65, 65, 65, 65, 65, 65, 65, 65, 65, 65, 65, 65, 65]⟩] 9)).drew.grown hg3 (by omega)
      have hb6 := chain_grown (hb.alloc hb.size (.cells #[.string ⟨#[65]⟩, .string ⟨#[33]⟩, .string ⟨#[56]⟩, .string ⟨#[65, 65, 65, 65, 65, 65, 65, 65, 65, 65, 65, 65, 65, 65]⟩] 9)).drew hg3 (by omega)
      obtain ⟨x0, x1, x2, x3, xf, xl⟩ := BV6.four
      obtain ⟨z0, z1, z2, z3, zf, zl⟩ := BZ6.four
      go_wp2_with fail
      have BZn := (((BZ6.set (i := 0) (.int .i64 p)).set (i := 1) (.int .i64 c)).set (i := 2) (.int .i64 h)).set (i := 3) (.int .i64 s)
      obtain ⟨t0, t1, t2, t3, tf, tl⟩ := BZn.four
      refine bodyPost_ret (v := .tuple #[.agg #[.int .i64 p, .int .i64 c, .int .i64 h, .int .i64 s], .string U2]) (by simp [results, Try.results39, go_sem, t0, t1, t2, t3]) rfl ?_
      exact ⟨p, c, h, s, U2, rfl, (((hb6.setCell (by simp) _).setCell (by simp) _).setCell (by simp) _).setCell (by simp) _⟩
    · have BV6 := (BV.drew.grown hg3 (by omega)).alloc (.cells #[.string ⟨#[65]⟩, .string ⟨#[33]⟩, .string ⟨#[56]⟩, .string ⟨#[65, 65, 65, 65, 65, 65, 65, 65, 65, 65, 65, 65, 65, 65]⟩] 9)
      have BZ6 := (BZ.drew.grown hg3 (by omega)).alloc (.cells #[.string ⟨#[65]⟩, .string ⟨#[33]⟩, .string ⟨#[56]⟩, .string ⟨#[65, 65, 65, 65, 65, 65, 65, 65, 65, 65, 65, 65, 65, 65]⟩] 9)
      have hb5 := chain_grown hb.drew hg3 (by omega)
      have hb6 := hb5.alloc hb5.size (.cells #[.string ⟨#[65]⟩, .string ⟨#[33]⟩, .string ⟨#[56]⟩, .string ⟨#[65, 65, 65, 65, 65, 65, 65, 65, 65, 65, 65, 65, 65, 65]⟩] 9)
      obtain ⟨x0, x1, x2, x3, xf, xl⟩ := BV6.four
      obtain ⟨z0, z1, z2, z3, zf, zl⟩ := BZ6.four
      go_wp2_with fail
      have BZn := (((BZ6.set (i := 0) (.int .i64 p)).set (i := 1) (.int .i64 c)).set (i := 2) (.int .i64 h)).set (i := 3) (.int .i64 s)
      obtain ⟨t0, t1, t2, t3, tf, tl⟩ := BZn.four
      refine bodyPost_ret (v := .tuple #[.agg #[.int .i64 p, .int .i64 c, .int .i64 h, .int .i64 s], .string U2]) (by simp [results, Try.results39, go_sem, t0, t1, t2, t3]) rfl ?_
      exact ⟨p, c, h, s, U2, rfl, (((hb6.setCell (by simp) _).setCell (by simp) _).setCell (by simp) _).setCell (by simp) _⟩
  · by_cases hlt : k < t.size
    · have f1 : decide ((k : Int) < (t.size : Int)) = true := by simp; omega
      obtain ⟨K, hK⟩ : ∃ K, k + 1 = K := ⟨_, rfl⟩
      have wk : IntKind.i64.wrap ((k : Int) + 1) = (K : Int) := by rw [IntWalk.i64_in _ (by omega)]; omega
      have hK1 : (K : Int) ≤ (t.size : Int) := by omega
      have hK0 : (0 : Int) ≤ (K : Int) := by omega
      obtain ⟨T3, hT3⟩ : ∃ T3, t.extract K t.size = T3 := ⟨_, rfl⟩
      have z3 : T3.size ≤ 1000 := by rw [← hT3]; exact Nat.le_trans (extract_sizeN _ _ _) (by omega)
      have hsl3 : ∀ W : World, (Instr.slice 9 (.string t) (some (.int .i64 (K : Int))) none none).run Try.prog W = .ok (.string T3) W := fun W => by
        rw [run_slice_string_from_if W 9 t .i64 (K : Int) Try.underlying9, if_pos ⟨hK0, hK1⟩, ← hT3]
        rfl
      clear hK
      have hlz : (⟨letters.toArray⟩ : ByteArray).size = 64 := rfl
      obtain ⟨L, hL⟩ : ∃ L : ByteArray, ⟨letters.toArray⟩ = L := ⟨_, rfl⟩
      have hlet := fun W => l03Letters_any W
      rw [hL] at hlet hlz
      have HLET := Lib.hid hlet
      have HLZ := Lib.hid hlz
      clear hlet hlz hL
      go_wp2_with fail
      go_region_with (first | (go_at_call 83; refine (HLET.out _).mono ?_; rintro e w7 ⟨rfl, rfl⟩) | (go_at_call 69; refine (next_any B g a len cap 64 _ (by first | exact hS.drew | exact (hS.alloc _).drew | exact hS.drew.alloc _) (by omega)).mono ?_; rintro e w6 ⟨r3, rfl, q3, u3, hS3, hg3⟩; obtain ⟨j, rfl⟩ := Int.eq_ofNat_of_zero_le q3; obtain ⟨L1, L2, U1, U2, hL1, hL2, hU1, hU2⟩ := let_part j L HLZ.out (by omega) T1 T3 z1 z3))
      have BV6 := BV.drew.grown hg3 (by omega)
      have BZ6 := BZ.drew.grown hg3 (by omega)
      have hb6 := chain_grown hb.drew hg3 (by omega)
      obtain ⟨x0, x1, x2, x3, xf, xl⟩ := BV6.four
      obtain ⟨z0, z1, z2, z3, zf, zl⟩ := BZ6.four
      go_wp2_with fail
      have BZn := (((BZ6.set (i := 0) (.int .i64 p)).set (i := 1) (.int .i64 c)).set (i := 2) (.int .i64 h)).set (i := 3) (.int .i64 s)
      obtain ⟨t0, t1, t2, t3, tf, tl⟩ := BZn.four
      refine bodyPost_ret (v := .tuple #[.agg #[.int .i64 p, .int .i64 c, .int .i64 h, .int .i64 s], .string U2]) (by simp [results, Try.results39, go_sem, t0, t1, t2, t3]) rfl ?_
      exact ⟨p, c, h, s, U2, rfl, (((hb6.setCell (by simp) _).setCell (by simp) _).setCell (by simp) _).setCell (by simp) _⟩
    · have f1 : decide ((k : Int) < (t.size : Int)) = false := by simp; omega
      obtain ⟨x0, x1, x2, x3, xf, xl⟩ := BV.four
      obtain ⟨z0, z1, z2, z3, zf, zl⟩ := BZ.four
      go_wp2_with fail
      have BZn := (((BZ.set (i := 0) (.int .i64 p)).set (i := 1) (.int .i64 c)).set (i := 2) (.int .i64 h)).set (i := 3) (.int .i64 s)
      obtain ⟨t0, t1, t2, t3, tf, tl⟩ := BZn.four
      refine bodyPost_ret (v := .tuple #[.agg #[.int .i64 p, .int .i64 c, .int .i64 h, .int .i64 s], .string t]) (by simp [results, Try.results39, go_sem, t0, t1, t2, t3]) rfl ?_
      exact ⟨p, c, h, s, t, rfl, (((hb.setCell (by simp) _).setCell (by simp) _).setCell (by simp) _).setCell (by simp) _⟩
  · have f0 : (r2 == 0) = false := by rw [beq_eq_false_iff_ne]; omega
    have f1 : (r2 == 1) = false := by rw [beq_eq_false_iff_ne]; omega
    have f2 : (r2 == 2) = false := by rw [beq_eq_false_iff_ne]; omega
    obtain ⟨x0, x1, x2, x3, xf, xl⟩ := BV.four
    obtain ⟨z0, z1, z2, z3, zf, zl⟩ := BZ.four
    go_wp2_with fail
    have BZn := (((BZ.set (i := 0) (.int .i64 p)).set (i := 1) (.int .i64 c)).set (i := 2) (.int .i64 h)).set (i := 3) (.int .i64 s)
    obtain ⟨t0, t1, t2, t3, tf, tl⟩ := BZn.four
    refine bodyPost_ret (v := .tuple #[.agg #[.int .i64 p, .int .i64 c, .int .i64 h, .int .i64 s], .string t]) (by simp [results, Try.results39, go_sem, t0, t1, t2, t3]) rfl ?_
    exact ⟨p, c, h, s, t, rfl, (((hb.setCell (by simp) _).setCell (by simp) _).setCell (by simp) _).setCell (by simp) _⟩
end Go.Proofs.Ytkddeoifdecniaa
