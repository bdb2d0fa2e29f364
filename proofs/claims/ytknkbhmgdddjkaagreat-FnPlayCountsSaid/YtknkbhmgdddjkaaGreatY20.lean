/- Texts of a proof, laid together: The model's draw of a variant and a board for the numbers of plays. The exchange of sides: mathematics, comparing two boards, the draw of a pair. Contract of the model on the numbers of plays of all rolls. Every roll has a play: mathematics of the numbers of plays and of the dancing weight. -/
import Derived.Test.YtknkbhmgdddjkaaGreatY19
import Derived.Test.YtknkbhmgdddjkaaGreatY18
import Derived.Test.YtknkbhmgdddjkaaGreatY09
import Derived.Test.YtknkbhmgdddjkaaGreatY17
import Derived.Test.YtknkbhmgdddjkaaGreatY13
namespace Go.Proofs.YtknkbhmgdddjkaaGreat
open Go.ChangeShapes Go.WideShapes Go.ChangeAt Go.RowKit
set_option linter.unusedVariables false
set_option linter.unusedSimpArgs false
set_option maxRecDepth 4000

/-- A pair has been drawn, all of it in new memory. -/
def PairNew5 (w : World) (e : Ending) (w' : World) : Prop :=
  ∃ (p c h s : Int) (g1 g2 n1 n2 c1 c2 : Nat) (xs ys : List Int), e = .returned (.tuple #[.agg #[.int .i64 p, .int .i64 c, .int .i64 h, .int .i64 s], .agg #[.slice (some ⟨g1, 0, none⟩) n1 c1, .slice (some ⟨g2, 0, none⟩) n2 c2]]) ∧
    xs.length = n1 ∧ ys.length = n2 ∧ n1 ≤ 1000 ∧ n2 ≤ 1000 ∧ Row w' g1 xs ∧ Row w' g2 ys ∧ Below w.heap.size w w'
set_option maxRecDepth 8000 in
set_option maxHeartbeats 2000000 in
theorem drawPlayCounts_any (B : Nat) (a : Option Addr) (len cap : Nat) (w : World) (hB : B ≤ w.heap.size) (hlen : len ≤ 1048576) (hcode : CodeIn B w a len) :
    Calls Tryz.prog 5 #[.slice a len cap] w (PairNew5 w) := by
  obtain ⟨BZ, BN, hb, hz⟩ := two_new w #[.int .i64 0, .int .i64 0, .int .i64 0, .int .i64 0] #[.slice none 0 0, .slice none 0 0] 25 28
  have hc1 := hcode.below (hb.mono hB)
  go_enter Tryz.func5, Tryz.ntmps5
  go_wp2_with fail
  generalize ((w.alloc (.cells #[.int .i64 0, .int .i64 0, .int .i64 0, .int .i64 0] 25)).alloc (.cells #[.slice none 0 0, .slice none 0 0] 28)) = v0 at *
  refine (from_any B a len cap _ (by omega) hlen hc1).mono ?_
  rintro e w1 ⟨g, rfl, hg, hS, hb1⟩
  replace BZ := BZ.below hb1
  replace BN := BN.below hb1
  replace hb := chain hb hb1
  have hz1 := hb1.size
  go_wp2_with fail
  refine (drawSmall_any B g a len cap _ hS).mono ?_
  rintro e w2 ⟨p, c, h, s, rfl, bp, bc, bh, bs, hS, hG⟩
  obtain ⟨P, rfl⟩ := Int.eq_ofNat_of_zero_le (by omega : 0 ≤ p)
  have hz2 := hG.size
  have hgl := hS.lt
  have gv : vB (P : Int) c h s = true := vB_iff.2 ⟨bp.1, bp.2, bc.1, bc.2, bh.1, bh.2, bs.1, bs.2⟩
  replace BZ := (BZ.grown hG (by omega)).alloc (.cells #[.int .i64 (P : Int), .int .i64 c, .int .i64 h, .int .i64 s] 25)
  replace BN := (BN.grown hG (by omega)).alloc (.cells #[.int .i64 (P : Int), .int .i64 c, .int .i64 h, .int .i64 s] 25)
  replace hb := (chain_grown hb hG (by omega)).alloc (Nat.le_trans hb.size hz2) (.cells #[.int .i64 (P : Int), .int .i64 c, .int .i64 h, .int .i64 s] 25)
  replace hS := hS.alloc (.cells #[.int .i64 (P : Int), .int .i64 c, .int .i64 h, .int .i64 s] 25)
  have BV := Blk.new w2 #[.int .i64 (P : Int), .int .i64 c, .int .i64 h, .int .i64 s] 25
  have hv2 : (w2.alloc (.cells #[.int .i64 (P : Int), .int .i64 c, .int .i64 h, .int .i64 s] 25)).heap.size = w2.heap.size + 1 := by simp
  clear hG
  go_wp2_with fail
  generalize (w2.alloc (.cells #[.int .i64 (P : Int), .int .i64 c, .int .i64 h, .int .i64 s] 25)) = v2 at *
  refine (next_any B g a len cap 12 _ hS (by omega)).mono ?_
  rintro e w3 ⟨r1, rfl, q1, u1, hS, hG⟩
  have hz3 := hG.size
  replace BZ := BZ.grown hG (by omega)
  replace BN := BN.grown hG (by omega)
  replace BV := BV.grown hG (by omega)
  replace hb := chain_grown hb hG (by omega)
  clear hG
  by_cases e1 : r1 = 0
  · have f0 : (r1 == 0) = true := by rw [beq_iff_eq]; exact e1
    clear e1 bp bc bh bs gv
    go_wp2_with fail
    refine (drawPair_any B g a len cap _ hS).mono ?_
    rintro e w4 ⟨p', c', h', s', g1, g2, n1, n2, c1, c2, xs, ys, rfl, -, hx, hy, l1, l2, d1, d2, b1, b2, R1, R2, hS, hG⟩
    have hz4 := hG.size
    replace BZ := BZ.grown hG (by omega)
    replace BN := BN.grown hG (by omega)
    replace hb := chain_grown hb hG (by omega)
    have HX := Lib.hid hx
    have HY := Lib.hid hy
    clear hG hx hy
    obtain ⟨z0, z1, z2, z3, zf, zl⟩ := BZ.four
    obtain ⟨n0', n1', nf, nl⟩ := BN.two
    go_wp2_with fail
    refine bodyPost_ret (v := .tuple #[.agg #[.int .i64 p', .int .i64 c', .int .i64 h', .int .i64 s'], .agg #[.slice (some ⟨g1, 0, none⟩) n1 c1, .slice (some ⟨g2, 0, none⟩) n2 c2]]) (by simp [results, Tryz.results5, go_sem, z0, z1, z2, z3, n0', n1']) rfl ?_
    exact ⟨p', c', h', s', g1, g2, n1, n2, c1, c2, xs, ys, rfl, HX.out, HY.out, by omega, by omega, ((((((R1.other (by omega)).other (by omega)).other (by omega)).other (by omega)).other (by omega)).other (by omega)), ((((((R2.other (by omega)).other (by omega)).other (by omega)).other (by omega)).other (by omega)).other (by omega)), ((((((hb.setCell (by simp) _).setCell (by simp) _).setCell (by simp) _).setCell (by simp) _).setCell (by simp) _).setCell (by simp) _)⟩
  · have f0 : (r1 == 0) = false := by rw [beq_eq_false_iff_ne]; exact e1
    clear e1
    obtain ⟨x0, x1, x2, x3, xf, xl⟩ := BV.four
    go_wp2_with fail
    clear x0 x1 x2 x3 xf xl
    have hd_ : w3.drew.heap.size = w3.heap.size := rfl
    replace BV := BV.drew
    replace BZ := BZ.drew
    replace BN := BN.drew
    replace hS := hS.drew
    replace hb := hb.drew
    refine wp_region_held_drew (S := fun w' => w'.cell? ⟨w2.heap.size, 0, none⟩ = some (.int .i64 (P : Int)) ∧ w'.cell? ⟨w2.heap.size, 1, none⟩ = some (.int .i64 c) ∧ w'.cell? ⟨w2.heap.size, 2, none⟩ = some (.int .i64 h) ∧ w'.cell? ⟨w2.heap.size, 3, none⟩ = some (.int .i64 s)) (by kernel_rfl) ⟨BV.four.1, BV.four.2.1, BV.four.2.2.1, BV.four.2.2.2.1⟩ (fun hHeld => ?_)
    clear hHeld
    generalize w3.drew = vd at *
    have hHeld : vd.cell? ⟨w2.heap.size, 0, none⟩ = some (.int .i64 (P : Int)) ∧ vd.cell? ⟨w2.heap.size, 1, none⟩ = some (.int .i64 c) ∧ vd.cell? ⟨w2.heap.size, 2, none⟩ = some (.int .i64 h) ∧ vd.cell? ⟨w2.heap.size, 3, none⟩ = some (.int .i64 s) := ⟨BV.four.1, BV.four.2.1, BV.four.2.2.1, BV.four.2.2.2.1⟩
    refine wpAnyH_take (i := 0) (oi := { dst := some 17, op := _, type := _, pos := _, after := _, guard := _ }) (v := ?_) rfl (by kernel_rfl) (by kernel_rfl) (by kernel_rfl) (fun _ _ _ h => h) (Or.inl ⟨by rfl, ?_⟩) (by assumption) ?_
    rotate_left
    · intro w hSw
      (try dsimp only at hSw)
      go_simp
      (try (with_reducible rfl))
    try simp only [Act.put, List.setIfInBounds_toArray, List.set_cons_zero, List.set_cons_succ]
    refine wpAnyH_take (i := 1) (oi := { dst := some 18, op := _, type := _, pos := _, after := _, guard := _ }) (v := ?_) rfl (by kernel_rfl) (by kernel_rfl) (by kernel_rfl) (fun _ _ _ h => h) (Or.inl ⟨by rfl, ?_⟩) (by assumption) ?_
    rotate_left
    · intro w hSw
      (try dsimp only at hSw)
      go_simp
      (try (with_reducible rfl))
    try simp only [Act.put, List.setIfInBounds_toArray, List.set_cons_zero, List.set_cons_succ]
    refine wpAnyH_take (i := 2) (oi := { dst := some 19, op := _, type := _, pos := _, after := _, guard := _ }) (v := ?_) rfl (by kernel_rfl) (by kernel_rfl) (by kernel_rfl) (fun _ _ _ h => h) (Or.inl ⟨by rfl, ?_⟩) (by assumption) ?_
    rotate_left
    · intro w hSw
      (try dsimp only at hSw)
      go_simp
      (try (with_reducible rfl))
    try simp only [Act.put, List.setIfInBounds_toArray, List.set_cons_zero, List.set_cons_succ]
    refine wpAnyH_ready (rs := [3]) (by kernel_rfl) (by simp) ?_
    refine AllReadyH.cons (o := { dst := some 20, op := _, type := _, pos := _, after := _, guard := _ }) rfl (fun K hK => ?_) AllReadyH.nil
    go_simp
    refine (draw_any B g P c h s a len cap _ gv hS).mono ?_
    rintro e w4 ⟨g1, g2, xs, ys, rfl, hx, hy, d1, d2, d3, R1, R2, hS, hG⟩
    have hz4 := hG.size
    replace BZ := BZ.grown hG (by omega)
    replace BN := BN.grown hG (by omega)
    replace BV := BV.grown hG (by omega)
    replace hb := chain_grown hb hG (by omega)
    clear hG
    (try go_wp2_with fail)
    refine hK.out _ _ ⟨BV.four.1, BV.four.2.1, BV.four.2.2.1, BV.four.2.2.2.1⟩ (fun hHeld => ?_)
    clear hK K
    try simp only [Act.put, List.setIfInBounds_toArray, List.set_cons_zero, List.set_cons_succ]
    refine wpAnyH_ready (rs := [4]) (by kernel_rfl) (by simp) ?_
    refine AllReadyH.cons (o := { dst := none, op := _, type := _, pos := _, after := _, guard := _ }) rfl (fun K hK => ?_) AllReadyH.nil
    obtain ⟨z0, z1, z2, z3, zf, zl⟩ := BZ.four
    go_simp
    (try go_wp2_with fail)
    refine hK.out _ _ ⟨((((BV.other (g := w.heap.size) (o := 0) (v := (.int .i64 (P : Int))) (by omega)).other (g := w.heap.size) (o := 1) (v := (.int .i64 c)) (by omega)).other (g := w.heap.size) (o := 2) (v := (.int .i64 h)) (by omega)).other (g := w.heap.size) (o := 3) (v := (.int .i64 s)) (by omega)).four.1, ((((BV.other (g := w.heap.size) (o := 0) (v := (.int .i64 (P : Int))) (by omega)).other (g := w.heap.size) (o := 1) (v := (.int .i64 c)) (by omega)).other (g := w.heap.size) (o := 2) (v := (.int .i64 h)) (by omega)).other (g := w.heap.size) (o := 3) (v := (.int .i64 s)) (by omega)).four.2.1, ((((BV.other (g := w.heap.size) (o := 0) (v := (.int .i64 (P : Int))) (by omega)).other (g := w.heap.size) (o := 1) (v := (.int .i64 c)) (by omega)).other (g := w.heap.size) (o := 2) (v := (.int .i64 h)) (by omega)).other (g := w.heap.size) (o := 3) (v := (.int .i64 s)) (by omega)).four.2.2.1, ((((BV.other (g := w.heap.size) (o := 0) (v := (.int .i64 (P : Int))) (by omega)).other (g := w.heap.size) (o := 1) (v := (.int .i64 c)) (by omega)).other (g := w.heap.size) (o := 2) (v := (.int .i64 h)) (by omega)).other (g := w.heap.size) (o := 3) (v := (.int .i64 s)) (by omega)).four.2.2.2.1⟩ (fun hHeld => ?_)
    clear hK K
    try simp only [Act.put, List.setIfInBounds_toArray, List.set_cons_zero, List.set_cons_succ]
    refine wpAnyH_ready (rs := [5]) (by kernel_rfl) (by simp) ?_
    refine AllReadyH.cons (o := { dst := none, op := _, type := _, pos := _, after := _, guard := _ }) rfl (fun K hK => ?_) AllReadyH.nil
    have BN1 := ((((BN.other (g := w.heap.size) (o := 0) (v := (.int .i64 (P : Int))) (by omega)).other (g := w.heap.size) (o := 1) (v := (.int .i64 c)) (by omega)).other (g := w.heap.size) (o := 2) (v := (.int .i64 h)) (by omega)).other (g := w.heap.size) (o := 3) (v := (.int .i64 s)) (by omega))
    obtain ⟨n0, n1, nf, nl⟩ := BN1.two
    obtain ⟨n0', n1', -, -⟩ := BN.two
    go_simp
    (try go_wp2_with fail)
    refine hK.out _ _ ⟨((((((BV.other (g := w.heap.size) (o := 0) (v := (.int .i64 (P : Int))) (by omega)).other (g := w.heap.size) (o := 1) (v := (.int .i64 c)) (by omega)).other (g := w.heap.size) (o := 2) (v := (.int .i64 h)) (by omega)).other (g := w.heap.size) (o := 3) (v := (.int .i64 s)) (by omega)).other (g := (w.heap.size + 1)) (o := 0) (v := (.slice (some ⟨g1, 0, none⟩) (P + 1) (P + 1))) (by omega)).other (g := (w.heap.size + 1)) (o := 1) (v := (.slice (some ⟨g2, 0, none⟩) (P + 1) (P + 1))) (by omega)).four.1, ((((((BV.other (g := w.heap.size) (o := 0) (v := (.int .i64 (P : Int))) (by omega)).other (g := w.heap.size) (o := 1) (v := (.int .i64 c)) (by omega)).other (g := w.heap.size) (o := 2) (v := (.int .i64 h)) (by omega)).other (g := w.heap.size) (o := 3) (v := (.int .i64 s)) (by omega)).other (g := (w.heap.size + 1)) (o := 0) (v := (.slice (some ⟨g1, 0, none⟩) (P + 1) (P + 1))) (by omega)).other (g := (w.heap.size + 1)) (o := 1) (v := (.slice (some ⟨g2, 0, none⟩) (P + 1) (P + 1))) (by omega)).four.2.1, ((((((BV.other (g := w.heap.size) (o := 0) (v := (.int .i64 (P : Int))) (by omega)).other (g := w.heap.size) (o := 1) (v := (.int .i64 c)) (by omega)).other (g := w.heap.size) (o := 2) (v := (.int .i64 h)) (by omega)).other (g := w.heap.size) (o := 3) (v := (.int .i64 s)) (by omega)).other (g := (w.heap.size + 1)) (o := 0) (v := (.slice (some ⟨g1, 0, none⟩) (P + 1) (P + 1))) (by omega)).other (g := (w.heap.size + 1)) (o := 1) (v := (.slice (some ⟨g2, 0, none⟩) (P + 1) (P + 1))) (by omega)).four.2.2.1, ((((((BV.other (g := w.heap.size) (o := 0) (v := (.int .i64 (P : Int))) (by omega)).other (g := w.heap.size) (o := 1) (v := (.int .i64 c)) (by omega)).other (g := w.heap.size) (o := 2) (v := (.int .i64 h)) (by omega)).other (g := w.heap.size) (o := 3) (v := (.int .i64 s)) (by omega)).other (g := (w.heap.size + 1)) (o := 0) (v := (.slice (some ⟨g1, 0, none⟩) (P + 1) (P + 1))) (by omega)).other (g := (w.heap.size + 1)) (o := 1) (v := (.slice (some ⟨g2, 0, none⟩) (P + 1) (P + 1))) (by omega)).four.2.2.2.1⟩ (fun hHeld => ?_)
    clear hK K
    try simp only [Act.put, List.setIfInBounds_toArray, List.set_cons_zero, List.set_cons_succ]
    refine wpAnyH_done (by kernel_rfl) ?_ _
    clear hHeld
    have HX := Lib.hid hx
    have HY := Lib.hid hy
    clear hx hy
    go_wp2_with fail
    refine bodyPost_ret (v := .tuple #[.agg #[.int .i64 (P : Int), .int .i64 c, .int .i64 h, .int .i64 s], .agg #[.slice (some ⟨g1, 0, none⟩) (P + 1) (P + 1), .slice (some ⟨g2, 0, none⟩) (P + 1) (P + 1)]]) (by simp [results, Tryz.results5, go_sem, z0, z1, z2, z3, n0', n1']) rfl ?_
    exact ⟨(P : Int), c, h, s, g1, g2, (P + 1), (P + 1), (P + 1), (P + 1), xs, ys, rfl, HX.out, HY.out, by omega, by omega, ((((((R1.other (by omega)).other (by omega)).other (by omega)).other (by omega)).other (by omega)).other (by omega)), ((((((R2.other (by omega)).other (by omega)).other (by omega)).other (by omega)).other (by omega)).other (by omega)), ((((((hb.setCell (by simp) _).setCell (by simp) _).setCell (by simp) _).setCell (by simp) _).setCell (by simp) _).setCell (by simp) _)⟩
end Go.Proofs.YtknkbhmgdddjkaaGreat
namespace Go.Proofs.YtknkbhmgdddjkaaGreat
open Go.ChangeShapes Go.WideShapes Go.ChangeAt Go.RowKit
set_option linter.unusedVariables false
set_option linter.unusedSimpArgs false
set_option maxRecDepth 4000

theorem apartB_swap {P : Nat} {xs ys : List Int} (h : apartB P xs ys = true) : apartB P ys xs = true := by
  rw [apartB, List.all_eq_true] at h ⊢
  intro i hi
  have hi2 : i < P := by simpa using hi
  have h2 := h (P - 1 - i) (by simp; omega)
  rw [show P - 1 - (P - 1 - i) = i by omega] at h2
  rw [Bool.and_comm]
  exact h2
theorem isB_swap {p c h s : Int} {xs ys : List Int} (g : isB p c h s xs ys = true) : isB p c h s ys xs = true := by
  simp only [isB, Bool.and_eq_true] at g ⊢
  obtain ⟨g0, g1, g2, g3, g4⟩ := g
  exact ⟨g0, g2, g1, by rw [Int.add_comm]; exact g3, apartB_swap g4⟩
theorem overB_swap (xs ys : List Int) : overB ys xs = overB xs ys := by rw [overB, overB, Bool.or_comm]
set_option maxHeartbeats 1000000 in
theorem likeInts_same (a b : Option Addr) (n c1 c2 : Nat) (xs : List Int) (w : World) (hn : xs.length = n) (hle : n ≤ 1048576) (ha : IRow w a xs) (hb : IRow w b xs) :
    Calls Tryz.prog 8 #[.slice a n c1, .slice b n c2] w fun e w' => e = .returned (.bool true) ∧ Below w.heap.size w w' := by
  subst hn
  go_enter Tryz.func8, Tryz.ntmps8
  go_wp2
  go_loopg [5] xs.length (fun m i wr => ∃ k : Nat, k ≤ xs.length ∧ m = xs.length - k ∧ i = .int .i64 k ∧ Below w.heap.size w wr)
  case atStart => exact ⟨0, by omega, by omega, rfl, Below.refl _ _⟩
  case round =>
    obtain ⟨k, hk, hm, rfl, hbel⟩ := hrel
    by_cases hlt : k < xs.length
    · have hlt' : (k : Int) < (xs.length : Int) := by omega
      have hk0 : (0 : Int) ≤ (k : Int) := by omega
      obtain ⟨b1, o1, rfl, hc1⟩ := ha.below hbel k hlt
      obtain ⟨b2, o2, rfl, hc2⟩ := hb.below hbel k hlt
      go_wp2_with fail
      go_quiet (fail)
      go_wp2
      go_roundg (xs.length - (k + 1))
      case measure => omega
      case rel => exact ⟨k + 1, by omega, rfl, by go_num, below_drewN hbel _⟩
    · obtain rfl : k = xs.length := by omega
      go_wp2
      go_ret
      exact ⟨rfl, hbel⟩
theorem big_any (a : Option Addr) (len cap : Nat) (w : World) :
    Calls Tryz.prog 4 #[.slice a len cap] w fun e w' => e = .returned (.bool (decide (4096 < (len : Int)))) ∧ w = w' := by
  go_enter Tryz.func4, Tryz.ntmps4
  go_wp2
  go_ret
  exact ⟨rfl, rfl⟩
end Go.Proofs.YtknkbhmgdddjkaaGreat
namespace Go.Proofs.YtknkbhmgdddjkaaGreat
open Go.ChangeShapes Go.WideShapes Go.ChangeAt Go.RowKit
set_option linter.unusedVariables false
set_option linter.unusedSimpArgs false
set_option maxRecDepth 4000

theorem VRow.pushI {w w' : World} {base g : Nat} {v : Value} {l : List Int} {vs : List Value} {t : TypeId} (h : VRow w g vs t) (hO : Own w base v l) (ht : t ≠ 2) (hk : ∀ k, k < w.heap.size → v.ownBlock ≠ some k → w'.heap[k]? = w.heap[k]?) : VRow w' g vs t := by
  obtain ⟨cur, hB, q1, q2⟩ := h
  refine ⟨cur, ?_, q1, q2⟩
  have hg : g < w.heap.size := Blk.lt hB
  refine (hk g hg (fun e => ?_)).trans hB
  rcases hO.2 with ⟨h1, h2⟩ | ⟨g', cap, cur', h1, hb, hh, hrest⟩
  · rw [h1] at e
    simp [Value.ownBlock] at e
  · rw [h1] at e
    simp [Value.ownBlock] at e
    subst e
    have hB' : w.heap[g']? = some (.cells cur t (0, 0)) := hB
    rw [hh] at hB'
    simp at hB'
    exact ht hB'.2.symm
theorem ORl.pushI {lo hi : Nat} {w w' : World} {base : Nat} {v : Value} {xs : List Int} {a : Option Addr} {l : List Rl} (h : ORl lo hi w a l) (hO : Own w base v xs) (hk : ∀ k, k < w.heap.size → v.ownBlock ≠ some k → w'.heap[k]? = w.heap[k]?) : ORl lo hi w' a l := by
  rcases h with h | ⟨g, e, h1, h2, r⟩
  · exact .inl h
  · exact .inr ⟨g, e, h1, h2, VRow.pushI r hO (by decide) hk⟩
/-- One number appended, with what is kept beside it. -/
theorem wp_pushI {ops : Array Oper} {rest : List Oper} {o : Oper} {a : Act} {Q : Exit → Act → World → Prop} (hgd : o.guard = none) (s x : Operand)
    (ho : o.op = .call { callee := .builtin .append, args := #[s, x], argTypes := #[26, 26] })
    (base : Nat) (v : Value) (xs : List Int) (hs : a.eval s = v) {w0 : World} (hown : Own w0 base v xs) (u : Int)
    (hx : a.eval x = .slice (some ⟨w0.heap.size, 0, none⟩) 1 1) (hl : xs.length ≤ 1048576) (hbase : base ≤ w0.heap.size)
    (h : ∀ v' w', Own w' base v' (xs ++ [u]) → Below base w0 w' → (∀ k, k < w0.heap.size → v.ownBlock ≠ some k → w'.heap[k]? = w0.heap[k]?) → wpList Tryz.prog ops Q rest (a.put o.dst v') w') : wpList Tryz.prog ops Q (o :: rest) a (w0.alloc (.cells #[.int .i64 u] 2)) := by
  obtain ⟨i0, hi, hz0, hz1, hz2⟩ := info_parts infoI64
  refine wpList_append1 hgd s x 26 ho base 2 i0 (.int .i64 0) 8 Tryz.underlying26 hi hz0 hz1 hz2 rfl v xs.length (ints xs) hs hown (.int .i64 u) hx rfl (by unfold maxLen; omega) (by omega) hbase ?_
  intro g cap w' ho' hb' hk
  refine h _ w' ?_ hb' hk
  show w'.ownsRow base 2 1 _ (xs ++ [u]).length (ints (xs ++ [u]))
  rw [show (xs ++ [u]).length = xs.length + 1 by simp, show ints (xs ++ [u]) = ints xs ++ [.int .i64 u] by simp [ints]]
  exact ho'
/-- The numbers of plays of the first rolls. -/
def pcTo (P : Nat) (h : Int) (xs ys : List Int) (l : List Rl) (k : Nat) : List Int := (l.take k).map fun r => ((allP P h xs ys r.1 r.2).length : Int)
theorem pcTo_succ (P : Nat) (h : Int) (xs ys : List Int) (l : List Rl) (k : Nat) (r : Rl) (hr : l[k]? = some r) : pcTo P h xs ys l (k + 1) = pcTo P h xs ys l k ++ [((allP P h xs ys r.1 r.2).length : Int)] := by
  unfold pcTo
  obtain ⟨hk, rfl⟩ := List.getElem?_eq_some_iff.1 hr
  rw [List.take_succ_eq_append_getElem hk, List.map_append]
  rfl
def pcOk (P : Nat) (h : Int) (xs ys : List Int) (l : List Rl) : Bool := l.all fun r => allOk P h xs ys r.1 r.2
def pcL (p c h s : Int) (xs ys : List Int) : List Int := if isB p c h s xs ys = true then (if pcOk p.toNat h xs ys (rollsTo s.toNat) = true then pcTo p.toNat h xs ys (rollsTo s.toNat) (rollsTo s.toNat).length else []) else []
def pcC (p c h s : Int) (xs ys : List Int) : Int := if isB p c h s xs ys = true then (if pcOk p.toNat h xs ys (rollsTo s.toNat) = true then 0 else 3) else 1
set_option maxRecDepth 8000 in
set_option maxHeartbeats 2000000 in
theorem specPlayCounts_any (p c h s : Int) (a1 a2 : Option Addr) (n1 n2 c1 c2 : Nat) (xs ys : List Int) (w : World) (h1 : xs.length = n1) (h2 : ys.length = n2) (l1 : n1 ≤ 1048576) (l2 : n2 ≤ 1048576) (r1 : IRow w a1 xs) (r2 : IRow w a2 ys) :
    Calls Tryz.prog 7 #[.agg #[.int .i64 p, .int .i64 c, .int .i64 h, .int .i64 s], .agg #[.slice a1 n1 c1, .slice a2 n2 c2]] w (SliceGot2 (pcL p c h s xs ys) (pcC p c h s xs ys) w) := by
  have hib := fun W (q1 : IRow W a1 xs) (q2 : IRow W a2 ys) => specIsBoard_any p c h s a1 a2 n1 n2 c1 c2 xs ys W h1 h2 l1 l2 q1 q2
  unfold pcL pcC
  by_cases g : isB p c h s xs ys = true
  · rw [if_pos g, if_pos g]
    rw [g] at hib
    obtain ⟨p0, p1, k0, k1, k2, k3, N1, N2, hx, hy, s0, s1, s2, s3⟩ := isB_parts g
    have hs6 := isB_sides g
    clear hx hy
    obtain ⟨P, rfl⟩ := Int.eq_ofNat_of_zero_le (by omega : 0 ≤ p)
    obtain ⟨S, rfl⟩ := Int.eq_ofNat_of_zero_le (by omega : 0 ≤ s)
    rw [show ((P : Int)).toNat = P by simp, show ((S : Int)).toNat = S by simp]
    have hRl := rollsTo_length S
    have hS2 : S * S ≤ 6 * 6 := Nat.mul_le_mul (by omega) (by omega)
    have hRm := rollsTo_mem S
    have hrl := fun W => l07All_any (P : Int) c h S W (by omega)
    obtain ⟨RL, hRL⟩ : ∃ z, rollsTo S = z := ⟨_, rfl⟩
    rw [hRL] at hRl hRm hrl ⊢
    have hR36 : RL.length ≤ 36 := by omega
    have hY : pcOk P h xs ys RL = true → (if pcOk P h xs ys RL = true then pcTo P h xs ys RL RL.length else []) = pcTo P h xs ys RL RL.length ∧ (if pcOk P h xs ys RL = true then (0 : Int) else 3) = 0 := fun e => ⟨if_pos e, if_pos e⟩
    have hN : pcOk P h xs ys RL = false → (if pcOk P h xs ys RL = true then pcTo P h xs ys RL RL.length else []) = [] ∧ (if pcOk P h xs ys RL = true then (0 : Int) else 3) = 3 := fun e => ⟨if_neg (by simp [e]), if_neg (by simp [e])⟩
    have hpl : ∀ i, (pcTo P h xs ys RL i).length ≤ 36 := fun i => by unfold pcTo; rw [List.length_map, List.length_take]; omega
    generalize (if pcOk P h xs ys RL = true then pcTo P h xs ys RL RL.length else []) = LST at *
    generalize (if pcOk P h xs ys RL = true then (0 : Int) else 3) = COD at *
    have HY := Lib.hid hY
    have HN := Lib.hid hN
    have HPL := Lib.hid hpl
    clear hY hN hpl
    have hall := fun (ra rb : Int) (e1 : inB ra 1 (S : Int) = true) (e2 : inB rb 1 (S : Int) = true) W (q1 : IRow W a1 xs) (q2 : IRow W a2 ys) => l05All_any P c h (S : Int) ra rb a1 a2 n1 n2 c1 c2 xs ys W h1 h2 q1 q2 g e1 e2
    unfold AllGot at hall
    have HIB := Lib.hid hib
    have HRLc := Lib.hid hrl
    have HALL := Lib.hid hall
    have HRM := Lib.hid hRm
    clear hib hrl hall hRm hRL hRl hS2 g
    obtain ⟨BV, BB, hb, hz⟩ := two_new w #[.int .i64 (P : Int), .int .i64 c, .int .i64 h, .int .i64 (S : Int)] #[.slice a1 n1 c1, .slice a2 n2 c2] 25 28
    have hz0 : w.heap.size + 1 + 1 ≤ ((w.alloc (.cells #[.int .i64 (P : Int), .int .i64 c, .int .i64 h, .int .i64 (S : Int)] 25)).alloc (.cells #[.slice a1 n1 c1, .slice a2 n2 c2] 28)).heap.size := by rw [hz]; omega
    clear hz
    obtain ⟨x0, x1, x2, x3, xf, xl⟩ := BV.four
    obtain ⟨y0, y1, yf, yl⟩ := BB.two
    go_enter Tryz.func7, Tryz.ntmps7
    go_wp2_with fail
    clear x0 x1 x2 x3 xf xl y0 y1 yf yl
    generalize ((w.alloc (.cells #[.int .i64 (P : Int), .int .i64 c, .int .i64 h, .int .i64 (S : Int)] 25)).alloc (.cells #[.slice a1 n1 c1, .slice a2 n2 c2] 28)) = v0 at *
    refine (HIB.out _ (r1.below hb) (r2.below hb)).mono ?_
    rintro e w1 ⟨rfl, hb1⟩
    have hO := Own.start w1
    have hal : Below w1.heap.size w1 (w1.alloc (.cells #[] 2)) := (Below.refl _ _).alloc (Nat.le_refl _) _
    have hz1 : w1.heap.size + 1 ≤ (w1.alloc (.cells #[] 2)).heap.size := by simp
    have hzb : w.heap.size + 1 + 1 ≤ w1.heap.size := Nat.le_trans hz0 hb1.size
    replace hb1 := chain hb1 hal
    replace BV := BV.below hb1
    replace BB := BB.below hb1
    replace hb := chain hb hb1
    clear hb1 hal HIB
    have hVl := BV.lt
    obtain ⟨x0, x1, x2, x3, xf, xl⟩ := BV.four
    go_wp2_with fail
    clear x0 x1 x2 x3 xf xl
    generalize (w1.alloc (.cells #[] 2)) = v1 at *
    generalize w1.heap.size = base at *
    refine (HRLc.out _).mono ?_
    rintro e w2 ⟨aR, kR, rfl, hR, hb2⟩
    replace BV := BV.below hb2
    replace BB := BB.below hb2
    replace hO := hO.kept hb2
    replace hb := chain hb hb2
    have hz2 := hb2.size
    clear hb2 HRLc
    go_wp2_with fail
    go_loopg [6, 8, 9, 10] RL.length (fun m q6 q8 q9 q10 wr => ∃ i : Nat, i ≤ RL.length ∧ m = RL.length - i ∧ q8 = .int .i64 (i : Int) ∧ (∀ j r, j < i → RL[j]? = some r → allOk P h xs ys r.1 r.2 = true) ∧ Own wr base q6 (pcTo P h xs ys RL i) ∧ ORl v1.heap.size w2.heap.size wr aR RL ∧ Blk wr w.heap.size #[.int .i64 (P : Int), .int .i64 c, .int .i64 h, .int .i64 (S : Int)] 25 ∧ Blk wr (w.heap.size + 1) #[.slice a1 n1 c1, .slice a2 n2 c2] 28 ∧ Below base w2 wr)
    case atStart => exact ⟨0, by omega, by omega, rfl, fun j r hj => by omega, by simpa [pcTo] using hO, hR, BV, BB, Below.refl _ _⟩
    case round =>
      obtain ⟨i, hi, hm, rfl, hAO, hO, hR, BV, BB, hbq⟩ := hrel
      have hszq := hbq.size
      have hbel := hb.trans (hbq.mono (by omega))
      by_cases hlt : i < RL.length
      · have hlt' : (i : Int) < (RL.length : Int) := by omega
        have hi0 : (0 : Int) ≤ (i : Int) := by omega
        obtain ⟨r, hr⟩ : ∃ r, RL[i]? = some r := ⟨_, List.getElem?_eq_getElem hlt⟩
        have hrm := HRM.out r (List.mem_of_getElem? hr)
        have hst := pcTo_succ P h xs ys RL i r hr
        have hpl := HPL.out i
        obtain ⟨gR, eR, RR⟩ := hR.row hlt
        obtain ⟨u0, u1⟩ := RR.two i r hr
        have hno : allOk P h xs ys r.1 r.2 = false → pcOk P h xs ys RL = false := fun e => by
          rw [Bool.eq_false_iff]
          intro e2
          have := List.all_eq_true.1 e2 r (List.mem_of_getElem? hr)
          rw [e] at this
          exact absurd this (by simp)
        have hso : allOk P h xs ys r.1 r.2 = true → ∀ j r2, j < i + 1 → RL[j]? = some r2 → allOk P h xs ys r2.1 r2.2 = true := fun e j r2 hj hr2 => by
          by_cases ej : j = i
          · subst ej
            rw [hr] at hr2
            injection hr2 with hr2
            rw [← hr2]
            exact e
          · exact hAO j r2 (by omega) hr2
        obtain ⟨ra, rb⟩ := r
        dsimp only at hrm u0 u1 hst hno hso
        have hal := fun W (hW : Below wr.heap.size wr W) => HALL.out ra rb (by simp [inB]; omega) (by simp [inB]; omega) W (r1.below (chain hbel hW)) (r2.below (chain hbel hW))
        obtain ⟨AO, hAOe⟩ : ∃ z, allOk P h xs ys ra rb = z := ⟨_, rfl⟩
        obtain ⟨AA, hAA⟩ : ∃ z, allP P h xs ys ra rb = z := ⟨_, rfl⟩
        rw [hAOe, hAA] at hal
        rw [hAOe] at hno hso
        rw [hAA] at hst
        have HAL := Lib.hid hal
        have HST := Lib.hid hst
        have HNO := Lib.hid hno
        have HSO := Lib.hid hso
        have HAO := Lib.hid hAO
        have HRR := Lib.hid (And.intro hr RR)
        clear hal hst hno hso hAO hAOe hAA hr RR hrm
        subst eR
        obtain ⟨x0, x1, x2, x3, xf, xl⟩ := BV.four
        obtain ⟨y0, y1, yf, yl⟩ := BB.two
        go_wp2_with fail
        clear x0 x1 x2 x3 xf xl y0 y1 yf yl
        refine wp_region_held_drew (S := fun w' => w'.cell? ⟨w.heap.size, 0, none⟩ = some (.int .i64 (P : Int)) ∧ w'.cell? ⟨w.heap.size, 1, none⟩ = some (.int .i64 c) ∧ w'.cell? ⟨w.heap.size, 2, none⟩ = some (.int .i64 h) ∧ w'.cell? ⟨w.heap.size, 3, none⟩ = some (.int .i64 (S : Int)) ∧ w'.cell? ⟨w.heap.size + 1, 0, none⟩ = some (.slice a1 n1 c1) ∧ w'.cell? ⟨w.heap.size + 1, 1, none⟩ = some (.slice a2 n2 c2) ∧ w'.cell? ⟨gR, i * 2, none⟩ = some (.int .i64 ra) ∧ w'.cell? ⟨gR, i * 2 + 1, none⟩ = some (.int .i64 rb)) (by kernel_rfl) ⟨(BV.below (Below.refl _ _).drew).four.1, (BV.below (Below.refl _ _).drew).four.2.1, (BV.below (Below.refl _ _).drew).four.2.2.1, (BV.below (Below.refl _ _).drew).four.2.2.2.1, (BB.below (Below.refl _ _).drew).two.1, (BB.below (Below.refl _ _).drew).two.2.1, CellIs.below u0 (Below.refl _ _).drew, CellIs.below u1 (Below.refl _ _).drew⟩ (fun hHeld => ?_)
        refine wpAnyH_take (i := 0) (oi := { dst := some 26, op := _, type := _, pos := _, after := _, guard := _ }) (v := ?_) rfl (by kernel_rfl) (by kernel_rfl) (by kernel_rfl) (fun _ _ _ h => h) (Or.inl ⟨by rfl, ?_⟩) (by assumption) ?_
        rotate_left
        · intro w hSw
          (try dsimp only at hSw)
          go_simp
          (try (with_reducible rfl))
        try simp only [Act.put, List.setIfInBounds_toArray, List.set_cons_zero, List.set_cons_succ]
        refine wpAnyH_take (i := 1) (oi := { dst := some 27, op := _, type := _, pos := _, after := _, guard := _ }) (v := ?_) rfl (by kernel_rfl) (by kernel_rfl) (by kernel_rfl) (fun _ _ _ h => h) (Or.inl ⟨by rfl, ?_⟩) (by assumption) ?_
        rotate_left
        · intro w hSw
          (try dsimp only at hSw)
          go_simp
          (try (with_reducible rfl))
        try simp only [Act.put, List.setIfInBounds_toArray, List.set_cons_zero, List.set_cons_succ]
        refine wpAnyH_take (i := 2) (oi := { dst := some 28, op := _, type := _, pos := _, after := _, guard := _ }) (v := ?_) rfl (by kernel_rfl) (by kernel_rfl) (by kernel_rfl) (fun _ _ _ h => h) (Or.inl ⟨by rfl, ?_⟩) (by assumption) ?_
        rotate_left
        · intro w hSw
          (try dsimp only at hSw)
          go_simp
          (try (with_reducible rfl))
        try simp only [Act.put, List.setIfInBounds_toArray, List.set_cons_zero, List.set_cons_succ]
        refine wpAnyH_take (i := 3) (oi := { dst := some 29, op := _, type := _, pos := _, after := _, guard := _ }) (v := ?_) rfl (by kernel_rfl) (by kernel_rfl) (by kernel_rfl) (fun _ _ _ h => h) (Or.inl ⟨by rfl, ?_⟩) (by assumption) ?_
        rotate_left
        · intro w hSw
          (try dsimp only at hSw)
          go_simp
          (try (with_reducible rfl))
        try simp only [Act.put, List.setIfInBounds_toArray, List.set_cons_zero, List.set_cons_succ]
        refine wpAnyH_take (i := 4) (oi := { dst := some 30, op := _, type := _, pos := _, after := _, guard := _ }) (v := ?_) rfl (by kernel_rfl) (by kernel_rfl) (by kernel_rfl) (fun _ _ _ h => h) (Or.inl ⟨by rfl, ?_⟩) (by assumption) ?_
        rotate_left
        · intro w hSw
          (try dsimp only at hSw)
          go_simp
          (try (with_reducible rfl))
        try simp only [Act.put, List.setIfInBounds_toArray, List.set_cons_zero, List.set_cons_succ]
        refine wpAnyH_take (i := 5) (oi := { dst := some 31, op := _, type := _, pos := _, after := _, guard := _ }) (v := ?_) rfl (by kernel_rfl) (by kernel_rfl) (by kernel_rfl) (fun _ _ _ h => h) (Or.inl ⟨by rfl, ?_⟩) (by assumption) ?_
        rotate_left
        · intro w hSw
          (try dsimp only at hSw)
          go_simp
          (try (with_reducible rfl))
        try simp only [Act.put, List.setIfInBounds_toArray, List.set_cons_zero, List.set_cons_succ]
        refine wpAnyH_ready (rs := [6]) (by kernel_rfl) (by simp) ?_
        refine AllReadyH.cons (o := { dst := some 32, op := _, type := _, pos := _, after := _, guard := _ }) rfl (fun K hK => ?_) AllReadyH.nil
        go_simp
        refine (HAL.out _ (Below.refl _ _).drew).mono ?_
        rintro e w5 ⟨aP, kP, LP, rfl, hLm, -, -, hb5⟩
        have hb5 := from_drew hb5
        (try go_wp2_with fail)
        refine hK.out _ _ ⟨(BV.below hb5).four.1, (BV.below hb5).four.2.1, (BV.below hb5).four.2.2.1, (BV.below hb5).four.2.2.2.1, (BB.below hb5).two.1, (BB.below hb5).two.2.1, CellIs.below u0 hb5, CellIs.below u1 hb5⟩ (fun hHeld => ?_)
        clear hK K
        try simp only [Act.put, List.setIfInBounds_toArray, List.set_cons_zero, List.set_cons_succ]
        refine wpAnyH_take (i := 7) (oi := { dst := some 25, op := _, type := _, pos := _, after := _, guard := _ }) (v := ?_) rfl (by kernel_rfl) (by kernel_rfl) (by kernel_rfl) (fun _ _ _ h => h) (Or.inl ⟨by rfl, ?_⟩) (by assumption) ?_
        rotate_left
        · intro w hSw
          (try dsimp only at hSw)
          go_simp
          (try (with_reducible rfl))
        try simp only [Act.put, List.setIfInBounds_toArray, List.set_cons_zero, List.set_cons_succ]
        refine wpAnyH_take (i := 8) (oi := { dst := some 33, op := _, type := _, pos := _, after := _, guard := _ }) (v := ?_) rfl (by kernel_rfl) (by kernel_rfl) (by kernel_rfl) (fun _ _ _ h => h) (Or.inl ⟨by rfl, ?_⟩) (by assumption) ?_
        rotate_left
        · intro w hSw
          (try dsimp only at hSw)
          go_simp
          (try (with_reducible rfl))
        try simp only [Act.put, List.setIfInBounds_toArray, List.set_cons_zero, List.set_cons_succ]
        refine wpAnyH_take (i := 9) (oi := { dst := some 34, op := _, type := _, pos := _, after := _, guard := _ }) (v := ?_) rfl (by kernel_rfl) (by kernel_rfl) (by kernel_rfl) (fun _ _ _ h => h) (Or.inl ⟨by rfl, ?_⟩) (by assumption) ?_
        rotate_left
        · intro w hSw
          (try dsimp only at hSw)
          go_simp
          (try (with_reducible rfl))
        try simp only [Act.put, List.setIfInBounds_toArray, List.set_cons_zero, List.set_cons_succ]
        refine wpAnyH_take (i := 10) (oi := { dst := some 9, op := _, type := _, pos := _, after := _, guard := _ }) (v := ?_) rfl (by kernel_rfl) (by kernel_rfl) (by kernel_rfl) (fun _ _ _ h => h) (Or.inl ⟨by rfl, ?_⟩) (by assumption) ?_
        rotate_left
        · intro w hSw
          (try dsimp only at hSw)
          go_simp
          (try (with_reducible rfl))
        try simp only [Act.put, List.setIfInBounds_toArray, List.set_cons_zero, List.set_cons_succ]
        refine wpAnyH_take (i := 11) (oi := { dst := some 10, op := _, type := _, pos := _, after := _, guard := _ }) (v := ?_) rfl (by kernel_rfl) (by kernel_rfl) (by kernel_rfl) (fun _ _ _ h => h) (Or.inl ⟨by rfl, ?_⟩) (by assumption) ?_
        rotate_left
        · intro w hSw
          (try dsimp only at hSw)
          go_simp
          (try (with_reducible rfl))
        try simp only [Act.put, List.setIfInBounds_toArray, List.set_cons_zero, List.set_cons_succ]
        refine wpAnyH_done (by kernel_rfl) ?_ _
        clear hHeld
        have hO5 := hO.kept hb5
        have hR5 := hR.below hb5
        have BV5 := BV.below hb5
        have BB5 := BB.below hb5
        have hbq5 := hbq.trans (hb5.mono (by omega))
        have hbel5 := chain hbel hb5
        have hsz5 := hb5.size
        have hlP : LP.length = AA.length := by rw [← hLm, List.length_map]
        clear hO hR BV BB hLm u0 u1
        cases AO with
        | false =>
          obtain ⟨e1, e2⟩ := HN.out (HNO.out rfl)
          clear hlP
          go_wp2
          go_ret2
          try rw [e1, e2]
          exact ⟨some ⟨w5.heap.size, 0, none⟩, 0, rfl, .inr ⟨w5.heap.size, rfl, (hbel5).size, by simp, #[], Blk.new _ #[] 2, by simp, rfl⟩, (hbel5).alloc (hbel5).size _⟩
        | true =>
          have HLP := Lib.hid hlP
          clear hlP
          go_wp2_with (at_builtin; refine wp_pushI rfl (.tmp 38) (.tmp 41) rfl base _ (pcTo P h xs ys RL i) rfl hO5 (LP.length : Int) rfl (by omega) (by omega) ?_; intro v2 w6 hO2 hb6 hk6)
          go_roundg (RL.length - (i + 1))
          case measure => omega
          case rel => exact ⟨i + 1, by omega, rfl, by go_num, HSO.out (by first | exact trivial | rfl), by rw [HST.out, ← HLP.out]; exact hO2, hR5.pushI hO5 hk6, (hb6.block _ (by omega)).trans BV5, (hb6.block _ (by omega)).trans BB5, hbq5.trans hb6⟩
      · obtain rfl : i = RL.length := by omega
        have hyes : pcOk P h xs ys RL = true := List.all_eq_true.2 (fun r hr => by
          obtain ⟨j, hj⟩ := List.mem_iff_getElem?.1 hr
          exact hAO j r (List.getElem?_eq_some_iff.1 hj).1 hj)
        obtain ⟨e1, e2⟩ := HY.out hyes
        have HE := Lib.hid (And.intro e1 e2)
        clear e1 e2 hyes hAO
        obtain ⟨aO, kO, rfl⟩ := hO.form
        have hos := hO.osl
        have hEl : (pcTo P h xs ys RL RL.length).length = LST.length := by rw [HE.out.1]
        rw [← HE.out.1] at hos
        rw [hEl]
        clear hEl hO
        go_wp2
        go_ret2
        rw [HE.out.2]
        exact ⟨aO, kO, rfl, hos.mono (by omega) (Nat.le_refl _), hbel⟩
  · rw [if_neg g, if_neg g]
    replace g : isB p c h s xs ys = false := by simpa using g
    rw [g] at hib
    have HIB := Lib.hid hib
    clear hib g
    obtain ⟨BV, BB, hb, hz⟩ := two_new w #[.int .i64 p, .int .i64 c, .int .i64 h, .int .i64 s] #[.slice a1 n1 c1, .slice a2 n2 c2] 25 28
    clear hz
    obtain ⟨x0, x1, x2, x3, xf, xl⟩ := BV.four
    obtain ⟨y0, y1, yf, yl⟩ := BB.two
    go_enter Tryz.func7, Tryz.ntmps7
    go_wp2_with (go_at_call 21; refine (HIB.out _ (r1.below hb) (r2.below hb)).mono ?_; clear HIB; rintro e w1 ⟨rfl, hb1⟩)
    go_ret2
    exact ⟨some ⟨w1.heap.size, 0, none⟩, 0, rfl, .inr ⟨w1.heap.size, rfl, (chain hb hb1).size, by simp, #[], Blk.new w1 #[] 2, by simp, rfl⟩, (chain hb hb1).alloc (chain hb hb1).size _⟩
end Go.Proofs.YtknkbhmgdddjkaaGreat
namespace Go.Proofs.YtknkbhmgdddjkaaGreat
set_option linter.unusedVariables false

theorem addP_neC (out : List Ply) (p : Ply) : addP out p ≠ [] := by
  unfold addP
  split
  · rename_i h
    rintro rfl
    simp at h
  · simp
theorem addAll_keepC : ∀ (l out : List Ply), out ≠ [] → addAll out l ≠ []
  | [], out, h => h
  | x :: l, out, h => addAll_keepC l (addP out x) (addP_neC out x)
theorem addAll_neC (l out : List Ply) (h : l ≠ []) : addAll out l ≠ [] := by
  cases l with
  | nil => exact absurd rfl h
  | cons x l => exact addAll_keepC l (addP out x) (addP_neC out x)
theorem longP_neC (P : Nat) (h : Int) : ∀ (o : List Int) (l : List Ply), l ≠ [] → longP P h o l ≠ []
  | [], l, hl => hl
  | d :: ds, l, hl => by
    rw [longP]
    split
    · exact hl
    · rename_i hn
      exact longP_neC P h ds _ hn
theorem allStep_ne {P : Nat} {h : Int} {xs ys : List Int} {U i : Nat} {o : List Int} {out : List Ply} (hq : out ≠ [] ∨ (longN P h o (startP xs ys) = U ∧ i = 0)) : allStep P h xs ys U out i o ≠ [] := by
  unfold allStep
  split
  · rename_i hc
    rcases hq with hq | ⟨h1, h2⟩
    · exact hq
    · rcases hc with hc | hc
      · exact absurd h1 hc
      · omega
  · exact addAll_neC _ _ (longP_neC P h o _ (by simp [startP]))
theorem allStep_ne2 {P : Nat} {h : Int} {xs ys : List Int} {U i : Nat} {o : List Int} {out : List Ply} (h1 : longN P h o (startP xs ys) = U) : allStep P h xs ys U out i o ≠ [] := by
  unfold allStep
  split
  · rename_i hc
    rcases hc with hc | ⟨-, -, hc⟩
    · exact absurd h1 hc
    · intro e
      rw [e] at hc
      simp at hc
  · exact addAll_neC _ _ (longP_neC P h o _ (by simp [startP]))
theorem allP_ne (P : Nat) (h : Int) (xs ys : List Int) (ra rb : Int) : allP P h xs ys ra rb ≠ [] := by
  unfold allP usedP ordersP
  by_cases e : ra = rb
  · rw [if_pos e]
    simp only [List.map_cons, List.map_nil, List.foldl_cons, List.foldl_nil, List.length_cons, List.length_nil, Nat.zero_add]
    show allStep P h xs ys _ [] 0 _ ≠ []
    exact allStep_ne2 (by omega)
  · rw [if_neg e]
    simp only [List.map_cons, List.map_nil, List.foldl_cons, List.foldl_nil, List.length_cons, List.length_nil, Nat.zero_add]
    show allStep P h xs ys _ (allStep P h xs ys _ [] 0 _) 1 _ ≠ []
    by_cases q : longN P h [rb, ra] (startP xs ys) = max (max 0 (longN P h [ra, rb] (startP xs ys))) (longN P h [rb, ra] (startP xs ys))
    · exact allStep_ne2 q
    · exact allStep_ne (.inl (allStep_ne2 (by omega)))
theorem allP_pos (P : Nat) (h : Int) (xs ys : List Int) (ra rb : Int) : 1 ≤ ((allP P h xs ys ra rb).length : Int) := by
  have := allP_ne P h xs ys ra rb
  cases hq : allP P h xs ys ra rb with
  | nil => exact absurd hq this
  | cons a l => simp; omega
theorem rolls_rl {S : Nat} {r : Rl} (h : r ∈ rollsTo S) : rlB (S : Int) r.1 r.2 = true := by
  have := rollsTo_mem S r h
  simp only [rlB, inB, Bool.and_eq_true, decide_eq_true_eq]
  omega
/-- The number of plays of a roll, out of the list of all. -/
theorem pcTo_at (P : Nat) (h : Int) (xs ys : List Int) (l : List Rl) (k : Nat) (r : Rl) (hr : l[k]? = some r) : (pcTo P h xs ys l l.length).getD k 0 = ((allP P h xs ys r.1 r.2).length : Int) := by
  unfold pcTo
  rw [List.take_length, List.getD_eq_getElem?_getD, List.getElem?_map, hr]
  rfl
theorem pcTo_length (P : Nat) (h : Int) (xs ys : List Int) (l : List Rl) : (pcTo P h xs ys l l.length).length = l.length := by
  unfold pcTo
  rw [List.take_length, List.length_map]
theorem pcL_len (p c h s : Int) (xs ys : List Int) : (pcL p c h s xs ys).length ≤ 1048576 := by
  unfold pcL
  split
  · rename_i g
    split
    · have hs6 := isB_sides g
      obtain ⟨S, hS⟩ : ∃ S : Nat, s.toNat = S := ⟨_, rfl⟩
      have hRl := rollsTo_length S
      have hS2 : S * S ≤ 6 * 6 := Nat.mul_le_mul (by omega) (by omega)
      rw [hS]
      unfold pcTo
      rw [List.length_map, List.length_take]
      omega
    · simp
  · simp
end Go.Proofs.YtknkbhmgdddjkaaGreat
