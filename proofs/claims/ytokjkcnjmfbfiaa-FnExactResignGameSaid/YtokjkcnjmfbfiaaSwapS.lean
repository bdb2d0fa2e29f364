/- Contracts of the model's exchange of sides. -/
import Derived.Test.YtokjkcnjmfbfiaaSwapI
import Derived.Test.YtokjkcnjmfbfiaaL02d
import Derived.ArgAppend
namespace Go.Proofs.Ytokjkcnjmfbfiaa
open Go.ChangeShapes Go.WideShapes Go.ChangeAt Go.RowKit
set_option linter.unusedVariables false
set_option linter.unusedSimpArgs false
set_option maxRecDepth 4000

/-- A copy of the call's own, whatever its capacity. -/
def OwnCopied (xs : List Int) (w : World) (e : Ending) (w' : World) : Prop :=
  ∃ g k, e = .returned (.slice (some ⟨g, 0, none⟩) xs.length k) ∧ w.heap.size ≤ g ∧ Row w' g xs ∧ Below w.heap.size w w'
theorem Row.of_owns {w : World} {base g n k : Nat} {xs : List Int} (h : w.ownsRow base 2 1 (.slice (some ⟨g, 0, none⟩) n k) n (ints xs)) : Row w g xs ∧ base ≤ g := by
  obtain ⟨hl, h | ⟨g', cap, cur, hv, hb, hh, hc, hm, hs, ht⟩⟩ := h
  · exact absurd h.1 (by simp)
  · simp at hv
    obtain ⟨rfl, rfl⟩ := hv
    rw [ints_length] at hl
    exact ⟨⟨cur, hh, by omega, by rw [hl]; exact ht⟩, hb⟩
set_option maxRecDepth 8000 in
set_option maxHeartbeats 1000000 in
theorem l02Own_any (a : Option Addr) (n cap : Nat) (xs : List Int) (w : World) (hn : xs.length = n) (h0 : 0 < n) (hle : n ≤ 1048576) (hr : IRow w a xs) :
    Calls Try.prog 129 #[.slice a n cap] w (OwnCopied xs w) := by
  obtain ⟨i0, hi, hz0, hz1, hz2⟩ := info_parts infoI64
  obtain ⟨b, o, rfl, -⟩ := hr 0 (by omega)
  go_enter Try.func129, Try.ntmps129
  have hrow : ∀ (W : World), IRow W (some ⟨b, o, none⟩) xs → ∀ (j : Nat) (u : Value), (ints xs)[j]? = some u → W.cell? ((⟨b, o, none⟩ : Addr).add j) = some u := by
    intro W hW j u hj
    obtain ⟨hlt, rfl⟩ := List.getElem?_eq_some_iff.1 hj
    have hlt2 : j < xs.length := by simpa [ints] using hlt
    obtain ⟨b', o', e, hc⟩ := hW j hlt2
    simp at e
    obtain ⟨rfl, rfl⟩ := e
    rw [show (⟨b, o, none⟩ : Addr).add j = ⟨b, o + j, none⟩ from by unfold Addr.add; split <;> simp_all, hc]
    simp [ints, hlt2]
  have hone : ∀ u ∈ ints xs, u.oneCell' = true := fun u hu => by
    simp [ints] at hu
    obtain ⟨x, _, rfl⟩ := hu
    rfl
  have hint : (ints xs).length = n * 1 := by simp [ints, hn]
  have HRW := Lib.hid hrow
  have HON := Lib.hid hone
  have HIN := Lib.hid hint
  have HR := Lib.hid hr
  have HX := Lib.hid hn
  clear hrow hone hint hr hn
  go_wp2_with (at_builtin; refine wpList_append_grows _ rfl _ _ 24 rfl 2 i0 (.int .i64 0) 1 8 Try.underlying24 hi hz0 hz1 hz2 rfl (by decide) _ 0 0 [] rfl (by simp) rfl (by simp) ⟨b, o, none⟩ n cap (ints xs) rfl HIN.out (HRW.out _ (HR.out.alloc _)) HON.out (by omega) (by unfold maxLen; omega) (by omega) ?_)
  intro v' w' hown hgrow
  obtain ⟨g, k, rfl⟩ := Joins.ownsRow_form hown (by omega)
  obtain ⟨hR, hg⟩ := Row.of_owns hown
  go_wp2
  go_ret
  exact ⟨g, k, by simp [HX.out], by omega, hR, from_alloc ⟨hgrow.os, hgrow.tape, hgrow.output, hgrow.size, fun k hk => hgrow.block k hk (by simp)⟩⟩
theorem heldBB {w W w2 : World} {v0 v1 : Value} (hS : W.cell? ⟨w.heap.size, 0, none⟩ = some (v0) ∧ W.cell? ⟨w.heap.size, 1, none⟩ = some (v1) ∧ Below w.heap.size w W ∧ ∃ u0 u1, Blk W (w.heap.size + 1) #[u0, u1] 34) (hb : Below W.heap.size W w2) : w2.cell? ⟨w.heap.size, 0, none⟩ = some (v0) ∧ w2.cell? ⟨w.heap.size, 1, none⟩ = some (v1) ∧ Below w.heap.size w w2 ∧ ∃ u0 u1, Blk w2 (w.heap.size + 1) #[u0, u1] 34 := by
  obtain ⟨h0, h1, h3, u0, u1, h4⟩ := hS
  obtain ⟨hc, _⟩ := bcell hb
  have hl : w.heap.size < W.heap.size := by have := h4.lt; omega
  exact ⟨by rw [hc _ _ hl]; exact h0, by rw [hc _ _ hl]; exact h1, chain h3 hb, u0, u1, h4.below hb⟩
theorem storeBB {w W : World} {v0 v1 : Value} (hS : W.cell? ⟨w.heap.size, 0, none⟩ = some (v0) ∧ W.cell? ⟨w.heap.size, 1, none⟩ = some (v1) ∧ Below w.heap.size w W ∧ ∃ u0 u1, Blk W (w.heap.size + 1) #[u0, u1] 34) (q0 q1 : Value) : ((W.setCell ⟨w.heap.size + 1, 0, none⟩ q0).setCell ⟨w.heap.size + 1, 1, none⟩ q1).cell? ⟨w.heap.size, 0, none⟩ = some (v0) ∧ ((W.setCell ⟨w.heap.size + 1, 0, none⟩ q0).setCell ⟨w.heap.size + 1, 1, none⟩ q1).cell? ⟨w.heap.size, 1, none⟩ = some (v1) ∧ Below w.heap.size w ((W.setCell ⟨w.heap.size + 1, 0, none⟩ q0).setCell ⟨w.heap.size + 1, 1, none⟩ q1) ∧ ∃ u0 u1, Blk ((W.setCell ⟨w.heap.size + 1, 0, none⟩ q0).setCell ⟨w.heap.size + 1, 1, none⟩ q1) (w.heap.size + 1) #[u0, u1] 34 := by
  obtain ⟨h0, h1, h3, u0, u1, h4⟩ := hS
  refine ⟨?_, ?_, (h3.setCell (by simp) _).setCell (by simp) _, q0, q1, (h4.set q0).set q1⟩ <;> (rw [World.cell?_setCell_far _ _ _ _ (by simp), World.cell?_setCell_far _ _ _ _ (by simp)]; assumption)
set_option maxRecDepth 8000 in
set_option maxHeartbeats 1000000 in
theorem l02Swap_any (a1 a2 : Option Addr) (n1 n2 c1 c2 : Nat) (xs ys : List Int) (w : World) (h1 : xs.length = n1) (h2 : ys.length = n2) (m1 : 0 < n1) (m2 : 0 < n2) (l1 : n1 ≤ 1048576) (l2 : n2 ≤ 1048576) (r1 : IRow w a1 xs) (r2 : IRow w a2 ys) :
    Calls Try.prog 140 #[.agg #[.slice a1 n1 c1, .slice a2 n2 c2]] w (BoardGot ys xs w) := by
  obtain ⟨BT, BR, hb, hz⟩ := two_new w #[.slice a1 n1 c1, .slice a2 n2 c2] #[.slice none 0 0, .slice none 0 0] 34 34
  obtain ⟨x0, x1, xf, xl⟩ := BT.two
  have hK1 := fun W (hW : Below w.heap.size w W) => l02Own_any a2 n2 c2 ys W h2 m2 l2 (r2.below hW)
  have hK2 := fun W (hW : Below w.heap.size w W) => l02Own_any a1 n1 c1 xs W h1 m1 l1 (r1.below hW)
  have HK1 := Lib.hid hK1
  have HK2 := Lib.hid hK2
  clear hK1 hK2
  go_enter Try.func140, Try.ntmps140
  go_wp2_with fail
  generalize ((w.alloc (.cells #[.slice a1 n1 c1, .slice a2 n2 c2] 34)).alloc (.cells #[.slice none 0 0, .slice none 0 0] 34)) = v0 at *
  refine wp_region_held_drew (S := fun w' => w'.cell? ⟨w.heap.size, 0, none⟩ = some (.slice a1 n1 c1) ∧ w'.cell? ⟨w.heap.size, 1, none⟩ = some (.slice a2 n2 c2) ∧ Below w.heap.size w w' ∧ ∃ u0 u1, Blk w' (w.heap.size + 1) #[u0, u1] 34) (by kernel_rfl) ⟨x0, x1, hb.drew, _, _, BR.drew⟩ (fun hHeld => ?_)
  refine wpAnyH_take (i := 0) (oi := { dst := some 3, op := _, type := _, pos := _, after := _, guard := _ }) (v := ?_) rfl (by kernel_rfl) (by kernel_rfl) (by kernel_rfl) (fun _ _ _ h => h) (Or.inl ⟨by rfl, ?_⟩) (by assumption) ?_
  rotate_left
  · intro w hSw
    (try dsimp only at hSw)
    go_simp
    (try (with_reducible rfl))
  try simp only [Act.put, List.setIfInBounds_toArray, List.set_cons_zero, List.set_cons_succ]
  refine wpAnyH_take (i := 1) (oi := { dst := some 4, op := _, type := _, pos := _, after := _, guard := _ }) (v := ?_) rfl (by kernel_rfl) (by kernel_rfl) (by kernel_rfl) (fun _ _ _ h => h) (Or.inl ⟨by rfl, ?_⟩) (by assumption) ?_
  rotate_left
  · intro w hSw
    (try dsimp only at hSw)
    go_simp
    (try (with_reducible rfl))
  try simp only [Act.put, List.setIfInBounds_toArray, List.set_cons_zero, List.set_cons_succ]
  refine wpAnyH_take (i := 3) (oi := { dst := some 6, op := _, type := _, pos := _, after := _, guard := _ }) (v := ?_) rfl (by kernel_rfl) (by kernel_rfl) (by kernel_rfl) (fun _ _ _ h => h) (Or.inl ⟨by rfl, ?_⟩) (by assumption) ?_
  rotate_left
  · intro w hSw
    (try dsimp only at hSw)
    go_simp
    (try (with_reducible rfl))
  try simp only [Act.put, List.setIfInBounds_toArray, List.set_cons_zero, List.set_cons_succ]
  refine wpAnyH_take (i := 4) (oi := { dst := some 7, op := _, type := _, pos := _, after := _, guard := _ }) (v := ?_) rfl (by kernel_rfl) (by kernel_rfl) (by kernel_rfl) (fun _ _ _ h => h) (Or.inl ⟨by rfl, ?_⟩) (by assumption) ?_
  rotate_left
  · intro w hSw
    (try dsimp only at hSw)
    go_simp
    (try (with_reducible rfl))
  try simp only [Act.put, List.setIfInBounds_toArray, List.set_cons_zero, List.set_cons_succ]
  refine wpAnyH_ready (rs := [2]) (by kernel_rfl) (by simp) ?_
  refine AllReadyH.cons (o := { dst := some 5, op := _, type := _, pos := _, after := _, guard := _ }) rfl (fun K hK => ?_) AllReadyH.nil
  go_simp
  refine (HK1.out _ hHeld.2.2.1).mono ?_
  rintro e w5 ⟨g1, k1, rfl, hg1, R1, hb1⟩
  have hS := heldBB hHeld hb1
  (try go_wp2_with fail)
  refine hK.out _ _ hS (fun hHeld => ?_)
  clear hK K
  try simp only [Act.put, List.setIfInBounds_toArray, List.set_cons_zero, List.set_cons_succ]
  refine wpAnyH_ready (rs := [5]) (by kernel_rfl) (by simp) ?_
  refine AllReadyH.cons (o := { dst := some 8, op := _, type := _, pos := _, after := _, guard := _ }) rfl (fun K hK => ?_) AllReadyH.nil
  go_simp
  refine (HK2.out _ hHeld.2.2.1).mono ?_
  rintro e w6 ⟨g2, k2, rfl, hg2, R2, hb2⟩
  have R1b := R1.below hb2
  have hl0 := R1.lt
  have hS := heldBB hHeld hb2
  (try go_wp2_with fail)
  refine hK.out _ _ hS (fun hHeld => ?_)
  clear hK K
  try simp only [Act.put, List.setIfInBounds_toArray, List.set_cons_zero, List.set_cons_succ]
  refine wpAnyH_take (i := 6) (oi := { dst := some 9, op := _, type := _, pos := _, after := _, guard := _ }) (v := ?_) rfl (by kernel_rfl) (by kernel_rfl) (by kernel_rfl) (fun _ _ _ h => h) (Or.inl ⟨by rfl, ?_⟩) (by assumption) ?_
  rotate_left
  · intro w hSw
    (try dsimp only at hSw)
    go_simp
    (try (with_reducible rfl))
  try simp only [Act.put, List.setIfInBounds_toArray, List.set_cons_zero, List.set_cons_succ]
  refine wpAnyH_ready (rs := [7]) (by kernel_rfl) (by simp) ?_
  refine AllReadyH.cons (o := { dst := none, op := _, type := _, pos := _, after := _, guard := _ }) rfl (fun K hK => ?_) AllReadyH.nil
  obtain ⟨u0, u1, BU⟩ := hHeld.2.2.2
  have y0 := BU.two.1
  have y1 := BU.two.2.1
  have yf := BU.two.2.2.1
  have yl := BU.two.2.2.2
  go_simp
  (try go_wp2_with fail)
  refine hK.out _ _ (storeBB hHeld _ _) (fun hHeld => ?_)
  clear hK K
  try simp only [Act.put, List.setIfInBounds_toArray, List.set_cons_zero, List.set_cons_succ]
  refine wpAnyH_done (by kernel_rfl) ?_ _
  go_wp2
  have hl1 := R1.lt
  have hl2 := R2.lt
  have hd : v0.drew.heap.size = w.heap.size + 1 + 1 := hz
  have hb56 := hHeld.2.2.1
  refine bodyPost_ret (v := .agg #[.slice (some ⟨g1, 0, none⟩) n2 k1, .slice (some ⟨g2, 0, none⟩) n1 k2]) (by simp [results, Try.results140, go_sem, y0, y1]) rfl ?_
  exact ⟨some ⟨g1, 0, none⟩, some ⟨g2, 0, none⟩, k1, k2, by rw [h1, h2], .inr ⟨g1, g2, rfl, rfl, by omega, by omega, by have := R1b.lt; simpa using this, by omega, by simpa using hl2, (R1b.other (by omega)).other (by omega), (R2.other (by omega)).other (by omega)⟩, hb56⟩
end Go.Proofs.Ytokjkcnjmfbfiaa
