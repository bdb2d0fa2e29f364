/- Texts of a proof, laid together: Mathematics of a legal step: how many there are from a place. Contracts of the model's exchange of sides. Contracts of the model's board behind a step. Contract of the model's application of a step. -/
import Derived.Test.YtknkbhmgdddjkaaGreatY08
import Derived.Test.YtknkbhmgdddjkaaGreatY06
import Derived.ArgAppend
import Derived.BigQuiet
namespace Go.Proofs.YtknkbhmgdddjkaaGreat
open Go.ChangeShapes Go.WideShapes Go.ChangeAt Go.RowKit
set_option linter.unusedVariables false
set_option linter.unusedSimpArgs false
set_option maxRecDepth 4000

theorem nonneg_getD {l : List Int} (h : ∀ x ∈ l, 0 ≤ x) (j : Nat) : 0 ≤ l.getD j 0 := by
  by_cases hj : j < l.length
  · exact h _ (getD_mem hj)
  · rw [getD_out (by omega)]
    omega
theorem stepI_form {P : Nat} {h : Int} {xs ys : List Int} {k : Nat} {d : Int} {t : Stp} (e : stepI P h xs ys k d = some t) : t.1 = (k : Int) ∧ t.2.1 = max (-1) ((k : Int) - d) ∧ t.2.2.1 = d ∧ xs.getD k 0 ≠ 0 ∧ t.2.1 = toI P k d ∧ alB P h xs ys k d = true := by
  unfold stepI at e
  split at e
  · simp at e
  · split at e
    · rename_i h0 ha
      simp only [Option.some.injEq] at e
      subst e
      refine ⟨rfl, ?_, rfl, h0, rfl, ha⟩
      dsimp only
      unfold toI
      split
      · rename_i hk
        by_cases hp : k = P
        · unfold alB at ha
          rw [if_pos hp] at ha
          simp only [openB, Bool.and_eq_true, decide_eq_true_eq] at ha
          omega
        · omega
      · omega
    · simp at e
/-- For a place, how many of the two steps with a die are legal. -/
theorem leg_two {P : Nat} {h s : Int} {xs ys : List Int} (f : Nat) (fP : f ≤ P) (d : Int) (hd : inB d 1 s = true) :
    (if legB P h s xs ys ((f : Int), max (-1) ((f : Int) - d), d, false) = true then 1 else 0) + (if legB P h s xs ys ((f : Int), max (-1) ((f : Int) - d), d, true) = true then 1 else 0) = (stepS P h xs ys f d).toList.length := by
  have hf : inB (f : Int) 0 (P : Int) = true := by simp [inB]; omega
  have hn : ((f : Int)).toNat = f := by simp
  rw [legB_S, legB_S]
  dsimp only
  rw [hd, hf, hn, Bool.true_and, Bool.true_and, Bool.true_and, Bool.true_and]
  cases e : stepS P h xs ys f d with
  | none => simp
  | some t =>
    have e2 : stepI P h xs ys f d = some t := by
      unfold stepS at e
      split at e
      · simp at e
      · exact e
    obtain ⟨q1, q2, q3, -⟩ := stepI_form e2
    obtain ⟨a, b, d', q⟩ := t
    dsimp only at q1 q2 q3
    subst q1 q2 q3
    cases q <;> simp
/-- The number of legal steps from the places below f. -/
def cntL (P : Nat) (h : Int) (xs ys : List Int) (d : Int) (f : Nat) : Nat := if overB xs ys = true then 0 else (legTo P h xs ys d f).length
theorem cntL_succ (P : Nat) (h : Int) (xs ys : List Int) (d : Int) (f : Nat) : cntL P h xs ys d (f + 1) = cntL P h xs ys d f + (stepS P h xs ys f d).toList.length := by
  unfold cntL stepS
  split
  · simp
  · rw [legTo, List.length_append]
    omega
theorem cntL_all (P : Nat) (h : Int) (xs ys : List Int) (d : Int) : cntL P h xs ys d (P + 1) = (legL P h xs ys d).length := by
  unfold cntL legL
  split <;> rfl
theorem cntL_le (P : Nat) (h : Int) (xs ys : List Int) (d : Int) (f : Nat) : cntL P h xs ys d f ≤ f := by
  unfold cntL
  split
  · omega
  · exact legTo_length _ _ _ _ _ _
theorem apart_iff {P : Nat} {xs ys : List Int} : apartB P xs ys = true ↔ ∀ i, i < P → ¬ (0 < xs.getD i 0 ∧ 0 < ys.getD (P - 1 - i) 0) := by
  rw [apartB, List.all_eq_true]
  constructor
  · intro h i hi
    have := h i (by simpa using hi)
    intro ⟨a, b⟩
    rw [decide_eq_true a, decide_eq_true b] at this
    simp at this
  · intro h i hi
    have := h i (by simpa using hi)
    by_cases a : 0 < xs.getD i 0
    · rw [decide_eq_false (show ¬ 0 < ys.getD (P - 1 - i) 0 from fun b => this ⟨a, b⟩)]
      simp
    · rw [decide_eq_false a]
      simp
theorem stepI_hitA {P : Nat} {h : Int} {A B : List Int} {k : Nat} {d : Int} {t : Stp} (e : stepI P h A B k d = some t) : t.2.2.2 = (decide (t.2.1 ≠ -1) && decide (0 < B.getD (P - 1 - t.2.1.toNat) 0)) := by
  unfold stepI at e
  split at e
  · simp at e
  · split at e
    · simp only [Option.some.injEq] at e
      rw [← e]
    · simp at e
end Go.Proofs.YtknkbhmgdddjkaaGreat
namespace Go.Proofs.YtknkbhmgdddjkaaGreat
open Go.ChangeShapes Go.WideShapes Go.ChangeAt Go.RowKit
set_option linter.unusedVariables false
set_option linter.unusedSimpArgs false
set_option maxRecDepth 4000

/-- A copy of the call's own, whatever its capacity. -/
def OwnCopied (xs : List Int) (w : World) (e : Ending) (w' : World) : Prop :=
  ∃ g k, e = .returned (.slice (some ⟨g, 0, none⟩) xs.length k) ∧ w.heap.size ≤ g ∧ Row w' g xs ∧ Below w.heap.size w w'
theorem Row.of_owns {w : World} {base g n k : Nat} {xs : List Int} (h : w.ownsRow base 2 1 (.slice (some ⟨g, 0, none⟩) n k) n (ints xs)) : Row w g xs ∧ base ≤ g := by
  obtain ⟨hl, h | ⟨g', cap, cur, hv, hb, hh, hc, hm, hs, ht⟩⟩ := h
  · exact absurd h.1 (by simp)
  · simp at hv
    obtain ⟨rfl, rfl⟩ := hv
    rw [ints_length] at hl
    exact ⟨⟨cur, hh, by omega, by rw [hl]; exact ht⟩, hb⟩
set_option maxRecDepth 8000 in
set_option maxHeartbeats 1000000 in
theorem l02Own_any (a : Option Addr) (n cap : Nat) (xs : List Int) (w : World) (hn : xs.length = n) (h0 : 0 < n) (hle : n ≤ 1048576) (hr : IRow w a xs) :
    Calls Tryz.prog 69 #[.slice a n cap] w (OwnCopied xs w) := by
  obtain ⟨i0, hi, hz0, hz1, hz2⟩ := info_parts infoI64
  obtain ⟨b, o, rfl, -⟩ := hr 0 (by omega)
  go_enter Tryz.func69, Tryz.ntmps69
  have hrow : ∀ (W : World), IRow W (some ⟨b, o, none⟩) xs → ∀ (j : Nat) (u : Value), (ints xs)[j]? = some u → W.cell? ((⟨b, o, none⟩ : Addr).add j) = some u := by
    intro W hW j u hj
    obtain ⟨hlt, rfl⟩ := List.getElem?_eq_some_iff.1 hj
    have hlt2 : j < xs.length := by simpa [ints] using hlt
    obtain ⟨b', o', e, hc⟩ := hW j hlt2
    simp at e
    obtain ⟨rfl, rfl⟩ := e
    rw [show (⟨b, o, none⟩ : Addr).add j = ⟨b, o + j, none⟩ from by unfold Addr.add; split <;> simp_all, hc]
    simp [ints, hlt2]
  have hone : ∀ u ∈ ints xs, u.oneCell' = true := fun u hu => by
    simp [ints] at hu
    obtain ⟨x, _, rfl⟩ := hu
    rfl
  have hint : (ints xs).length = n * 1 := by simp [ints, hn]
  have HRW := Lib.hid hrow
  have HON := Lib.hid hone
  have HIN := Lib.hid hint
  have HR := Lib.hid hr
  have HX := Lib.hid hn
  clear hrow hone hint hr hn
  go_wp2_with (at_builtin; refine wpList_append_grows _ rfl _ _ 26 rfl 2 i0 (.int .i64 0) 1 8 Tryz.underlying26 hi hz0 hz1 hz2 rfl (by decide) _ 0 0 [] rfl (by simp) rfl (by simp) ⟨b, o, none⟩ n cap (ints xs) rfl HIN.out (HRW.out _ (HR.out.alloc _)) HON.out (by omega) (by unfold maxLen; omega) (by omega) ?_)
  intro v' w' hown hgrow
  obtain ⟨g, k, rfl⟩ := Joins.ownsRow_form hown (by omega)
  obtain ⟨hR, hg⟩ := Row.of_owns hown
  go_wp2
  go_ret
  exact ⟨g, k, by simp [HX.out], by omega, hR, from_alloc ⟨hgrow.os, hgrow.tape, hgrow.output, hgrow.size, fun k hk => hgrow.block k hk (by simp)⟩⟩
end Go.Proofs.YtknkbhmgdddjkaaGreat
namespace Go.Proofs.YtknkbhmgdddjkaaGreat
open Go.ChangeShapes Go.WideShapes Go.ChangeAt Go.RowKit
set_option linter.unusedVariables false
set_option linter.unusedSimpArgs false
set_option maxRecDepth 4000

set_option maxRecDepth 8000 in
set_option maxHeartbeats 4000000 in
theorem l04Apply_far_true (P : Nat) (c h s : Int) (a1 a2 : Option Addr) (n1 n2 c1 c2 : Nat) (xs ys : List Int) (w : World) (h1 : xs.length = n1) (h2 : ys.length = n2) (p0 : 2 ≤ P) (p1 : P ≤ 24) (N1 : xs.length = P + 1) (N2 : ys.length = P + 1) (hh0 : 1 ≤ h) (hh : h ≤ (P : Int)) (hx : ∀ x ∈ xs, 0 ≤ x ∧ x ≤ 1000) (hy : ∀ y ∈ ys, 0 ≤ y ∧ y ≤ 1000) (r1 : IRow w a1 xs) (r2 : IRow w a2 ys) (f : Nat) (td : Int) (fP : f ≤ P) (t : Nat) (tP : t < P) (hne : ¬ t = f) :
    Calls Tryz.prog 83 #[.agg #[.int .i64 (P : Int), .int .i64 c, .int .i64 h, .int .i64 s], .agg #[.slice a1 n1 c1, .slice a2 n2 c2], stV ((f : Int), (t : Int), td, true)] w (BoardGot (mvX xs f ((t : Int)) 1) (mvY P ys ((t : Int)) true 1) w) := by
  have hK1 := fun W (hr : IRow W a1 xs) => l02Own_any a1 n1 c1 xs W h1 (by omega) (by omega) hr
  have hK2 := fun W (hr : IRow W a2 ys) => l02Own_any a2 n2 c2 ys W h2 (by omega) (by omega) hr
  have HK1 := Lib.hid hK1
  have HK2 := Lib.hid hK2
  clear hK1 hK2
  obtain ⟨BV, BB, BS, BR, hb, hz⟩ := four_new w #[.int .i64 (P : Int), .int .i64 c, .int .i64 h, .int .i64 s] #[.slice a1 n1 c1, .slice a2 n2 c2] #[.int .i64 (f : Int), .int .i64 ((t : Int)), .int .i64 td, .bool true] #[.slice none 0 0, .slice none 0 0] 25 28 112 28
  have hft : (f : Int) < (n1 : Int) := by omega
  have hPt : (P : Int) < (n2 : Int) := by omega
  have hfn : f < n1 := by omega
  have hPn : P < n2 := by omega
  obtain ⟨u, hu⟩ : ∃ u, xs.getD f 0 = u := ⟨_, rfl⟩
  have ub := hx _ (getD_mem (show f < xs.length by omega))
  rw [hu] at ub
  have ua : 0 ≤ u := ub.1
  have uz : u ≤ 1000 := ub.2
  have hm1 : decide ((0 : Int) ≤ (t : Int)) = true := by simp
  have htt : (t : Int) < (n1 : Int) := by omega
  have htn : t < n1 := by omega
  have hne3 : ¬ f = t := fun e => hne e.symm
  obtain ⟨v, hv⟩ : ∃ v, xs.getD t 0 = v := ⟨_, rfl⟩
  have vb := hx _ (getD_mem (show t < xs.length by omega))
  rw [hv] at vb
  have va : 0 ≤ v := vb.1
  have vz : v ≤ 1000 := vb.2
  obtain ⟨K, hKK⟩ : ∃ K, P - 1 - t = K := ⟨_, rfl⟩
  have eK : (P : Int) - 1 - (t : Int) = (K : Int) := by omega
  have hKP : ¬ K = P := by omega
  have hPK : ¬ P = K := by omega
  have hKt : (K : Int) < (n2 : Int) := by omega
  have hKn : K < n2 := by omega
  have wz : IntKind.i64.wrap (IntKind.i64.wrap ((P : Int) - 1) - (t : Int)) = (K : Int) := by rw [IntWalk.i64_in ((P : Int) - 1) (by omega), eK]; exact IntWalk.i64_in _ (by omega)
  obtain ⟨y, hy2⟩ : ∃ y, ys.getD K 0 = y := ⟨_, rfl⟩
  have yb := hy _ (getD_mem (show K < ys.length by omega))
  rw [hy2] at yb
  have ya : 0 ≤ y := yb.1
  have yz : y ≤ 1000 := yb.2
  obtain ⟨z, hz2⟩ : ∃ z, ys.getD P 0 = z := ⟨_, rfl⟩
  have zb := hy _ (getD_mem (show P < ys.length by omega))
  rw [hz2] at zb
  have za : 0 ≤ z := zb.1
  have zz : z ≤ 1000 := zb.2
  obtain ⟨X, hX⟩ : ∃ X, mvX xs (f : Int) ((t : Int)) 1 = X := ⟨_, rfl⟩
  obtain ⟨Y, hY⟩ : ∃ Y, mvY P ys ((t : Int)) true 1 = Y := ⟨_, rfl⟩
  have eX : (xs.set f (u - 1)).set t (v + 1) = X := by
    rw [← hX]
    unfold mvX
    rw [if_neg (by omega)]
    simp only [Int.toNat_natCast]
    rw [hu, getD_set_ne xs _ hne, hv]
  have eY : (ys.set K (y - 1)).set P (z + 1) = Y := by
    rw [← hY]
    unfold mvY
    rw [if_pos rfl, eK, Int.toNat_natCast, hy2, getD_set_ne ys _ hPK, hz2]
  have hXl : X.length = P + 1 := by rw [← hX, mvX_length, N1]
  have hYl : Y.length = P + 1 := by rw [← hY, mvY_length, N2]
  rw [hX, hY]
  have Hu := Lib.hid hu
  have Hv := Lib.hid hv
  have Hy := Lib.hid hy2
  have Hz := Lib.hid hz2
  have EX := Lib.hid eX
  have EY := Lib.hid eY
  have HXl := Lib.hid hXl
  have HYl := Lib.hid hYl
  clear hX hY eX eY hXl hYl
  clear hu ub
  clear hv vb
  clear hy2 yb
  clear hz2 zb
  go_enter Tryz.func83, Tryz.ntmps83
  go_wp2_with fail
  replace r1 := r1.below hb
  replace r2 := r2.below hb
  clear hz
  obtain ⟨xn1, hn1⟩ : ∃ z, xs.length = z := ⟨_, rfl⟩
  obtain ⟨yn1, hn2⟩ : ∃ z, ys.length = z := ⟨_, rfl⟩
  generalize ((((w.alloc (.cells #[.int .i64 (P : Int), .int .i64 c, .int .i64 h, .int .i64 s] 25)).alloc (.cells #[.slice a1 n1 c1, .slice a2 n2 c2] 28)).alloc (.cells #[.int .i64 (f : Int), .int .i64 ((t : Int)), .int .i64 td, .bool true] 112)).alloc (.cells #[.slice none 0 0, .slice none 0 0] 28)) = v0 at *
  have hz4 := BR.lt
  have hz5 : v0.drew.heap.size = v0.heap.size := rfl
  replace BV := BV.drew
  replace BB := BB.drew
  replace BS := BS.drew
  replace BR := BR.drew
  replace r1 := r1.drew
  replace r2 := r2.drew
  replace hb := hb.drew
  refine wp_region_held_drew (S := fun w' => w'.cell? ⟨w.heap.size, 0, none⟩ = some (.int .i64 (P : Int)) ∧ w'.cell? ⟨w.heap.size, 1, none⟩ = some (.int .i64 c) ∧ w'.cell? ⟨w.heap.size, 2, none⟩ = some (.int .i64 h) ∧ w'.cell? ⟨w.heap.size, 3, none⟩ = some (.int .i64 s) ∧ w'.cell? ⟨(w.heap.size + 1), 0, none⟩ = some (.slice a1 n1 c1) ∧ w'.cell? ⟨(w.heap.size + 1), 1, none⟩ = some (.slice a2 n2 c2) ∧ w'.cell? ⟨(w.heap.size + 1 + 1), 0, none⟩ = some (.int .i64 (f : Int)) ∧ w'.cell? ⟨(w.heap.size + 1 + 1), 1, none⟩ = some (.int .i64 ((t : Int))) ∧ w'.cell? ⟨(w.heap.size + 1 + 1), 2, none⟩ = some (.int .i64 td) ∧ w'.cell? ⟨(w.heap.size + 1 + 1), 3, none⟩ = some (.bool true) ∧ w'.cell? ⟨(w.heap.size + 1 + 1 + 1), 0, none⟩ = some (.slice none 0 0) ∧ w'.cell? ⟨(w.heap.size + 1 + 1 + 1), 1, none⟩ = some (.slice none 0 0) ∧ Blk w' w.heap.size #[.int .i64 (P : Int), .int .i64 c, .int .i64 h, .int .i64 s] 25 ∧ Blk w' ((w.heap.size + 1)) #[.slice a1 n1 c1, .slice a2 n2 c2] 28 ∧ Blk w' ((w.heap.size + 1 + 1)) #[.int .i64 (f : Int), .int .i64 ((t : Int)), .int .i64 td, .bool true] 112 ∧ Blk w' ((w.heap.size + 1 + 1 + 1)) #[.slice none 0 0, .slice none 0 0] 28 ∧ (IRow w' a1 xs) ∧ (IRow w' a2 ys) ∧ Below w.heap.size w w') (by kernel_rfl) ⟨BV.four.1, BV.four.2.1, BV.four.2.2.1, BV.four.2.2.2.1, BB.two.1, BB.two.2.1, BS.four.1, BS.four.2.1, BS.four.2.2.1, BS.four.2.2.2.1, BR.two.1, BR.two.2.1, BV, BB, BS, BR, r1, r2, hb⟩ (fun hHeld => ?_)
  refine wpAnyH_take (i := 0) (oi := { dst := some 10, op := _, type := _, pos := _, after := _, guard := _ }) (v := ?_) rfl (by kernel_rfl) (by kernel_rfl) (by kernel_rfl) (fun _ _ _ h => h) (Or.inl ⟨by rfl, ?_⟩) (by assumption) ?_
  rotate_left
  · intro w hSw
    (try dsimp only at hSw)
    go_simp
    (try (with_reducible rfl))
  try simp only [Act.put, List.setIfInBounds_toArray, List.set_cons_zero, List.set_cons_succ]
  refine wpAnyH_take (i := 1) (oi := { dst := some 11, op := _, type := _, pos := _, after := _, guard := _ }) (v := ?_) rfl (by kernel_rfl) (by kernel_rfl) (by kernel_rfl) (fun _ _ _ h => h) (Or.inl ⟨by rfl, ?_⟩) (by assumption) ?_
  rotate_left
  · intro w hSw
    (try dsimp only at hSw)
    go_simp
    (try (with_reducible rfl))
  try simp only [Act.put, List.setIfInBounds_toArray, List.set_cons_zero, List.set_cons_succ]
  refine wpAnyH_take (i := 3) (oi := { dst := some 13, op := _, type := _, pos := _, after := _, guard := _ }) (v := ?_) rfl (by kernel_rfl) (by kernel_rfl) (by kernel_rfl) (fun _ _ _ h => h) (Or.inl ⟨by rfl, ?_⟩) (by assumption) ?_
  rotate_left
  · intro w hSw
    (try dsimp only at hSw)
    go_simp
    (try (with_reducible rfl))
  try simp only [Act.put, List.setIfInBounds_toArray, List.set_cons_zero, List.set_cons_succ]
  refine wpAnyH_take (i := 4) (oi := { dst := some 14, op := _, type := _, pos := _, after := _, guard := _ }) (v := ?_) rfl (by kernel_rfl) (by kernel_rfl) (by kernel_rfl) (fun _ _ _ h => h) (Or.inl ⟨by rfl, ?_⟩) (by assumption) ?_
  rotate_left
  · intro w hSw
    (try dsimp only at hSw)
    go_simp
    (try (with_reducible rfl))
  try simp only [Act.put, List.setIfInBounds_toArray, List.set_cons_zero, List.set_cons_succ]
  refine wpAnyH_ready (rs := [2]) (by kernel_rfl) (by simp) ?_
  refine AllReadyH.cons (o := { dst := some 12, op := _, type := _, pos := _, after := _, guard := _ }) rfl (fun K hK => ?_) AllReadyH.nil
  go_simp
  -- call
  have BV := hHeld.2.2.2.2.2.2.2.2.2.2.2.2.1
  have BB := hHeld.2.2.2.2.2.2.2.2.2.2.2.2.2.1
  have BS := hHeld.2.2.2.2.2.2.2.2.2.2.2.2.2.2.1
  have BR := hHeld.2.2.2.2.2.2.2.2.2.2.2.2.2.2.2.1
  have r1 := hHeld.2.2.2.2.2.2.2.2.2.2.2.2.2.2.2.2.1
  have r2 := hHeld.2.2.2.2.2.2.2.2.2.2.2.2.2.2.2.2.2.1
  have hb := hHeld.2.2.2.2.2.2.2.2.2.2.2.2.2.2.2.2.2.2
  clear hHeld
  refine (HK1.out _ r1).mono ?_
  rintro e wq1 ⟨g1, k1, rfl, gg1, R1, hq1⟩
  replace BV := BV.below hq1
  replace BB := BB.below hq1
  replace BS := BS.below hq1
  replace BR := BR.below hq1
  replace r1 := r1.below hq1
  replace r2 := r2.below hq1
  replace hb := chain hb hq1
  have hs1 := hb.size
  have gl1 := R1.lt
  (try go_wp2_with fail)
  refine hK.out _ _ ⟨BV.four.1, BV.four.2.1, BV.four.2.2.1, BV.four.2.2.2.1, BB.two.1, BB.two.2.1, BS.four.1, BS.four.2.1, BS.four.2.2.1, BS.four.2.2.2.1, BR.two.1, BR.two.2.1, BV, BB, BS, BR, r1, r2, hb⟩ (fun hHeld => ?_)
  clear hK K
  try simp only [Act.put, List.setIfInBounds_toArray, List.set_cons_zero, List.set_cons_succ]
  refine wpAnyH_ready (rs := [5]) (by kernel_rfl) (by simp) ?_
  refine AllReadyH.cons (o := { dst := some 15, op := _, type := _, pos := _, after := _, guard := _ }) rfl (fun K hK => ?_) AllReadyH.nil
  go_simp
  -- call
  have BV := hHeld.2.2.2.2.2.2.2.2.2.2.2.2.1
  have BB := hHeld.2.2.2.2.2.2.2.2.2.2.2.2.2.1
  have BS := hHeld.2.2.2.2.2.2.2.2.2.2.2.2.2.2.1
  have BR := hHeld.2.2.2.2.2.2.2.2.2.2.2.2.2.2.2.1
  have r1 := hHeld.2.2.2.2.2.2.2.2.2.2.2.2.2.2.2.2.1
  have r2 := hHeld.2.2.2.2.2.2.2.2.2.2.2.2.2.2.2.2.2.1
  have hb := hHeld.2.2.2.2.2.2.2.2.2.2.2.2.2.2.2.2.2.2
  clear hHeld
  refine (HK2.out _ r2).mono ?_
  rintro e wq2 ⟨g2, k2, rfl, gg2, R2, hq2⟩
  replace BV := BV.below hq2
  replace BB := BB.below hq2
  replace BS := BS.below hq2
  replace BR := BR.below hq2
  replace r1 := r1.below hq2
  replace r2 := r2.below hq2
  replace hb := chain hb hq2
  replace R1 := R1.below hq2
  (try go_wp2_with fail)
  refine hK.out _ _ ⟨BV.four.1, BV.four.2.1, BV.four.2.2.1, BV.four.2.2.2.1, BB.two.1, BB.two.2.1, BS.four.1, BS.four.2.1, BS.four.2.2.1, BS.four.2.2.2.1, BR.two.1, BR.two.2.1, BV, BB, BS, BR, r1, r2, hb⟩ (fun hHeld => ?_)
  clear hK K
  try simp only [Act.put, List.setIfInBounds_toArray, List.set_cons_zero, List.set_cons_succ]
  refine wpAnyH_take (i := 6) (oi := { dst := some 7, op := _, type := _, pos := _, after := _, guard := _ }) (v := ?_) rfl (by kernel_rfl) (by kernel_rfl) (by kernel_rfl) (fun _ _ _ h => h) (Or.inl ⟨by rfl, ?_⟩) (by assumption) ?_
  rotate_left
  · intro w hSw
    (try dsimp only at hSw)
    go_simp
    (try (with_reducible rfl))
  try simp only [Act.put, List.setIfInBounds_toArray, List.set_cons_zero, List.set_cons_succ]
  refine wpAnyH_take (i := 7) (oi := { dst := some 8, op := _, type := _, pos := _, after := _, guard := _ }) (v := ?_) rfl (by kernel_rfl) (by kernel_rfl) (by kernel_rfl) (fun _ _ _ h => h) (Or.inl ⟨by rfl, ?_⟩) (by assumption) ?_
  rotate_left
  · intro w hSw
    (try dsimp only at hSw)
    go_simp
    (try (with_reducible rfl))
  try simp only [Act.put, List.setIfInBounds_toArray, List.set_cons_zero, List.set_cons_succ]
  refine wpAnyH_done (by kernel_rfl) ?_ _
  have BV := hHeld.2.2.2.2.2.2.2.2.2.2.2.2.1
  have BB := hHeld.2.2.2.2.2.2.2.2.2.2.2.2.2.1
  have BS := hHeld.2.2.2.2.2.2.2.2.2.2.2.2.2.2.1
  have BR := hHeld.2.2.2.2.2.2.2.2.2.2.2.2.2.2.2.1
  have r1 := hHeld.2.2.2.2.2.2.2.2.2.2.2.2.2.2.2.2.1
  have r2 := hHeld.2.2.2.2.2.2.2.2.2.2.2.2.2.2.2.2.2.1
  have hb := hHeld.2.2.2.2.2.2.2.2.2.2.2.2.2.2.2.2.2.2
  clear hHeld
  have gl2 := R2.lt
  have gl1b := R1.lt
  have hne1 : ¬ g1 = g2 := by omega
  have hne2 : ¬ g2 = g1 := by omega
  have hng10a : ¬ g1 = w.heap.size := by omega
  have hng10b : ¬ w.heap.size = g1 := by omega
  have hng11a : ¬ g1 = w.heap.size + 1 := by omega
  have hng11b : ¬ w.heap.size + 1 = g1 := by omega
  have hng12a : ¬ g1 = w.heap.size + 1 + 1 := by omega
  have hng12b : ¬ w.heap.size + 1 + 1 = g1 := by omega
  have hng13a : ¬ g1 = w.heap.size + 1 + 1 + 1 := by omega
  have hng13b : ¬ w.heap.size + 1 + 1 + 1 = g1 := by omega
  have hng20a : ¬ g2 = w.heap.size := by omega
  have hng20b : ¬ w.heap.size = g2 := by omega
  have hng21a : ¬ g2 = w.heap.size + 1 := by omega
  have hng21b : ¬ w.heap.size + 1 = g2 := by omega
  have hng22a : ¬ g2 = w.heap.size + 1 + 1 := by omega
  have hng22b : ¬ w.heap.size + 1 + 1 = g2 := by omega
  have hng23a : ¬ g2 = w.heap.size + 1 + 1 + 1 := by omega
  have hng23b : ¬ w.heap.size + 1 + 1 + 1 = g2 := by omega
  have fr1 := fun i => R1.free i
  have fr2 := fun i => R2.free i
  obtain ⟨x0, x1, x2, x3, xf, xl⟩ := BV.four
  obtain ⟨s0, s1, s2, s3, sf, sl⟩ := BS.four
  obtain ⟨u0, u1, uf, ul⟩ := BR.two
  have cu := R1.cell f (by omega); rw [Hu.out] at cu
  have cv := R1.cell t (by omega); rw [Hv.out] at cv
  have cy := R2.cell K (by omega); rw [Hy.out] at cy
  have cz := R2.cell P (by omega); rw [Hz.out] at cz
  go_wp2_with fail
  go_region
  go_wp2_with fail
  go_region
  go_wp2_with fail
  go_region
  go_wp2
  refine bodyPost_ret (v := .agg #[.slice (some ⟨g1, 0, none⟩) n1 k1, .slice (some ⟨g2, 0, none⟩) n2 k2]) (by first | (simp [results, Tryz.results83, go_sem, u0, u1]; done) | (simp [results, Tryz.results83, go_sem, *]; done)) rfl ?_
  exact ⟨some ⟨g1, 0, none⟩, some ⟨g2, 0, none⟩, k1, k2, by rw [HXl.out, HYl.out, show n1 = P + 1 by omega, show n2 = P + 1 by omega], .inr ⟨g1, g2, rfl, rfl, by omega, by omega, by simpa using gl1b, by omega, by simpa using gl2, ((((((R1.set f (u - 1)).set t (v + 1)).other (by omega)).other (by omega)).other (by omega)).other (by omega)).drew.drew.drew.wf EX.out, ((((((R2.other (by omega)).other (by omega)).set K (y - 1)).set P (z + 1)).other (by omega)).other (by omega)).drew.drew.drew.wf EY.out⟩, ((((((hb.setCell (by simp; omega) _).setCell (by simp; omega) _).setCell (by simp; omega) _).setCell (by simp; omega) _).setCell (by simp; omega) _).setCell (by simp; omega) _).drew.drew.drew⟩
set_option maxRecDepth 8000 in
set_option maxHeartbeats 4000000 in
theorem l04Apply_far_false (P : Nat) (c h s : Int) (a1 a2 : Option Addr) (n1 n2 c1 c2 : Nat) (xs ys : List Int) (w : World) (h1 : xs.length = n1) (h2 : ys.length = n2) (p0 : 2 ≤ P) (p1 : P ≤ 24) (N1 : xs.length = P + 1) (N2 : ys.length = P + 1) (hh0 : 1 ≤ h) (hh : h ≤ (P : Int)) (hx : ∀ x ∈ xs, 0 ≤ x ∧ x ≤ 1000) (hy : ∀ y ∈ ys, 0 ≤ y ∧ y ≤ 1000) (r1 : IRow w a1 xs) (r2 : IRow w a2 ys) (f : Nat) (td : Int) (fP : f ≤ P) (t : Nat) (tP : t < P) (hne : ¬ t = f) :
    Calls Tryz.prog 83 #[.agg #[.int .i64 (P : Int), .int .i64 c, .int .i64 h, .int .i64 s], .agg #[.slice a1 n1 c1, .slice a2 n2 c2], stV ((f : Int), (t : Int), td, false)] w (BoardGot (mvX xs f ((t : Int)) 1) (mvY P ys ((t : Int)) false 1) w) := by
  have hK1 := fun W (hr : IRow W a1 xs) => l02Own_any a1 n1 c1 xs W h1 (by omega) (by omega) hr
  have hK2 := fun W (hr : IRow W a2 ys) => l02Own_any a2 n2 c2 ys W h2 (by omega) (by omega) hr
  have HK1 := Lib.hid hK1
  have HK2 := Lib.hid hK2
  clear hK1 hK2
  obtain ⟨BV, BB, BS, BR, hb, hz⟩ := four_new w #[.int .i64 (P : Int), .int .i64 c, .int .i64 h, .int .i64 s] #[.slice a1 n1 c1, .slice a2 n2 c2] #[.int .i64 (f : Int), .int .i64 ((t : Int)), .int .i64 td, .bool false] #[.slice none 0 0, .slice none 0 0] 25 28 112 28
  have hft : (f : Int) < (n1 : Int) := by omega
  have hPt : (P : Int) < (n2 : Int) := by omega
  have hfn : f < n1 := by omega
  have hPn : P < n2 := by omega
  obtain ⟨u, hu⟩ : ∃ u, xs.getD f 0 = u := ⟨_, rfl⟩
  have ub := hx _ (getD_mem (show f < xs.length by omega))
  rw [hu] at ub
  have ua : 0 ≤ u := ub.1
  have uz : u ≤ 1000 := ub.2
  have hm1 : decide ((0 : Int) ≤ (t : Int)) = true := by simp
  have htt : (t : Int) < (n1 : Int) := by omega
  have htn : t < n1 := by omega
  have hne3 : ¬ f = t := fun e => hne e.symm
  obtain ⟨v, hv⟩ : ∃ v, xs.getD t 0 = v := ⟨_, rfl⟩
  have vb := hx _ (getD_mem (show t < xs.length by omega))
  rw [hv] at vb
  have va : 0 ≤ v := vb.1
  have vz : v ≤ 1000 := vb.2
  obtain ⟨X, hX⟩ : ∃ X, mvX xs (f : Int) ((t : Int)) 1 = X := ⟨_, rfl⟩
  obtain ⟨Y, hY⟩ : ∃ Y, mvY P ys ((t : Int)) false 1 = Y := ⟨_, rfl⟩
  have eX : (xs.set f (u - 1)).set t (v + 1) = X := by
    rw [← hX]
    unfold mvX
    rw [if_neg (by omega)]
    simp only [Int.toNat_natCast]
    rw [hu, getD_set_ne xs _ hne, hv]
  have eY : ys = Y := by
    rw [← hY]
    unfold mvY
    rw [if_neg (by simp)]
  have hXl : X.length = P + 1 := by rw [← hX, mvX_length, N1]
  have hYl : Y.length = P + 1 := by rw [← hY, mvY_length, N2]
  rw [hX, hY]
  have Hu := Lib.hid hu
  have Hv := Lib.hid hv
  have EX := Lib.hid eX
  have EY := Lib.hid eY
  have HXl := Lib.hid hXl
  have HYl := Lib.hid hYl
  clear hX hY eX eY hXl hYl
  clear hu ub
  clear hv vb
  go_enter Tryz.func83, Tryz.ntmps83
  go_wp2_with fail
  replace r1 := r1.below hb
  replace r2 := r2.below hb
  clear hz
  obtain ⟨xn1, hn1⟩ : ∃ z, xs.length = z := ⟨_, rfl⟩
  obtain ⟨yn1, hn2⟩ : ∃ z, ys.length = z := ⟨_, rfl⟩
  generalize ((((w.alloc (.cells #[.int .i64 (P : Int), .int .i64 c, .int .i64 h, .int .i64 s] 25)).alloc (.cells #[.slice a1 n1 c1, .slice a2 n2 c2] 28)).alloc (.cells #[.int .i64 (f : Int), .int .i64 ((t : Int)), .int .i64 td, .bool false] 112)).alloc (.cells #[.slice none 0 0, .slice none 0 0] 28)) = v0 at *
  have hz4 := BR.lt
  have hz5 : v0.drew.heap.size = v0.heap.size := rfl
  replace BV := BV.drew
  replace BB := BB.drew
  replace BS := BS.drew
  replace BR := BR.drew
  replace r1 := r1.drew
  replace r2 := r2.drew
  replace hb := hb.drew
  refine wp_region_held_drew (S := fun w' => w'.cell? ⟨w.heap.size, 0, none⟩ = some (.int .i64 (P : Int)) ∧ w'.cell? ⟨w.heap.size, 1, none⟩ = some (.int .i64 c) ∧ w'.cell? ⟨w.heap.size, 2, none⟩ = some (.int .i64 h) ∧ w'.cell? ⟨w.heap.size, 3, none⟩ = some (.int .i64 s) ∧ w'.cell? ⟨(w.heap.size + 1), 0, none⟩ = some (.slice a1 n1 c1) ∧ w'.cell? ⟨(w.heap.size + 1), 1, none⟩ = some (.slice a2 n2 c2) ∧ w'.cell? ⟨(w.heap.size + 1 + 1), 0, none⟩ = some (.int .i64 (f : Int)) ∧ w'.cell? ⟨(w.heap.size + 1 + 1), 1, none⟩ = some (.int .i64 ((t : Int))) ∧ w'.cell? ⟨(w.heap.size + 1 + 1), 2, none⟩ = some (.int .i64 td) ∧ w'.cell? ⟨(w.heap.size + 1 + 1), 3, none⟩ = some (.bool false) ∧ w'.cell? ⟨(w.heap.size + 1 + 1 + 1), 0, none⟩ = some (.slice none 0 0) ∧ w'.cell? ⟨(w.heap.size + 1 + 1 + 1), 1, none⟩ = some (.slice none 0 0) ∧ Blk w' w.heap.size #[.int .i64 (P : Int), .int .i64 c, .int .i64 h, .int .i64 s] 25 ∧ Blk w' ((w.heap.size + 1)) #[.slice a1 n1 c1, .slice a2 n2 c2] 28 ∧ Blk w' ((w.heap.size + 1 + 1)) #[.int .i64 (f : Int), .int .i64 ((t : Int)), .int .i64 td, .bool false] 112 ∧ Blk w' ((w.heap.size + 1 + 1 + 1)) #[.slice none 0 0, .slice none 0 0] 28 ∧ (IRow w' a1 xs) ∧ (IRow w' a2 ys) ∧ Below w.heap.size w w') (by kernel_rfl) ⟨BV.four.1, BV.four.2.1, BV.four.2.2.1, BV.four.2.2.2.1, BB.two.1, BB.two.2.1, BS.four.1, BS.four.2.1, BS.four.2.2.1, BS.four.2.2.2.1, BR.two.1, BR.two.2.1, BV, BB, BS, BR, r1, r2, hb⟩ (fun hHeld => ?_)
  refine wpAnyH_take (i := 0) (oi := { dst := some 10, op := _, type := _, pos := _, after := _, guard := _ }) (v := ?_) rfl (by kernel_rfl) (by kernel_rfl) (by kernel_rfl) (fun _ _ _ h => h) (Or.inl ⟨by rfl, ?_⟩) (by assumption) ?_
  rotate_left
  · intro w hSw
    (try dsimp only at hSw)
    go_simp
    (try (with_reducible rfl))
  try simp only [Act.put, List.setIfInBounds_toArray, List.set_cons_zero, List.set_cons_succ]
  refine wpAnyH_take (i := 1) (oi := { dst := some 11, op := _, type := _, pos := _, after := _, guard := _ }) (v := ?_) rfl (by kernel_rfl) (by kernel_rfl) (by kernel_rfl) (fun _ _ _ h => h) (Or.inl ⟨by rfl, ?_⟩) (by assumption) ?_
  rotate_left
  · intro w hSw
    (try dsimp only at hSw)
    go_simp
    (try (with_reducible rfl))
  try simp only [Act.put, List.setIfInBounds_toArray, List.set_cons_zero, List.set_cons_succ]
  refine wpAnyH_take (i := 3) (oi := { dst := some 13, op := _, type := _, pos := _, after := _, guard := _ }) (v := ?_) rfl (by kernel_rfl) (by kernel_rfl) (by kernel_rfl) (fun _ _ _ h => h) (Or.inl ⟨by rfl, ?_⟩) (by assumption) ?_
  rotate_left
  · intro w hSw
    (try dsimp only at hSw)
    go_simp
    (try (with_reducible rfl))
  try simp only [Act.put, List.setIfInBounds_toArray, List.set_cons_zero, List.set_cons_succ]
  refine wpAnyH_take (i := 4) (oi := { dst := some 14, op := _, type := _, pos := _, after := _, guard := _ }) (v := ?_) rfl (by kernel_rfl) (by kernel_rfl) (by kernel_rfl) (fun _ _ _ h => h) (Or.inl ⟨by rfl, ?_⟩) (by assumption) ?_
  rotate_left
  · intro w hSw
    (try dsimp only at hSw)
    go_simp
    (try (with_reducible rfl))
  try simp only [Act.put, List.setIfInBounds_toArray, List.set_cons_zero, List.set_cons_succ]
  refine wpAnyH_ready (rs := [2]) (by kernel_rfl) (by simp) ?_
  refine AllReadyH.cons (o := { dst := some 12, op := _, type := _, pos := _, after := _, guard := _ }) rfl (fun K hK => ?_) AllReadyH.nil
  go_simp
  -- call
  have BV := hHeld.2.2.2.2.2.2.2.2.2.2.2.2.1
  have BB := hHeld.2.2.2.2.2.2.2.2.2.2.2.2.2.1
  have BS := hHeld.2.2.2.2.2.2.2.2.2.2.2.2.2.2.1
  have BR := hHeld.2.2.2.2.2.2.2.2.2.2.2.2.2.2.2.1
  have r1 := hHeld.2.2.2.2.2.2.2.2.2.2.2.2.2.2.2.2.1
  have r2 := hHeld.2.2.2.2.2.2.2.2.2.2.2.2.2.2.2.2.2.1
  have hb := hHeld.2.2.2.2.2.2.2.2.2.2.2.2.2.2.2.2.2.2
  clear hHeld
  refine (HK1.out _ r1).mono ?_
  rintro e wq1 ⟨g1, k1, rfl, gg1, R1, hq1⟩
  replace BV := BV.below hq1
  replace BB := BB.below hq1
  replace BS := BS.below hq1
  replace BR := BR.below hq1
  replace r1 := r1.below hq1
  replace r2 := r2.below hq1
  replace hb := chain hb hq1
  have hs1 := hb.size
  have gl1 := R1.lt
  (try go_wp2_with fail)
  refine hK.out _ _ ⟨BV.four.1, BV.four.2.1, BV.four.2.2.1, BV.four.2.2.2.1, BB.two.1, BB.two.2.1, BS.four.1, BS.four.2.1, BS.four.2.2.1, BS.four.2.2.2.1, BR.two.1, BR.two.2.1, BV, BB, BS, BR, r1, r2, hb⟩ (fun hHeld => ?_)
  clear hK K
  try simp only [Act.put, List.setIfInBounds_toArray, List.set_cons_zero, List.set_cons_succ]
  refine wpAnyH_ready (rs := [5]) (by kernel_rfl) (by simp) ?_
  refine AllReadyH.cons (o := { dst := some 15, op := _, type := _, pos := _, after := _, guard := _ }) rfl (fun K hK => ?_) AllReadyH.nil
  go_simp
  -- call
  have BV := hHeld.2.2.2.2.2.2.2.2.2.2.2.2.1
  have BB := hHeld.2.2.2.2.2.2.2.2.2.2.2.2.2.1
  have BS := hHeld.2.2.2.2.2.2.2.2.2.2.2.2.2.2.1
  have BR := hHeld.2.2.2.2.2.2.2.2.2.2.2.2.2.2.2.1
  have r1 := hHeld.2.2.2.2.2.2.2.2.2.2.2.2.2.2.2.2.1
  have r2 := hHeld.2.2.2.2.2.2.2.2.2.2.2.2.2.2.2.2.2.1
  have hb := hHeld.2.2.2.2.2.2.2.2.2.2.2.2.2.2.2.2.2.2
  clear hHeld
  refine (HK2.out _ r2).mono ?_
  rintro e wq2 ⟨g2, k2, rfl, gg2, R2, hq2⟩
  replace BV := BV.below hq2
  replace BB := BB.below hq2
  replace BS := BS.below hq2
  replace BR := BR.below hq2
  replace r1 := r1.below hq2
  replace r2 := r2.below hq2
  replace hb := chain hb hq2
  replace R1 := R1.below hq2
  (try go_wp2_with fail)
  refine hK.out _ _ ⟨BV.four.1, BV.four.2.1, BV.four.2.2.1, BV.four.2.2.2.1, BB.two.1, BB.two.2.1, BS.four.1, BS.four.2.1, BS.four.2.2.1, BS.four.2.2.2.1, BR.two.1, BR.two.2.1, BV, BB, BS, BR, r1, r2, hb⟩ (fun hHeld => ?_)
  clear hK K
  try simp only [Act.put, List.setIfInBounds_toArray, List.set_cons_zero, List.set_cons_succ]
  refine wpAnyH_take (i := 6) (oi := { dst := some 7, op := _, type := _, pos := _, after := _, guard := _ }) (v := ?_) rfl (by kernel_rfl) (by kernel_rfl) (by kernel_rfl) (fun _ _ _ h => h) (Or.inl ⟨by rfl, ?_⟩) (by assumption) ?_
  rotate_left
  · intro w hSw
    (try dsimp only at hSw)
    go_simp
    (try (with_reducible rfl))
  try simp only [Act.put, List.setIfInBounds_toArray, List.set_cons_zero, List.set_cons_succ]
  refine wpAnyH_take (i := 7) (oi := { dst := some 8, op := _, type := _, pos := _, after := _, guard := _ }) (v := ?_) rfl (by kernel_rfl) (by kernel_rfl) (by kernel_rfl) (fun _ _ _ h => h) (Or.inl ⟨by rfl, ?_⟩) (by assumption) ?_
  rotate_left
  · intro w hSw
    (try dsimp only at hSw)
    go_simp
    (try (with_reducible rfl))
  try simp only [Act.put, List.setIfInBounds_toArray, List.set_cons_zero, List.set_cons_succ]
  refine wpAnyH_done (by kernel_rfl) ?_ _
  have BV := hHeld.2.2.2.2.2.2.2.2.2.2.2.2.1
  have BB := hHeld.2.2.2.2.2.2.2.2.2.2.2.2.2.1
  have BS := hHeld.2.2.2.2.2.2.2.2.2.2.2.2.2.2.1
  have BR := hHeld.2.2.2.2.2.2.2.2.2.2.2.2.2.2.2.1
  have r1 := hHeld.2.2.2.2.2.2.2.2.2.2.2.2.2.2.2.2.1
  have r2 := hHeld.2.2.2.2.2.2.2.2.2.2.2.2.2.2.2.2.2.1
  have hb := hHeld.2.2.2.2.2.2.2.2.2.2.2.2.2.2.2.2.2.2
  clear hHeld
  have gl2 := R2.lt
  have gl1b := R1.lt
  have hne1 : ¬ g1 = g2 := by omega
  have hne2 : ¬ g2 = g1 := by omega
  have hng10a : ¬ g1 = w.heap.size := by omega
  have hng10b : ¬ w.heap.size = g1 := by omega
  have hng11a : ¬ g1 = w.heap.size + 1 := by omega
  have hng11b : ¬ w.heap.size + 1 = g1 := by omega
  have hng12a : ¬ g1 = w.heap.size + 1 + 1 := by omega
  have hng12b : ¬ w.heap.size + 1 + 1 = g1 := by omega
  have hng13a : ¬ g1 = w.heap.size + 1 + 1 + 1 := by omega
  have hng13b : ¬ w.heap.size + 1 + 1 + 1 = g1 := by omega
  have hng20a : ¬ g2 = w.heap.size := by omega
  have hng20b : ¬ w.heap.size = g2 := by omega
  have hng21a : ¬ g2 = w.heap.size + 1 := by omega
  have hng21b : ¬ w.heap.size + 1 = g2 := by omega
  have hng22a : ¬ g2 = w.heap.size + 1 + 1 := by omega
  have hng22b : ¬ w.heap.size + 1 + 1 = g2 := by omega
  have hng23a : ¬ g2 = w.heap.size + 1 + 1 + 1 := by omega
  have hng23b : ¬ w.heap.size + 1 + 1 + 1 = g2 := by omega
  have fr1 := fun i => R1.free i
  have fr2 := fun i => R2.free i
  obtain ⟨x0, x1, x2, x3, xf, xl⟩ := BV.four
  obtain ⟨s0, s1, s2, s3, sf, sl⟩ := BS.four
  obtain ⟨u0, u1, uf, ul⟩ := BR.two
  have cu := R1.cell f (by omega); rw [Hu.out] at cu
  have cv := R1.cell t (by omega); rw [Hv.out] at cv
  go_wp2_with fail
  go_region
  go_wp2_with fail
  go_region
  go_wp2
  refine bodyPost_ret (v := .agg #[.slice (some ⟨g1, 0, none⟩) n1 k1, .slice (some ⟨g2, 0, none⟩) n2 k2]) (by first | (simp [results, Tryz.results83, go_sem, u0, u1]; done) | (simp [results, Tryz.results83, go_sem, *]; done)) rfl ?_
  exact ⟨some ⟨g1, 0, none⟩, some ⟨g2, 0, none⟩, k1, k2, by rw [HXl.out, HYl.out, show n1 = P + 1 by omega, show n2 = P + 1 by omega], .inr ⟨g1, g2, rfl, rfl, by omega, by omega, by simpa using gl1b, by omega, by simpa using gl2, ((((R1.set f (u - 1)).set t (v + 1)).other (by omega)).other (by omega)).drew.drew.wf EX.out, ((((R2.other (by omega)).other (by omega)).other (by omega)).other (by omega)).drew.drew.wf EY.out⟩, ((((hb.setCell (by simp; omega) _).setCell (by simp; omega) _).setCell (by simp; omega) _).setCell (by simp; omega) _).drew.drew⟩
set_option maxRecDepth 8000 in
set_option maxHeartbeats 4000000 in
theorem l04Apply_off_false (P : Nat) (c h s : Int) (a1 a2 : Option Addr) (n1 n2 c1 c2 : Nat) (xs ys : List Int) (w : World) (h1 : xs.length = n1) (h2 : ys.length = n2) (p0 : 2 ≤ P) (p1 : P ≤ 24) (N1 : xs.length = P + 1) (N2 : ys.length = P + 1) (hh0 : 1 ≤ h) (hh : h ≤ (P : Int)) (hx : ∀ x ∈ xs, 0 ≤ x ∧ x ≤ 1000) (hy : ∀ y ∈ ys, 0 ≤ y ∧ y ≤ 1000) (r1 : IRow w a1 xs) (r2 : IRow w a2 ys) (f : Nat) (td : Int) (fP : f ≤ P)  :
    Calls Tryz.prog 83 #[.agg #[.int .i64 (P : Int), .int .i64 c, .int .i64 h, .int .i64 s], .agg #[.slice a1 n1 c1, .slice a2 n2 c2], stV ((f : Int), -1, td, false)] w (BoardGot (mvX xs f (-1) 1) (mvY P ys (-1) false 1) w) := by
  have hK1 := fun W (hr : IRow W a1 xs) => l02Own_any a1 n1 c1 xs W h1 (by omega) (by omega) hr
  have hK2 := fun W (hr : IRow W a2 ys) => l02Own_any a2 n2 c2 ys W h2 (by omega) (by omega) hr
  have HK1 := Lib.hid hK1
  have HK2 := Lib.hid hK2
  clear hK1 hK2
  obtain ⟨BV, BB, BS, BR, hb, hz⟩ := four_new w #[.int .i64 (P : Int), .int .i64 c, .int .i64 h, .int .i64 s] #[.slice a1 n1 c1, .slice a2 n2 c2] #[.int .i64 (f : Int), .int .i64 (-1), .int .i64 td, .bool false] #[.slice none 0 0, .slice none 0 0] 25 28 112 28
  have hft : (f : Int) < (n1 : Int) := by omega
  have hPt : (P : Int) < (n2 : Int) := by omega
  have hfn : f < n1 := by omega
  have hPn : P < n2 := by omega
  obtain ⟨u, hu⟩ : ∃ u, xs.getD f 0 = u := ⟨_, rfl⟩
  have ub := hx _ (getD_mem (show f < xs.length by omega))
  rw [hu] at ub
  have ua : 0 ≤ u := ub.1
  have uz : u ≤ 1000 := ub.2
  obtain ⟨X, hX⟩ : ∃ X, mvX xs (f : Int) (-1) 1 = X := ⟨_, rfl⟩
  obtain ⟨Y, hY⟩ : ∃ Y, mvY P ys (-1) false 1 = Y := ⟨_, rfl⟩
  have eX : xs.set f (u - 1) = X := by
    rw [← hX]
    unfold mvX
    rw [if_pos rfl]
    simp only [Int.toNat_natCast]
    rw [hu]
  have eY : ys = Y := by
    rw [← hY]
    unfold mvY
    rw [if_neg (by simp)]
  have hXl : X.length = P + 1 := by rw [← hX, mvX_length, N1]
  have hYl : Y.length = P + 1 := by rw [← hY, mvY_length, N2]
  rw [hX, hY]
  have Hu := Lib.hid hu
  have EX := Lib.hid eX
  have EY := Lib.hid eY
  have HXl := Lib.hid hXl
  have HYl := Lib.hid hYl
  clear hX hY eX eY hXl hYl
  clear hu ub
  go_enter Tryz.func83, Tryz.ntmps83
  go_wp2_with fail
  replace r1 := r1.below hb
  replace r2 := r2.below hb
  clear hz
  obtain ⟨xn1, hn1⟩ : ∃ z, xs.length = z := ⟨_, rfl⟩
  obtain ⟨yn1, hn2⟩ : ∃ z, ys.length = z := ⟨_, rfl⟩
  generalize ((((w.alloc (.cells #[.int .i64 (P : Int), .int .i64 c, .int .i64 h, .int .i64 s] 25)).alloc (.cells #[.slice a1 n1 c1, .slice a2 n2 c2] 28)).alloc (.cells #[.int .i64 (f : Int), .int .i64 (-1), .int .i64 td, .bool false] 112)).alloc (.cells #[.slice none 0 0, .slice none 0 0] 28)) = v0 at *
  have hz4 := BR.lt
  have hz5 : v0.drew.heap.size = v0.heap.size := rfl
  replace BV := BV.drew
  replace BB := BB.drew
  replace BS := BS.drew
  replace BR := BR.drew
  replace r1 := r1.drew
  replace r2 := r2.drew
  replace hb := hb.drew
  refine wp_region_held_drew (S := fun w' => w'.cell? ⟨w.heap.size, 0, none⟩ = some (.int .i64 (P : Int)) ∧ w'.cell? ⟨w.heap.size, 1, none⟩ = some (.int .i64 c) ∧ w'.cell? ⟨w.heap.size, 2, none⟩ = some (.int .i64 h) ∧ w'.cell? ⟨w.heap.size, 3, none⟩ = some (.int .i64 s) ∧ w'.cell? ⟨(w.heap.size + 1), 0, none⟩ = some (.slice a1 n1 c1) ∧ w'.cell? ⟨(w.heap.size + 1), 1, none⟩ = some (.slice a2 n2 c2) ∧ w'.cell? ⟨(w.heap.size + 1 + 1), 0, none⟩ = some (.int .i64 (f : Int)) ∧ w'.cell? ⟨(w.heap.size + 1 + 1), 1, none⟩ = some (.int .i64 (-1)) ∧ w'.cell? ⟨(w.heap.size + 1 + 1), 2, none⟩ = some (.int .i64 td) ∧ w'.cell? ⟨(w.heap.size + 1 + 1), 3, none⟩ = some (.bool false) ∧ w'.cell? ⟨(w.heap.size + 1 + 1 + 1), 0, none⟩ = some (.slice none 0 0) ∧ w'.cell? ⟨(w.heap.size + 1 + 1 + 1), 1, none⟩ = some (.slice none 0 0) ∧ Blk w' w.heap.size #[.int .i64 (P : Int), .int .i64 c, .int .i64 h, .int .i64 s] 25 ∧ Blk w' ((w.heap.size + 1)) #[.slice a1 n1 c1, .slice a2 n2 c2] 28 ∧ Blk w' ((w.heap.size + 1 + 1)) #[.int .i64 (f : Int), .int .i64 (-1), .int .i64 td, .bool false] 112 ∧ Blk w' ((w.heap.size + 1 + 1 + 1)) #[.slice none 0 0, .slice none 0 0] 28 ∧ (IRow w' a1 xs) ∧ (IRow w' a2 ys) ∧ Below w.heap.size w w') (by kernel_rfl) ⟨BV.four.1, BV.four.2.1, BV.four.2.2.1, BV.four.2.2.2.1, BB.two.1, BB.two.2.1, BS.four.1, BS.four.2.1, BS.four.2.2.1, BS.four.2.2.2.1, BR.two.1, BR.two.2.1, BV, BB, BS, BR, r1, r2, hb⟩ (fun hHeld => ?_)
  refine wpAnyH_take (i := 0) (oi := { dst := some 10, op := _, type := _, pos := _, after := _, guard := _ }) (v := ?_) rfl (by kernel_rfl) (by kernel_rfl) (by kernel_rfl) (fun _ _ _ h => h) (Or.inl ⟨by rfl, ?_⟩) (by assumption) ?_
  rotate_left
  · intro w hSw
    (try dsimp only at hSw)
    go_simp
    (try (with_reducible rfl))
  try simp only [Act.put, List.setIfInBounds_toArray, List.set_cons_zero, List.set_cons_succ]
  refine wpAnyH_take (i := 1) (oi := { dst := some 11, op := _, type := _, pos := _, after := _, guard := _ }) (v := ?_) rfl (by kernel_rfl) (by kernel_rfl) (by kernel_rfl) (fun _ _ _ h => h) (Or.inl ⟨by rfl, ?_⟩) (by assumption) ?_
  rotate_left
  · intro w hSw
    (try dsimp only at hSw)
    go_simp
    (try (with_reducible rfl))
  try simp only [Act.put, List.setIfInBounds_toArray, List.set_cons_zero, List.set_cons_succ]
  refine wpAnyH_take (i := 3) (oi := { dst := some 13, op := _, type := _, pos := _, after := _, guard := _ }) (v := ?_) rfl (by kernel_rfl) (by kernel_rfl) (by kernel_rfl) (fun _ _ _ h => h) (Or.inl ⟨by rfl, ?_⟩) (by assumption) ?_
  rotate_left
  · intro w hSw
    (try dsimp only at hSw)
    go_simp
    (try (with_reducible rfl))
  try simp only [Act.put, List.setIfInBounds_toArray, List.set_cons_zero, List.set_cons_succ]
  refine wpAnyH_take (i := 4) (oi := { dst := some 14, op := _, type := _, pos := _, after := _, guard := _ }) (v := ?_) rfl (by kernel_rfl) (by kernel_rfl) (by kernel_rfl) (fun _ _ _ h => h) (Or.inl ⟨by rfl, ?_⟩) (by assumption) ?_
  rotate_left
  · intro w hSw
    (try dsimp only at hSw)
    go_simp
    (try (with_reducible rfl))
  try simp only [Act.put, List.setIfInBounds_toArray, List.set_cons_zero, List.set_cons_succ]
  refine wpAnyH_ready (rs := [2]) (by kernel_rfl) (by simp) ?_
  refine AllReadyH.cons (o := { dst := some 12, op := _, type := _, pos := _, after := _, guard := _ }) rfl (fun K hK => ?_) AllReadyH.nil
  go_simp
  -- call
  have BV := hHeld.2.2.2.2.2.2.2.2.2.2.2.2.1
  have BB := hHeld.2.2.2.2.2.2.2.2.2.2.2.2.2.1
  have BS := hHeld.2.2.2.2.2.2.2.2.2.2.2.2.2.2.1
  have BR := hHeld.2.2.2.2.2.2.2.2.2.2.2.2.2.2.2.1
  have r1 := hHeld.2.2.2.2.2.2.2.2.2.2.2.2.2.2.2.2.1
  have r2 := hHeld.2.2.2.2.2.2.2.2.2.2.2.2.2.2.2.2.2.1
  have hb := hHeld.2.2.2.2.2.2.2.2.2.2.2.2.2.2.2.2.2.2
  clear hHeld
  refine (HK1.out _ r1).mono ?_
  rintro e wq1 ⟨g1, k1, rfl, gg1, R1, hq1⟩
  replace BV := BV.below hq1
  replace BB := BB.below hq1
  replace BS := BS.below hq1
  replace BR := BR.below hq1
  replace r1 := r1.below hq1
  replace r2 := r2.below hq1
  replace hb := chain hb hq1
  have hs1 := hb.size
  have gl1 := R1.lt
  (try go_wp2_with fail)
  refine hK.out _ _ ⟨BV.four.1, BV.four.2.1, BV.four.2.2.1, BV.four.2.2.2.1, BB.two.1, BB.two.2.1, BS.four.1, BS.four.2.1, BS.four.2.2.1, BS.four.2.2.2.1, BR.two.1, BR.two.2.1, BV, BB, BS, BR, r1, r2, hb⟩ (fun hHeld => ?_)
  clear hK K
  try simp only [Act.put, List.setIfInBounds_toArray, List.set_cons_zero, List.set_cons_succ]
  refine wpAnyH_ready (rs := [5]) (by kernel_rfl) (by simp) ?_
  refine AllReadyH.cons (o := { dst := some 15, op := _, type := _, pos := _, after := _, guard := _ }) rfl (fun K hK => ?_) AllReadyH.nil
  go_simp
  -- call
  have BV := hHeld.2.2.2.2.2.2.2.2.2.2.2.2.1
  have BB := hHeld.2.2.2.2.2.2.2.2.2.2.2.2.2.1
  have BS := hHeld.2.2.2.2.2.2.2.2.2.2.2.2.2.2.1
  have BR := hHeld.2.2.2.2.2.2.2.2.2.2.2.2.2.2.2.1
  have r1 := hHeld.2.2.2.2.2.2.2.2.2.2.2.2.2.2.2.2.1
  have r2 := hHeld.2.2.2.2.2.2.2.2.2.2.2.2.2.2.2.2.2.1
  have hb := hHeld.2.2.2.2.2.2.2.2.2.2.2.2.2.2.2.2.2.2
  clear hHeld
  refine (HK2.out _ r2).mono ?_
  rintro e wq2 ⟨g2, k2, rfl, gg2, R2, hq2⟩
  replace BV := BV.below hq2
  replace BB := BB.below hq2
  replace BS := BS.below hq2
  replace BR := BR.below hq2
  replace r1 := r1.below hq2
  replace r2 := r2.below hq2
  replace hb := chain hb hq2
  replace R1 := R1.below hq2
  (try go_wp2_with fail)
  refine hK.out _ _ ⟨BV.four.1, BV.four.2.1, BV.four.2.2.1, BV.four.2.2.2.1, BB.two.1, BB.two.2.1, BS.four.1, BS.four.2.1, BS.four.2.2.1, BS.four.2.2.2.1, BR.two.1, BR.two.2.1, BV, BB, BS, BR, r1, r2, hb⟩ (fun hHeld => ?_)
  clear hK K
  try simp only [Act.put, List.setIfInBounds_toArray, List.set_cons_zero, List.set_cons_succ]
  refine wpAnyH_take (i := 6) (oi := { dst := some 7, op := _, type := _, pos := _, after := _, guard := _ }) (v := ?_) rfl (by kernel_rfl) (by kernel_rfl) (by kernel_rfl) (fun _ _ _ h => h) (Or.inl ⟨by rfl, ?_⟩) (by assumption) ?_
  rotate_left
  · intro w hSw
    (try dsimp only at hSw)
    go_simp
    (try (with_reducible rfl))
  try simp only [Act.put, List.setIfInBounds_toArray, List.set_cons_zero, List.set_cons_succ]
  refine wpAnyH_take (i := 7) (oi := { dst := some 8, op := _, type := _, pos := _, after := _, guard := _ }) (v := ?_) rfl (by kernel_rfl) (by kernel_rfl) (by kernel_rfl) (fun _ _ _ h => h) (Or.inl ⟨by rfl, ?_⟩) (by assumption) ?_
  rotate_left
  · intro w hSw
    (try dsimp only at hSw)
    go_simp
    (try (with_reducible rfl))
  try simp only [Act.put, List.setIfInBounds_toArray, List.set_cons_zero, List.set_cons_succ]
  refine wpAnyH_done (by kernel_rfl) ?_ _
  have BV := hHeld.2.2.2.2.2.2.2.2.2.2.2.2.1
  have BB := hHeld.2.2.2.2.2.2.2.2.2.2.2.2.2.1
  have BS := hHeld.2.2.2.2.2.2.2.2.2.2.2.2.2.2.1
  have BR := hHeld.2.2.2.2.2.2.2.2.2.2.2.2.2.2.2.1
  have r1 := hHeld.2.2.2.2.2.2.2.2.2.2.2.2.2.2.2.2.1
  have r2 := hHeld.2.2.2.2.2.2.2.2.2.2.2.2.2.2.2.2.2.1
  have hb := hHeld.2.2.2.2.2.2.2.2.2.2.2.2.2.2.2.2.2.2
  clear hHeld
  have gl2 := R2.lt
  have gl1b := R1.lt
  have hne1 : ¬ g1 = g2 := by omega
  have hne2 : ¬ g2 = g1 := by omega
  have hng10a : ¬ g1 = w.heap.size := by omega
  have hng10b : ¬ w.heap.size = g1 := by omega
  have hng11a : ¬ g1 = w.heap.size + 1 := by omega
  have hng11b : ¬ w.heap.size + 1 = g1 := by omega
  have hng12a : ¬ g1 = w.heap.size + 1 + 1 := by omega
  have hng12b : ¬ w.heap.size + 1 + 1 = g1 := by omega
  have hng13a : ¬ g1 = w.heap.size + 1 + 1 + 1 := by omega
  have hng13b : ¬ w.heap.size + 1 + 1 + 1 = g1 := by omega
  have hng20a : ¬ g2 = w.heap.size := by omega
  have hng20b : ¬ w.heap.size = g2 := by omega
  have hng21a : ¬ g2 = w.heap.size + 1 := by omega
  have hng21b : ¬ w.heap.size + 1 = g2 := by omega
  have hng22a : ¬ g2 = w.heap.size + 1 + 1 := by omega
  have hng22b : ¬ w.heap.size + 1 + 1 = g2 := by omega
  have hng23a : ¬ g2 = w.heap.size + 1 + 1 + 1 := by omega
  have hng23b : ¬ w.heap.size + 1 + 1 + 1 = g2 := by omega
  have fr1 := fun i => R1.free i
  have fr2 := fun i => R2.free i
  obtain ⟨x0, x1, x2, x3, xf, xl⟩ := BV.four
  obtain ⟨s0, s1, s2, s3, sf, sl⟩ := BS.four
  obtain ⟨u0, u1, uf, ul⟩ := BR.two
  have cu := R1.cell f (by omega); rw [Hu.out] at cu
  go_wp2_with fail
  go_region
  go_wp2
  refine bodyPost_ret (v := .agg #[.slice (some ⟨g1, 0, none⟩) n1 k1, .slice (some ⟨g2, 0, none⟩) n2 k2]) (by first | (simp [results, Tryz.results83, go_sem, u0, u1]; done) | (simp [results, Tryz.results83, go_sem, *]; done)) rfl ?_
  exact ⟨some ⟨g1, 0, none⟩, some ⟨g2, 0, none⟩, k1, k2, by rw [HXl.out, HYl.out, show n1 = P + 1 by omega, show n2 = P + 1 by omega], .inr ⟨g1, g2, rfl, rfl, by omega, by omega, by simpa using gl1b, by omega, by simpa using gl2, (((R1.set f (u - 1)).other (by omega)).other (by omega)).drew.wf EX.out, (((R2.other (by omega)).other (by omega)).other (by omega)).drew.wf EY.out⟩, (((hb.setCell (by simp; omega) _).setCell (by simp; omega) _).setCell (by simp; omega) _).drew⟩
end Go.Proofs.YtknkbhmgdddjkaaGreat
namespace Go.Proofs.YtknkbhmgdddjkaaGreat
open Go.ChangeShapes Go.WideShapes Go.ChangeAt Go.RowKit
set_option linter.unusedVariables false
set_option linter.unusedSimpArgs false
set_option maxRecDepth 4000

theorem legB_form {P : Nat} {h s : Int} {xs ys : List Int} {a b d : Int} {q : Bool} (g : legB P h s xs ys (a, b, d, q) = true) : ∃ f : Nat, a = (f : Int) ∧ f ≤ P ∧ ((b = -1 ∧ q = false) ∨ ∃ t : Nat, b = (t : Int) ∧ t < P ∧ ¬ t = f) := by
  have hp := legB_places g
  unfold legB at g
  simp only [placesB, Bool.and_eq_true, decide_eq_true_eq] at g hp
  obtain ⟨g1, _, _, g2⟩ := g
  have g1' : 1 ≤ d ∧ d ≤ s := by simpa [inB] using g1
  obtain ⟨p1, p2, p3, p4⟩ := hp
  obtain ⟨f, rfl⟩ := Int.eq_ofNat_of_zero_le p1
  refine ⟨f, rfl, by omega, ?_⟩
  rw [show (f : Int).toNat = f by simp] at g2
  unfold stepI at g2
  split at g2
  · simp at g2
  · split at g2
    · simp only [Option.some.injEq, Prod.mk.injEq] at g2
      obtain ⟨_, g3, _, g4⟩ := g2
      by_cases hb : b = -1
      · left
        refine ⟨hb, ?_⟩
        rw [← g4, g3, hb]
        rfl
      · right
        obtain ⟨t, rfl⟩ := Int.eq_ofNat_of_zero_le (by omega : 0 ≤ b)
        refine ⟨t, rfl, by omega, ?_⟩
        unfold toI at g3
        split at g3
        · omega
        · omega
    · simp at g2
theorem l04Apply_any (P : Nat) (c h s : Int) (a1 a2 : Option Addr) (n1 n2 c1 c2 : Nat) (xs ys : List Int) (w : World) (h1 : xs.length = n1) (h2 : ys.length = n2) (p0 : 2 ≤ P) (p1 : P ≤ 24) (N1 : xs.length = P + 1) (N2 : ys.length = P + 1) (hh0 : 1 ≤ h) (hh : h ≤ (P : Int)) (hx : ∀ x ∈ xs, 0 ≤ x ∧ x ≤ 1000) (hy : ∀ y ∈ ys, 0 ≤ y ∧ y ≤ 1000) (r1 : IRow w a1 xs) (r2 : IRow w a2 ys) (t : Stp) (gl : legB P h s xs ys t = true) :
    Calls Tryz.prog 83 #[.agg #[.int .i64 (P : Int), .int .i64 c, .int .i64 h, .int .i64 s], .agg #[.slice a1 n1 c1, .slice a2 n2 c2], stV t] w (BoardGot (mvX xs t.1 t.2.1 1) (mvY P ys t.2.1 t.2.2.2 1) w) := by
  obtain ⟨a, b, d, q⟩ := t
  obtain ⟨f, rfl, fP, hc⟩ := legB_form gl
  dsimp only
  rcases hc with ⟨rfl, rfl⟩ | ⟨t, rfl, tP, hne⟩
  · exact l04Apply_off_false P c h s a1 a2 n1 n2 c1 c2 xs ys w h1 h2 p0 p1 N1 N2 hh0 hh hx hy r1 r2 f d fP
  · cases q with
    | true => exact l04Apply_far_true P c h s a1 a2 n1 n2 c1 c2 xs ys w h1 h2 p0 p1 N1 N2 hh0 hh hx hy r1 r2 f d fP t tP hne
    | false => exact l04Apply_far_false P c h s a1 a2 n1 n2 c1 c2 xs ys w h1 h2 p0 p1 N1 N2 hh0 hh hx hy r1 r2 f d fP t tP hne
end Go.Proofs.YtknkbhmgdddjkaaGreat
