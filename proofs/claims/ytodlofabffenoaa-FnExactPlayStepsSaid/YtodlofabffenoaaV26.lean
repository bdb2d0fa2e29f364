/- Texts of a proof, laid together. -/
import Derived.Test.YtodlofabffenoaaV04
import Derived.BigQuiet
import Derived.Deep.Slices
import Derived.Deep.Fields
import Derived.ChangeSame
import Derived.OpenShut
import Derived.Lib.SmallJoins
import Derived.Test.YtodlofabffenoaaV01
namespace Go.Proofs.Ytodlofabffenoaa
open Go.ChangeShapes Go.WideShapes Go.ChangeAt Go.RowKit
set_option linter.unusedVariables false
set_option linter.unusedSimpArgs false
set_option maxRecDepth 4000
set_option maxHeartbeats 1000000 in
theorem eqStep_same (s : Stp) (w : World) :
    Calls Try.prog 31 #[stV s, stV s] w fun e w' => e = .returned (.bool true) ∧ Below w.heap.size w w' := by
  obtain ⟨a, b, c, d⟩ := s
  have hb : Below w.heap.size w ((w.alloc (.cells #[.int .i64 a, .int .i64 b, .int .i64 c, .bool d] 56)).alloc (.cells #[.int .i64 a, .int .i64 b, .int .i64 c, .bool d] 56)) := ((Below.refl _ _).alloc (Nat.le_refl _) _).alloc (by simp) _
  go_enter Try.func31, Try.ntmps31
  go_wp2
  go_ret
  exact ⟨rfl, hb⟩
set_option maxHeartbeats 1000000 in
theorem toStep_any (s : Stp) (w : World) :
    Calls Try.prog 24 #[stV s] w fun e w' => e = .returned (stV s) ∧ Below w.heap.size w w' := by
  obtain ⟨a, b, c, d⟩ := s
  go_enter Try.func24, Try.ntmps24
  go_wp2
  refine bodyPost_ret (v := stV (a, b, c, d)) (by simp [results, Try.results24, go_sem]) rfl ⟨rfl, ?_⟩
  exact (((Below.refl _ _).alloc (Nat.le_refl _) _).alloc (by simp) _).alloc (by simp; omega) _
set_option maxRecDepth 8000 in
set_option maxHeartbeats 1000000 in
theorem eqStepS_same (lo hi lo2 hi2 : Nat) (a1 a2 : Option Addr) (n c1 c2 : Nat) (l : List Stp) (w : World) (hn : l.length = n) (hle : n ≤ 1048576) (h1 : OSt lo hi w a1 l) (h2 : OSt lo2 hi2 w a2 l) :
    Calls Try.prog 13 #[.slice a1 n c1, .slice a2 n c2] w fun e w' => e = .returned (.bool true) ∧ Below w.heap.size w w' := by
  subst hn
  go_enter Try.func13, Try.ntmps13
  go_wp2
  go_loopg [5] l.length (fun m i wr => ∃ k : Nat, k ≤ l.length ∧ m = l.length - k ∧ i = .int .i64 k ∧ Below w.heap.size w wr)
  case atStart => exact ⟨0, by omega, by omega, rfl, Below.refl _ _⟩
  case round =>
    obtain ⟨k, hk, hm, rfl, hbel⟩ := hrel
    by_cases hlt : k < l.length
    · have hlt' : (k : Int) < (l.length : Int) := by omega
      have hk0 : (0 : Int) ≤ (k : Int) := by omega
      have h1w := h1.below hbel
      have h2w := h2.below hbel
      obtain ⟨g1, rfl, R1⟩ := h1w.row hlt
      obtain ⟨g2, rfl, R2⟩ := h2w.row hlt
      obtain ⟨s, hs⟩ : ∃ s, l[k]? = some s := ⟨_, List.getElem?_eq_getElem hlt⟩
      obtain ⟨u0, u1, u2, u3⟩ := R1.four k s hs
      obtain ⟨v0, v1, v2, v3⟩ := R2.four k s hs
      clear h1w h2w hs h1 h2
      obtain ⟨a, b, c, d⟩ := s
      dsimp only at u0 u1 u2 u3 v0 v1 v2 v3
      go_wp2_with fail
      have hb := hbel
      refine wp_region_held_drew (S := fun w' => w'.cell? ⟨g1, k * 4, none⟩ = some (.int .i64 a) ∧ w'.cell? ⟨g1, k * 4 + 1, none⟩ = some (.int .i64 b) ∧ w'.cell? ⟨g1, k * 4 + 2, none⟩ = some (.int .i64 c) ∧ w'.cell? ⟨g1, k * 4 + 3, none⟩ = some (.bool d) ∧ w'.cell? ⟨g2, k * 4, none⟩ = some (.int .i64 a) ∧ w'.cell? ⟨g2, k * 4 + 1, none⟩ = some (.int .i64 b) ∧ w'.cell? ⟨g2, k * 4 + 2, none⟩ = some (.int .i64 c) ∧ w'.cell? ⟨g2, k * 4 + 3, none⟩ = some (.bool d) ∧ Below w.heap.size w w') (by kernel_rfl) ⟨u0, u1, u2, u3, v0, v1, v2, v3, hb.drew⟩ (fun hHeld => ?_)
      refine wpAnyH_take (i := 0) (oi := ⟨some 17, _, _, _, _, _⟩) (v := ?_) rfl (by kernel_rfl) (by kernel_rfl) (by kernel_rfl) (fun _ _ _ h => h) (Or.inl ⟨by rfl, ?_⟩) (by assumption) ?_
      rotate_left
      · intro w hSw; (try dsimp only at hSw); go_simp; (try (with_reducible rfl))
      try simp only [Act.put, List.setIfInBounds_toArray, List.set_cons_zero, List.set_cons_succ]
      refine wpAnyH_take (i := 1) (oi := ⟨some 18, _, _, _, _, _⟩) (v := ?_) rfl (by kernel_rfl) (by kernel_rfl) (by kernel_rfl) (fun _ _ _ h => h) (Or.inl ⟨by rfl, ?_⟩) (by assumption) ?_
      rotate_left
      · intro w hSw; (try dsimp only at hSw); go_simp; (try (with_reducible rfl))
      try simp only [Act.put, List.setIfInBounds_toArray, List.set_cons_zero, List.set_cons_succ]
      refine wpAnyH_take (i := 2) (oi := ⟨some 19, _, _, _, _, _⟩) (v := ?_) rfl (by kernel_rfl) (by kernel_rfl) (by kernel_rfl) (fun _ _ _ h => h) (Or.inl ⟨by rfl, ?_⟩) (by assumption) ?_
      rotate_left
      · intro w hSw; (try dsimp only at hSw); go_simp; (try (with_reducible rfl))
      try simp only [Act.put, List.setIfInBounds_toArray, List.set_cons_zero, List.set_cons_succ]
      refine wpAnyH_take (i := 3) (oi := ⟨some 20, _, _, _, _, _⟩) (v := ?_) rfl (by kernel_rfl) (by kernel_rfl) (by kernel_rfl) (fun _ _ _ h => h) (Or.inl ⟨by rfl, ?_⟩) (by assumption) ?_
      rotate_left
      · intro w hSw; (try dsimp only at hSw); go_simp; (try (with_reducible rfl))
      try simp only [Act.put, List.setIfInBounds_toArray, List.set_cons_zero, List.set_cons_succ]
      refine wpAnyH_take (i := 4) (oi := ⟨some 21, _, _, _, _, _⟩) (v := ?_) rfl (by kernel_rfl) (by kernel_rfl) (by kernel_rfl) (fun _ _ _ h => h) (Or.inl ⟨by rfl, ?_⟩) (by assumption) ?_
      rotate_left
      · intro w hSw; (try dsimp only at hSw); go_simp; (try (with_reducible rfl))
      try simp only [Act.put, List.setIfInBounds_toArray, List.set_cons_zero, List.set_cons_succ]
      refine wpAnyH_take (i := 5) (oi := ⟨some 22, _, _, _, _, _⟩) (v := ?_) rfl (by kernel_rfl) (by kernel_rfl) (by kernel_rfl) (fun _ _ _ h => h) (Or.inl ⟨by rfl, ?_⟩) (by assumption) ?_
      rotate_left
      · intro w hSw; (try dsimp only at hSw); go_simp; (try (with_reducible rfl))
      try simp only [Act.put, List.setIfInBounds_toArray, List.set_cons_zero, List.set_cons_succ]
      refine wpAnyH_take (i := 6) (oi := ⟨some 23, _, _, _, _, _⟩) (v := ?_) rfl (by kernel_rfl) (by kernel_rfl) (by kernel_rfl) (fun _ _ _ h => h) (Or.inl ⟨by rfl, ?_⟩) (by assumption) ?_
      rotate_left
      · intro w hSw; (try dsimp only at hSw); go_simp; (try (with_reducible rfl))
      try simp only [Act.put, List.setIfInBounds_toArray, List.set_cons_zero, List.set_cons_succ]
      refine wpAnyH_take (i := 7) (oi := ⟨some 24, _, _, _, _, _⟩) (v := ?_) rfl (by kernel_rfl) (by kernel_rfl) (by kernel_rfl) (fun _ _ _ h => h) (Or.inl ⟨by rfl, ?_⟩) (by assumption) ?_
      rotate_left
      · intro w hSw; (try dsimp only at hSw); go_simp; (try (with_reducible rfl))
      try simp only [Act.put, List.setIfInBounds_toArray, List.set_cons_zero, List.set_cons_succ]
      refine wpAnyH_ready (rs := [8]) (by kernel_rfl) (by simp) ?_
      refine AllReadyH.cons (o := ⟨some 25, _, _, _, _, _⟩) rfl (fun K hK => ?_) AllReadyH.nil
      go_simp
      refine (eqStep_same (a, b, c, d) _).mono ?_
      rintro e w5 ⟨rfl, hb5⟩
      have hbn := chain hHeld.2.2.2.2.2.2.2.2 hb5
      (try go_wp2_with fail)
      refine hK.out _ _ ⟨(CellIs.below hHeld.1 hb5), (CellIs.below hHeld.2.1 hb5), (CellIs.below hHeld.2.2.1 hb5), (CellIs.below hHeld.2.2.2.1 hb5), (CellIs.below hHeld.2.2.2.2.1 hb5), (CellIs.below hHeld.2.2.2.2.2.1 hb5), (CellIs.below hHeld.2.2.2.2.2.2.1 hb5), (CellIs.below hHeld.2.2.2.2.2.2.2.1 hb5), hbn⟩ (fun hHeld => ?_)
      clear hK K
      try simp only [Act.put, List.setIfInBounds_toArray, List.set_cons_zero, List.set_cons_succ]
      refine wpAnyH_take (i := 9) (oi := ⟨some 26, _, _, _, _, _⟩) (v := ?_) rfl (by kernel_rfl) (by kernel_rfl) (by kernel_rfl) (fun _ _ _ h => h) (Or.inl ⟨by rfl, ?_⟩) (by assumption) ?_
      rotate_left
      · intro w hSw; (try dsimp only at hSw); go_simp; (try (with_reducible rfl))
      try simp only [Act.put, List.setIfInBounds_toArray, List.set_cons_zero, List.set_cons_succ]
      refine wpAnyH_done (by kernel_rfl) ?_ _
      go_wp2
      go_roundg (l.length - (k + 1))
      case measure => omega
      case rel => exact ⟨k + 1, by omega, rfl, by go_num, hHeld.2.2.2.2.2.2.2.2⟩
    · obtain rfl : k = l.length := by omega
      go_wp2
      go_ret
      exact ⟨rfl, hbel⟩
def mkS (k : Int) (n : Nat) : List Stp := (List.range n).map fun (j : Nat) => (k + 4 * (j : Int), k + 4 * (j : Int) + 1, k + 4 * (j : Int) + 1 + 1, (k + 4 * (j : Int) + 1 + 1 + 1) % 3 == 0)
theorem mkS_length (k : Int) (n : Nat) : (mkS k n).length = n := by simp [mkS]
theorem mkS_succ (k : Int) (n : Nat) : mkS k (n + 1) = mkS k n ++ [(k + 4 * (n : Int), k + 4 * (n : Int) + 1, k + 4 * (n : Int) + 1 + 1, (k + 4 * (n : Int) + 1 + 1 + 1) % 3 == 0)] := by simp [mkS, List.range_succ]
theorem set4_app (A B : List Value) (v0 v1 v2 v3 x0 x1 x2 x3 : Value) (n : Nat) (hn : A.length = n) :
    (((((A ++ v0 :: v1 :: v2 :: v3 :: B).set n x0).set (n + 1) x1).set (n + 2) x2).set (n + 3) x3) = A ++ x0 :: x1 :: x2 :: x3 :: B := by
  subst hn
  simp [List.set_append, Nat.add_sub_cancel_left]
theorem stepsC_drop : ∀ (l : List Stp) (j : Nat) (s : Stp), l[j]? = some s → (stepsC l).drop (j * 4) = .int .i64 s.1 :: .int .i64 s.2.1 :: .int .i64 s.2.2.1 :: .bool s.2.2.2 :: (stepsC l).drop ((j + 1) * 4)
  | [], j, s, h => by simp at h
  | x :: l, 0, s, h => by
    simp at h
    subst h
    simp [stepsC, stC]
  | x :: l, j + 1, s, h => by
    have ih := stepsC_drop l j s (by simpa using h)
    have e1 : (j + 1) * 4 = j * 4 + 4 := by omega
    have e2 : (j + 1 + 1) * 4 = (j + 1) * 4 + 4 := by omega
    rw [e1, e2]
    exact ih
set_option maxRecDepth 8000 in
set_option maxHeartbeats 2000000 in
theorem markStepS_any (g : Nat) (n cap : Nat) (l : List Stp) (k : Int) (w : World) (hn : l.length = n) (hle : n ≤ 1048576) (hk0 : 0 ≤ k) (hk1 : k ≤ 1000000000) (hR : SRow w g l) :
    Calls Try.prog 15 #[.slice (some ⟨g, 0, none⟩) n cap, .int .i64 k] w fun e w' => e = .returned (.int .i64 (k + 4 * (n : Int))) ∧ SRow w' g (mkS k n) ∧ w.grownBy w' (some g) := by
  subst hn
  go_enter Try.func15, Try.ntmps15
  go_wp2
  go_loopg [1, 5] l.length (fun m q i wr => ∃ j : Nat, j ≤ l.length ∧ m = l.length - j ∧ i = .int .i64 j ∧ q = .int .i64 (k + 4 * (j : Int)) ∧ VRow wr g (stepsC (mkS k j) ++ (stepsC l).drop (j * 4)) 56 ∧ w.grownBy wr (some g))
  case atStart => exact ⟨0, by omega, by omega, rfl, by simp, by simpa [mkS, stepsC] using hR, grown_refl _ _⟩
  case round =>
    obtain ⟨j, hj, hm, rfl, rfl, hr, hG⟩ := hrel
    by_cases hlt : j < l.length
    · have hlt' : (j : Int) < (l.length : Int) := by omega
      obtain ⟨s, hs⟩ : ∃ s, l[j]? = some s := ⟨_, List.getElem?_eq_getElem hlt⟩
      have hA : (stepsC (mkS k j)).length = j * 4 := by rw [stepsC_length, mkS_length]
      rw [stepsC_drop l j s hs] at hr
      have f0 := fun i => hr.free i
      have c0 := hr.cell (j * 4) (.int .i64 s.1) (by rw [List.getElem?_append_right (by omega), hA]; simp)
      have c1 := hr.cell (j * 4 + 1) (.int .i64 s.2.1) (by rw [List.getElem?_append_right (by omega), hA]; simp)
      have c2 := hr.cell (j * 4 + 2) (.int .i64 s.2.2.1) (by rw [List.getElem?_append_right (by omega), hA]; simp)
      have c3 := hr.cell (j * 4 + 3) (.bool s.2.2.2) (by rw [List.getElem?_append_right (by omega), hA]; simp)
      have hR2 := ((((hr.set (j * 4) (.int .i64 (k + 4 * (j : Int)))).set (j * 4 + 1) (.int .i64 (k + 4 * (j : Int) + 1))).set (j * 4 + 2) (.int .i64 (k + 4 * (j : Int) + 1 + 1))).set (j * 4 + 3) (.bool ((k + 4 * (j : Int) + 1 + 1 + 1) % 3 == 0))).wf (set4_app _ _ _ _ _ _ _ _ _ _ _ hA)
      have hR3 := Lib.hid (hR2.wf (show _ = stepsC (mkS k (j + 1)) ++ (stepsC l).drop ((j + 1) * 4) by rw [mkS_succ, stepsC_append]; simp [stepsC, stC]))
      have hG3 := Lib.hid (grown_set (v := .bool ((k + 4 * (j : Int) + 1 + 1 + 1) % 3 == 0)) (o := j * 4 + 3) (grown_set (v := .int .i64 (k + 4 * (j : Int) + 1 + 1)) (o := j * 4 + 2) (grown_set (v := .int .i64 (k + 4 * (j : Int) + 1)) (o := j * 4 + 1) (grown_set (v := .int .i64 (k + 4 * (j : Int))) (o := j * 4) hG))))
      clear hR2 hr hs hA
      go_wp2
      go_roundg (l.length - (j + 1))
      case measure => omega
      case rel =>
        exact ⟨j + 1, by omega, rfl, by go_num, by go_num, hR3.out, hG3.out⟩
    · obtain rfl : j = l.length := by omega
      have hfin := Lib.hid hr
      clear hr
      go_wp2
      go_ret
      refine ⟨rfl, hfin.out.wf ?_, hG⟩
      rw [List.drop_eq_nil_of_le (by rw [stepsC_length]; omega), List.append_nil]
set_option maxHeartbeats 1000000 in
theorem markStepS_nil (cap : Nat) (k : Int) (w : World) :
    Calls Try.prog 15 #[.slice none 0 cap, .int .i64 k] w fun e w' => e = .returned (.int .i64 k) ∧ w = w' := by
  go_enter Try.func15, Try.ntmps15
  go_wp2
  refine wp_loop_rounds 1 ?_
  rw [rounds_succ]
  go_wp2
  go_ret
  exact ⟨rfl, rfl⟩
theorem markSt_own (lo hi : Nat) (a : Option Addr) (n cap : Nat) (l : List Stp) (k : Int) (w : World) (hn : l.length = n) (hle : n ≤ 1048576) (k0 : 0 ≤ k) (k1 : k ≤ 1000000000) (h : OSt lo hi w a l) :
    Calls Try.prog 15 #[.slice a n cap, .int .i64 k] w fun e w' => e = .returned (.int .i64 (k + 4 * (n : Int))) ∧ OSt lo hi w' a (mkS k n) ∧ Same lo hi w w' := by
  rcases h with ⟨rfl, rfl⟩ | ⟨g, rfl, h1, h2, r⟩
  · obtain rfl : 0 = n := hn
    refine (markStepS_nil cap k w).mono ?_
    rintro e w' ⟨rfl, rfl⟩
    exact ⟨by simp, .inl ⟨rfl, rfl⟩, rfl, rfl, rfl, Nat.le_refl _, fun i hi _ => rfl⟩
  · refine (markStepS_any g n cap l k w hn hle k0 k1 r).mono ?_
    rintro e w' ⟨rfl, q, hg⟩
    exact ⟨rfl, .inr ⟨g, rfl, h1, h2, q⟩, hg.os, hg.tape, hg.output, hg.size, fun i hi ho => hg.block i hi (fun e => by cases e; omega)⟩
def SIn (w : World) (a : Option Addr) (l : List Stp) : Prop :=
  ∀ (i : Nat) (s : Stp), l[i]? = some s → ∃ b o, a = some ⟨b, o, none⟩ ∧ w.cell? ⟨b, o + i * 4, none⟩ = some (.int .i64 s.1) ∧ w.cell? ⟨b, o + i * 4 + 1, none⟩ = some (.int .i64 s.2.1) ∧ w.cell? ⟨b, o + i * 4 + 2, none⟩ = some (.int .i64 s.2.2.1) ∧ w.cell? ⟨b, o + i * 4 + 3, none⟩ = some (.bool s.2.2.2)
theorem SIn.below {w w' : World} {a : Option Addr} {l : List Stp} (h : SIn w a l) (hb : Below w.heap.size w w') : SIn w' a l := fun i s hs => by
  obtain ⟨b, o, e, c0, c1, c2, c3⟩ := h i s hs
  have hl := World.block_lt_of_cell? w _ c0
  exact ⟨b, o, e, by rw [hb.cell (p := ⟨b, o + i * 4, none⟩) hl]; exact c0, by rw [hb.cell (p := ⟨b, o + i * 4 + 1, none⟩) hl]; exact c1, by rw [hb.cell (p := ⟨b, o + i * 4 + 2, none⟩) hl]; exact c2, by rw [hb.cell (p := ⟨b, o + i * 4 + 3, none⟩) hl]; exact c3⟩
theorem SIn.drew {w : World} {a : Option Addr} {l : List Stp} (h : SIn w a l) : SIn w.drew a l := h
theorem addr_add {b o k : Nat} : (⟨b, o, none⟩ : Addr).add k = ⟨b, o + k, none⟩ := by unfold Addr.add; split <;> simp_all
theorem open_stepAt {H : Type} {enc : TypeId × Value → H} {w : World} {base : Nat} {spare : Nat → Bool} {held : Bool} {fuel : Nat} {cs : List Value} {x : DataW H × List MemPlace}
    (hl : cs.length = 4) (h : DataW.trod enc Try.prog w base spare held fuel 58 cs = some x) : ∃ s : Stp, cs = [.int .i64 s.1, .int .i64 s.2.1, .int .i64 s.2.2.1, .bool s.2.2.2] := by
  match cs, hl with
  | [v0, v1, v2, v3], _ =>
    obtain ⟨ys, n, -, -, -, hyl, hf⟩ := DataW.trod_struct Try.underlying58 h
    have hy4 : ys.length = 4 := hyl
    have part : ∀ (j : Nat) (y : DataW H × List MemPlace) (t : TypeId) (v : Value) (r : Option (DataW H × List MemPlace)), DataW.trod enc Try.prog w base spare held n t [v] = r → r = some y → DataW.trod enc Try.prog w base spare held n t [v] = some y := fun _ _ _ _ _ e1 e2 => e1.trans e2
    match ys, hy4 with
    | [y0, y1, y2, y3], _ =>
      have k1 : Try.prog.cellsOf 2 = 1 := by kernel_rfl
      have k2 : Try.prog.cellsOf 4 = 1 := by kernel_rfl
      have g0 := hf 0 _ rfl
      have g1 := hf 1 _ rfl
      have g2 := hf 2 _ rfl
      have g3 := hf 3 _ rfl
      simp [k1, k2] at g0 g1 g2 g3
      obtain ⟨a0, e0, -⟩ := DataW.trod_int Try.underlying2 g0
      obtain ⟨a1, e1, -⟩ := DataW.trod_int Try.underlying2 g1
      obtain ⟨a2, e2, -⟩ := DataW.trod_int Try.underlying2 g2
      obtain ⟨a3, e3, -⟩ := DataW.trod_bool Try.underlying4 g3
      simp at e0 e1 e2 e3
      subst e0 e1 e2 e3
      exact ⟨(a0, a1, a2, a3), rfl⟩
theorem open_steps {H : Type} {enc : TypeId × Value → H} {w : World} {base : Nat} {spare : Nat → Bool} {held : Bool} {fuel : Nat} {v : Value} {x : DataW H × List MemPlace}
    (h : DataW.trod enc Try.prog w base spare held fuel 29 [v] = some x) :
    ∃ (a : Option Addr) (n cap : Nat) (l : List Stp), v = .slice a n cap ∧ l.length = n ∧ n ≤ 9223372036854775807 ∧ SIn w a l := by
  rcases Go.Deep.open_slice Try.underlying29 h with ⟨hcs, -⟩ | ⟨a, len, cap, m, n, D, Pl, hcs, -, hl, hm, hmm, -, hi⟩
  · simp at hcs
    exact ⟨none, 0, 0, [], hcs, rfl, by omega, fun i s hs => by simp at hs⟩
  · simp at hcs
    have hle : len ≤ m := by rw [hmm]; split <;> omega
    have k4 : Try.prog.cellsOf 58 = 4 := by kernel_rfl
    rw [k4] at hi
    have hel : ∀ i : Nat, ∃ s : Stp, i < len → w.cell? (a.add (i * 4)) = some (.int .i64 s.1) ∧ w.cell? ((a.add (i * 4)).add 1) = some (.int .i64 s.2.1) ∧ w.cell? ((a.add (i * 4)).add 2) = some (.int .i64 s.2.2.1) ∧ w.cell? ((a.add (i * 4)).add 3) = some (.bool s.2.2.2) := by
      intro i
      by_cases hlt : i < len
      · obtain ⟨cs, hc, ht⟩ := hi i (by omega)
        obtain ⟨-, hcl, hat⟩ := World.cells?_some hc
        obtain ⟨s, rfl⟩ := open_stepAt hcl ht
        refine ⟨s, fun _ => ⟨?_, hat 1 (by omega), hat 2 (by omega), hat 3 (by omega)⟩⟩
        have h0 := hat 0 (by omega)
        rw [show (a.add (i * 4)).add 0 = a.add (i * 4) from by unfold Addr.add; split <;> simp_all] at h0
        exact h0
      · exact ⟨(0, 0, 0, false), fun q => absurd q hlt⟩
    obtain ⟨f, hf⟩ := Classical.axiomOfChoice hel
    refine ⟨some a, len, cap, (List.range len).map f, hcs, by simp, by unfold maxLen at hm; omega, fun i s hs => ?_⟩
    rw [List.getElem?_map, Option.map_eq_some_iff] at hs
    obtain ⟨k, hk, rfl⟩ := hs
    obtain ⟨hk1, hk2⟩ := List.getElem?_eq_some_iff.1 hk
    simp at hk1 hk2
    subst hk2
    obtain ⟨c0, c1, c2, c3⟩ := hf i hk1
    obtain ⟨b, o, spot⟩ := a
    have hspot : spot = none := by
      have := World.cell?_spot (hf 0 (by omega)).1
      simpa [Addr.add] using this
    subst hspot
    rw [addr_add] at c0
    rw [addr_add, addr_add] at c1 c2 c3
    exact ⟨b, o, rfl, c0, c1, c2, c3⟩
theorem szStepS_any (a : Option Addr) (n cap : Nat) (left : Int) (w : World) (h0 : 0 ≤ left) (h1 : left ≤ 1000000000) (hn : n ≤ 9223372036854775807) :
    Calls Try.prog 5 #[.slice a n cap, .int .i64 left] w fun e w' => e = .returned (.int .i64 (if left - n < 0 then -1 else left - n)) ∧ w = w' := by
  by_cases h : left - n < 0
  · rw [if_pos h]
    go_enter Try.func5, Try.ntmps5
    go_wp2
    go_ret
    exact ⟨rfl, rfl⟩
  · rw [if_neg h]
    go_enter Try.func5, Try.ntmps5
    go_wp2
    go_ret
    exact ⟨rfl, rfl⟩
theorem stepsC_zeros : ∀ n : Nat, stepsC (List.replicate n ((0, 0, 0, false) : Stp)) = (List.replicate n [Value.int .i64 0, .int .i64 0, .int .i64 0, .bool false]).flatten
  | 0 => rfl
  | n + 1 => by rw [List.replicate_succ, stepsC, stepsC_zeros n, List.replicate_succ, List.flatten_cons]; rfl
theorem flat_at : ∀ (n i : Nat), i < n * 4 → ((List.replicate n [Value.int .i64 0, .int .i64 0, .int .i64 0, .bool false]).flatten)[i]? = some (#[Value.int .i64 0, .int .i64 0, .int .i64 0, .bool false][i % 4]!)
  | 0, i, h => by omega
  | n + 1, i, h => by
    rw [List.replicate_succ, List.flatten_cons]
    by_cases hi : i < 4
    · rw [List.getElem?_append_left (by simpa using hi), Nat.mod_eq_of_lt hi]
      have h4 : i = 0 ∨ i = 1 ∨ i = 2 ∨ i = 3 := by omega
      rcases h4 with rfl | rfl | rfl | rfl <;> rfl
    · rw [List.getElem?_append_right (by simp; omega), show [Value.int .i64 0, .int .i64 0, .int .i64 0, .bool false].length = 4 from rfl, flat_at n (i - 4) (by omega), show i % 4 = (i - 4) % 4 by omega]
theorem made_steps (n : Nat) : (madeCells #[.int .i64 0, .int .i64 0, .int .i64 0, .bool false] (n * 4)).toList = stepsC (List.replicate n ((0, 0, 0, false) : Stp)) := by
  rw [stepsC_zeros]
  apply List.ext_getElem?
  intro i
  by_cases h : i < n * 4
  · rw [flat_at n i h]
    have hz : i < (madeCells #[.int .i64 0, .int .i64 0, .int .i64 0, .bool false] (n * 4)).toList.length := by simp [madeCells]; omega
    rw [List.getElem?_eq_getElem hz]
    simp [madeCells]
  · rw [List.getElem?_eq_none (by simp [madeCells]; omega), List.getElem?_eq_none (by rw [← stepsC_zeros, stepsC_length, List.length_replicate]; omega)]
theorem stepsC_set : ∀ (l : List Stp) (k : Nat) (s : Stp), k < l.length → stepsC (l.set k s) = ((((stepsC l).set (k * 4) (.int .i64 s.1)).set (k * 4 + 1) (.int .i64 s.2.1)).set (k * 4 + 2) (.int .i64 s.2.2.1)).set (k * 4 + 3) (.bool s.2.2.2)
  | [], k, s, h => by simp at h
  | x :: l, 0, s, h => by simp [stepsC, stC]
  | x :: l, k + 1, s, h => by
    rw [List.set_cons_succ, stepsC, stepsC_set l k s (by simpa using h), show (k + 1) * 4 = k * 4 + 4 by omega]
    simp [stepsC, stC]
theorem copyS_step (l : List Stp) (k : Nat) (s : Stp) (hs : l[k]? = some s) : (l.take k ++ List.replicate (l.length - k) ((0, 0, 0, false) : Stp)).set k s = l.take (k + 1) ++ List.replicate (l.length - (k + 1)) (0, 0, 0, false) := by
  obtain ⟨hk, he⟩ := List.getElem?_eq_some_iff.1 hs
  have hlen : (l.take k).length = k := by simp; omega
  obtain ⟨m, hm⟩ : ∃ m, l.length - k = m + 1 := ⟨l.length - k - 1, by omega⟩
  rw [hm, List.replicate_succ, List.set_append_right _ _ (by omega), hlen, Nat.sub_self, List.set_cons_zero, List.take_succ_eq_append_getElem hk, he, show l.length - (k + 1) = m by omega, List.append_assoc]
  rfl
set_option maxRecDepth 8000 in
set_option maxHeartbeats 1000000 in
theorem toStepS_any (a : Option Addr) (n cap : Nat) (l : List Stp) (w : World) (hn : l.length = n) (hle : n ≤ 1048576) (hr : SIn w a l) :
    Calls Try.prog 10 #[.slice a n cap] w fun e w' => ∃ g, e = .returned (.slice (some ⟨g, 0, none⟩) l.length l.length) ∧ w.heap.size ≤ g ∧ g < w'.heap.size ∧ SRow w' g l ∧ Below w.heap.size w w' := by
  obtain ⟨i0, hi, hz0, hz1, hz2⟩ := info_parts infoStp
  subst hn
  go_enter Try.func10, Try.ntmps10
  go_wp2_with (at_make; refine wpList_make_full _ rfl _ _ 40 rfl w.heap.size 56 i0 (.agg #[.int .i64 0, .int .i64 0, .int .i64 0, .bool false]) 4 Try.underlying40 hi hz0 hz1 .i64 .i64 (l.length : Int) (l.length : Int) l.length rfl rfl rfl rfl (by rw [hz2]; omega) (by unfold maxLen; omega) (Nat.le_refl _) ?_; intro w2 hO hg)
  have hO2 : OwnT w2 w.heap.size (.slice (some ⟨w.heap.size, 0, none⟩) l.length l.length) (List.replicate l.length (0, 0, 0, false)) := by
    have := made_steps l.length
    show w2.ownsRow _ _ _ _ _ _
    rw [List.length_replicate, ← this]
    exact hO
  have hb2 : Below w.heap.size w w2 := ⟨hg.os, hg.tape, hg.output, hg.size, fun k hk => hg.block k hk (by simp)⟩
  rcases hO2.ost with ⟨hno, -⟩ | ⟨g, hge, hg1, hg2, RR⟩
  · simp at hno
  simp at hge
  subst hge
  clear hg hO hO2
  go_loopg [4] l.length (fun m q4 wr => ∃ k : Nat, k ≤ l.length ∧ m = l.length - k ∧ q4 = .int .i64 (k : Int) ∧ SRow wr w.heap.size (l.take k ++ List.replicate (l.length - k) (0, 0, 0, false)) ∧ Below w.heap.size w wr)
  case atStart => exact ⟨0, by omega, by omega, rfl, by simpa using RR, hb2⟩
  case round =>
    clear RR hb2
    obtain ⟨k, hk, hm, rfl, RR, hb⟩ := hrel
    by_cases hlt : k < l.length
    · have hlt' : (k : Int) < (l.length : Int) := by omega
      have hk0 : (0 : Int) ≤ (k : Int) := by omega
      obtain ⟨s, hs⟩ : ∃ s, l[k]? = some s := ⟨_, List.getElem?_eq_getElem hlt⟩
      obtain ⟨b, o, rfl, c0, c1, c2, c3⟩ := (hr.below hb) k s hs
      have hst := copyS_step l k s hs
      have hlen : (l.take k ++ List.replicate (l.length - k) ((0, 0, 0, false) : Stp)).length = l.length := by simp; omega
      have hset := stepsC_set (l.take k ++ List.replicate (l.length - k) ((0, 0, 0, false) : Stp)) k s (by omega)
      obtain ⟨s', hs'⟩ : ∃ z, (l.take k ++ List.replicate (l.length - k) ((0, 0, 0, false) : Stp))[k]? = some z := ⟨_, List.getElem?_eq_getElem (by omega)⟩
      obtain ⟨ta, tb, td, tq⟩ := s
      dsimp only at c0 c1 c2 c3 hset
      have hts := fun W => toStep_any (ta, tb, td, tq) W
      have HTS := Lib.hid hts
      clear hts hr hs
      go_wp2_with fail
      refine (HTS.out _).mono ?_
      rintro e w3 ⟨rfl, hq⟩
      replace RR := RR.below hq
      replace hb := chain hb hq
      have hRl := RR.lt
      obtain ⟨d0, d1, d2, d3⟩ := SRow.four RR k s' hs'
      have f0 := fun j => VRow.free RR j
      have R2 := Lib.hid (((((VRow.set RR (k * 4) (.int .i64 ta)).set (k * 4 + 1) (.int .i64 tb)).set (k * 4 + 2) (.int .i64 td)).set (k * 4 + 3) (.bool tq)).wf (hset.symm.trans (congrArg stepsC hst)))
      have hbn := Lib.hid ((((hb.setCell (p := ⟨w.heap.size, k * 4, none⟩) (Nat.le_refl _) (.int .i64 ta)).setCell (p := ⟨w.heap.size, k * 4 + 1, none⟩) (Nat.le_refl _) (.int .i64 tb)).setCell (p := ⟨w.heap.size, k * 4 + 2, none⟩) (Nat.le_refl _) (.int .i64 td)).setCell (p := ⟨w.heap.size, k * 4 + 3, none⟩) (Nat.le_refl _) (.bool tq))
      clear RR hb hq hst hset hs' hlen c0 c1 c2 c3
      go_wp2
      go_roundg (l.length - (k + 1))
      case measure => omega
      case rel => exact ⟨k + 1, by omega, rfl, by go_num, R2.out, hbn.out⟩
    · obtain rfl : k = l.length := by omega
      have hRl := RR.lt
      have RR2 := RR.wf (show _ = stepsC l by rw [Nat.sub_self, List.replicate_zero, List.append_nil, List.take_of_length_le (Nat.le_refl _)])
      clear RR
      go_wp2
      go_ret
      exact ⟨w.heap.size, rfl, Nat.le_refl _, hRl, RR2, hb⟩
end Go.Proofs.Ytodlofabffenoaa
namespace Go.Proofs.Ytodlofabffenoaa
open Go.ChangeShapes Go.WideShapes Go.ChangeAt Go.RowKit
set_option linter.unusedVariables false
set_option linter.unusedSimpArgs false
theorem open_row {H : Type} {enc : TypeId × Value → H} {w : World} {base : Nat} {spare : Nat → Bool} {held : Bool} {fuel : Nat} {v : Value} {x : DataW H × List MemPlace}
    (h : DataW.trod enc Try.prog w base spare held fuel 24 [v] = some x) :
    ∃ (a : Option Addr) (n cap : Nat) (xs : List Int), v = .slice a n cap ∧ xs.length = n ∧ n ≤ 9223372036854775807 ∧ IRow w a xs ∧ ∀ y ∈ xs, (Lit.int .i64 y).wf = true := by
  rcases open_ints Try.underlying24 Try.underlying2 (by kernel_rfl) h with ⟨hcs, _⟩ | ⟨x, l, c, zs, hcs, _, hl, hm, hz, _, hcell, hwz⟩
  · simp at hcs
    exact ⟨none, 0, 0, [], hcs, rfl, by omega, IRow.nil _ _, by simp⟩
  · simp at hcs
    have hlz : l ≤ zs.length := by rw [hz]; split <;> omega
    refine ⟨some x, l, c, zs.take l, hcs, by simp; omega, by unfold maxLen at hm; omega, ?_, fun y hy => hwz y (List.mem_of_mem_take hy)⟩
    intro i hi
    have hi2 : i < l := by simp at hi; omega
    have hc := hcell i (by omega)
    obtain ⟨b, o, spot⟩ := x
    have hspot : spot = none := by
      have hc0 := hcell 0 (by omega)
      simpa [Addr.add] using World.cell?_spot hc0
    subst hspot
    refine ⟨b, o, rfl, ?_⟩
    rw [show (⟨b, o, none⟩ : Addr).add i = ⟨b, o + i, none⟩ from by unfold Addr.add; split <;> simp_all] at hc
    rw [hc]
    simp [List.getD, hi2]
end Go.Proofs.Ytodlofabffenoaa
