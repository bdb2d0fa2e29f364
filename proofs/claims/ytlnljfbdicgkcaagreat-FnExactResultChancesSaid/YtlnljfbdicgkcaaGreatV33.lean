/- Texts of a proof, laid together. -/
import Derived.Test.YtlnljfbdicgkcaaGreatV32
import Derived.Test.YtlnljfbdicgkcaaGreatV27
import Derived.Test.YtlnljfbdicgkcaaGreatV09
import Derived.Deep.Slices
import Derived.Deep.Fields
import Derived.ChangeSame
import Derived.OpenShut
import Derived.Lib.SmallJoins
import Derived.Test.YtlnljfbdicgkcaaGreatV04
import Derived.BigQuiet
import Derived.Test.YtlnljfbdicgkcaaGreatV06
import Derived.Laws.AppendOwn
import Derived.Deep.LoopGhost
namespace Go.Proofs.YtlnljfbdicgkcaaGreat
open Go.ChangeShapes Go.WideShapes Go.ChangeAt Go.RowKit
set_option linter.unusedVariables false
set_option linter.unusedSimpArgs false
set_option maxRecDepth 4000
def XIn (w : World) (a : Option Addr) (l : List Rl) : Prop :=
  ∀ (i : Nat) (s : Rl), l[i]? = some s → ∃ b o, a = some ⟨b, o, none⟩ ∧ w.cell? ⟨b, o + i * 2, none⟩ = some (.int .i64 s.1) ∧ w.cell? ⟨b, o + i * 2 + 1, none⟩ = some (.int .i64 s.2)
theorem XIn.below {w w' : World} {a : Option Addr} {l : List Rl} (h : XIn w a l) (hb : Below w.heap.size w w') : XIn w' a l := fun i s hs => by
  obtain ⟨b, o, e, c0, c1⟩ := h i s hs
  have hl := World.block_lt_of_cell? w _ c0
  exact ⟨b, o, e, by rw [hb.cell (p := ⟨b, o + i * 2, none⟩) hl]; exact c0, by rw [hb.cell (p := ⟨b, o + i * 2 + 1, none⟩) hl]; exact c1⟩
theorem infoEx : (Tryz.prog.info? 35).map (fun i => (i.zero, i.size, i.bytes)) = some (some (.agg #[.int .i64 0, .int .i64 0]), 2, 16) := by kernel_rfl
theorem rlsC_zeros : ∀ n : Nat, rlsC (List.replicate n ((0, 0) : Rl)) = (List.replicate n [Value.int .i64 0, .int .i64 0]).flatten
  | 0 => rfl
  | n + 1 => by rw [List.replicate_succ, rlsC, rlsC_zeros n, List.replicate_succ, List.flatten_cons]; rfl
theorem flat_at2 : ∀ (n i : Nat), i < n * 2 → ((List.replicate n [Value.int .i64 0, .int .i64 0]).flatten)[i]? = some (#[Value.int .i64 0, .int .i64 0][i % 2]!)
  | 0, i, h => by omega
  | n + 1, i, h => by
    rw [List.replicate_succ, List.flatten_cons]
    by_cases hi : i < 2
    · rw [List.getElem?_append_left (by simpa using hi), Nat.mod_eq_of_lt hi]
      have h4 : i = 0 ∨ i = 1 := by omega
      rcases h4 with rfl | rfl <;> rfl
    · rw [List.getElem?_append_right (by simp; omega), show [Value.int .i64 0, .int .i64 0].length = 2 from rfl, flat_at2 n (i - 2) (by omega), show i % 2 = (i - 2) % 2 by omega]
theorem made_exs (n : Nat) : (madeCells #[.int .i64 0, .int .i64 0] (n * 2)).toList = rlsC (List.replicate n ((0, 0) : Rl)) := by
  rw [rlsC_zeros]
  apply List.ext_getElem?
  intro i
  by_cases h : i < n * 2
  · rw [flat_at2 n i h]
    have hz : i < (madeCells #[.int .i64 0, .int .i64 0] (n * 2)).toList.length := by simp [madeCells]; omega
    rw [List.getElem?_eq_getElem hz]
    simp [madeCells]
  · rw [List.getElem?_eq_none (by simp [madeCells]; omega), List.getElem?_eq_none (by rw [← rlsC_zeros, rlsC_length, List.length_replicate]; omega)]
theorem rlsC_set2 : ∀ (l : List Rl) (k : Nat) (s : Rl), k < l.length → rlsC (l.set k s) = ((rlsC l).set (k * 2) (.int .i64 s.1)).set (k * 2 + 1) (.int .i64 s.2)
  | [], k, s, h => by simp at h
  | x :: l, 0, s, h => by simp [rlsC, rlC]
  | x :: l, k + 1, s, h => by
    rw [List.set_cons_succ, rlsC, rlsC_set2 l k s (by simpa using h), show (k + 1) * 2 = k * 2 + 2 by omega]
    simp [rlsC, rlC]
theorem copyX_step (l : List Rl) (k : Nat) (s : Rl) (hs : l[k]? = some s) : (l.take k ++ List.replicate (l.length - k) ((0, 0) : Rl)).set k s = l.take (k + 1) ++ List.replicate (l.length - (k + 1)) (0, 0) := by
  obtain ⟨hk, he⟩ := List.getElem?_eq_some_iff.1 hs
  have hlen : (l.take k).length = k := by simp; omega
  obtain ⟨m, hm⟩ : ∃ m, l.length - k = m + 1 := ⟨l.length - k - 1, by omega⟩
  rw [hm, List.replicate_succ, List.set_append_right _ _ (by omega), hlen, Nat.sub_self, List.set_cons_zero, List.take_succ_eq_append_getElem hk, he, show l.length - (k + 1) = m by omega, List.append_assoc]
  rfl
end Go.Proofs.YtlnljfbdicgkcaaGreat
namespace Go.Proofs.YtlnljfbdicgkcaaGreat
open Go.ChangeShapes Go.WideShapes Go.ChangeAt Go.RowKit
set_option linter.unusedVariables false
set_option linter.unusedSimpArgs false
set_option maxRecDepth 4000
def OXl (lo hi : Nat) (w : World) (a : Option Addr) (l : List Rl) : Prop := (a = none ∧ l = []) ∨ ∃ g, a = some ⟨g, 0, none⟩ ∧ lo ≤ g ∧ g < hi ∧ XRow w g l
theorem OXl.below {lo hi : Nat} {w w' : World} {a : Option Addr} {l : List Rl} (h : OXl lo hi w a l) (hb : Below w.heap.size w w') : OXl lo hi w' a l := by
  rcases h with h | ⟨g, e, h1, h2, r⟩
  · exact .inl h
  · exact .inr ⟨g, e, h1, h2, r.below hb⟩
theorem OXl.drew {lo hi : Nat} {w : World} {a : Option Addr} {l : List Rl} (h : OXl lo hi w a l) : OXl lo hi w.drew a l := h
theorem OXl.alloc {lo hi : Nat} {w : World} {a : Option Addr} {l : List Rl} (h : OXl lo hi w a l) (o : Obj) : OXl lo hi (w.alloc o) a l := h.below ((Below.refl _ _).alloc (Nat.le_refl _) o)
theorem OXl.mono {lo hi lo' hi' : Nat} {w : World} {a : Option Addr} {l : List Rl} (h : OXl lo hi w a l) (h1 : lo' ≤ lo) (h2 : hi ≤ hi') : OXl lo' hi' w a l := by
  rcases h with h | ⟨g, e, q1, q2, r⟩
  · exact .inl h
  · exact .inr ⟨g, e, by omega, by omega, r⟩
theorem OXl.same {lo hi lo2 hi2 : Nat} {w w' : World} {a : Option Addr} {l : List Rl} (h : OXl lo2 hi2 w a l) (hs : Same lo hi w w') (hd : hi2 ≤ lo ∨ hi ≤ lo2) : OXl lo2 hi2 w' a l := by
  rcases h with h | ⟨g, e, q1, q2, r⟩
  · exact .inl h
  · exact .inr ⟨g, e, q1, q2, r.same hs (by omega)⟩
theorem OXl.row {lo hi : Nat} {w : World} {a : Option Addr} {l : List Rl} (h : OXl lo hi w a l) {k : Nat} (hk : k < l.length) : ∃ g, a = some ⟨g, 0, none⟩ ∧ XRow w g l := by
  rcases h with ⟨_, rfl⟩ | ⟨g, e, q1, q2, r⟩
  · simp at hk
  · exact ⟨g, e, r⟩
set_option maxRecDepth 8000 in
set_option maxHeartbeats 1000000 in
theorem eqXl_same (lo hi lo2 hi2 : Nat) (a1 a2 : Option Addr) (n c1 c2 : Nat) (l : List Rl) (w : World) (hn : l.length = n) (hle : n ≤ 1048576) (h1 : OXl lo hi w a1 l) (h2 : OXl lo2 hi2 w a2 l) :
    Calls Tryz.prog 32 #[.slice a1 n c1, .slice a2 n c2] w fun e w' => e = .returned (.bool true) ∧ Below w.heap.size w w' := by
  subst hn
  go_enter Tryz.func32, Tryz.ntmps32
  go_wp2
  go_loopg [5] l.length (fun m i wr => ∃ k : Nat, k ≤ l.length ∧ m = l.length - k ∧ i = .int .i64 k ∧ Below w.heap.size w wr)
  case atStart => exact ⟨0, by omega, by omega, rfl, Below.refl _ _⟩
  case round =>
    obtain ⟨k, hk, hm, rfl, hbel⟩ := hrel
    by_cases hlt : k < l.length
    · have hlt' : (k : Int) < (l.length : Int) := by omega
      have hk0 : (0 : Int) ≤ (k : Int) := by omega
      have h1w := h1.below hbel
      have h2w := h2.below hbel
      obtain ⟨g1, rfl, R1⟩ := h1w.row hlt
      obtain ⟨g2, rfl, R2⟩ := h2w.row hlt
      obtain ⟨s, hs⟩ : ∃ s, l[k]? = some s := ⟨_, List.getElem?_eq_getElem hlt⟩
      obtain ⟨u0, u1⟩ := R1.two k s hs
      obtain ⟨v0, v1⟩ := R2.two k s hs
      clear h1w h2w hs h1 h2
      obtain ⟨a, b⟩ := s
      dsimp only at u0 u1 v0 v1
      go_wp2_with fail
      have hb := hbel
      refine wp_region_held_drew (S := fun w' => w'.cell? ⟨g1, k * 2, none⟩ = some (.int .i64 a) ∧ w'.cell? ⟨g1, k * 2 + 1, none⟩ = some (.int .i64 b) ∧ w'.cell? ⟨g2, k * 2, none⟩ = some (.int .i64 a) ∧ w'.cell? ⟨g2, k * 2 + 1, none⟩ = some (.int .i64 b) ∧ Below w.heap.size w w') (by kernel_rfl) ⟨u0, u1, v0, v1, hb.drew⟩ (fun hHeld => ?_)
      refine tk 0 17 ?_
      refine tk 1 18 ?_
      refine tk 2 19 ?_
      refine tk 3 20 ?_
      refine tk 4 21 ?_
      refine tk 5 22 ?_
      refine tk 6 23 ?_
      refine tk 7 24 ?_
      refine rdk 8 25 fun K hK => ?_
      go_simp
      refine (eqExact_same a b _).mono ?_
      rintro e w5 ⟨rfl, hb5⟩
      have hbn := chain hHeld.2.2.2.2 hb5
      (try go_wp2_with fail)
      refine hko hK ⟨(CellIs.below hHeld.1 hb5), (CellIs.below hHeld.2.1 hb5), (CellIs.below hHeld.2.2.1 hb5), (CellIs.below hHeld.2.2.2.1 hb5), hbn⟩ fun hHeld => ?_
      clear hK K
      refine tk 9 26 ?_
      refine wpAnyH_done (by kernel_rfl) ?_ _
      go_wp2
      go_roundg (l.length - (k + 1))
      case measure => omega
      case rel => exact ⟨k + 1, by omega, rfl, by go_num, hHeld.2.2.2.2⟩
    · obtain rfl : k = l.length := by omega
      go_wp2
      go_ret
      exact ⟨rfl, hbel⟩
def mkX9 (k : Int) (n : Nat) : List Rl := (List.range n).map fun (j : Nat) => (k + 2 * (j : Int), k + 2 * (j : Int) + 1)
theorem mkX9_length (k : Int) (n : Nat) : (mkX9 k n).length = n := by simp [mkX9]
theorem mkX9_succ (k : Int) (n : Nat) : mkX9 k (n + 1) = mkX9 k n ++ [(k + 2 * (n : Int), k + 2 * (n : Int) + 1)] := by simp [mkX9, List.range_succ]
theorem mkX9_get (k : Int) (n j : Nat) (h : j < n) : (mkX9 k n)[j]? = some (k + 2 * (j : Int), k + 2 * (j : Int) + 1) := by simp [mkX9, h]
theorem set2_app9 (A B : List Value) (v0 v1 x0 x1 : Value) (n : Nat) (hn : A.length = n) :
    (((A ++ v0 :: v1 :: B).set n x0).set (n + 1) x1) = A ++ x0 :: x1 :: B := by
  subst hn
  simp [List.set_append, Nat.add_sub_cancel_left]
theorem rlsC_drop9 : ∀ (l : List Rl) (j : Nat) (s : Rl), l[j]? = some s → (rlsC l).drop (j * 2) = .int .i64 s.1 :: .int .i64 s.2 :: (rlsC l).drop ((j + 1) * 2)
  | [], j, s, h => by simp at h
  | x :: l, 0, s, h => by
    simp at h
    subst h
    simp [rlsC, rlC]
  | x :: l, j + 1, s, h => by
    have ih := rlsC_drop9 l j s (by simpa using h)
    have e1 : (j + 1) * 2 = j * 2 + 2 := by omega
    have e2 : (j + 1 + 1) * 2 = (j + 1) * 2 + 2 := by omega
    rw [e1, e2]
    exact ih
set_option maxRecDepth 8000 in
set_option maxHeartbeats 2000000 in
theorem markXl_any (g : Nat) (n cap : Nat) (l : List Rl) (k : Int) (w : World) (hn : l.length = n) (hle : n ≤ 1048576) (hk0 : 0 ≤ k) (hk1 : k ≤ 1000000000) (hR : XRow w g l) :
    Calls Tryz.prog 33 #[.slice (some ⟨g, 0, none⟩) n cap, .int .i64 k] w fun e w' => e = .returned (.int .i64 (k + 2 * (n : Int))) ∧ XRow w' g (mkX9 k n) ∧ w.grownBy w' (some g) := by
  subst hn
  go_enter Tryz.func33, Tryz.ntmps33
  go_wp2
  go_loopg [1, 5] l.length (fun m q i wr => ∃ j : Nat, j ≤ l.length ∧ m = l.length - j ∧ i = .int .i64 j ∧ q = .int .i64 (k + 2 * (j : Int)) ∧ VRow wr g (rlsC (mkX9 k j) ++ (rlsC l).drop (j * 2)) 35 ∧ w.grownBy wr (some g))
  case atStart => exact ⟨0, by omega, by omega, rfl, by simp, by simpa [mkX9, rlsC] using hR, grown_refl _ _⟩
  case round =>
    obtain ⟨j, hj, hm, rfl, rfl, hr, hG⟩ := hrel
    by_cases hlt : j < l.length
    · have hlt' : (j : Int) < (l.length : Int) := by omega
      obtain ⟨s, hs⟩ : ∃ s, l[j]? = some s := ⟨_, List.getElem?_eq_getElem hlt⟩
      have hA : (rlsC (mkX9 k j)).length = j * 2 := by rw [rlsC_length, mkX9_length]
      rw [rlsC_drop9 l j s hs] at hr
      have f0 := fun i => hr.free i
      have c0 := hr.cell (j * 2) (.int .i64 s.1) (by rw [List.getElem?_append_right (by omega), hA]; simp)
      have c1 := hr.cell (j * 2 + 1) (.int .i64 s.2) (by rw [List.getElem?_append_right (by omega), hA]; simp)
      have hR2 := ((hr.set (j * 2) (.int .i64 (k + 2 * (j : Int)))).set (j * 2 + 1) (.int .i64 (k + 2 * (j : Int) + 1))).wf (set2_app9 _ _ _ _ _ _ _ hA)
      have hR3 := Lib.hid (hR2.wf (show _ = rlsC (mkX9 k (j + 1)) ++ (rlsC l).drop ((j + 1) * 2) by rw [mkX9_succ, rlsC_append]; simp [rlsC, rlC]))
      have hG3 := Lib.hid (grown_set (v := .int .i64 (k + 2 * (j : Int) + 1)) (o := j * 2 + 1) (grown_set (v := .int .i64 (k + 2 * (j : Int))) (o := j * 2) hG))
      clear hR2 hr hs hA
      go_wp2
      go_roundg (l.length - (j + 1))
      case measure => omega
      case rel =>
        exact ⟨j + 1, by omega, rfl, by go_num, by go_num, hR3.out, hG3.out⟩
    · obtain rfl : j = l.length := by omega
      have hfin := Lib.hid hr
      clear hr
      go_wp2
      go_ret
      refine ⟨rfl, hfin.out.wf ?_, hG⟩
      rw [List.drop_eq_nil_of_le (by rw [rlsC_length]; omega), List.append_nil]
set_option maxHeartbeats 1000000 in
theorem markXl_nil (cap : Nat) (k : Int) (w : World) :
    Calls Tryz.prog 33 #[.slice none 0 cap, .int .i64 k] w fun e w' => e = .returned (.int .i64 k) ∧ w = w' := by
  go_enter Tryz.func33, Tryz.ntmps33
  go_wp2
  refine wp_loop_rounds 1 ?_
  rw [rounds_succ]
  go_wp2
  go_ret
  exact ⟨rfl, rfl⟩
theorem markXl_own (lo hi : Nat) (a : Option Addr) (n cap : Nat) (l : List Rl) (k : Int) (w : World) (hn : l.length = n) (hle : n ≤ 1048576) (k0 : 0 ≤ k) (k1 : k ≤ 1000000000) (h : OXl lo hi w a l) :
    Calls Tryz.prog 33 #[.slice a n cap, .int .i64 k] w fun e w' => e = .returned (.int .i64 (k + 2 * (n : Int))) ∧ OXl lo hi w' a (mkX9 k n) ∧ Same lo hi w w' := by
  rcases h with ⟨rfl, rfl⟩ | ⟨g, rfl, h1, h2, r⟩
  · obtain rfl : 0 = n := hn
    refine (markXl_nil cap k w).mono ?_
    rintro e w' ⟨rfl, rfl⟩
    exact ⟨by simp, .inl ⟨rfl, rfl⟩, rfl, rfl, rfl, Nat.le_refl _, fun i hi _ => rfl⟩
  · refine (markXl_any g n cap l k w hn hle k0 k1 r).mono ?_
    rintro e w' ⟨rfl, q, hg⟩
    exact ⟨rfl, .inr ⟨g, rfl, h1, h2, q⟩, hg.os, hg.tape, hg.output, hg.size, fun i hi ho => hg.block i hi (fun e => by cases e; omega)⟩
set_option maxRecDepth 8000 in
set_option maxHeartbeats 2000000 in
theorem heldXl_any (lo hi : Nat) (a : Option Addr) (n cap : Nat) (k : Int) (w : World) (hle : n ≤ 1048576) (hk0 : 0 ≤ k) (hk1 : k ≤ 1000000000) (hr : OXl lo hi w a (mkX9 k n)) :
    Calls Tryz.prog 34 #[.slice a n cap, .int .i64 k] w fun e w' => e = .returned (.int .i64 (k + 2 * (n : Int))) ∧ w = w' := by
  go_enter Tryz.func34, Tryz.ntmps34
  go_wp2
  go_loopg [1, 5] n (fun m q i wr => w = wr ∧ ∃ j : Nat, j ≤ n ∧ m = n - j ∧ i = .int .i64 j ∧ q = .int .i64 (k + 2 * (j : Int)))
  case atStart => exact ⟨rfl, 0, by omega, by omega, rfl, by simp⟩
  case round =>
    obtain ⟨rfl, j, hj, hm, rfl, rfl⟩ := hrel
    by_cases hlt : j < n
    · have hlt' : (j : Int) < (n : Int) := by omega
      obtain ⟨g, rfl, R⟩ := hr.row (k := j) (by rw [mkX9_length]; exact hlt)
      obtain ⟨u0, u1⟩ := R.two j _ (mkX9_get k n j hlt)
      dsimp only at u0 u1
      clear R hr
      go_wp2
      go_roundg (n - (j + 1))
      case measure => omega
      case rel => exact ⟨rfl, j + 1, by omega, rfl, by go_num, by go_num⟩
    · obtain rfl : j = n := by omega
      clear hr
      go_wp2
      go_ret
      exact ⟨rfl, rfl⟩
end Go.Proofs.YtlnljfbdicgkcaaGreat
namespace Go.Proofs.YtlnljfbdicgkcaaGreat
open Go.ChangeShapes Go.WideShapes Go.ChangeAt Go.RowKit
set_option linter.unusedVariables false
set_option linter.unusedSimpArgs false
set_option maxRecDepth 4000
def xsL (S : Nat) (os : List (Option Int)) : List Rl := os.map fun o => ((exO S o).1, (exO S o).2.1)
def xsV (S : Nat) (os : List (Option Int)) : List Rl × Int := if os.all Option.isSome = true then (xsL S os, 0) else ([], 3)
def XGot (v : List Rl × Int) (w : World) (e : Ending) (w' : World) : Prop := ∃ a k, e = .returned (.tuple #[.slice a v.1.length k, .int .i64 v.2]) ∧ OXl w.heap.size w'.heap.size w' a v.1 ∧ Below w.heap.size w w'
abbrev ORow (w : World) (g : Nat) (l : List Rl) : Prop := VRow w g (rlsC l) 87
theorem ORow.two {w : World} {g : Nat} {l : List Rl} (h : ORow w g l) (k : Nat) (s : Rl) (hk : l[k]? = some s) : w.cell? ⟨g, k * 2, none⟩ = some (.int .i64 s.1) ∧ w.cell? ⟨g, k * 2 + 1, none⟩ = some (.int .i64 s.2) :=
  ⟨h.cell _ _ (by have := rlsC_at l k s hk 0 (by omega); simpa [rlC] using this), h.cell _ _ (by have := rlsC_at l k s hk 1 (by omega); simpa [rlC] using this)⟩
def PVs (S : Nat) (os : List (Option Int)) (l : List Rl) : Prop := os.length = l.length ∧ ∀ (i : Nat) (o : Option Int) (y : Rl), os[i]? = some o → l[i]? = some y → PV S o y.1 y.2 ∧ (-1000000000000000000 ≤ y.1 ∧ y.1 ≤ 1000000000000000000) ∧ ∀ x, o = some x → -1000000000000000000 ≤ x ∧ x ≤ 1000000000000000000
theorem exO_some {S : Nat} (hS : 1 ≤ S ∧ S ≤ 6) {x : Int} (hx : -1000000000000000000 ≤ x ∧ x ≤ 1000000000000000000) : (exO S (some x)).2.2 = 0 := by
  obtain ⟨n, d, e, -⟩ := ex_some hS hx
  unfold exO
  dsimp only
  rw [e]
  rfl
set_option maxRecDepth 8000 in
set_option maxHeartbeats 1000000 in
theorem exacts_any (t : Tb) (hS : 1 ≤ t.S ∧ t.S ≤ 6) (gp n k : Nat) (os : List (Option Int)) (l : List Rl) (w : World) (hn : l.length = n) (hle : n ≤ 1048576) (hI : TabI t w) (hp : PVs t.S os l) (hR : ORow w gp l) :
    Calls Tryz.prog 51 #[.pointer (some ⟨t.g, 0, none⟩), .slice (some ⟨gp, 0, none⟩) n k] w (XGot (xsV t.S os) w) := by
  obtain ⟨i0, hi, hz0, hz1, hz2⟩ := info_parts infoEx
  have n0 : (n : Int) ≤ 1048576 := by omega
  have HR := Lib.hid hR
  have HN := Lib.hid hn
  have HP := Lib.hid hp
  have HI := Lib.hid hI
  have HXL := Lib.hid (show (xsL t.S os).length = n by unfold xsL; rw [List.length_map, hp.1, hn])
  clear hR hn hp hI
  go_enter Tryz.func51, Tryz.ntmps51
  go_wp2_with (at_make; refine wpList_make_full _ rfl _ _ 29 rfl w.heap.size 35 i0 (.agg #[.int .i64 0, .int .i64 0]) 2 Tryz.underlying29 hi hz0 hz1 .i64 .i64 (n : Int) (n : Int) n rfl rfl rfl rfl (by rw [hz2]; omega) (by unfold maxLen; omega) (Nat.le_refl _) ?_; intro w2 hO hg)
  have hO2 : w2.ownsRow w.heap.size 35 2 (.slice (some ⟨w.heap.size, 0, none⟩) n n) n (rlsC (List.replicate n (0, 0))) := by
    have := made_exs n
    rw [← this]
    exact hO
  have hb2 : Below w.heap.size w w2 := ⟨hg.os, hg.tape, hg.output, hg.size, fun k hk => hg.block k hk (by simp)⟩
  obtain ⟨-, ⟨hno, -⟩ | ⟨g, cp, cur, hv, -, hh, hc, -, hs_, ht⟩⟩ := hO2
  · simp at hno
  simp at hv
  obtain ⟨hv, -⟩ := hv
  subst hv
  have RR : XRow w2 w.heap.size (List.replicate n (0, 0)) := ⟨cur, hh, by rw [rlsC_length, List.length_replicate, hs_]; exact Nat.mul_le_mul_right _ hc, by rw [rlsC_length, List.length_replicate]; exact ht⟩
  clear hg hO hh hc hs_ ht
  go_loopg [16] n (fun m q16 wr => ∃ k : Nat, k ≤ n ∧ m = n - k ∧ q16 = .int .i64 (k : Int) ∧ XRow wr w.heap.size ((xsL t.S os).take k ++ List.replicate (n - k) (0, 0)) ∧ (∀ i o, i < k → os[i]? = some o → o.isSome = true) ∧ Below w.heap.size w wr)
  case atStart => exact ⟨0, by omega, by omega, rfl, by simpa using RR, fun i o h => by omega, hb2⟩
  case round =>
    clear RR hb2
    obtain ⟨k, hk, hm, rfl, RR, hsm, hb⟩ := hrel
    have HSM := Lib.hid hsm
    clear hsm
    by_cases hlt : k < n
    · have hlt' : (k : Int) < (n : Int) := by omega
      have hk0 : (0 : Int) ≤ (k : Int) := by omega
      obtain ⟨⟨y, cd⟩, hs⟩ : ∃ s, l[k]? = some s := ⟨_, List.getElem?_eq_getElem (by rw [HN.out]; exact hlt)⟩
      obtain ⟨oj, ho⟩ : ∃ o, os[k]? = some o := ⟨_, List.getElem?_eq_getElem (by rw [HP.out.1, HN.out]; exact hlt)⟩
      obtain ⟨hpv, hyb, hob⟩ := HP.out.2 k oj _ ho hs
      dsimp only at hpv hyb
      obtain ⟨c0, c1⟩ := ORow.two (VRow.below HR.out hb) k _ hs
      dsimp only at c0 c1
      have HO := Lib.hid ho
      have HOB := Lib.hid hob
      have HPV := Lib.hid hpv
      have HE := Lib.hid (fun W (q : TabI t W) => exact_any t hS y cd hyb W q)
      clear hs ho hpv hyb hob
      go_wp2_with fail
      have hal : Below wr.heap.size wr (wr.alloc (.cells #[.int .i64 y, .int .i64 cd] 87)) := (Below.refl _ _).alloc (Nat.le_refl _) _
      have hbA := chain hb hal
      replace RR := VRow.below RR hal
      clear hal hb c0 c1
      generalize (wr.alloc (.cells #[.int .i64 y, .int .i64 cd] 87)) = wA at *
      refine (HE.out _ (HI.out.below hbA)).mono ?_
      rintro e w3 ⟨rfl, hq⟩
      rw [PV.ex HPV.out]
      replace RR := VRow.below RR hq
      have hb := chain hbA hq
      clear hq hbA HE HPV
      obtain ⟨⟨r1, r2, r3⟩, hv⟩ : ∃ r, exO t.S oj = r := ⟨_, rfl⟩
      rw [hv]
      dsimp only [xoV]
      have hal : Below w3.heap.size w3 (w3.alloc (.cells #[.int .i64 r1, .int .i64 r2] 35)) := (Below.refl _ _).alloc (Nat.le_refl _) _
      have BX := Blk.new w3 #[.int .i64 r1, .int .i64 r2] 35
      replace RR := VRow.below RR hal
      replace hb := chain hb hal
      have hRl := VRow.lt RR
      clear hal
      cases oj with
      | none =>
        have hv3 : r3 = 3 := by
          have := congrArg (fun r => r.2.2) hv
          exact this.symm
        subst hv3
        have hall : os.all Option.isSome = false := by
          rw [List.all_eq_false]
          exact ⟨none, List.mem_of_getElem? HO.out, by simp⟩
        have hx : xsV t.S os = ([], 3) := by rw [xsV, hall]; rfl
        have HX := Lib.hid hx
        clear hv hall hx RR HO HOB hRl
        go_wp2_with fail
        go_ret2
        rw [HX.out]
        exact ⟨none, 0, rfl, (.inl ⟨rfl, rfl⟩), hb⟩
      | some x =>
        have hv3 : r3 = 0 := by
          have := congrArg (fun r => r.2.2) hv
          dsimp only at this
          rw [← this]
          exact exO_some hS (HOB.out x rfl)
        subst hv3
        have hk2 : (xsL t.S os)[k]? = some (r1, r2) := by
          unfold xsL
          rw [List.getElem?_map, HO.out]
          dsimp only [Option.map]
          rw [hv]
        have hst := copyX_step (xsL t.S os) k (r1, r2) hk2
        rw [HXL.out] at hst
        have hlen : ((xsL t.S os).take k ++ List.replicate (n - k) ((0, 0) : Rl)).length = n := by
          rw [List.length_append, List.length_take, List.length_replicate, HXL.out]
          omega
        have hset := rlsC_set2 ((xsL t.S os).take k ++ List.replicate (n - k) ((0, 0) : Rl)) k (r1, r2) (by omega)
        obtain ⟨s', hs'⟩ : ∃ z, ((xsL t.S os).take k ++ List.replicate (n - k) ((0, 0) : Rl))[k]? = some z := ⟨_, List.getElem?_eq_getElem (by omega)⟩
        dsimp only at hset
        obtain ⟨d0, d1⟩ := XRow.two RR k s' hs'
        have f0 := fun j => VRow.free RR j
        have R2 := Lib.hid (((VRow.set RR (k * 2) (.int .i64 r1)).set (k * 2 + 1) (.int .i64 r2)).wf (hset.symm.trans (congrArg rlsC hst)))
        have hbn := Lib.hid ((hb.setCell (p := ⟨w.heap.size, k * 2, none⟩) (Nat.le_refl _) (.int .i64 r1)).setCell (p := ⟨w.heap.size, k * 2 + 1, none⟩) (Nat.le_refl _) (.int .i64 r2))
        have HSM2 : Hid (∀ i o, i < k + 1 → os[i]? = some o → o.isSome = true) := Lib.hid fun i o h1 h2 => by
          rcases Nat.lt_or_ge i k with h | h
          · exact HSM.out i o h h2
          · obtain rfl : i = k := by omega
            rw [HO.out] at h2
            injection h2 with h2
            subst h2
            rfl
        obtain ⟨b0, b1, bf, bl⟩ := BX.two
        obtain ⟨z9, hz9⟩ : ∃ z, w3.heap.size = z := ⟨_, rfl⟩
        clear hb hst hset hs' hlen hv hk2 RR
        go_wp2_with fail
        go_roundg (n - (k + 1))
        case measure => omega
        case rel => exact ⟨k + 1, by omega, rfl, by go_num, R2.out, HSM2.out, hbn.out⟩
    · obtain rfl : k = n := by omega
      have hRl := VRow.lt RR
      have RR2 : XRow wr w.heap.size (xsL t.S os) := VRow.wf RR (show _ = rlsC (xsL t.S os) by rw [Nat.sub_self, List.replicate_zero, List.append_nil, List.take_of_length_le (by rw [HXL.out]; exact Nat.le_refl _)])
      have hall : os.all Option.isSome = true := by
        rw [List.all_eq_true]
        intro o ho
        obtain ⟨i, hi2, he⟩ := List.mem_iff_getElem.1 ho
        exact HSM.out i o (by rw [← HN.out, ← HP.out.1]; exact hi2) (by rw [List.getElem?_eq_getElem hi2, he])
      have hx : xsV t.S os = (xsL t.S os, 0) := by rw [xsV, if_pos hall]
      have HX := Lib.hid hx
      clear RR hall hx
      go_wp2
      go_ret2
      rw [HX.out]
      exact ⟨some ⟨w.heap.size, 0, none⟩, k, by dsimp only; rw [HXL.out]; rfl, .inr ⟨w.heap.size, rfl, Nat.le_refl _, hRl, RR2⟩, hb⟩
end Go.Proofs.YtlnljfbdicgkcaaGreat
namespace Go.Proofs.YtlnljfbdicgkcaaGreat
open Go.ChangeShapes Go.WideShapes Go.ChangeAt Go.RowKit
set_option linter.unusedVariables false
set_option linter.unusedSimpArgs false
set_option maxRecDepth 4000
def OwnO (w : World) (base : Nat) (v : Value) (l : List Rl) : Prop := w.ownsRow base 87 2 v l.length (rlsC l)
theorem OwnO.form {w : World} {base : Nat} {v : Value} {l : List Rl} (h : OwnO w base v l) : ∃ a k, v = .slice a l.length k := by
  rcases h.2 with ⟨h1, h2⟩ | ⟨g, cap, cur, h1, _⟩
  · exact ⟨none, 0, by rw [h1, h2]⟩
  · exact ⟨some ⟨g, 0, none⟩, cap, h1⟩
theorem OwnO.row {w : World} {base : Nat} {a : Option Addr} {n k : Nat} {l : List Rl} (h : OwnO w base (.slice a n k) l) : n = l.length ∧ ((a = none ∧ l = []) ∨ ∃ g, a = some ⟨g, 0, none⟩ ∧ VRow w g (rlsC l) 87) := by
  obtain ⟨hl, h1 | ⟨g, cap, cur, hv, hb, hh, hc, hm, hs, ht⟩⟩ := h
  · obtain ⟨h1, h2⟩ := h1
    simp at h1
    exact ⟨by omega, .inl ⟨h1.1, List.eq_nil_of_length_eq_zero h2⟩⟩
  · simp at hv
    obtain ⟨rfl, rfl, rfl⟩ := hv
    exact ⟨rfl, .inr ⟨g, rfl, cur, hh, by rw [hl, hs]; exact Nat.mul_le_mul_right _ hc, by rw [hl]; exact ht⟩⟩
theorem OwnO.alloc {w : World} {base : Nat} {v : Value} {l : List Rl} (h : OwnO w base v l) (o : Obj) : OwnO (w.alloc o) base v l := World.ownsRow.alloc h o
theorem OwnO.start (w : World) : OwnO (w.alloc (.cells #[] 87)) w.heap.size (.slice (some ⟨w.heap.size, 0, none⟩) 0 0) [] :=
  ⟨rfl, .inr ⟨w.heap.size, 0, #[], rfl, Nat.le_refl _, Blk.new w #[] _, Nat.le_refl _, by unfold maxLen; omega, rfl, rfl⟩⟩
theorem OwnO.nil (w : World) (base : Nat) : OwnO w base (.slice none 0 0) [] := World.ownsRow_nil w base _ _
theorem infoO9 : (Tryz.prog.info? 87).map (fun i => (i.zero, i.size, i.bytes)) = some (some (.agg #[.int .i64 0, .int .i64 0]), 2, 16) := by kernel_rfl
theorem OwnO.by {w w' : World} {base : Nat} {v : Value} {l : List Rl} (h : OwnO w base v l) (k : ∀ i, base ≤ i → i < w.heap.size → w'.heap[i]? = w.heap[i]?) : OwnO w' base v l := by
  obtain ⟨hl, h1 | ⟨g, cap, cur, hv, hb, hh, hc⟩⟩ := h
  · exact ⟨hl, .inl h1⟩
  · exact ⟨hl, .inr ⟨g, cap, cur, hv, hb, (k g hb (Array.getElem?_eq_some_iff.1 hh).1).trans hh, hc⟩⟩
theorem run_append_whereO {P : Program} (w : World) (base : Nat) (t ty e : TypeId) (i : TypeInfo) (z : Value) (size bytes : Nat) (ht : P.underlying t = some (.slice e)) (hi : P.info? e = some i) (hz : i.zero = some z)
    (hsize : i.size = size) (hby : i.bytes = bytes) (hzs : z.cells.size = size) (hsz : 0 < size)
    (v : Value) (n : Nat) (xs : List Value) (hown : w.ownsRow base e size v n xs)
    (a : Addr) (m c : Nat) (news : List Value) (hl : news.length = m * size) (hnews : ∀ j u, news[j]? = some u → w.cell? (a.add j) = some u) (h1 : ∀ u ∈ news, u.oneCell' = true)
    (h63 : n + m ≤ maxLen) (hbytes : (n + m) * bytes ≤ 140737488355328) (hbase : base ≤ w.heap.size) :
    ∃ v' w', (Builtin.append_ #[t, t] ty #[v, .slice (some a) m c]).run P w = .ok v' w' ∧ w'.ownsRow base e size v' (n + m) (xs ++ news) ∧ w.grownBy w' v.ownBlock ∧ (v'.ownBlock = v.ownBlock ∨ v'.ownBlock = some w.heap.size) := by
  obtain ⟨v', w', hr, h2, h3, h4⟩ := run_append_own (P := P) w base t ty e i z size bytes ht hi hz hsize hby hzs hsz v n xs hown a m c news hl hnews h1 h63 hbytes hbase
  refine ⟨v', w', hr, h2, h3, ?_⟩
  subst hsize hby
  have hmx : n + m ≤ 9223372036854775807 := by simp only [maxLen] at h63; omega
  rcases hown.2 with ⟨rfl, rfl⟩ | ⟨g, cap, cur, rfl, hbg, hg, hnc, hcm, hcs, htake⟩
  · by_cases hm : m = 0
    · exact .inl (by rw [h4.2 ⟨rfl, hm⟩])
    · have hq := run_append_nil (P := P) w t ty e i z ht hi hz a m c news hl hnews (by omega) (by omega) (by have hb := hbytes; simp only [Nat.zero_add] at hb; omega)
      rw [hr] at hq
      injection hq with hv hw
      exact .inr (by rw [hv]; rfl)
  · by_cases hroom : n + m ≤ cap
    · have hfit : n * i.size + news.length ≤ cur.size := by rw [hl, hcs, ← Nat.add_mul]; exact Nat.mul_le_mul_right _ hroom
      have hq := run_append_room (P := P) w t ty e i ht hi g n cap cur hg a m c news hl hnews h1 hroom hfit
      rw [hr] at hq
      injection hq with hv hw
      exact .inl (by rw [hv]; rfl)
    · have hq := run_append_grow (P := P) w t ty e i z ht hi hz ⟨g, 0, none⟩ n cap xs hown.1 (hown.cells (g := g) rfl) a m c news hl hnews (by omega) (by omega) (growslice_fits (by omega) hbytes)
      rw [hr] at hq
      injection hq with hv hw
      exact .inr (by rw [hv]; rfl)
theorem wp_pushOW {ops : Array Oper} {rest : List Oper} {o : Oper} {a : Act} {Q : Exit → Act → World → Prop} (hgd : o.guard = none) (s x : Operand)
    (ho : o.op = .call { callee := .builtin .append, args := #[s, x], argTypes := #[78, 78] })
    (base : Nat) (v : Value) (l : List Rl) (hs : a.eval s = v) {w0 : World} (hown : OwnO w0 base v l) (u : Rl)
    {zz : Nat} (hx : a.eval x = .slice (some ⟨zz, 0, none⟩) 1 1) (hzz : w0.heap.size = zz) (hl : l.length ≤ 1048576) (hbase : base ≤ w0.heap.size)
    (h : ∀ v' w', OwnO w' base v' (l ++ [u]) → Below base w0 w' → (∀ k, k < w0.heap.size → v.ownBlock ≠ some k → w'.heap[k]? = w0.heap[k]?) → (v'.ownBlock = v.ownBlock ∨ v'.ownBlock = some (w0.heap.size + 1)) → wpList Tryz.prog ops Q rest (a.put o.dst v') w') : wpList Tryz.prog ops Q (o :: rest) a (w0.alloc (.cells #[.int .i64 u.1, .int .i64 u.2] 87)) := by
  subst hzz
  obtain ⟨i0, hi, hz0, hz1, hz2⟩ := info_parts infoO9
  have hown0 : w0.ownsRow base 87 2 v l.length (rlsC l) := hown
  obtain ⟨v', w', hr, hown', hgrow, hwh⟩ := run_append_whereO (P := Tryz.prog) (w0.alloc (.cells #[.int .i64 u.1, .int .i64 u.2] 87)) base 78 o.type 87 i0 _ 2 16 Tryz.underlying78 hi hz0 hz1 hz2 rfl (by decide) v l.length (rlsC l) (hown0.alloc _) ⟨w0.heap.size, 0, none⟩ 1 1 (rlC u) (by simp [rlC])
    (World.news_of_block (cs := #[.int .i64 u.1, .int .i64 u.2]) (Blk.new w0 _ 87)) (fun y hy => by simp [rlC] at hy; rcases hy with rfl | rfl <;> rfl) (by unfold maxLen; omega) (by omega) (by simp; omega)
  refine wpList_plain hgd fun _ hK => ?_
  unfold Oper.wp execOp
  simp only [ho, resolve, invoke, builtin, Sem.run_bind, Sem.run_pure, Result.andThen_ok, List.map_toArray, List.map_cons, List.map_nil, hs, hx, hr]
  refine hK _ _ (h v' w' ?_ (((Below.refl base w0).alloc hbase _).grown hgrow (by simp; omega) (fun k hk => (hown0.lt k hk).1)) (fun k hk hne => ?_) ?_)
  · show w'.ownsRow base 87 2 _ (l ++ [u]).length (rlsC (l ++ [u]))
    rw [List.length_append, rlsC_append]
    simpa [rlsC] using hown'
  · rw [hgrow.block k (by simp; omega) (fun hh => hne hh.symm), Below.heap_alloc _ _ _ hk]
  · rcases hwh with e | e
    · exact .inl e
    · exact .inr (by rw [e]; simp)
end Go.Proofs.YtlnljfbdicgkcaaGreat
namespace Go.Proofs.YtlnljfbdicgkcaaGreat
open Go.ChangeShapes Go.WideShapes Go.ChangeAt Go.RowKit
set_option linter.unusedVariables false
set_option linter.unusedSimpArgs false
set_option maxRecDepth 4000
theorem TabI.but {t : Tb} {w w' : World} {o : Option Nat} (h : TabI t w) (ha : ∀ z, o = some z → Aw t w z ∧ ∃ vs, Blk w z vs 87) (hk : ∀ k, k < w.heap.size → o ≠ some k → w'.heap[k]? = w.heap[k]?) : TabI t w' := by
  have keep : ∀ (g : Nat) (vs : Array Value) (y : TypeId), Blk w g vs y → y ≠ 87 → Blk w' g vs y := fun g vs y hB hy => by
    refine (hk g hB.lt (fun e => ?_)).trans hB
    obtain ⟨-, us, hz⟩ := ha g e
    exact hB.ne hz hy rfl
  obtain ⟨⟨s1, ⟨cw, sW, s2⟩, s3, s4⟩, ⟨c1, b1, r1⟩, ⟨c2, b2, r2⟩⟩ := h
  have row : ∀ (g : Nat) (xs : List Int), Row w g xs → Row w' g xs := fun g xs hr => by
    obtain ⟨c3, h3, r3⟩ := hr
    exact ⟨c3, keep _ _ _ h3 (by decide), r3⟩
  refine ⟨⟨keep _ _ _ s1 (by decide), ⟨cw, keep _ _ _ sW (by decide), s2⟩, ?_, ?_⟩, ⟨c1, keep _ _ _ b1 (by decide), fun xs ys h1 h2 => ?_⟩, ⟨c2, keep _ _ _ b2 (by decide), fun xs h1 => ?_⟩⟩
  · have hlt := s3.lt
    obtain ⟨es, clock, hb, F, hs, hD⟩ := s3
    refine ⟨es, clock, (hk t.b hlt (fun e => ?_)).trans hb, F, hs, hD⟩
    obtain ⟨-, us, hz⟩ := ha _ e
    have := hz.symm.trans hb
    simp at this
  · rcases s4 with h | ⟨g, e, c3, h3, r3⟩
    · exact .inl h
    · exact .inr ⟨g, e, c3, keep _ _ _ h3 (by decide), r3⟩
  · obtain ⟨v, hv, hc⟩ := r1 xs ys h1 h2
    refine ⟨v, hv, ?_⟩
    rcases hc with hc | ⟨q, y, cd, hc, hq, hp⟩
    · exact .inl hc
    · refine .inr ⟨q, y, cd, hc, (hk q hq.lt (fun e => ?_)).trans hq, hp⟩
      obtain ⟨⟨c4, b4, r4⟩, -⟩ := ha q e
      have e4 := b4.symm.trans b1
      simp at e4
      rw [e4] at r4
      refine r4 xs ys h1 h2 ?_
      rw [hv, hc]
  · obtain ⟨v, hv, hc⟩ := r2 xs h1
    refine ⟨v, hv, ?_⟩
    rcases hc with hc | ⟨q, k, l, hc, ⟨c5, b5, r5⟩, hn, hr⟩
    · exact .inl hc
    · exact .inr ⟨q, k, l, hc, ⟨c5, keep _ _ _ b5 (by decide), r5⟩, hn, fun x hx => row _ _ (hr x hx)⟩
theorem PVs.nil (S : Nat) : PVs S [] [] := ⟨rfl, fun i o y h => by simp at h⟩
theorem PVs.snoc {S : Nat} {os : List (Option Int)} {l : List Rl} {o : Option Int} {y : Rl} (h : PVs S os l) (h1 : PV S o y.1 y.2) (h2 : -1000000000000000000 ≤ y.1 ∧ y.1 ≤ 1000000000000000000) (h3 : ∀ x, o = some x → -1000000000000000000 ≤ x ∧ x ≤ 1000000000000000000) : PVs S (os ++ [o]) (l ++ [y]) := by
  refine ⟨by rw [List.length_append, List.length_append, h.1]; rfl, fun i o' y' e1 e2 => ?_⟩
  rcases Nat.lt_trichotomy i os.length with q | q | q
  · rw [List.getElem?_append_left q] at e1
    rw [List.getElem?_append_left (by rw [← h.1]; exact q)] at e2
    exact h.2 i o' y' e1 e2
  · subst q
    rw [List.getElem?_append_right (Nat.le_refl _), Nat.sub_self] at e1
    rw [h.1, List.getElem?_append_right (Nat.le_refl _), Nat.sub_self] at e2
    simp at e1 e2
    subst e1 e2
    exact ⟨h1, h2, h3⟩
  · rw [List.getElem?_eq_none (by rw [List.length_append]; simp; omega)] at e1
    cases e1
def LoO (t : Tb) (w : World) (base : Nat) (v : Value) (l : List Rl) : Prop := OwnO w base v l ∧ ∀ z, v.ownBlock = some z → Aw t w z ∧ ∃ vs, Blk w z vs 87
theorem LoO.nil (t : Tb) (w : World) (base : Nat) : LoO t w base (.slice none 0 0) [] := ⟨OwnO.nil _ _, fun z h => by cases h⟩
theorem LoO.below {t : Tb} {w w' : World} {base : Nat} {v : Value} {l : List Rl} (h : LoO t w base v l) (hb : Below w.heap.size w w') : LoO t w' base v l :=
  ⟨h.1.by fun i _ h2 => hb.block i h2, fun z e => by
    obtain ⟨a, vs, b⟩ := h.2 z e
    exact ⟨a.below hb, vs, b.below hb⟩⟩
theorem LoO.grow {t : Tb} {w w' : World} {base : Nat} {v : Value} {l : List Rl} (h : LoO t w base v l) (hI : TabI t w) (hg : GA t w w') (h1 : t.gR < base) (h2 : t.gC < base) : LoO t w' base v l :=
  ⟨h.1.by fun i k1 k2 => hg.gr.block i k2 (by omega) (by omega), fun z e => by
    obtain ⟨a, vs, b⟩ := h.2 z e
    exact ⟨hg.aw z b.lt a, vs, hI.blk hg b⟩⟩
theorem LoO.next {t : Tb} {w w' : World} {base : Nat} {v v' : Value} {l l' : List Rl} (h : LoO t w base v l) (hI : TabI t w) (hC : t.gC < base) (hbs : base ≤ w.heap.size) (hO : OwnO w' base v' l') (hb : Below base w w') (hw : v'.ownBlock = v.ownBlock ∨ v'.ownBlock = some (w.heap.size + 1)) (hl : l' ≠ []) : LoO t w' base v' l' := by
  refine ⟨hO, fun z e => ⟨?_, ?_⟩⟩
  · have hs : w'.heap[t.gC]? = w.heap[t.gC]? := hb.block _ hC
    rcases hw with q | q
    · exact (h.2 z (q ▸ e)).1.same hs
    · rw [q] at e
      injection e with e
      exact (Aw.fresh hI.ch (by omega)).same hs
  · obtain ⟨a, k, rfl⟩ := hO.form
    rcases hO.row.2 with ⟨-, q⟩ | ⟨g, rfl, cur, hB, -⟩
    · exact absurd q hl
    · simp [Value.ownBlock] at e
      subst e
      exact ⟨cur, hB⟩
def rcO (S : Nat) (xs ys : List Int) (ra rb : Int) : List (Option Int) := (resI xs (ordersP ra rb)).map fun z => (wc S ys z).map fun x => tp S - x
def rcV (p c h s : Int) (xs ys : List Int) (ra rb : Int) : List Rl × Int := if tnE p c h s xs ys ra rb = 0 then xsV s.toNat (rcO s.toNat xs ys ra rb) else ([], tnE p c h s xs ys ra rb)
theorem tp_all {S : Nat} (hS : 1 ≤ S ∧ S ≤ 6) {x : Int} (h : 0 ≤ x ∧ x ≤ tp S) : -1000000000000000000 ≤ x ∧ x ≤ 1000000000000000000 := by
  have := tp_in hS
  omega
set_option maxRecDepth 8000 in
set_option maxHeartbeats 2000000 in
theorem resultChances_any (p c h s : Int) (a1 a2 : Option Addr) (n1 n2 c1 c2 : Nat) (xs ys : List Int) (ra rb : Int) (w : World) (hn1 : xs.length = n1) (hn2 : ys.length = n2) (hl1 : n1 ≤ 1048576) (hl2 : n2 ≤ 1048576) (hr1 : IRow w a1 xs) (hr2 : IRow w a2 ys) :
    Calls Tryz.prog 25 #[.agg #[.int .i64 p, .int .i64 c, .int .i64 h, .int .i64 s], .slice a1 n1 c1, .slice a2 n2 c2, .agg #[.int .i64 ra, .int .i64 rb]] w (XGot (rcV p c h s xs ys ra rb) w) := by
  obtain ⟨BV, BR, hb, hz⟩ := two_new w #[.int .i64 p, .int .i64 c, .int .i64 h, .int .i64 s] #[.int .i64 ra, .int .i64 rb] 25 39
  have hzz : w.heap.size + 1 < ((w.alloc (.cells #[.int .i64 p, .int .i64 c, .int .i64 h, .int .i64 s] 25)).alloc (.cells #[.int .i64 ra, .int .i64 rb] 39)).heap.size := by rw [hz]; omega
  clear hz
  have HRO1 := Lib.hid hr1
  have HRO2 := Lib.hid hr2
  have HC := Lib.hid (turnCode_any p c h s a1 a2 n1 n2 c1 c2 xs ys ra rb _ hn1 hn2 hl1 hl2 (hr1.below hb) (hr2.below hb))
  clear hr1 hr2
  obtain ⟨x0, x1, x2, x3, xf, xl⟩ := BV.four
  obtain ⟨y0, y1, yf, yl⟩ := BR.two
  by_cases k0 : tnE p c h s xs ys ra rb = 0
  · rw [rcV, if_pos k0]
    rw [k0] at HC
    obtain ⟨kO, hrl⟩ := tnE_zero k0
    obtain ⟨S, rfl, hS, hxp, hyp, hcn, few⟩ := rc_ready (rcE_zero (ocE_zero kO).1).1
    rw [Int.toNat_natCast]
    have HRL := Lib.hid hrl
    clear k0 kO hrl
    go_enter Tryz.func25, Tryz.ntmps25
    go_wp2_with fail
    refine (HC.out).mono ?_
    rintro e w1 ⟨rfl, hb1⟩
    have hz1 := hb1.size
    replace BV := BV.below hb1
    replace BR := BR.below hb1
    replace hb := chain hb hb1
    clear x0 x1 x2 x3 xf xl y0 y1 yf yl hb1 HC
    obtain ⟨x0, x1, x2, x3, xf, xl⟩ := BV.four
    have HCU := Lib.hid (chancesUpTo_any p c h S hS a1 a2 n1 n2 c1 c2 xs ys w1 hxp hyp hcn hn1 hn2 (HRO1.out.below hb) (HRO2.out.below hb))
    go_wp2_with fail
    refine (HCU.out).mono ?_
    rintro e w2 ⟨t, rfl, rfl, rfl, rfl, rfl, hK, hI, hgR0, hgC0, hb2⟩
    clear x0 x1 x2 x3 xf xl HCU
    have hw2 := hb2.size
    have hsw := hb.size
    replace BR := BR.below hb2
    replace hb := chain hb hb2
    have hgR : w.heap.size ≤ t.gR := by omega
    have hgC : w.heap.size ≤ t.gC := by omega
    obtain ⟨hx, hy, hK1⟩ := Tb.in_of hxp hyp hcn hK
    obtain ⟨hrb, hrn, hrm, hrp, hrt⟩ := res_ready (ys := ys) hS hx HRL.out
    obtain ⟨Y, hY⟩ : ∃ Y, nm t.c ys = Y := ⟨_, rfl⟩
    have HAF := Lib.hid (fun z (hz : z ∈ resI xs (ordersP ra rb)) W (q : TabI t W) => after_any t hS (pwT xs + pwT ys + 1) (win_any t hS few hK1 _) z ys (nm t.c z) Y W q (hrt z hz).1 hy rfl hY (hrt z hz).2)
    have HIN := Lib.hid (show ∀ z ∈ resI xs (ordersP ra rb), ∀ x, ((wc t.S ys z).map fun x => tp t.S - x) = some x → 0 ≤ x ∧ x ≤ tp t.S from fun z hz x e => by
      obtain ⟨a1, a2, a3, -⟩ := hy.1.po
      rw [Option.map_eq_some_iff] at e
      obtain ⟨q, hq, rfl⟩ := e
      have := wc_in hS a2 a3 a1 (hrp z hz).po.1 hq
      show 0 ≤ tp t.S - q ∧ tp t.S - q ≤ tp t.S
      omega)
    obtain ⟨p1, p2, p3, p4, -⟩ := hx.1.po
    have HB := Lib.hid (fun (W : World) (r : IRow W a1 xs) => bearoffResultsM_any a1 n1 c1 xs ra rb W hn1 (by omega) (by omega) (by rw [← hn1, p4]; exact p1) hrb.1 hrb.2.1 hrb.2.2 r)
    have HLEN := Lib.hid (And.intro hrn hrm)
    have HPS := Lib.hid hrp
    have HY := Lib.hid hY
    have HYY := Lib.hid hy
    obtain ⟨N, hN⟩ : ∃ N, (resI xs (ordersP ra rb)).length = N := ⟨_, rfl⟩
    have hN1 : 0 < N ∧ N ≤ 1048576 := by omega
    have n0 : (N : Int) ≤ 1048576 := by omega
    have HNL := Lib.hid hN
    clear hb2 hw2 hsw hgR0 hgC0 hK hrn hrm hrp hrt hrb p1 p2 p3 p4 hY hx hy hxp hyp hcn HRL BV hN
    go_wp2_with fail
    replace hI := hI.drew
    replace BR := BR.drew
    replace hb := hb.drew
    refine wp_region_held_drew (S := fun w' => w'.cell? ⟨t.g, 0, none⟩ = some (.int .i64 t.p) ∧ w'.cell? ⟨t.g, 1, none⟩ = some (.int .i64 t.c) ∧ w'.cell? ⟨t.g, 2, none⟩ = some (.int .i64 t.h) ∧ w'.cell? ⟨t.g, 3, none⟩ = some (.int .i64 (t.S : Int)) ∧ w'.cell? ⟨t.g, 4, none⟩ = some (.pointer (some ⟨t.gw, 0, none⟩)) ∧ w'.cell? ⟨w.heap.size + 1, 0, none⟩ = some (.int .i64 ra) ∧ w'.cell? ⟨w.heap.size + 1, 1, none⟩ = some (.int .i64 rb)) (by kernel_rfl) ⟨hI.st.1.thirteen.1, hI.st.1.thirteen.2.1, hI.st.1.thirteen.2.2.1, hI.st.1.thirteen.2.2.2.1, hI.st.1.thirteen.2.2.2.2.1, BR.two.1, BR.two.2.1⟩ (fun hHeld => ?_)
    clear hHeld
    have hz_vd : w2.drew.heap.size = w2.heap.size := rfl
    generalize w2.drew = vd at *
    have hHeld : vd.cell? ⟨t.g, 0, none⟩ = some (.int .i64 t.p) ∧ vd.cell? ⟨t.g, 1, none⟩ = some (.int .i64 t.c) ∧ vd.cell? ⟨t.g, 2, none⟩ = some (.int .i64 t.h) ∧ vd.cell? ⟨t.g, 3, none⟩ = some (.int .i64 (t.S : Int)) ∧ vd.cell? ⟨t.g, 4, none⟩ = some (.pointer (some ⟨t.gw, 0, none⟩)) ∧ vd.cell? ⟨w.heap.size + 1, 0, none⟩ = some (.int .i64 ra) ∧ vd.cell? ⟨w.heap.size + 1, 1, none⟩ = some (.int .i64 rb) := ⟨hI.st.1.thirteen.1, hI.st.1.thirteen.2.1, hI.st.1.thirteen.2.2.1, hI.st.1.thirteen.2.2.2.1, hI.st.1.thirteen.2.2.2.2.1, BR.two.1, BR.two.2.1⟩
    refine tk 0 27 ?_
    refine tk 1 28 ?_
    refine tk 2 29 ?_
    refine tk 3 30 ?_
    refine tk 4 31 ?_
    refine tk 5 32 ?_
    refine tk 9 36 ?_
    refine rdk 6 33 fun K hK => ?_
    go_simp
    refine (HB.out _ (HRO1.out.below hb)).mono ?_
    rintro e wd ⟨g5, k5, l5, rfl, -, hQ5, hnm5, hA5, -, hb5⟩
    have hQR : QR wd g5 l5 := ⟨hQ5, fun x hx => (hA5 x hx).2.2⟩
    replace hI := hI.below hb5
    replace BR := BR.below hb5
    replace hb := chain hb hb5
    clear hb5
    have HNM := Lib.hid hnm5
    have HL5 := Lib.hid (nm_len hnm5)
    clear hQ5 hA5 hnm5
    (try go_wp2_with fail)
    refine hko hK ⟨hI.st.1.thirteen.1, hI.st.1.thirteen.2.1, hI.st.1.thirteen.2.2.1, hI.st.1.thirteen.2.2.2.1, hI.st.1.thirteen.2.2.2.2.1, (Blk.l2 BR)⟩ fun hHeld => ?_
    clear hK K
    refine rdk 7 34 fun K hK => ?_
    go_simp
    refine (numbersOf_any t g5 l5.length k5 l5 _ rfl (by rw [HL5.out]; exact HLEN.out.2) hI.st.2.1 hQR.1 (fun x hx => ⟨hQR.2 x hx, HPS.out x.2.2 (by rw [← HNM.out]; exact List.mem_map.2 ⟨x, hx, rfl⟩)⟩)).mono ?_
    rintro e we ⟨g6, rfl, -, R6, hb6⟩
    clear hQR
    replace hI := hI.below hb6
    replace BR := BR.below hb6
    replace hb := chain hb hb6
    clear hb6
    rw [HNM.out] at R6
    rw [HL5.out, HNL.out]
    (try go_wp2_with fail)
    refine hko hK ⟨hI.st.1.thirteen.1, hI.st.1.thirteen.2.1, hI.st.1.thirteen.2.2.1, hI.st.1.thirteen.2.2.2.1, hI.st.1.thirteen.2.2.2.2.1, (Blk.l2 BR)⟩ fun hHeld => ?_
    clear hK K
    refine tk 8 35 ?_
    refine wpAnyH_done (by kernel_rfl) ?_ _
    clear hHeld BR
    obtain ⟨base, hbase⟩ : ∃ z, we.heap.size = z := ⟨_, rfl⟩
    have hgb : t.gR < base ∧ t.gC < base := by
      obtain ⟨⟨_, q1⟩, ⟨_, q2⟩⟩ := hI.tab
      have := q1.lt
      have := q2.lt
      omega
    have hg6 : g6 < base := by have := R6.lt; omega
    have hbw : w.heap.size ≤ base := by have := hb.size; omega
    have hbs : base ≤ we.heap.size := by omega
    go_wp2_with fail
    go_loopg [12, 36] N (fun m q12 q36 wr => ∃ (W : World) (j : Nat) (l : List Rl), W = wr ∧ j ≤ N ∧ m = N - j ∧ q36 = .int .i64 (j : Int) ∧ LoO t W base q12 l ∧ PVs t.S ((rcO t.S xs ys ra rb).take j) l ∧ TabI t W ∧ Row W g6 ((resI xs (ordersP ra rb)).map fun z => (nm t.c z : Int)) ∧ base ≤ W.heap.size ∧ Below w.heap.size w W)
    case atStart => exact ⟨_, 0, [], rfl, by omega, by omega, rfl, LoO.nil _ _ _, PVs.nil _, hI, R6, hbs, hb⟩
    case round =>
      clear hI R6 hb hbs hbase
      obtain ⟨wr, j, l, hWW, hj, hm, rfl, hO, hP, hI, R6, hbs, hb⟩ := hrel
      subst hWW
      have hll : l.length = j := by
        rw [← hP.1, List.length_take, rcO, List.length_map, HNL.out]
        omega
      have HLL := Lib.hid hll
      have HP := Lib.hid hP
      clear hll hP
      by_cases hlt : j < N
      · have hlt' : (j : Int) < (N : Int) := by omega
        have j0 : (0 : Int) ≤ (j : Int) := by omega
        obtain ⟨z, hz⟩ : ∃ z, (resI xs (ordersP ra rb))[j]? = some z := ⟨_, List.getElem?_eq_getElem (by rw [HNL.out]; exact hlt)⟩
        have hzm := List.mem_of_getElem? hz
        have hcz := R6.cell j (by rw [List.length_map, HNL.out]; exact hlt)
        have e0 : ((resI xs (ordersP ra rb)).map fun z => (nm t.c z : Int)).getD j 0 = (nm t.c z : Int) := by
          rw [List.getD_eq_getElem?_getD, List.getElem?_map, hz]
          rfl
        rw [e0] at hcz
        have htk : (rcO t.S xs ys ra rb).take (j + 1) = (rcO t.S xs ys ra rb).take j ++ [(wc t.S ys z).map fun x => tp t.S - x] := by
          rw [List.take_add_one, rcO, List.getElem?_map, hz]
          rfl
        have HTK := Lib.hid htk
        have HA := Lib.hid (HAF.out z hzm)
        have HI2 := Lib.hid (HIN.out z hzm)
        obtain ⟨Z, hZ⟩ : ∃ Z, nm t.c z = Z := ⟨_, rfl⟩
        rw [hZ] at HA hcz
        obtain ⟨av, kv, hv⟩ := hO.1.form
        subst hv
        clear hz hzm e0 htk hZ
        obtain ⟨c0, c1, c2_, c3, c4, c5, c6, c7, c8, c9, cA, cB, cC, cf, cl⟩ := hI.st.1.thirteen
        go_wp2_with fail
        clear c0 c1 c2_ c3 c4 c5 c6 c7 c8 c9 cA cB cC cf cl
        clear hcz
        refine (numOf_any t.p t.c t.h (t.S : Int) t.gw a2 n2 c2 ys _ HYY.out.1 hn2 (HRO2.out.below hb) hI.st.2.1).mono ?_
        rintro e w3 ⟨rfl, hb4⟩
        rw [HY.out]
        have hs4 := hb4.size
        replace hI := hI.below hb4
        replace hO := hO.below hb4
        replace R6 := R6.below hb4
        replace hb := chain hb hb4
        clear hb4
        go_wp2_with fail
        refine (HA.out _ hI).mono ?_
        rintro e w4 ⟨y, cd, rfl, hp, hI4, hga⟩
        have hs5 := hga.gr.size
        replace hO := hO.grow hI hga hgb.1 hgb.2
        replace R6 := R6.gr hI.tab hga.gr
        replace hb := hb.trans (hga.gr.below (base := w.heap.size) hgR hgC hb.size)
        have hyb := hp.in HI2.out
        have hPn : PVs t.S ((rcO t.S xs ys ra rb).take (j + 1)) (l ++ [(y, cd)]) := by
          rw [HTK.out]
          exact HP.out.snoc hp (tp_all hS ⟨hyb.1, hyb.2.1⟩) (fun x e => tp_all hS (HI2.out x e))
        have HPN := Lib.hid hPn
        have hbs2 : base ≤ w4.heap.size := by omega
        have hlm : l.length ≤ 1048576 := by rw [HLL.out]; omega
        clear hI hga hp hyb hPn HP
        go_wp2_with (at_builtin; go_loud (refine wp_pushOW rfl _ _ rfl base _ l rfl hO.1 (y, cd) rfl rfl hlm hbs2 ?_; intro v2 w5 hO5 hb5 hk5 hw5))
        have hI5 : TabI t w5 := hI4.but hO.2 hk5
        have hO6 := hO.next hI4 hgb.2 hbs2 hO5 hb5 hw5 (by simp)
        have R7 : Row w5 g6 ((resI xs (ordersP ra rb)).map fun z => (nm t.c z : Int)) := by
          obtain ⟨cur, hB, r⟩ := R6
          exact ⟨cur, (hb5.block g6 hg6).trans hB, r⟩
        have hb7 := hb.trans (hb5.mono hbw)
        have hs7 := hb5.size
        clear hO hO5 R6 hb hb5 hk5 hw5 hI4
        go_wp2
        go_roundg (N - (j + 1))
        case measure => omega
        case rel => exact ⟨_, j + 1, l ++ [(y, cd)], rfl, by omega, rfl, by go_num, hO6, HPN.out, hI5, R7, by omega, hb7⟩
      · obtain rfl : j = N := by omega
        obtain ⟨av, kv, hv⟩ := hO.1.form
        subst hv
        have hPf : PVs t.S (rcO t.S xs ys ra rb) l := by
          have := HP.out
          rwa [List.take_of_length_le (by rw [rcO, List.length_map, HNL.out]; exact Nat.le_refl _)] at this
        rcases hO.1.row.2 with ⟨-, q⟩ | ⟨g, rfl, hR⟩
        · have := HLL.out
          rw [q] at this
          simp at this
          omega
        · have HX := Lib.hid (exacts_any t hS g l.length kv (rcO t.S xs ys ra rb) l wr rfl (by rw [HLL.out]; omega) hI hPf hR)
          have HSZ := Lib.hid hb.size
          clear hPf hR hO HP
          go_wp2_with fail
          refine (HX.out).mono ?_
          rintro e w9 ⟨av, kv, rfl, hOx, hb9⟩
          go_wp2_with fail
          go_ret2
          exact ⟨av, kv, rfl, hOx.mono HSZ.out (Nat.le_refl _), chain hb hb9⟩
  · rw [rcV, if_neg k0]
    obtain ⟨K, hK⟩ : ∃ K, tnE p c h s xs ys ra rb = K := ⟨_, rfl⟩
    rw [hK] at HC k0 ⊢
    have f0 : (K != 0) = true := by rw [bne_iff_ne]; exact k0
    clear hK
    go_enter Tryz.func25, Tryz.ntmps25
    go_wp2_with fail
    refine (HC.out).mono ?_
    rintro e w1 ⟨rfl, hb1⟩
    clear x0 x1 x2 x3 xf xl y0 y1 yf yl
    go_wp2_with fail
    go_ret2
    exact ⟨none, 0, rfl, .inl ⟨rfl, rfl⟩, chain hb hb1⟩
end Go.Proofs.YtlnljfbdicgkcaaGreat
