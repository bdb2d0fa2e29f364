/- Contracts of the list of possible actions, of the program (slices.Collect over an iterator) and of its model. -/
import Derived.Test.Ytkcjbjkccafekaa16f
import Derived.Test.Ytkcjbjkccafekaa16d
import Derived.Test.YtkcjbjkccafekaaOwnS
import Derived.RangeFuncNested
import Derived.RangeFuncBound
import Derived.RangeFuncCalls
import Derived.RangeFuncLeaves
import Derived.Shelf.Abstract
import Derived.Shelf.RegionOpen
import Derived.WalkKit
import Derived.OwnWalkIn
import Derived.TacticsInMore
import Derived.LoopNIn
import Derived.LoopIn
import Derived.Maps.AppendAt
import Derived.RangeFuncBox
namespace Go.Proofs.Ytkcjbjkccafekaa
open Go.ChangeShapes Go.WideShapes Go.ChangeAt Go.RowKit Go.Shelf
attribute [local go_sem] Oper.semAt_some
set_option linter.unusedVariables false
set_option linter.unusedSimpArgs false
set_option maxRecDepth 4000

set_option maxRecDepth 100000 in
set_option maxHeartbeats 2000000 in
/-- slices.AppendSeq(nil, seq) at numbers, against whatever iterator: what it gives, in its order. -/
theorem appendSeq64_in (n gf n0 N : Nat) (lb : Array Value) (S Sp : List Int → Prop) (w0 w : World) (hn : 2 ≤ n) (hN : N ≤ 1000) (hn0 : n0 ≤ w.heap.size) (hb0 : Below w0.heap.size w0 w) (eg : ∀ args w, (callFunc gf args).run Try.prog w = .ok (.enter gf args) w)
    (hseq : SeqStopsK Fence.wide (n - 1) Try.prog gf lb (fun x : Int => #[.int .i64 x]) (Below n0) S Sp N w0) :
    CallsIn Fence.wide n Try.prog 54 #[.slice none 0 0, .func (.func gf) #[] lb] w fun e w' => ∃ v xs, e = .returned v ∧ S xs ∧ Own w' w.heap.size v xs ∧ Below w.heap.size w w' := by
  have h1 : 1 ≤ n := by omega
  obtain ⟨i0, hi, hz0, hz1, hz2⟩ := info_parts infoI64
  refine callsIn_of_wp_marks Try.func54 rfl trivial ?_ rfl
  simp only [Try.ntmps54, List.size_toArray, List.length_cons, List.length_nil, Nat.reduceAdd, Nat.reduceSub, Array.replicate_succ, Array.replicate_zero, List.push_toArray, List.append_toArray, List.nil_append, List.cons_append]
  gi_wp2
  have hB0 : Below w.heap.size w (w.alloc (.cells #[.slice none 0 0] 30)) := (Below.refl _ w).alloc (Nat.le_refl _) _
  have hv0 := Boxed.new w 30 (.slice none 0 0)
  have hz : (w.alloc (.cells #[.slice none 0 0] 30)).heap.size = w.heap.size + 1 := by simp
  refine wpIn_rangeFunc_ownF rfl h1 (gf := gf) (lb := lb) rfl trivial eg hseq belowK_t (belowK_b (by omega)) (hb0.trans (hB0.mono hb0.size)) (fun _ => rfl)
    (fun pre W => (∃ v, Boxed W w.heap.size 30 v ∧ W.ownsRow w.heap.size 2 1 v pre.length (ints pre) ∧ True) ∧ Below w.heap.size w W)
    (fun _ _ _ => False)
    (OwnFrom.and (Go.Own.from (holdsRow_own w.heap.size w.heap.size 30 2 1 (fun pre : List Int => pre.length) (fun pre => ints pre) (fun _ _ => True)) _) (ownFrom_below (Nat.le_refl _) (by omega)))
    (fun _ _ _ _ _ hs _ _ => hs)
    ⟨⟨_, hv0, World.ownsRow_nil _ _ _ _, trivial⟩, hB0⟩
    (fun x => { tmps := #[.slice none 0 0, .func (.func gf) #[] lb, .pointer (some ⟨w.heap.size, 0, none⟩), undef, .slice none 0 0, .int .i64 x, .func (.func gf) #[] lb, .int .i64 x, undef, undef, undef, undef, undef], defers := [] }) ?assign ?body ?done ?stop
  case assign =>
    intro l x W K hK
    gi_wp2
    exact hK
  case body =>
    rintro l pre x W ⟨⟨v, hv, hrow, _⟩, hB⟩ hlen
    have hc := hv.cell
    have hf := hv.frozen
    have hlt := hv.lt
    gi_wp2_with (gi_at_builtin; refine wpListIn_append_own _ rfl _ _ 30 rfl w.heap.size 2 i0 (.int .i64 0) 1 8 Try.underlying30 hi hz0 hz1 hz2 rfl (by decide) _ _ _ rfl (hrow.alloc _) ⟨W.heap.size, 0, none⟩ 1 1 [.int .i64 x] rfl rfl (cell_one_new _ _ _) (by simp [Value.oneCell']) (by unfold maxLen; omega) (by omega) (by have := hB.size; simp; omega) ?_; intro v' w1 hown' hgrow _; obtain ⟨g', cap', rfl⟩ := ownsRow_succ hown'; obtain ⟨hv1, hv2, hr2, hk2, hb2⟩ := hv.appended (by decide) hrow hB.size (Nat.le_refl _) hown' hgrow; have hc1 := hv1.cell; have hf1 := hv1.frozen)
    exact ⟨hk2, hb2.mono hn0, ⟨_, hv2, by simpa [ints] using hr2, trivial⟩, hB.trans hb2⟩
  case done =>
    rintro D xs W hD hS ⟨⟨v, hv, hrow, _⟩, hB⟩ hK
    have hc := hv.cell
    gi_wp2
    refine ⟨by simp, .inl ⟨_, _, rfl, run_takeDeferred hK, ?_⟩⟩
    exact ⟨_, results_tmp rfl _ _ _, v, xs, rfl, hS, ownsRow_putObj hrow _ hK rfl, hB.trans (belowK_b (w := w) (Nat.le_refl _) W D _ _ (by omega) hK rfl rfl)⟩
  case stop =>
    rintro D c pre W _ _ h _
    exact h.elim
set_option maxHeartbeats 1000000 in
theorem collect64_in (n gf n0 N : Nat) (lb : Array Value) (S Sp : List Int → Prop) (w0 w : World) (hn : 3 ≤ n) (hN : N ≤ 1000) (hn0 : n0 ≤ w.heap.size) (hb0 : Below w0.heap.size w0 w) (eg : ∀ args w, (callFunc gf args).run Try.prog w = .ok (.enter gf args) w)
    (hseq : SeqStopsK Fence.wide (n - 1 - 1) Try.prog gf lb (fun x : Int => #[.int .i64 x]) (Below n0) S Sp N w0) :
    CallsIn Fence.wide n Try.prog 38 #[.func (.func gf) #[] lb] w fun e w' => ∃ v xs, e = .returned v ∧ S xs ∧ Own w' w.heap.size v xs ∧ Below w.heap.size w w' := by
  have h1 : 1 ≤ n := by omega
  refine callsIn_of_wp Try.func38 rfl trivial ?_ rfl
  simp only [Try.ntmps38, List.size_toArray, List.length_cons, List.length_nil, Nat.reduceAdd, Nat.reduceSub, Array.replicate_succ, Array.replicate_zero, List.push_toArray, List.append_toArray, List.nil_append, List.cons_append]
  gi_wp2_with (refine ⟨trivial, ?_⟩; gi_at_call 54; refine (appendSeq64_in (n - 1) gf n0 N lb S Sp w0 _ (by omega) hN hn0 hb0 eg hseq).mono ?_; rintro e w' ⟨v, xs, rfl, hS, hO, hb⟩)
  go_ret
  exact ⟨v, xs, rfl, hS, hO, hb⟩
theorem actions1_enter (args : Array Value) (w : World) : (callFunc 55 args).run Try.prog w = .ok (.enter 55 args) w := by
  obtain ⟨fn, hf, hn, cc, hc⟩ : ∃ fn, Try.prog.funcs[(55 : FuncId)]? = some fn ∧ (fn.name == "runtime.NumGoroutine") = false ∧ ∃ cc, fn.body = some cc := ⟨_, Try.func55, by kernel_rfl, _, rfl⟩
  have h1 : ¬ fn.name = "runtime.NumGoroutine" := by simpa using hn
  simp [callFunc, hf, h1, hc]
/-- The list of possible actions. -/
def caL (m : Int) (be : Bool) (v o : Int) : List Int := if cbB m v o = true then acL m be v o else []
theorem caL_length (m : Int) (be : Bool) (v o : Int) : (caL m be v o).length ≤ 5 := by
  unfold caL
  split
  · exact acP_len m be v o 5
  · simp
set_option maxRecDepth 100000 in
set_option maxHeartbeats 2000000 in
theorem cubeActions_any (m v o : Int) (be ja : Bool) (w : World) :
    Calls Try.prog 14 #[.agg #[.int .i64 m, .bool be, .bool ja], .agg #[.int .i64 v, .int .i64 o]] w (SliceGot (caL m be v o) w) := by
  have hc := fun W => hasCube_any m v o be ja W
  have ha := fun W => actions_any m v o be ja W
  unfold caL
  obtain ⟨BR, BC, hb, hz⟩ := two_new w #[.int .i64 m, .bool be, .bool ja] #[.int .i64 v, .int .i64 o] 25 27
  clear hz
  obtain ⟨x0, x1, x2, xf, xl⟩ := BR.t3
  obtain ⟨u0, u1, uf, ul⟩ := BC.two
  cases g : cbB m v o with
  | false =>
    rw [g] at hc
    have HC := Lib.hid hc
    clear hc ha g
    go_enter Try.func14, Try.ntmps14
    go_wp2_with (go_at_call 37; refine (HC.out _).mono ?_; rintro e w1 ⟨rfl, hb1⟩)
    go_ret
    exact ⟨none, 0, rfl, .inl ⟨rfl, rfl⟩, chain hb hb1⟩
  | true =>
    have hv : 1 ≤ v ∧ v ≤ 1024 := by have := cbB_parts g; omega
    have hst := fun (B1 B2 n0 : Nat) (W : World) h1 h2 hn0 hR hC => actions1_stops m v o be ja B1 B2 n0 1 W (Nat.le_refl _) hv h1 h2 hn0 hR hC
    rw [if_pos rfl]
    rw [g] at hc
    obtain ⟨L, hL⟩ : ∃ L, acL m be v o = L := ⟨_, rfl⟩
    rw [hL] at hst ⊢
    have HC := Lib.hid hc
    have HA := Lib.hid ha
    have HST := Lib.hid hst
    clear hc ha hst g hv hL
    refine (callsIn_wide (n := 4)).1 ?_
    refine callsIn_of_wp Try.func14 rfl trivial ?_ rfl
    simp only [Try.ntmps14, List.size_toArray, List.length_cons, List.length_nil, Nat.reduceAdd, Nat.reduceSub, Array.replicate_succ, Array.replicate_zero, List.push_toArray, List.append_toArray, List.nil_append, List.cons_append]
    gi_wp2_with (first | (refine ⟨trivial, ?_⟩; gi_at_call 37; refine (callsIn_wide.2 (HC.out _)).mono ?_; rintro e w1 ⟨rfl, hb1⟩; obtain ⟨y0, y1, y2, yf, yl⟩ := (BR.below hb1).t3; obtain ⟨z0, z1, zf, zl⟩ := (BC.below hb1).two) | (refine ⟨trivial, ?_⟩; gi_at_call 39; refine (callsIn_wide.2 (HA.out _)).mono ?_; rintro e w2 ⟨rfl, BR2, BC2, hb2, hz2⟩) | (refine ⟨trivial, ?_⟩; gi_at_call 38; refine (collect64_in 3 55 w2.heap.size 5 _ _ _ w2 w2 (by omega) (by omega) (Nat.le_refl _) (Below.refl _ _) actions1_enter (HST.out _ _ _ _ (by omega) (by omega) (Nat.le_refl _) BR2 BC2)).mono ?_; rintro e w3 ⟨r, xs, rfl, hxs, hO, hb3⟩; obtain rfl : xs = L := hxs; obtain ⟨ra, rk, rfl⟩ := hO.form))
    go_ret
    have hbb := chain (chain hb hb1) hb2
    exact ⟨ra, rk, rfl, hO.osl.mono hbb.size (Nat.le_refl _), chain hbb hb3⟩
set_option maxRecDepth 8000 in
set_option maxHeartbeats 2000000 in
theorem specCubeActions_any (m v o : Int) (be ja : Bool) (w : World) :
    Calls Try.prog 16 #[.agg #[.int .i64 m, .bool be, .bool ja], .agg #[.int .i64 v, .int .i64 o]] w (SliceGot (caL m be v o) w) := by
  have hc := fun W => specIsCube_any m v o be ja W
  unfold caL
  obtain ⟨BR, BC, hb, hz⟩ := two_new w #[.int .i64 m, .bool be, .bool ja] #[.int .i64 v, .int .i64 o] 25 27
  clear hz
  obtain ⟨x0, x1, x2, xf, xl⟩ := BR.t3
  obtain ⟨u0, u1, uf, ul⟩ := BC.two
  cases g : cbB m v o with
  | false =>
    rw [g] at hc
    have HC := Lib.hid hc
    clear hc g
    go_enter Try.func16, Try.ntmps16
    go_wp2_with (go_at_call 23; refine (HC.out _).mono ?_; rintro e w1 ⟨rfl, hb1⟩)
    go_ret
    exact ⟨none, 0, rfl, .inl ⟨rfl, rfl⟩, chain hb hb1⟩
  | true =>
    have hv : 1 ≤ v ∧ v ≤ 1024 := by have := cbB_parts g; omega
    have hall := acP_all m be v o
    have hp := fun (k : Int) W => l16Possible_any m v o k be ja W hv
    rw [if_pos rfl]
    rw [g] at hc
    obtain ⟨L, hL⟩ : ∃ L, acL m be v o = L := ⟨_, rfl⟩
    rw [hL] at hall ⊢
    have HALL := Lib.hid hall
    have HC := Lib.hid hc
    have HP := Lib.hid hp
    clear hc hp hall g hv hL
    go_enter Try.func16, Try.ntmps16
    go_wp2_with (go_at_call 23; refine (HC.out _).mono ?_; rintro e w1 ⟨rfl, hb1⟩)
    have BS := Own.start w1
    have ha : Below w1.heap.size w1 (w1.alloc (.cells #[] 2)) := (Below.refl _ _).alloc (Nat.le_refl _) _
    have hw2 : w.heap.size + 1 + 1 ≤ w1.heap.size := by have := hb1.size; simp at this; omega
    replace hb := chain hb hb1
    replace BR := (BR.below hb1).below ha
    replace BC := (BC.below hb1).below ha
    replace hb := chain hb ha
    replace BS := BS.mono hw2
    clear x0 x1 x2 xf xl u0 u1 uf ul ha hb1
    generalize (w1.alloc (.cells #[] 2)) = v0 at *
    go_loopg [5, 6] 5 (fun q s i wr => ∃ k : Nat, k ≤ 5 ∧ q = 5 - k ∧ i = .int .i64 k ∧ Own wr (w.heap.size + 1 + 1) s (acP m be v o k) ∧ Blk wr w.heap.size #[.int .i64 m, .bool be, .bool ja] 25 ∧ Blk wr (w.heap.size + 1) #[.int .i64 v, .int .i64 o] 27 ∧ Below w.heap.size w wr)
    case atStart => exact ⟨0, by omega, by omega, rfl, BS, BR, BC, hb⟩
    case round =>
      clear BS BR BC hb
      obtain ⟨k, hk, hq, rfl, hO, BR, BC, hb⟩ := hrel
      obtain ⟨x0, x1, x2, xf, xl⟩ := BR.t3
      obtain ⟨u0, u1, uf, ul⟩ := BC.two
      have hsz := hb.size
      by_cases hlt : k < 5
      · have hlt' : (k : Int) ≤ 4 := by omega
        have hpk := HP.out (k : Int)
        have hsu := acP_succ m be v o k hlt
        have hle := acP_len m be v o k
        cases g : posB m be v o (k : Int) with
        | false =>
          rw [g] at hpk hsu
          rw [if_neg (by simp), List.append_nil] at hsu
          have HK := Lib.hid hpk
          have HSU := Lib.hid hsu
          clear hpk hsu g
          go_wp2_with (go_at_call 40; refine (HK.out _).mono ?_; rintro e w5 ⟨rfl, hb5⟩)
          go_roundg (5 - (k + 1))
          case measure => omega
          case rel => exact ⟨k + 1, by omega, rfl, by go_num, by rw [HSU.out]; exact hO.kept hb5, BR.below hb5, BC.below hb5, chain hb hb5⟩
        | true =>
          rw [g] at hpk hsu
          rw [if_pos rfl] at hsu
          have HK := Lib.hid hpk
          have HSU := Lib.hid hsu
          clear hpk hsu g
          go_wp2_with (first | (go_at_call 40; refine (HK.out _).mono ?_; rintro e w5 ⟨rfl, hb5⟩) | (at_builtin; refine wp_push rfl _ _ rfl (w.heap.size + 1 + 1) _ (acP m be v o k) rfl (hO.kept hb5) (k : Int) rfl (by omega) (by have := BC.lt; have := hb5.size; omega) ?_; intro v2 w6 hO2 hb6))
          go_roundg (5 - (k + 1))
          case measure => omega
          case rel => exact ⟨k + 1, by omega, rfl, by go_num, by rw [HSU.out]; exact hO2, (BR.below hb5).low hb6 (by omega), (BC.below hb5).low hb6 (by omega), (chain hb hb5).trans (hb6.mono (by omega))⟩
      · obtain rfl : k = 5 := by omega
        obtain ⟨a, cp, rfl⟩ := hO.form
        have hos := hO.osl
        rw [HALL.out] at hos
        have hEl : (acP m be v o 5).length = L.length := by rw [HALL.out]
        rw [hEl]
        clear hEl hO
        go_wp2
        go_ret
        exact ⟨a, cp, rfl, hos.mono (by omega) (Nat.le_refl _), hb⟩
end Go.Proofs.Ytkcjbjkccafekaa
