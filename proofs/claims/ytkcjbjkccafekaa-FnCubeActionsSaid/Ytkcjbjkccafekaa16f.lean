/- Contract of the program's iterator over the possible actions. -/
import Derived.Test.Ytkcjbjkccafekaa16c
import Derived.RangeFuncNested
import Derived.RangeFuncBound
import Derived.RangeFuncCalls
import Derived.RangeFuncLeaves
import Derived.Shelf.Abstract
import Derived.Shelf.RegionOpen
import Derived.WalkKit
import Derived.OwnWalkIn
import Derived.TacticsInMore
import Derived.LoopNIn
import Derived.LoopIn
import Derived.Maps.AppendAt
import Derived.RangeFuncBox
namespace Go.Proofs.Ytkcjbjkccafekaa
open Go.ChangeShapes Go.WideShapes Go.ChangeAt Go.RowKit Go.Shelf
attribute [local go_sem] Oper.semAt_some
set_option linter.unusedVariables false
set_option linter.unusedSimpArgs false
set_option maxRecDepth 4000

theorem grown_none {X Y : World} (hb : Below X.heap.size X Y) : X.grownBy Y none := ⟨hb.os, hb.tape, hb.output, hb.size, fun k hk _ => hb.block k hk⟩
/-- The possible actions below a number. -/
def acP (m : Int) (be : Bool) (v o : Int) (k : Nat) : List Int := (([0, 1, 2, 3, 4] : List Int).take k).filter (posB m be v o)
theorem acP_zero (m : Int) (be : Bool) (v o : Int) : acP m be v o 0 = [] := rfl
theorem acP_all (m : Int) (be : Bool) (v o : Int) : acP m be v o 5 = acL m be v o := rfl
theorem acP_pre (m : Int) (be : Bool) (v o : Int) (k : Nat) : acP m be v o k <+: acL m be v o := (List.take_prefix k _).filter _
theorem acP_len (m : Int) (be : Bool) (v o : Int) (k : Nat) : (acP m be v o k).length ≤ k := by
  unfold acP
  refine Nat.le_trans (List.length_filter_le _ _) ?_
  rw [List.length_take]
  omega
theorem acP_succ (m : Int) (be : Bool) (v o : Int) (k : Nat) (h : k < 5) : acP m be v o (k + 1) = acP m be v o k ++ (if posB m be v o (k : Int) = true then [(k : Int)] else []) := by
  unfold acP
  rw [List.take_add_one, List.filter_append]
  congr 1
  have : k = 0 ∨ k = 1 ∨ k = 2 ∨ k = 3 ∨ k = 4 := by omega
  rcases this with rfl | rfl | rfl | rfl | rfl <;> simp [List.filter_cons]
theorem actions_any (m v o : Int) (be ja : Bool) (w : World) :
    Calls Try.prog 39 #[.agg #[.int .i64 m, .bool be, .bool ja], .agg #[.int .i64 v, .int .i64 o]] w fun e w' => e = .returned (.func (.func 55) #[] #[.pointer (some ⟨w.heap.size, 0, none⟩), .pointer (some ⟨w.heap.size + 1, 0, none⟩)]) ∧
      Blk w' w.heap.size #[.int .i64 m, .bool be, .bool ja] 25 ∧ Blk w' (w.heap.size + 1) #[.int .i64 v, .int .i64 o] 27 ∧ Below w.heap.size w w' ∧ w'.heap.size = w.heap.size + 1 + 1 := by
  obtain ⟨BR, BC, hb, hz⟩ := two_new w #[.int .i64 m, .bool be, .bool ja] #[.int .i64 v, .int .i64 o] 25 27
  go_enter Try.func39, Try.ntmps39
  go_wp2
  go_ret
  exact ⟨rfl, BR, BC, hb, hz⟩
set_option maxRecDepth 100000 in
set_option maxHeartbeats 2000000 in
theorem actions1_stops (m v o : Int) (be ja : Bool) (B1 B2 n0 n : Nat) (w : World) (hn : 1 ≤ n) (hv : 1 ≤ v ∧ v ≤ 1024) (h1 : B1 < n0) (h2 : B2 < n0) (hn0 : n0 ≤ w.heap.size) (hR : Blk w B1 #[.int .i64 m, .bool be, .bool ja] 25) (hC : Blk w B2 #[.int .i64 v, .int .i64 o] 27) :
    SeqStopsK Fence.wide n Try.prog 55 #[.pointer (some ⟨B1, 0, none⟩), .pointer (some ⟨B2, 0, none⟩)] (fun x : Int => #[.int .i64 x]) (Below n0) (fun xs => xs = acL m be v o) (fun pre => pre <+: acL m be v o) 5 w := by
  intro l J Jx W hW hJ hJx hY h0
  refine callsIn_of_wp Try.func55 rfl trivial ?_ rfl
  simp only [Try.ntmps55, List.size_toArray, List.length_cons, List.length_nil, Nat.reduceAdd, Nat.reduceSub, Array.replicate_succ, Array.replicate_zero, List.push_toArray, List.append_toArray, List.nil_append, List.cons_append]
  have BR := hR.below hW
  have BC := hC.below hW
  have hz := hW.size
  gi_wp2
  gi_loopw [5] (fun p wr => ∃ k : Nat, k ≤ 5 ∧ p = .int .i64 k ∧ J (acP m be v o k) wr ∧ Blk wr B1 #[.int .i64 m, .bool be, .bool ja] 25 ∧ Blk wr B2 #[.int .i64 v, .int .i64 o] 27 ∧ W.heap.size ≤ wr.heap.size) (fun p _ => 5 - (intOf p).toNat)
  case atStart => exact ⟨0, Nat.zero_le _, rfl, h0, BR, BC, Nat.le_refl _⟩
  case round =>
    clear BR BC h0 hR hC
    obtain ⟨k, hk, rfl, hJs, BR, BC, hWr⟩ := hrel
    by_cases hlt : k < 5
    · have hp := fun W => isPossible_any m v o (k : Int) be ja W hv
      have hsu := acP_succ m be v o k hlt
      have hle := acP_len m be v o k
      have hpr := acP_pre m be v o (k + 1)
      have hlt' : (k : Int) < 5 := by omega
      have hk0 : (0 : Int) ≤ (k : Int) := by omega
      obtain ⟨x0, x1, x2, xf, xl⟩ := BR.t3
      obtain ⟨u0, u1, uf, ul⟩ := BC.two
      cases g : posB m be v o (k : Int) with
      | false =>
        rw [g] at hp hsu
        rw [if_neg (by simp), List.append_nil] at hsu
        have HP := Lib.hid hp
        have HSU := Lib.hid hsu
        clear hp g hsu
        gi_wp2_with (refine ⟨trivial, ?_⟩; gi_at_call 42; refine (callsIn_wide.2 (HP.out _)).mono ?_; rintro e w5 ⟨rfl, hb5⟩)
        have hJ5 := hJ _ _ _ none hJs (grown_none hb5) (fun r e => by cases e)
        have hz5 := hb5.size
        refine ⟨fun _ h => (by cases h), ?_⟩
        gi_wp2
        go_roundw
        case rel => exact ⟨k + 1, by omega, by simp, by rw [HSU.out]; exact hJ5, BR.below hb5, BC.below hb5, by omega⟩
        case measure => simp [intOf]; omega
      | true =>
        rw [g] at hp hsu
        rw [if_pos rfl] at hsu
        have HP := Lib.hid hp
        have HSU := Lib.hid hsu
        clear hp g hsu
        gi_wp2_with (refine ⟨trivial, ?_⟩; gi_at_call 42; refine (callsIn_wide.2 (HP.out _)).mono ?_; rintro e w5 ⟨rfl, hb5⟩; have hJ5 := hJ _ _ _ none hJs (grown_none hb5) (fun r e => by cases e); obtain ⟨fn, tmps, assign, body, hyy, hR⟩ := hY (acP m be v o k) (k : Int) w5 hJ5 (by omega))
        have hz5 := hb5.size
        rw [← HSU.out] at hR
        have BR5 := BR.below hb5
        have BC5 := BC.below hb5
        (try gi_wp2)
        refine hR.mono ?_
        rintro e Y (⟨rfl, hJY, hkY⟩ | ⟨rfl, hJY⟩)
        · have hzY := hkY.size
          gi_wp2
          go_roundw
          case rel => exact ⟨k + 1, by omega, by simp, hJY, BR5.low hkY h1, BC5.low hkY h2, by omega⟩
          case measure => simp [intOf]; omega
        · gi_wp2
          refine bodyPost_ret (results_none rfl _ _ _) rfl ?_
          exact ⟨⟨_, rfl⟩, .inr ⟨_, hpr, hJY⟩⟩
    · obtain rfl : k = 5 := by omega
      rw [acP_all] at hJs
      gi_wp2
      go_end0
      exact ⟨⟨_, rfl⟩, .inl ⟨_, rfl, hJs⟩⟩
end Go.Proofs.Ytkcjbjkccafekaa
