/- Contract of the program's iterator over the valid cubes. -/
import Derived.Test.YtkcjbjkccafekaaDoor16t
import Derived.RangeFuncNested
import Derived.RangeFuncBound
import Derived.RangeFuncCalls
import Derived.RangeFuncLeaves
import Derived.Shelf.Abstract
import Derived.Shelf.RegionOpen
import Derived.WalkKit
import Derived.OwnWalkIn
import Derived.TacticsInMore
import Derived.LoopNIn
import Derived.LoopIn
import Derived.Maps.AppendAt
import Derived.RangeFuncBox
namespace Go.Proofs.YtkcjbjkccafekaaDoor
open Go.ChangeShapes Go.WideShapes Go.ChangeAt Go.RowKit Go.Shelf
attribute [local go_sem] Oper.semAt_some
set_option linter.unusedVariables false
set_option linter.unusedSimpArgs false
set_option maxRecDepth 4000

theorem grown_none {X Y : World} (hb : Below X.heap.size X Y) : X.grownBy Y none := ⟨hb.os, hb.tape, hb.output, hb.size, fun k hk _ => hb.block k hk⟩
/-- A cube that is valid for the widest rules. -/
abbrev CuS := {x : Int × Int // cbB 1024 x.1 x.2 = true}
def cuA (n : Nat) : Int × Int := (p2 (n / 3), ((n % 3 : Nat) : Int))
theorem cuA_at {k j : Nat} (hj : j < 3) : cuA (3 * k + j) = (p2 k, (j : Int)) := by
  unfold cuA
  rw [show (3 * k + j) / 3 = k by omega, show (3 * k + j) % 3 = j by omega]
/-- The valid cubes among the first ones. -/
def cuS : Nat → List CuS
  | 0 => []
  | n + 1 => cuS n ++ (if h : cbB 1024 (cuA n).1 (cuA n).2 = true then [⟨cuA n, h⟩] else [])
theorem cuS_len : ∀ n, (cuS n).length ≤ n
  | 0 => by simp [cuS]
  | n + 1 => by
    have := cuS_len n
    rw [cuS, List.length_append]
    split <;> simp <;> omega
theorem cuS_pre {m n : Nat} (h : m ≤ n) : cuS m <+: cuS n := by
  induction n with
  | zero => obtain rfl : m = 0 := by omega
            exact List.prefix_refl _
  | succ n ih =>
    by_cases e : m = n + 1
    · subst e
      exact List.prefix_refl _
    · exact (ih (by omega)).trans (List.prefix_append _ _)
theorem cuS_yes {k j : Nat} (hj : j < 3) (h : cbB 1024 (p2 k) (j : Int) = true) : cuS (3 * k + (j + 1)) = cuS (3 * k + j) ++ [⟨(p2 k, (j : Int)), h⟩] := by
  rw [← Nat.add_assoc, cuS]
  have e := cuA_at (k := k) hj
  rw [dif_pos (by rw [e]; exact h)]
  simp only [e]
theorem cuS_no {k j : Nat} (hj : j < 3) (h : cbB 1024 (p2 k) (j : Int) = false) : cuS (3 * k + (j + 1)) = cuS (3 * k + j) := by
  rw [← Nat.add_assoc, cuS]
  have e := cuA_at (k := k) hj
  rw [dif_neg (by rw [e]; simp [h]), List.append_nil]
abbrev cuE (x : CuS) : Array Value := #[.agg #[.int .i64 x.1.1, .int .i64 x.1.2]]
theorem shl_p2 {k : Nat} (h : k ≤ 10) : wrap64 (2 ^ k) = p2 k := by
  have : k = 0 ∨ k = 1 ∨ k = 2 ∨ k = 3 ∨ k = 4 ∨ k = 5 ∨ k = 6 ∨ k = 7 ∨ k = 8 ∨ k = 9 ∨ k = 10 := by omega
  rcases this with rfl | rfl | rfl | rfl | rfl | rfl | rfl | rfl | rfl | rfl | rfl <;> exact (IntWalk.wrap64_in _ (by omega)).trans (by decide)
theorem cubes_any (w : World) :
    Calls Tryd.prog 19 #[.agg #[.int .i64 1024, .bool false, .bool false]] w fun e w' => e = .returned (.func (.func 27) #[] #[.pointer (some ⟨w.heap.size, 0, none⟩)]) ∧ Blk w' w.heap.size #[.int .i64 1024, .bool false, .bool false] 37 ∧ Below w.heap.size w w' ∧ w'.heap.size = w.heap.size + 1 := by
  have BR := Blk.new w #[.int .i64 1024, .bool false, .bool false] 37
  have hb : Below w.heap.size w (w.alloc (.cells #[.int .i64 1024, .bool false, .bool false] 37)) := (Below.refl _ _).alloc (Nat.le_refl _) _
  have hz : (w.alloc (.cells #[.int .i64 1024, .bool false, .bool false] 37)).heap.size = w.heap.size + 1 := by simp
  go_enter Tryd.func19, Tryd.ntmps19
  go_wp2
  go_ret
  exact ⟨rfl, BR, hb, hz⟩
theorem cubes1_enter (args : Array Value) (w : World) : (callFunc 27 args).run Tryd.prog w = .ok (.enter 27 args) w := by
  obtain ⟨fn, hf, hn, cc, hc⟩ : ∃ fn, Tryd.prog.funcs[(27 : FuncId)]? = some fn ∧ (fn.name == "runtime.NumGoroutine") = false ∧ ∃ cc, fn.body = some cc := ⟨_, Tryd.func27, by kernel_rfl, _, rfl⟩
  have h1 : ¬ fn.name = "runtime.NumGoroutine" := by simpa using hn
  simp [callFunc, hf, h1, hc]
set_option maxRecDepth 100000 in
set_option maxHeartbeats 2000000 in
theorem cubes1_stops (B1 n0 n : Nat) (w : World) (hn : 1 ≤ n) (h1 : B1 < n0) (hn0 : n0 ≤ w.heap.size) (hR : Blk w B1 #[.int .i64 1024, .bool false, .bool false] 37) :
    SeqStopsK Fence.wide n Tryd.prog 27 #[.pointer (some ⟨B1, 0, none⟩)] cuE (Below n0) (fun xs => xs = cuS 33) (fun pre => pre <+: cuS 33) 33 w := by
  intro l J Jx W hW hJ hJx hY h0
  have hlen := fun W => Tryd.bits_Len64 1024 W (by omega) (by omega)
  rw [show (Lib.bitLen (1024 : Int).toNat : Int) = 11 by decide] at hlen
  have HL := Lib.hid hlen
  clear hlen
  refine callsIn_of_wp Tryd.func27 rfl trivial ?_ rfl
  simp only [Tryd.ntmps27, List.size_toArray, List.length_cons, List.length_nil, Nat.reduceAdd, Nat.reduceSub, Array.replicate_succ, Array.replicate_zero, List.push_toArray, List.append_toArray, List.nil_append, List.cons_append]
  have BR := hR.below hW
  gi_wp2_with (refine ⟨trivial, ?_⟩; gi_at_call 28; refine (callsIn_wide.2 (HL.out _)).mono ?_; rintro e w1 ⟨rfl, hw1⟩; subst hw1)
  gi_loopw [7] (fun p wr => ∃ k : Nat, k ≤ 11 ∧ p = .int .i64 k ∧ J (cuS (3 * k)) wr ∧ Blk wr B1 #[.int .i64 1024, .bool false, .bool false] 37 ∧ w1.heap.size ≤ wr.heap.size) (fun p _ => 11 - (intOf p).toNat)
  case atStart => exact ⟨0, Nat.zero_le _, rfl, h0, BR, Nat.le_refl _⟩
  case round =>
    clear BR h0 hR
    obtain ⟨k, hk, rfl, hJs, BR, hWr⟩ := hrel
    by_cases hlt : k < 11
    · have hlt' : (k : Int) < 11 := by omega
      have hk0 : (0 : Int) ≤ (k : Int) := by omega
      have hsh := shl_p2 (k := k) (by omega)
      have hT1 := p2_pos k
      have hT2 : p2 k ≤ p2 10 := p2_mono (by omega)
      rw [p2_ten] at hT2
      have hyes := fun (j : Nat) (hj : j < 3) h => cuS_yes (k := k) hj h
      have hno := fun (j : Nat) (hj : j < 3) h => cuS_no (k := k) hj h
      obtain ⟨T, hT⟩ : ∃ T, p2 k = T := ⟨_, rfl⟩
      rw [hT] at hsh hT1 hT2 hno hyes
      have HNO := Lib.hid hno
      have HYES := Lib.hid hyes
      clear hno hyes hT
      gi_wp2
      gi_loopw [10] (fun p wr2 => ∃ j : Nat, j ≤ 3 ∧ p = .int .i64 j ∧ J (cuS (3 * k + j)) wr2 ∧ Blk wr2 B1 #[.int .i64 1024, .bool false, .bool false] 37 ∧ w1.heap.size ≤ wr2.heap.size) (fun p _ => 3 - (intOf p).toNat)
      case atStart => exact ⟨0, Nat.zero_le _, rfl, hJs, BR, hWr⟩
      case round =>
        clear hJs BR hWr
        obtain ⟨j, hj, rfl, hJs, BR, hWr⟩ := hrel
        by_cases hjt : j < 3
        · have hjt' : (j : Int) < 3 := by omega
          have hj0 : (0 : Int) ≤ (j : Int) := by omega
          have hp := fun W => hasCube_any 1024 T (j : Int) false false W
          have hno := HNO.out j hjt
          have hyes := HYES.out j hjt
          have BN := Blk.new wr #[.int .i64 T, .int .i64 (j : Int)] 25
          have hal : Below wr.heap.size wr (wr.alloc (.cells #[.int .i64 T, .int .i64 (j : Int)] 25)) := (Below.refl _ _).alloc (Nat.le_refl _) _
          have hsz : (wr.alloc (.cells #[.int .i64 T, .int .i64 (j : Int)] 25)).heap.size = wr.heap.size + 1 := by simp
          obtain ⟨x0, x1, x2, xf, xl⟩ := BR.t3
          have BRa := BR.below hal
          obtain ⟨y0, y1, y2, yf, yl⟩ := BRa.t3
          obtain ⟨u0, u1, uf, ul⟩ := BN.two
          have hJ1 := hJ _ _ _ none hJs (grown_none hal) (fun r e => by cases e)
          cases g : cbB 1024 T (j : Int) with
          | false =>
            rw [g] at hp
            have HP := Lib.hid hp
            have HS := Lib.hid (hno g)
            clear hp hno hyes g
            gi_wp2_with (refine ⟨trivial, ?_⟩; gi_at_call 17; refine (callsIn_wide.2 (HP.out _)).mono ?_; rintro e w5 ⟨rfl, hb5⟩; obtain ⟨u0b, u1b, ufb, ulb⟩ := (BN.below hb5).two)
            have hJ5 := hJ _ _ _ none hJ1 (grown_none hb5) (fun r e => by cases e)
            have hz5 := hb5.size
            refine ⟨fun _ h => (by cases h), ?_⟩
            gi_wp2
            go_roundw
            case rel => exact ⟨j + 1, by omega, by simp, by rw [HS.out]; exact hJ5, BRa.below hb5, by omega⟩
            case measure => simp [intOf]; omega
          | true =>
            have hsu := hyes g
            have hle := cuS_len (3 * k + j)
            have hpr := cuS_pre (show 3 * k + (j + 1) ≤ 33 by omega)
            rw [g] at hp
            have HP := Lib.hid hp
            have HS := Lib.hid hsu
            clear hp hno hyes hsu
            gi_wp2_with (refine ⟨trivial, ?_⟩; gi_at_call 17; refine (callsIn_wide.2 (HP.out _)).mono ?_; rintro e w5 ⟨rfl, hb5⟩; obtain ⟨u0b, u1b, ufb, ulb⟩ := (BN.below hb5).two; have hJ5 := hJ _ _ _ none hJ1 (grown_none hb5) (fun r e => by cases e); obtain ⟨fn, tmps, assign, body, hyy, hR⟩ := hY (cuS (3 * k + j)) ⟨(T, (j : Int)), g⟩ w5 hJ5 (by omega); dsimp only [cuE] at hyy)
            have hz5 := hb5.size
            rw [← HS.out] at hR
            have BR5 := BRa.below hb5
            (try gi_wp2)
            refine hR.mono ?_
            rintro e Y (⟨rfl, hJY, hkY⟩ | ⟨rfl, hJY⟩)
            · have hzY := hkY.size
              gi_wp2
              go_roundw
              case rel => exact ⟨j + 1, by omega, by simp, hJY, BR5.low hkY h1, by omega⟩
              case measure => simp [intOf]; omega
            · gi_wp2
              refine bodyPost_ret (results_none rfl _ _ _) rfl ?_
              exact ⟨⟨_, rfl⟩, .inr ⟨_, hpr, hJY⟩⟩
        · obtain rfl : j = 3 := by omega
          gi_wp2
          go_roundw
          case rel => exact ⟨k + 1, by omega, by simp, hJs, BR, hWr⟩
          case measure => simp [intOf]; omega
    · obtain rfl : k = 11 := by omega
      gi_wp2
      go_end0
      exact ⟨⟨_, rfl⟩, .inl ⟨_, rfl, hJs⟩⟩
end Go.Proofs.YtkcjbjkccafekaaDoor
