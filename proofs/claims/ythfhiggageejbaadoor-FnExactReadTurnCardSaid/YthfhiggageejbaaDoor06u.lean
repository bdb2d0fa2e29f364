/- Contract of the program's function that reads a turn from a text. -/
import Derived.Test.YthfhiggageejbaaDoor06q
import Derived.Test.YthfhiggageejbaaDoor06k
import Derived.Test.YthfhiggageejbaaDoorM06c
import Derived.Test.YthfhiggageejbaaDoor06m
namespace Go.Proofs.YthfhiggageejbaaDoor
open Go.ChangeShapes Go.WideShapes Go.ChangeAt Go.RowKit
set_option linter.unusedVariables false
set_option linter.unusedSimpArgs false

theorem OSt.other {lo hi g o : Nat} {w : World} {a : Option Addr} {l : List Stp} {v : Value} (h : OSt lo hi w a l) (hg : g < lo ∨ hi ≤ g) : OSt lo hi (w.setCell ⟨g, o, none⟩ v) a l := by
  rcases h with h | ⟨b, ha, h1, h2, xs, B, e⟩
  · exact .inl h
  · exact .inr ⟨b, ha, h1, h2, xs, B.other (by omega), e⟩
/-- What is read from the text of a turn: a roll, an error's number and steps. -/
def tnA (p c h s : Int) (l : List UInt8) : (Int × Int) × Int × List Stp :=
  if vB p c h s = true then (if 80 < l.length then ((0, 0), 3, []) else match rdT p s l with
    | some x => (x.1, 0, x.2)
    | none => ((0, 0), 6, [])) else ((0, 0), 1, [])
/-- A roll, steps and an error's number are handed back. -/
def TurnGot (x : (Int × Int) × Int × List Stp) (w : World) (e : Ending) (w' : World) : Prop :=
  ∃ a k, e = .returned (.tuple #[.agg #[.int .i64 x.1.1, .int .i64 x.1.2], .slice a x.2.2.length k, .int .i64 x.2.1]) ∧ OSt w.heap.size w'.heap.size w' a x.2.2 ∧ Below w.heap.size w w'
set_option maxRecDepth 8000 in
set_option maxHeartbeats 4000000 in
theorem readTurn_any (p c h s : Int) (t : ByteArray) (w : World) (ht : t.size ≤ 1048576) (hM : IntCell w 0) (hE : ErrCell w 2) :
    Calls Tryd.prog 9 #[.agg #[.int .i64 p, .int .i64 c, .int .i64 h, .int .i64 s], .string t] w (TurnGot (tnA p c h s t.data.toList) w) := by
  obtain ⟨BV, BG, hb, hz⟩ := two_new w #[.int .i64 p, .int .i64 c, .int .i64 h, .int .i64 s] #[.int .i64 0, .int .i64 0] 29 25
  clear hz
  obtain ⟨x0, x1, x2, x3, xf, xl⟩ := BV.four
  obtain ⟨j0, j1, jf, jl⟩ := BG.two
  have hlen : t.data.toList.length = t.size := by simp
  have hv := fun W => valid_any p c h s W
  unfold tnA
  by_cases g : vB p c h s = true
  · rw [if_pos g]
    have hg := vB_iff.1 g
    rw [g] at hv
    have HV := Lib.hid hv
    clear hv
    by_cases h80 : 80 < t.size
    · rw [if_pos (by omega)]
      have e1 : decide (80 < (t.size : Int)) = true := by simp; omega
      have e2 : decide (80 < t.size) = true := by simp; omega
      clear hg g h80 hlen
      go_enter Tryd.func9, Tryd.ntmps9
      go_wp2_with (first | (go_at_call 31; refine (HV.out _).mono ?_; clear HV; rintro e w1 ⟨rfl, hb1⟩; obtain ⟨x0, x1, x2, x3, xf, xl⟩ := (BV.below hb1).four; obtain ⟨j0, j1, jf, jl⟩ := (BG.below hb1).two))
      refine bodyPost_ret (v := .tuple #[.agg #[.int .i64 0, .int .i64 0], .slice none 0 0, .int .i64 3]) (by simp [results, Tryd.results9, go_sem, j0, j1]) rfl ?_
      exact ⟨none, 0, rfl, .inl ⟨rfl, rfl⟩, (((chain hb hb1).setCell (p := ⟨w.heap.size + 1, 0, none⟩) (by show _ ≤ w.heap.size + 1; omega) _).setCell (p := ⟨w.heap.size + 1, 1, none⟩) (by show _ ≤ w.heap.size + 1; omega) _)⟩
    · rw [if_neg (by omega)]
      have e1 : decide (80 < (t.size : Int)) = false := by simp; omega
      have e2 : decide (80 < t.size) = false := by simp; omega
      obtain ⟨A, R, b, hA, hR, -, hzA, hzR, hc⟩ := cut_named t ⟨#[58, 32]⟩ ht
      rw [← rdT_cut (by omega) (by omega) t.data.toList]
      rw [show (⟨#[58, 32]⟩ : ByteArray).data.toList = [58, 32] from rfl] at hA hR
      rw [← hA, ← hR]
      have HC := Lib.hid hc
      have hr := fun W => readRoll_any p c h s A W
      have hs := fun W (q1 : IntCell W 0) (q2 : ErrCell W 2) => readSteps_any p c h s R W g (by omega) q1 q2
      generalize rdR s A.data.toList = Q1 at *
      generalize rds p s R.data.toList = Q2 at *
      clear hc hA hR hzA hzR hg g h80 hlen
      cases Q1 with
      | none =>
        cases Q2 with
        | none =>
          have hr : ∀ W, Calls Tryd.prog 33 #[.agg #[.int .i64 p, .int .i64 c, .int .i64 h, .int .i64 s], .string A] W fun e w' => e = .returned (.tuple #[.agg #[.int .i64 0, .int .i64 0], .bool false]) ∧ Below W.heap.size W w' := hr
          have HR := Lib.hid hr
          have HS := Lib.hid hs
          clear hr hs
          show Calls Tryd.prog 9 #[.agg #[.int .i64 p, .int .i64 c, .int .i64 h, .int .i64 s], .string t] w (TurnGot ((0, 0), 6, []) w)
          go_enter Tryd.func9, Tryd.ntmps9
          go_wp2_with (first | (go_at_call 31; refine (HV.out _).mono ?_; clear HV; rintro e w1 ⟨rfl, hb1⟩; obtain ⟨x0, x1, x2, x3, xf, xl⟩ := (BV.below hb1).four; obtain ⟨j0, j1, jf, jl⟩ := (BG.below hb1).two) | (go_at_call 32; refine (HC.out _ ((hM.below hb).below hb1)).mono ?_; clear HC; rintro e w2 ⟨rfl, hb2⟩; obtain ⟨x0, x1, x2, x3, xf, xl⟩ := (BV.below (chain hb1 hb2)).four) | (go_at_call 33; refine (HR.out _).mono ?_; clear HR; rintro e w3 ⟨rfl, hb3⟩; have BN := Blk.new w3 #[.int .i64 0, .int .i64 0] 25; have hb3q := hb3.alloc hb3.size (.cells #[.int .i64 0, .int .i64 0] 25); obtain ⟨x0, x1, x2, x3, xf, xl⟩ := (BV.below (chain (chain hb1 hb2) hb3q)).four) | (go_at_call 34; refine (HS.out _ (hM.below (chain (chain (chain hb hb1) hb2) hb3q)) (hE.below (chain (chain (chain hb hb1) hb2) hb3q))).mono ?_; clear HS; rintro e w4 ⟨a, k, rfl, ho, hb4⟩; obtain ⟨k0, k1, kf, kl⟩ := (BN.below hb4).two; obtain ⟨j0, j1, jf, jl⟩ := (BG.below (chain (chain (chain hb1 hb2) hb3q) hb4)).two))
          have hq := chain (chain (chain (chain hb hb1) hb2) hb3q) hb4
          have hlo : w.heap.size + 1 < (w3.alloc (.cells #[.int .i64 0, .int .i64 0] 25)).heap.size := Nat.lt_of_lt_of_le BG.lt (chain (chain hb1 hb2) hb3q).size
          refine bodyPost_ret (v := .tuple #[.agg #[.int .i64 0, .int .i64 0], .slice none 0 0, .int .i64 6]) (by simp [results, Tryd.results9, go_sem, j0, j1]) rfl ?_
          exact ⟨none, 0, rfl, .inl ⟨rfl, rfl⟩, (((hq).setCell (p := ⟨w.heap.size + 1, 0, none⟩) (by show _ ≤ w.heap.size + 1; omega) _).setCell (p := ⟨w.heap.size + 1, 1, none⟩) (by show _ ≤ w.heap.size + 1; omega) _)⟩
        | some D =>
          have hr : ∀ W, Calls Tryd.prog 33 #[.agg #[.int .i64 p, .int .i64 c, .int .i64 h, .int .i64 s], .string A] W fun e w' => e = .returned (.tuple #[.agg #[.int .i64 0, .int .i64 0], .bool false]) ∧ Below W.heap.size W w' := hr
          have HR := Lib.hid hr
          have HS := Lib.hid hs
          clear hr hs
          show Calls Tryd.prog 9 #[.agg #[.int .i64 p, .int .i64 c, .int .i64 h, .int .i64 s], .string t] w (TurnGot ((0, 0), 6, []) w)
          go_enter Tryd.func9, Tryd.ntmps9
          go_wp2_with (first | (go_at_call 31; refine (HV.out _).mono ?_; clear HV; rintro e w1 ⟨rfl, hb1⟩; obtain ⟨x0, x1, x2, x3, xf, xl⟩ := (BV.below hb1).four; obtain ⟨j0, j1, jf, jl⟩ := (BG.below hb1).two) | (go_at_call 32; refine (HC.out _ ((hM.below hb).below hb1)).mono ?_; clear HC; rintro e w2 ⟨rfl, hb2⟩; obtain ⟨x0, x1, x2, x3, xf, xl⟩ := (BV.below (chain hb1 hb2)).four) | (go_at_call 33; refine (HR.out _).mono ?_; clear HR; rintro e w3 ⟨rfl, hb3⟩; have BN := Blk.new w3 #[.int .i64 0, .int .i64 0] 25; have hb3q := hb3.alloc hb3.size (.cells #[.int .i64 0, .int .i64 0] 25); obtain ⟨x0, x1, x2, x3, xf, xl⟩ := (BV.below (chain (chain hb1 hb2) hb3q)).four) | (go_at_call 34; refine (HS.out _ (hM.below (chain (chain (chain hb hb1) hb2) hb3q)) (hE.below (chain (chain (chain hb hb1) hb2) hb3q))).mono ?_; clear HS; rintro e w4 ⟨a, k, rfl, ho, hb4⟩; obtain ⟨k0, k1, kf, kl⟩ := (BN.below hb4).two; obtain ⟨j0, j1, jf, jl⟩ := (BG.below (chain (chain (chain hb1 hb2) hb3q) hb4)).two))
          have hq := chain (chain (chain (chain hb hb1) hb2) hb3q) hb4
          have hlo : w.heap.size + 1 < (w3.alloc (.cells #[.int .i64 0, .int .i64 0] 25)).heap.size := Nat.lt_of_lt_of_le BG.lt (chain (chain hb1 hb2) hb3q).size
          refine bodyPost_ret (v := .tuple #[.agg #[.int .i64 0, .int .i64 0], .slice none 0 0, .int .i64 6]) (by simp [results, Tryd.results9, go_sem, j0, j1]) rfl ?_
          exact ⟨none, 0, rfl, .inl ⟨rfl, rfl⟩, (((hq).setCell (p := ⟨w.heap.size + 1, 0, none⟩) (by show _ ≤ w.heap.size + 1; omega) _).setCell (p := ⟨w.heap.size + 1, 1, none⟩) (by show _ ≤ w.heap.size + 1; omega) _)⟩
      | some x =>
        obtain ⟨ra, rb⟩ := x
        cases Q2 with
        | none =>
          have hr : ∀ W, Calls Tryd.prog 33 #[.agg #[.int .i64 p, .int .i64 c, .int .i64 h, .int .i64 s], .string A] W fun e w' => e = .returned (.tuple #[.agg #[.int .i64 ra, .int .i64 rb], .bool true]) ∧ Below W.heap.size W w' := hr
          have HR := Lib.hid hr
          have HS := Lib.hid hs
          clear hr hs
          show Calls Tryd.prog 9 #[.agg #[.int .i64 p, .int .i64 c, .int .i64 h, .int .i64 s], .string t] w (TurnGot ((0, 0), 6, []) w)
          go_enter Tryd.func9, Tryd.ntmps9
          go_wp2_with (first | (go_at_call 31; refine (HV.out _).mono ?_; clear HV; rintro e w1 ⟨rfl, hb1⟩; obtain ⟨x0, x1, x2, x3, xf, xl⟩ := (BV.below hb1).four; obtain ⟨j0, j1, jf, jl⟩ := (BG.below hb1).two) | (go_at_call 32; refine (HC.out _ ((hM.below hb).below hb1)).mono ?_; clear HC; rintro e w2 ⟨rfl, hb2⟩; obtain ⟨x0, x1, x2, x3, xf, xl⟩ := (BV.below (chain hb1 hb2)).four) | (go_at_call 33; refine (HR.out _).mono ?_; clear HR; rintro e w3 ⟨rfl, hb3⟩; have BN := Blk.new w3 #[.int .i64 ra, .int .i64 rb] 25; have hb3q := hb3.alloc hb3.size (.cells #[.int .i64 ra, .int .i64 rb] 25); obtain ⟨x0, x1, x2, x3, xf, xl⟩ := (BV.below (chain (chain hb1 hb2) hb3q)).four) | (go_at_call 34; refine (HS.out _ (hM.below (chain (chain (chain hb hb1) hb2) hb3q)) (hE.below (chain (chain (chain hb hb1) hb2) hb3q))).mono ?_; clear HS; rintro e w4 ⟨a, k, rfl, ho, hb4⟩; obtain ⟨k0, k1, kf, kl⟩ := (BN.below hb4).two; obtain ⟨j0, j1, jf, jl⟩ := (BG.below (chain (chain (chain hb1 hb2) hb3q) hb4)).two))
          have hq := chain (chain (chain (chain hb hb1) hb2) hb3q) hb4
          have hlo : w.heap.size + 1 < (w3.alloc (.cells #[.int .i64 ra, .int .i64 rb] 25)).heap.size := Nat.lt_of_lt_of_le BG.lt (chain (chain hb1 hb2) hb3q).size
          refine bodyPost_ret (v := .tuple #[.agg #[.int .i64 0, .int .i64 0], .slice none 0 0, .int .i64 6]) (by simp [results, Tryd.results9, go_sem, j0, j1]) rfl ?_
          exact ⟨none, 0, rfl, .inl ⟨rfl, rfl⟩, (((hq).setCell (p := ⟨w.heap.size + 1, 0, none⟩) (by show _ ≤ w.heap.size + 1; omega) _).setCell (p := ⟨w.heap.size + 1, 1, none⟩) (by show _ ≤ w.heap.size + 1; omega) _)⟩
        | some D =>
          have hr : ∀ W, Calls Tryd.prog 33 #[.agg #[.int .i64 p, .int .i64 c, .int .i64 h, .int .i64 s], .string A] W fun e w' => e = .returned (.tuple #[.agg #[.int .i64 ra, .int .i64 rb], .bool true]) ∧ Below W.heap.size W w' := hr
          have HR := Lib.hid hr
          have HS := Lib.hid hs
          clear hr hs
          show Calls Tryd.prog 9 #[.agg #[.int .i64 p, .int .i64 c, .int .i64 h, .int .i64 s], .string t] w (TurnGot ((ra, rb), 0, D) w)
          go_enter Tryd.func9, Tryd.ntmps9
          go_wp2_with (first | (go_at_call 31; refine (HV.out _).mono ?_; clear HV; rintro e w1 ⟨rfl, hb1⟩; obtain ⟨x0, x1, x2, x3, xf, xl⟩ := (BV.below hb1).four; obtain ⟨j0, j1, jf, jl⟩ := (BG.below hb1).two) | (go_at_call 32; refine (HC.out _ ((hM.below hb).below hb1)).mono ?_; clear HC; rintro e w2 ⟨rfl, hb2⟩; obtain ⟨x0, x1, x2, x3, xf, xl⟩ := (BV.below (chain hb1 hb2)).four) | (go_at_call 33; refine (HR.out _).mono ?_; clear HR; rintro e w3 ⟨rfl, hb3⟩; have BN := Blk.new w3 #[.int .i64 ra, .int .i64 rb] 25; have hb3q := hb3.alloc hb3.size (.cells #[.int .i64 ra, .int .i64 rb] 25); obtain ⟨x0, x1, x2, x3, xf, xl⟩ := (BV.below (chain (chain hb1 hb2) hb3q)).four) | (go_at_call 34; refine (HS.out _ (hM.below (chain (chain (chain hb hb1) hb2) hb3q)) (hE.below (chain (chain (chain hb hb1) hb2) hb3q))).mono ?_; clear HS; rintro e w4 ⟨a, k, rfl, ho, hb4⟩; obtain ⟨k0, k1, kf, kl⟩ := (BN.below hb4).two; obtain ⟨j0, j1, jf, jl⟩ := (BG.below (chain (chain (chain hb1 hb2) hb3q) hb4)).two))
          have hq := chain (chain (chain (chain hb hb1) hb2) hb3q) hb4
          have hlo : w.heap.size + 1 < (w3.alloc (.cells #[.int .i64 ra, .int .i64 rb] 25)).heap.size := Nat.lt_of_lt_of_le BG.lt (chain (chain hb1 hb2) hb3q).size
          refine bodyPost_ret (v := .tuple #[.agg #[.int .i64 ra, .int .i64 rb], .slice a D.length k, .int .i64 0]) (by simp [results, Tryd.results9, go_sem, j0, j1]) rfl ?_
          exact ⟨a, k, rfl, ((ho.other (.inl hlo)).other (.inl hlo)).mono (Nat.le_of_lt (Nat.lt_of_le_of_lt (by omega) hlo)) (by simp), (((hq).setCell (p := ⟨w.heap.size + 1, 0, none⟩) (by show _ ≤ w.heap.size + 1; omega) _).setCell (p := ⟨w.heap.size + 1, 1, none⟩) (by show _ ≤ w.heap.size + 1; omega) _)⟩
  · rw [if_neg g]
    replace g : vB p c h s = false := by simpa using g
    rw [g] at hv
    have HV := Lib.hid hv
    clear hv g hlen
    go_enter Tryd.func9, Tryd.ntmps9
    go_wp2_with (first | (go_at_call 31; refine (HV.out _).mono ?_; clear HV; rintro e w1 ⟨rfl, hb1⟩; obtain ⟨x0, x1, x2, x3, xf, xl⟩ := (BV.below hb1).four; obtain ⟨j0, j1, jf, jl⟩ := (BG.below hb1).two))
    refine bodyPost_ret (v := .tuple #[.agg #[.int .i64 0, .int .i64 0], .slice none 0 0, .int .i64 1]) (by simp [results, Tryd.results9, go_sem, j0, j1]) rfl ?_
    exact ⟨none, 0, rfl, .inl ⟨rfl, rfl⟩, (((chain hb hb1).setCell (p := ⟨w.heap.size + 1, 0, none⟩) (by show _ ≤ w.heap.size + 1; omega) _).setCell (p := ⟨w.heap.size + 1, 1, none⟩) (by show _ ≤ w.heap.size + 1; omega) _)⟩
end Go.Proofs.YthfhiggageejbaaDoor
