/- Contracts of chapter 3: the letters of bits, of the program and of its model. -/
import Derived.Test.YtkddeoifdecniaaIdM
import Derived.Test.YtkddeoifdecniaaI64
import Derived.Test.YtkddeoifdecniaaL01a
import Derived.Laws.IdiomStrings
import Derived.StillTailTactics
import Derived.IntWalk
import Derived.Deep.LoopGhost
namespace Go.Proofs.Ytkddeoifdecniaa
open Go.ChangeShapes Go.WideShapes Go.ChangeAt Go.RowKit
set_option linter.unusedVariables false
set_option linter.unusedSimpArgs false

/-- A row of bytes of the call's own in block g, which begins with bs. -/
def BRow (w : World) (g : Nat) (bs : List UInt8) : Prop := ∃ cur : Array Value, Blk w g cur 5 ∧ bs.length ≤ cur.size ∧ cur.toList.take bs.length = bs.map (fun b => Value.int .u8 b.toNat)
theorem BRow.lt {w : World} {g : Nat} {bs : List UInt8} (h : BRow w g bs) : g < w.heap.size := by obtain ⟨c, hB, _⟩ := h; exact hB.lt
theorem BRow.below {w w' : World} {g : Nat} {bs : List UInt8} (h : BRow w g bs) (hb : Below w.heap.size w w') : BRow w' g bs := by
  obtain ⟨c, hB, h1, h2⟩ := h; exact ⟨c, hB.below hb, h1, h2⟩
theorem BRow.free {w : World} {g : Nat} {bs : List UInt8} (h : BRow w g bs) (i : Nat) : w.frozen? ⟨g, i, none⟩ = false := by obtain ⟨c, hB, _⟩ := h; exact hB.free i
theorem BRow.cell {w : World} {g : Nat} {bs : List UInt8} (h : BRow w g bs) (i : Nat) (hi : i < bs.length) : w.cell? ⟨g, i, none⟩ = some (.int .u8 ((bs[i]).toNat : Int)) := by
  obtain ⟨c, hB, h1, h2⟩ := h
  rw [hB.cell i]
  have h3 : (c.toList.take bs.length)[i]? = c[i]? := by rw [List.getElem?_take_of_lt hi]; simp
  rw [← h3, h2]
  simp [hi]
theorem BRow.set {w : World} {g : Nat} {bs : List UInt8} (h : BRow w g bs) (i : Nat) (v : UInt8) : BRow (w.setCell ⟨g, i, none⟩ (.int .u8 (v.toNat : Int))) g (bs.set i v) := by
  obtain ⟨c, hB, h1, h2⟩ := h
  refine ⟨_, hB.set (i := i) (.int .u8 (v.toNat : Int)), by simpa using h1, ?_⟩
  rw [List.length_set, List.map_set, ← h2, Array.toList_setIfInBounds, List.take_set]
theorem Row.setOther {w : World} {g g' i : Nat} {xs : List Int} {v : Value} (h : Row w g xs) (hne : g ≠ g') : Row (w.setCell ⟨g', i, none⟩ v) g xs := h.other hne
theorem made_bytes (w : World) (n : Nat) : BRow (w.alloc (.cells (madeCells #[.int .u8 0] n) 5)) w.heap.size (List.replicate n 0) :=
  ⟨_, Blk.new w _ _, by
    have := congrArg List.length (toList_madeCells_one (.int .u8 0) n)
    simp at this ⊢
    omega, by
    rw [toList_madeCells_one]
    simp⟩
theorem infoU8 : (Try.prog.info? 5).map (fun i => (i.zero, i.size, i.bytes)) = some (some (.int .u8 0), 1, 1) := by kernel_rfl
set_option maxRecDepth 4000 in
set_option maxHeartbeats 1000000 in
theorem idText_any (a : Option Addr) (n cap : Nat) (xs : List Int) (w : World) (hn : xs.length = n) (hle : n ≤ 1000) (hx : Bin xs) (hr : IRow w a xs) :
    Calls Try.prog 73 #[.slice a n cap] w fun e w' => e = .returned (.string ⟨(idS xs).toArray⟩) ∧ Below w.heap.size w w' := by
  subst hn
  obtain ⟨N, hN⟩ : ∃ N, groupsN xs = N := ⟨_, rfl⟩
  have hN1 : 6 * N ≤ xs.length + 5 ∧ xs.length + 5 < 6 * N + 6 := by unfold groupsN at hN; omega
  have hmk := run_make_row' (P := Try.prog) 26 2 (.int .i64 0) 8 Try.underlying26 infoI64 rfl .i64 .i64 N (by omega) (by omega)
  have hmk2 := run_make_row' (P := Try.prog) 22 5 (.int .u8 0) 1 Try.underlying22 infoU8 rfl .i64 .i64 N (by omega) (by omega)
  have eN : ((xs.length : Int) + 6 - 1).tdiv 6 = (N : Int) := by rw [Int.tdiv_eq_ediv_of_nonneg (by omega)]; omega
  have HL := Lib.hid hN
  have hR0 := made_row w N
  rw [← nums_nil] at hR0
  have hb0 : Below w.heap.size w (w.alloc (.cells (madeCells #[.int .i64 0] N) 2)) := (Below.refl _ _).alloc (Nat.le_refl _) _
  have hNI : (N : Int) ≤ 1000 := by omega
  have hlI : (xs.length : Int) ≤ 1000 := by omega
  clear hN
  obtain ⟨T, hT0⟩ : ∃ T : ByteArray, ⟨(idS xs).toArray⟩ = T := ⟨_, rfl⟩
  rw [hT0]
  have HT0 := Lib.hid hT0
  clear hT0
  go_enter Try.func73, Try.ntmps73
  go_wp2_with fail
  generalize w.alloc (.cells (madeCells #[.int .i64 0] N) 2) = v0 at *
  go_loopg [17] xs.length (fun m i wr => ∃ k : Nat, k ≤ xs.length ∧ m = xs.length - k ∧ i = .int .i64 k ∧ Row wr w.heap.size (nums (xs.take k) N) ∧ Below w.heap.size w wr)
  case atStart => exact ⟨0, by omega, by omega, rfl, by simpa using hR0, hb0⟩
  case round =>
    clear hR0 hb0 hmk
    obtain ⟨k, hk, hm, rfl, hR, hbel⟩ := hrel
    by_cases hlt : k < xs.length
    · have hlt' : (k : Int) < (xs.length : Int) := by omega
      have hk0 : (0 : Int) ≤ (k : Int) := by omega
      obtain ⟨b, o, rfl, hc⟩ := hr.below hbel k hlt
      obtain ⟨q, hq⟩ : ∃ q, k / 6 = q := ⟨_, rfl⟩
      obtain ⟨r, hr6⟩ : ∃ r, k % 6 = r := ⟨_, rfl⟩
      have hqN : q < N := by omega
      have hqNI : (q : Int) < (N : Int) := by omega
      have hr5 : (r : Int) ≤ 5 := by omega
      have e1 : ((k : Int)).tdiv 6 = (q : Int) := by rw [Int.tdiv_eq_ediv_of_nonneg (by omega)]; omega
      have e2 : ((k : Int)).tmod 6 = (r : Int) := by rw [Int.tmod_eq_emod_of_nonneg (by omega)]; omega
      have hc2 := hR.cell q (by rw [nums_length]; exact hqN)
      rw [nums_getD _ _ _ hqN] at hc2
      have hst := nums_step xs k N (by omega)
      have hvb := val6_bound (hx.take k) q
      have hbit := hx.getD k
      rw [hq, hr6] at hst
      obtain ⟨u, hu⟩ : ∃ u, val6 (xs.take k) q = u := ⟨_, rfl⟩
      obtain ⟨v, hv⟩ : ∃ v, xs.getD k 0 = v := ⟨_, rfl⟩
      rw [hu] at hc2 hst hvb
      rw [hv] at hc hst hbit
      have u0 := hvb.1
      have u1 := hvb.2
      have v0 : 0 ≤ v := by omega
      have v1 : v ≤ 1 := by omega
      have hfr := hR.free q
      have HM := Lib.hid hm
      clear hq hr6 hvb hbit hu hv hm
      obtain ⟨s, hs⟩ : ∃ s, v * 2 ^ (5 - r) = s := ⟨_, rfl⟩
      have hs2 : 0 ≤ s ∧ s ≤ 32 := by
        rw [← hs]
        have hp : (2 : Int) ^ (5 - r) ≤ 32 ∧ 1 ≤ (2 : Int) ^ (5 - r) := by
          obtain rfl | rfl | rfl | rfl | rfl | rfl : r = 0 ∨ r = 1 ∨ r = 2 ∨ r = 3 ∨ r = 4 ∨ r = 5 := by omega
          all_goals decide
        obtain rfl | rfl : v = 0 ∨ v = 1 := by omega
        · simp
        · omega
      have s0 := hs2.1
      have s1 := hs2.2
      have wq : IntKind.i64.wrap (q : Int) = (q : Int) := IntWalk.i64_in _ (by omega)
      have wr6 : IntKind.i64.wrap (r : Int) = (r : Int) := IntWalk.i64_in _ (by omega)
      have ws : IntKind.i64.wrap (5 - (r : Int)) = 5 - (r : Int) := IntWalk.i64_in _ (by omega)
      have wsh : IntKind.i64.wrap (v * 2 ^ (5 - r)) = s := by
        rw [hs, IntWalk.i64_in _ (by omega)]
      have wadd : IntKind.i64.wrap (u + s) = u + s := IntWalk.i64_in _ (by omega)
      rw [hs] at hst
      have hcd : World.cell? { heap := wr.heap, tape := wr.tape, drawn := wr.drawn + 1, os := wr.os, output := wr.output } ⟨w.heap.size, q, none⟩ = some (.int .i64 u) := hc2
      have HST := Lib.hid hst
      clear hst hs hs2
      go_wp2_with fail
      go_still_tail 12, (by kernel_rfl)
      change wpList _ _ _ _ _ wr.drew
      clear hcd wq wr6 ws wsh wadd e1 e2
      go_wp2_with fail
      go_roundg (xs.length - (k + 1))
      case measure => have := HM.out; omega
      case rel => exact ⟨k + 1, by omega, rfl, by go_num, by rw [← HST.out]; exact hR.drew.set q (u + s), hbel.drew.setCell (Nat.le_refl _) _⟩
    · obtain rfl : k = xs.length := by omega
      have hlt' : ¬ ((xs.length : Int) < (xs.length : Int)) := by omega
      rw [List.take_length] at hR
      have hT0 := made_bytes wr N
      have hbT : Below wr.heap.size wr (wr.alloc (.cells (madeCells #[.int .u8 0] N) 5)) := (Below.refl _ _).alloc (Nat.le_refl _) _
      have hRl := hR.lt
      replace hR := hR.below hbT
      replace hbel := chain hbel hbT
      clear hbT
      go_wp2_with fail
      generalize wr.alloc (.cells (madeCells #[.int .u8 0] N) 5) = v1 at *
      obtain ⟨gT, hgT⟩ : ∃ gT, wr.heap.size = gT := ⟨_, rfl⟩
      rw [hgT] at hT0 hRl ⊢
      clear hgT
      go_loopg [40] N (fun m i wi => ∃ k : Nat, k ≤ N ∧ m = N - k ∧ i = .int .i64 k ∧ BRow wi gT ((idS xs).take k ++ List.replicate (N - k) 0) ∧ Row wi w.heap.size (nums xs N) ∧ Below w.heap.size w wi)
      case atStart => exact ⟨0, by omega, by omega, rfl, by simpa using hT0, hR, hbel⟩
      case round =>
        clear hR hbel hT0
        obtain ⟨k, hk, hm, rfl, hT, hR, hbel⟩ := hrel
        by_cases hlk : k < N
        · have hlk' : (k : Int) < (N : Int) := by omega
          have hk0 : (0 : Int) ≤ (k : Int) := by omega
          have hc := hR.cell k (by rw [nums_length]; exact hlk)
          rw [nums_getD _ _ _ hlk] at hc
          have hvb := val6_bound hx k
          obtain ⟨u, hu⟩ := Int.eq_ofNat_of_zero_le hvb.1
          rw [hu] at hc hvb
          have hu63 : (u : Int) < 64 := by omega
          have hfr := hT.free k
          have hold := hT.cell k (by simp [idS_length, HL.out]; omega)
          have HM := Lib.hid hm
          have HU := Lib.hid hu
          clear hvb hm hu
          go_wp2_with fail
          go_roundg (N - (k + 1))
          case measure => have := HM.out; omega
          case rel =>
            have hl := idS_length xs
            rw [HL.out] at hl
            refine ⟨k + 1, by omega, rfl, by go_num, ?_, hR.other (by omega), hbel.setCell (by simp; omega) _⟩
            have hf := fill_step (idS xs) 0 k (by omega)
            rw [idS_at, HU.out, show ((u : Int)).toNat = u by omega, hl] at hf
            rw [← hf]
            have hT2 := hT.set k (letters.getD u 0)
            rw [← letter_at u (show u < letters.length by rw [letters_length]; omega)] at hT2 ⊢
            exact hT2
        · obtain rfl : k = N := by omega
          have hlk' : ¬ ((k : Int) < (k : Int)) := by omega
          have hl := idS_length xs
          rw [HL.out] at hl
          rw [Nat.sub_self, List.replicate_zero, List.append_nil, List.take_of_length_le (by omega)] at hT
          have hcv := run_convert_bytes_back (P := Try.prog) wr 22 9 5 ⟨gT, 0, none⟩ k (idS xs) Try.underlying22 Try.underlying5 Try.underlying9 (fun j hj => by
            rw [show (⟨gT, 0, none⟩ : Addr).add j = ⟨gT, j, none⟩ from by unfold Addr.add; split <;> simp_all]
            exact hT.cell j hj)
          rw [hl] at hcv
          rw [HT0.out] at hcv
          clear hl
          go_wp2_with fail
          go_ret
          exact ⟨rfl, hbel⟩
theorem l03Letters_any (w : World) : Calls Try.prog 83 #[] w fun e w' => e = .returned (.string ⟨letters.toArray⟩) ∧ w = w' := by
  go_enter Try.func83, Try.ntmps83
  go_wp2
  go_ret
  exact ⟨rfl, rfl⟩
/-- The number of the first j bits of group g. -/
def pval (xs : List Int) (g : Nat) : Nat → Int
  | 0 => 0
  | j + 1 => 2 * pval xs g j + xs.getD (6 * g + j) 0
theorem pval_six (xs : List Int) (g : Nat) : pval xs g 6 = val6 xs g := by
  simp only [pval, val6, Nat.add_zero]
  omega
theorem pval_bound {xs : List Int} (h : Bin xs) (g : Nat) : ∀ j, j ≤ 6 → 0 ≤ pval xs g j ∧ pval xs g j ≤ 63 := by
  intro j hj
  have h0 := h.getD (6 * g + 0)
  have h1 := h.getD (6 * g + 1)
  have h2 := h.getD (6 * g + 2)
  have h3 := h.getD (6 * g + 3)
  have h4 := h.getD (6 * g + 4)
  have h5 := h.getD (6 * g + 5)
  obtain rfl | rfl | rfl | rfl | rfl | rfl | rfl : j = 0 ∨ j = 1 ∨ j = 2 ∨ j = 3 ∨ j = 4 ∨ j = 5 ∨ j = 6 := by omega
  all_goals
    simp only [pval]
    omega
set_option maxRecDepth 4000 in
set_option maxHeartbeats 1000000 in
theorem l03Id_any (a : Option Addr) (n cap : Nat) (xs : List Int) (w : World) (hn : xs.length = n) (hle : n ≤ 1000) (hx : Bin xs) (hr : IRow w a xs) :
    Calls Try.prog 75 #[.slice a n cap] w fun e w' => e = .returned (.string ⟨(idS xs).toArray⟩) ∧ w = w' := by
  subst hn
  obtain ⟨N, hN⟩ : ∃ N, groupsN xs = N := ⟨_, rfl⟩
  have hN1 : 6 * N ≤ xs.length + 5 ∧ xs.length + 5 < 6 * N + 6 := by unfold groupsN at hN; omega
  have HL := Lib.hid hN
  have hlI : (xs.length : Int) ≤ 1000 := by omega
  clear hN
  obtain ⟨T, hT⟩ : ∃ T : ByteArray, ⟨(idS xs).toArray⟩ = T := ⟨_, rfl⟩
  rw [hT]
  have HT := Lib.hid hT
  clear hT
  go_enter Try.func75, Try.ntmps75
  go_wp2_with fail
  go_loopg [3, 4] N (fun m s i wr => w = wr ∧ ∃ (g : Nat) (S : ByteArray), g ≤ N ∧ m = N - g ∧ i = .int .i64 ((6 * g : Nat) : Int) ∧ s = .string S ∧ S = ⟨((idS xs).take g).toArray⟩)
  case atStart => exact ⟨rfl, 0, _, by omega, by omega, rfl, rfl, by simp⟩
  case round =>
    obtain ⟨rfl, g, S, hg, hm, rfl, rfl, hS⟩ := hrel
    have HS := Lib.hid hS
    have HM := Lib.hid hm
    obtain ⟨i6, hi6⟩ : ∃ i6, 6 * g = i6 := ⟨_, rfl⟩
    rw [hi6]
    have hiN : i6 = 6 * g := hi6.symm
    clear hS hm
    by_cases hlt : g < N
    · have hlt' : (i6 : Int) < (xs.length : Int) := by omega
      have HI := Lib.hid hiN
      clear hiN hi6
      go_wp2_with fail
      go_loopg [5, 6] 6 (fun m q k wr => w = wr ∧ ∃ j : Nat, j ≤ 6 ∧ m = 6 - j ∧ k = .int .i64 ((i6 + j : Nat) : Int) ∧ q = .int .i64 (pval xs g j))
      case atStart => exact ⟨rfl, 0, by omega, by omega, rfl, rfl⟩
      case round =>
        obtain ⟨rfl, j, hj, hm, rfl, rfl⟩ := hrel
        have hpb := pval_bound hx g j hj
        by_cases hj6 : j < 6
        · have hj6' : ((i6 + j : Nat) : Int) < (i6 : Int) + 6 := by omega
          have hst : pval xs g (j + 1) = 2 * pval xs g j + xs.getD (6 * g + j) 0 := rfl
          rw [← HI.out] at hst
          obtain ⟨q, hq⟩ : ∃ q, pval xs g j = q := ⟨_, rfl⟩
          obtain ⟨k, hk⟩ : ∃ k, i6 + j = k := ⟨_, rfl⟩
          rw [hq] at hpb hst ⊢
          rw [hk] at hj6' hst ⊢
          have q0 := hpb.1
          have q1 := hpb.2
          have hkb : (k : Int) ≤ 2000 := by omega
          have hib : (i6 : Int) ≤ 1000 := by omega
          by_cases hkl : k < xs.length
          · have hkl' : (k : Int) < (xs.length : Int) := by omega
            have hk0 : (0 : Int) ≤ (k : Int) := by omega
            obtain ⟨b, o, rfl, hc⟩ := hr k hkl
            have hbit := hx.getD k
            obtain ⟨v, hv⟩ : ∃ v, xs.getD k 0 = v := ⟨_, rfl⟩
            rw [hv] at hbit hst hc
            have HST := Lib.hid hst
            have HK := Lib.hid hk
            clear hst hq hpb hv hk
            rcases hbit with rfl | rfl
            · go_wp2_with fail
              go_roundg (6 - (j + 1))
              case measure => omega
              case rel => exact ⟨rfl, j + 1, by omega, rfl, by have := HK.out; rw [show i6 + (j + 1) = k + 1 by omega]; go_num, by rw [HST.out]; simp⟩
            · go_wp2_with fail
              go_roundg (6 - (j + 1))
              case measure => omega
              case rel => exact ⟨rfl, j + 1, by omega, rfl, by have := HK.out; rw [show i6 + (j + 1) = k + 1 by omega]; go_num, by rw [HST.out]⟩
          · have hkl' : ¬ (k : Int) < (xs.length : Int) := by omega
            have hz : xs.getD k 0 = 0 := by simp [List.getD, List.getElem?_eq_none (Nat.le_of_not_lt hkl)]
            rw [hz] at hst
            have HST := Lib.hid hst
            have HK := Lib.hid hk
            clear hst hq hpb hz hk
            go_wp2_with fail
            go_roundg (6 - (j + 1))
            case measure => omega
            case rel => exact ⟨rfl, j + 1, by omega, rfl, by have := HK.out; rw [show i6 + (j + 1) = k + 1 by omega]; go_num, by rw [HST.out]; simp⟩
        · obtain rfl : j = 6 := by omega
          rw [pval_six] at hpb ⊢
          obtain ⟨u, hu⟩ := Int.eq_ofNat_of_zero_le hpb.1
          rw [hu] at hpb ⊢
          have hj6' : ¬ ((i6 + 6 : Nat) : Int) < (i6 : Int) + 6 := by omega
          have hu63 : (u : Int) ≤ 63 := hpb.2
          have HU := Lib.hid hu
          clear hu hpb
          have hlz : (⟨letters.toArray⟩ : ByteArray).size = 64 := rfl
          obtain ⟨L, hL⟩ : ∃ L : ByteArray, ⟨letters.toArray⟩ = L := ⟨_, rfl⟩
          have hlet := fun W => l03Letters_any W
          rw [hL] at hlet hlz
          obtain ⟨B, hB⟩ : ∃ B : ByteArray, L.extract u (u + 1) = B := ⟨_, rfl⟩
          have hsl : ∀ W : World, (Instr.slice 9 (.string L) (some (.int .i64 (u : Int))) (some (.int .i64 ((u : Int) + 1))) none).run Try.prog W = .ok (.string B) W := fun W => by
            rw [run_slice_string W 9 L .i64 .i64 (u : Int) ((u : Int) + 1) Try.underlying9 (by omega) (by omega) (by rw [hlz]; omega), ← hB]
            rfl
          have hBv : B = ⟨#[letters.getD u 0]⟩ := by
            rw [← hB, ← hL]
            exact extract_letter u (by omega)
          have hBs : B.size = 1 := by rw [hBv]; rfl
          have hSs : S.size ≤ 1000 := by
            rw [HS.out]
            show (List.take g (idS xs)).toArray.size ≤ 1000
            simp
            omega
          obtain ⟨S2, hS2⟩ : ∃ S2 : ByteArray, S ++ B = S2 := ⟨_, rfl⟩
          have hcat : ∀ W : World, (Op.stringOp .add S B).run Try.prog W = .ok (.string S2) W := fun W => by rw [run_string_add_sum W S B (by omega), hS2]
          have HLET := Lib.hid hlet
          have HS2 := Lib.hid hS2
          have HBV := Lib.hid hBv
          clear hlet hS2 hBv hBs hSs hB hL hlz
          go_wp2_with (go_at_call 83; refine (HLET.out _).mono ?_; rintro e w1 ⟨rfl, rfl⟩)
          go_roundg (N - (g + 1))
          case measure => have := HM.out; omega
          case rel =>
            refine ⟨rfl, g + 1, S2, by omega, rfl, by have := HI.out; rw [show 6 * (g + 1) = i6 + 6 by omega]; go_num, rfl, ?_⟩
            have hl := idS_length xs
            rw [HL.out] at hl
            rw [← HS2.out, HBV.out, HS.out, List.take_succ_eq_append_getElem (by omega), idS_at, HU.out, show ((u : Int)).toNat = u by omega]
            apply ByteArray.ext
            simp [ByteArray.data_append]
    · obtain rfl : g = N := by omega
      have hlt' : ¬ (i6 : Int) < (xs.length : Int) := by omega
      have hl := idS_length xs
      rw [HL.out] at hl
      have hS := HS.out
      rw [List.take_of_length_le (by omega)] at hS
      obtain rfl : S = T := hS.trans HT.out
      clear hS hl hiN hi6
      go_wp2
      go_ret
      exact ⟨rfl, rfl⟩
end Go.Proofs.Ytkddeoifdecniaa
