/- Contract of chapter 9: the model's decimal text of a number. -/
import Derived.Test.YtenbihglmblalaaDoorStp
import Derived.Test.YtenbihglmblalaaDoorOwnS
import Derived.Lib.ItoaNum
import Derived.Lib.MinMax
import Derived.Lib.UnsafeStr
import Derived.Laws.IdiomStrings
import Derived.ArgAppend
namespace Go.Proofs.YtenbihglmblalaaDoor
open Go.ChangeShapes Go.WideShapes Go.ChangeAt Go.RowKit
set_option linter.unusedVariables false
set_option linter.unusedSimpArgs false
set_option maxRecDepth 4000

theorem cat_rn {a b : ByteArray} {m n : Nat} (ha : a.size ≤ m) (hb : b.size ≤ n) (h : m + n ≤ 1000000) :
    ∃ T : ByteArray, T = a ++ b ∧ T.size ≤ m + n ∧ ∀ W : World, (Op.stringOp .add a b).run Tryd.prog W = .ok (.string T) W :=
  ⟨a ++ b, rfl, by simp [ByteArray.size_append]; omega, fun W => run_string_add_sum W a b (by omega)⟩
theorem infoU8d : (Tryd.prog.info? 5).map (fun i => (i.zero, i.size, i.bytes)) = some (some (.int .u8 0), 1, 1) := by kernel_rfl
/-- The digits that a rest still gives: none for 0. -/
def dPre (k : Nat) : List UInt8 := if k = 0 then [] else Lib.decDigits k
theorem dec_step (k : Nat) : Lib.decDigits k = dPre (k / 10) ++ [UInt8.ofNat (48 + k % 10)] := by
  rw [Lib.decDigits]
  by_cases h : k < 10
  · rw [dif_pos h, dPre, if_pos (by omega), show k % 10 = k by omega]
    rfl
  · rw [dif_neg h, dPre, if_neg (by omega)]
theorem dPre_step {k : Nat} (h : k ≠ 0) : dPre k = dPre (k / 10) ++ [UInt8.ofNat (48 + k % 10)] := by rw [dPre, if_neg h]; exact dec_step k
theorem dec_length : ∀ (f k : Nat), k < 10 ^ f → 0 < f → (Lib.decDigits k).length ≤ f
  | 0, k, _, h => by omega
  | f + 1, k, h, _ => by
    rw [dec_step k, List.length_append]
    unfold dPre
    split
    · simp
    · rename_i hk
      cases f with
      | zero => omega
      | succ f =>
        have := dec_length (f + 1) (k / 10) (by rw [Nat.div_lt_iff_lt_mul (by omega)]; rwa [Nat.pow_succ] at h) (by omega)
        simp only [List.length_cons, List.length_nil]
        omega
/-- What is left to write while the digits are laid from behind: rest k, digits D. -/
def dWay (N k : Nat) (D : List UInt8) : Prop := (D = [] ∧ k = N) ∨ (D ≠ [] ∧ dPre k ++ D = Lib.decDigits N)
theorem dWay_next {N k : Nat} {D : List UInt8} (h : dWay N k D) (hk : k ≠ 0 ∨ D = []) : dWay N (k / 10) (UInt8.ofNat (48 + k % 10) :: D) := by
  refine .inr ⟨by simp, ?_⟩
  rcases h with ⟨rfl, rfl⟩ | ⟨hD, h⟩
  · rw [dec_step k]
  · rcases hk with hk | hk
    · rw [← h, dPre_step hk, List.append_assoc]
      rfl
    · exact absurd hk hD
theorem dWay_end {N : Nat} {D : List UInt8} (h : dWay N 0 D) (hD : D ≠ []) : D = Lib.decDigits N := by
  rcases h with ⟨q, _⟩ | ⟨_, h⟩
  · exact absurd q hD
  · simpa [dPre] using h
theorem dWay_len {N k : Nat} {D : List UInt8} (h : dWay N k D) : D.length ≤ (Lib.decDigits N).length := by
  rcases h with ⟨rfl, _⟩ | ⟨_, h⟩
  · simp
  · rw [← h]; simp
/-- A row of bytes of the call's own. -/
abbrev URow (w : World) (g : Nat) (D : List UInt8) : Prop := VRow w g (Lib.byteCells D) 5
theorem byte_one (D : List UInt8) : ∀ v ∈ Lib.byteCells D, v.oneCell' = true := fun v hv => by
  obtain ⟨b, _, rfl⟩ := List.mem_map.1 hv
  rfl
theorem URow.cell {w : World} {g : Nat} {D : List UInt8} (h : URow w g D) (j : Nat) (hj : j < D.length) : w.cell? ((⟨g, 0, none⟩ : Addr).add j) = some (.int .u8 (D[j].toNat : Int)) := by
  rw [show (⟨g, 0, none⟩ : Addr).add j = ⟨g, j, none⟩ from by unfold Addr.add; split <;> simp_all]
  exact VRow.cell h j _ (by simp [Lib.byteCells, hj])
theorem owns_urow {w : World} {base : Nat} {v : Value} {D : List UInt8} (h : w.ownsRow base 5 1 v D.length (Lib.byteCells D)) (h0 : 0 < D.length) : ∃ g k, v = .slice (some ⟨g, 0, none⟩) D.length k ∧ base ≤ g ∧ URow w g D := by
  obtain ⟨hl, ⟨_, h1⟩ | ⟨g, cap, cur, hv, hb, hh, hc, hm, hs, ht⟩⟩ := h
  · omega
  · refine ⟨g, cap, hv, hb, cur, hh, ?_, ?_⟩
    · rw [Lib.byteCells_length]; omega
    · rw [Lib.byteCells_length]; rw [Nat.mul_one] at ht; exact ht
theorem urow_start (w : World) : URow (w.alloc (.cells #[] 5)) w.heap.size [] := ⟨#[], Blk.new w #[] 5, by simp [Lib.byteCells], by simp [Lib.byteCells]⟩
theorem one_owns (w : World) (b : UInt8) : (w.alloc (.cells #[.int .u8 (b.toNat : Int)] 5)).ownsRow w.heap.size 5 1 (.slice (some ⟨w.heap.size, 0, none⟩) 1 1) 1 (Lib.byteCells [b]) :=
  ⟨rfl, .inr ⟨w.heap.size, 1, #[.int .u8 (b.toNat : Int)], rfl, Nat.le_refl _, Blk.new w _ _, Nat.le_refl _, by unfold maxLen; omega, rfl, rfl⟩⟩
theorem digit_byte {m : Nat} (h : m < 10) : ((UInt8.ofNat (48 + m)).toNat : Int) = 48 + (m : Int) := by
  rw [show (UInt8.ofNat (48 + m)).toNat = 48 + m by simp [UInt8.toNat_ofNat]; omega]
  omega
/-- One byte laid ahead of a row: 'append([]byte{b}, row...)'. -/
theorem wp_ahead {ops : Array Oper} {rest : List Oper} {o : Oper} {a : Act} {Q : Exit → Act → World → Prop} (hgd : o.guard = none) (s x : Operand)
    (ho : o.op = .call { callee := .builtin .append, args := #[s, x], argTypes := #[22, 22] }) (B : Nat) {w0 : World} (b : UInt8) (z : Int) (hz : z = (b.toNat : Int)) (hs : a.eval s = .slice (some ⟨w0.heap.size, 0, none⟩) 1 1)
    (g k : Nat) (D : List UInt8) (hx : a.eval x = .slice (some ⟨g, 0, none⟩) D.length k) (hr : URow w0 g D) (hl : D.length ≤ 1000) (hB : B ≤ w0.heap.size)
    (h : ∀ g' k' w', URow w' g' (b :: D) → B ≤ g' → Below B w0 w' → wpList Tryd.prog ops Q rest (a.put o.dst (.slice (some ⟨g', 0, none⟩) (D.length + 1) k')) w') : wpList Tryd.prog ops Q (o :: rest) a (w0.alloc (.cells #[.int .u8 z] 5)) := by
  subst hz
  obtain ⟨i0, hi, hz0, hz1, hz2⟩ := info_parts infoU8d
  refine wpList_append_own _ hgd s x 22 ho w0.heap.size 5 i0 (.int .u8 0) 1 1 Tryd.underlying22 hi hz0 hz1 hz2 rfl (by decide) _ 1 (Lib.byteCells [b]) hs (one_owns w0 b) ⟨g, 0, none⟩ D.length k (Lib.byteCells D) hx (by rw [Lib.byteCells_length, Nat.mul_one]) ?_ (byte_one D) (by unfold maxLen; omega) (by omega) (by simp) ?_
  · intro j u hj
    obtain ⟨hlt, rfl⟩ := List.getElem?_eq_some_iff.1 hj
    have hlt2 : j < D.length := by rwa [Lib.byteCells_length] at hlt
    rw [URow.cell (hr.below ((Below.refl _ _).alloc (Nat.le_refl _) _)) j hlt2]
    simp [Lib.byteCells]
  · intro v' w' hown hgrow _
    have hown2 : w'.ownsRow w0.heap.size 5 1 v' (b :: D).length (Lib.byteCells (b :: D)) := by
      rw [List.length_cons, Nat.add_comm]
      simpa [Lib.byteCells] using hown
    obtain ⟨g', k', rfl, hg', R⟩ := owns_urow hown2 (by simp)
    exact h g' k' w' R (Nat.le_trans hB hg') (((Below.refl B w0).alloc hB _).grown hgrow (by simp; omega) (fun k hk => by simp [Value.ownBlock] at hk; omega))
set_option maxRecDepth 8000 in
set_option maxHeartbeats 2000000 in
theorem l09Decimal_any (n : Int) (w : World) (h0 : -9223372036854775808 ≤ n) (h1 : n ≤ 9223372036854775807) :
    Calls Tryd.prog 28 #[.int .i64 n] w fun e w' => e = .returned (.string ⟨(Lib.itoa n).toArray⟩) ∧ Below w.heap.size w w' := by
  have hb : Below w.heap.size w (w.alloc (.cells #[] 5)) := (Below.refl _ _).alloc (Nat.le_refl _) _
  have R0 := urow_start w
  have hlen : (Lib.decDigits n.natAbs).length ≤ 20 := dec_length 20 n.natAbs (by omega) (by omega)
  have hW0 : dWay n.natAbs n.natAbs [] := .inl ⟨rfl, rfl⟩
  obtain ⟨X, hX⟩ : ∃ X : ByteArray, ⟨(Lib.itoa n).toArray⟩ = X := ⟨_, rfl⟩
  rw [hX]
  have HX := Lib.hid hX
  clear hX
  go_enter Tryd.func28, Tryd.ntmps28
  go_wp2_with fail
  generalize w.alloc (.cells #[] 5) = v0 at *
  go_loopg [3, 4] (n.natAbs + 1) (fun m q3 q4 wr => ∃ (W : World) (g k : Nat) (D : List UInt8) (r : Int), W = wr ∧ m = r.natAbs + (if D.length = 0 then 1 else 0) ∧ q3 = .slice (some ⟨g, 0, none⟩) D.length k ∧ q4 = .int .i64 r ∧ dWay n.natAbs r.natAbs D ∧ URow W g D ∧ -9223372036854775808 ≤ r ∧ r ≤ 9223372036854775807 ∧ w.heap.size ≤ g ∧ Below w.heap.size w W)
  case atStart => exact ⟨_, w.heap.size, 0, [], n, rfl, by simp, rfl, rfl, hW0, R0, h0, h1, Nat.le_refl _, hb⟩
  case round =>
    clear R0 hb hW0
    obtain ⟨W, g, k, D, r, hW, hm, rfl, rfl, hway, RD, r0, r1, hg, hbel⟩ := hrel
    subst hW
    have hDl := dWay_len hway
    have hD20 : D.length ≤ 20 := by omega
    have hDI : (D.length : Int) ≤ 20 := by omega
    by_cases hgo : r ≠ 0 ∨ D.length = 0
    · have hnext := dWay_next hway (by
        rcases hgo with q | q
        · exact .inl (by omega)
        · exact .inr (List.eq_nil_of_length_eq_zero q))
      have hdm : (r.tmod 10).natAbs = r.natAbs % 10 := Int.natAbs_tmod r 10
      have hdd : (r.tdiv 10).natAbs = r.natAbs / 10 := Int.natAbs_tdiv r 10
      obtain ⟨dg, hdg⟩ : ∃ d, r.tmod 10 = d := ⟨_, rfl⟩
      obtain ⟨q, hq⟩ : ∃ q, r.tdiv 10 = q := ⟨_, rfl⟩
      rw [hdg] at hdm
      rw [hq] at hdd
      have hd9 : dg.natAbs < 10 := by omega
      have hmx : max dg (-dg) = (dg.natAbs : Int) := by omega
      obtain ⟨d, hd⟩ : ∃ d : Nat, dg.natAbs = d := ⟨_, rfl⟩
      rw [hd] at hmx hd9 hdm
      have hby := digit_byte hd9
      have dg0 : -9 ≤ dg := by omega
      have dg1 : dg ≤ 9 := by omega
      have hd0 : (0 : Int) ≤ (d : Int) := by omega
      have hd1 : (d : Int) ≤ 9 := by omega
      rw [← hdm, ← hdd] at hnext
      have q0 : -9223372036854775808 ≤ q := by omega
      have q1 : q ≤ 9223372036854775807 := by omega
      have hlt : q.natAbs < r.natAbs + (if D.length = 0 then 1 else 0) := by
        rcases hgo with e | e
        · omega
        · rw [if_pos e]; omega
      have hbz := hbel.size
      have wz1 : IntKind.i64.wrap (-dg) = -dg := IntWalk.i64_in _ (by omega)
      have wz2 : IntKind.i64.wrap (48 + (d : Int)) = 48 + (d : Int) := IntWalk.i64_in _ (by omega)
      have wz3 : IntKind.u8.wrap (48 + (d : Int)) = 48 + (d : Int) := by unfold IntKind.wrap; simp [IntKind.bits, IntKind.signed]; omega
      have wq : wrap64 q = q := IntWalk.wrap64_in q (by omega)
      have HWQ := Lib.hid wq
      have HB := Lib.hid hby
      have HN := Lib.hid hnext
      have HM := Lib.hid hm
      have HLT := Lib.hid hlt
      have HQ := Lib.hid (And.intro q0 q1)
      clear hnext hdm hdd hd hway hm hlt hby hDl q0 q1 wq
      by_cases hr : r = 0
      · have hD0 : D.length = 0 := by
          rcases hgo with e | e
          · exact absurd hr e
          · exact e
        obtain rfl := List.eq_nil_of_length_eq_zero hD0
        subst hr
        have hdg0 : dg = 0 := by rw [← hdg]; rfl
        have hq0 : q = 0 := by rw [← hq]; rfl
        subst hdg0 hq0
        have hd00 : d = 0 := by simp at hmx; omega
        subst hd00
        clear hgo hdg hq hmx r0 r1
        go_wp2_with (at_builtin; go_loud (refine wp_ahead rfl _ _ rfl w.heap.size (UInt8.ofNat (48 + 0)) _ (by first | exact HB.out.symm | rfl) rfl g k [] rfl RD (by omega) hbz ?_; intro g2 k2 w6 RD2 hg2 hb6))
        go_roundg 0
        case measure => have := HM.out; simp at this; omega
        case rel => exact ⟨_, g2, k2, _, 0, rfl, by simp, rfl, rfl, HN.out, RD2, by omega, by omega, hg2, hbel.trans hb6⟩
      · have hr2 : (r != 0) = true := by rw [bne_iff_ne]; exact hr
        clear hgo r0 r1
        go_wp2_with (at_builtin; go_loud (refine wp_ahead rfl _ _ rfl w.heap.size (UInt8.ofNat (48 + d)) _ (by first | exact HB.out.symm | rfl) rfl g k D rfl RD (by omega) hbz ?_; intro g2 k2 w6 RD2 hg2 hb6))
        go_roundg q.natAbs
        case measure => have := HM.out; have := HLT.out; omega
        case rel => exact ⟨_, g2, k2, _, q, rfl, by simp, rfl, by rw [HWQ.out], HN.out, RD2, HQ.out.1, HQ.out.2, hg2, hbel.trans hb6⟩
    · simp only [not_or, Classical.not_not] at hgo
      obtain ⟨hr, hD⟩ := hgo
      subst hr
      have hfin := dWay_end hway (by intro e; exact hD (by rw [e]; rfl))
      have hl0 : (0 : Int) < (D.length : Int) := by omega
      have hne : ((D.length : Int) == 0) = false := by rw [beq_eq_false_iff_ne]; omega
      have hne2 : ¬ (D.length : Int) = 0 := by omega
      have hcv := run_convert_bytes_back (P := Tryd.prog) W 22 9 5 ⟨g, 0, none⟩ k D Tryd.underlying22 Tryd.underlying5 Tryd.underlying9 (fun j hj => URow.cell RD j hj)
      have hit : Lib.itoa n = if n < 0 then 45 :: D else D := by
        rw [Lib.itoa, hfin]
        split
        · rfl
        · rw [show n.toNat = n.natAbs by omega]
      have hX := HX.out
      rw [hit] at hX
      have hsz : (⟨D.toArray⟩ : ByteArray).size ≤ 20 := hD20
      obtain ⟨T, hT⟩ : ∃ T : ByteArray, ⟨D.toArray⟩ = T := ⟨_, rfl⟩
      rw [hT] at hcv hsz
      by_cases hn : n < 0
      · rw [if_pos hn] at hX
        have hcat : (⟨(45 :: D).toArray⟩ : ByteArray) = ⟨#[45]⟩ ++ T := by
          rw [← hT]
          apply ByteArray.ext
          simp [ByteArray.data_append]
        rw [hcat] at hX
        obtain ⟨t3, e3, s3, k3⟩ := cat_rn (a := ⟨#[45]⟩) (b := T) (m := 1) (n := 20) (by decide) hsz (by omega)
        rw [← e3] at hX
        subst hX
        clear hit hfin hway hm hT e3 hcat RD HX
        go_wp2
        go_ret
        exact ⟨rfl, hbel⟩
      · rw [if_neg hn, hT] at hX
        subst hX
        clear hit hfin hway hm hT RD HX
        go_wp2
        go_ret
        exact ⟨rfl, hbel⟩
end Go.Proofs.YtenbihglmblalaaDoor
