/- Chapter 13: the bytes of an entry (mathematics), and how the program writes them. -/
import Derived.Test.Ytgohipfaojiilaa13c
import Derived.Test.Ytgohipfaojiilaa13g
import Derived.Deep.LoopGhost
namespace Go.Proofs.Ytgohipfaojiilaa
open Go.ChangeShapes Go.WideShapes Go.ChangeAt Go.RowKit
set_option linter.unusedVariables false
set_option linter.unusedSimpArgs false
set_option maxRecDepth 4000

/-- A number that is not negative, even for those that are not and odd for the others. -/
def fdN (n : Int) : Nat := (if n < 0 then -2 * n - 1 else 2 * n).toNat
theorem fdN_neg {n : Int} (h : n < 0) : (fdN n : Int) = -2 * n - 1 := by rw [fdN, if_pos h]; omega
theorem fdN_pos {n : Int} (h : ¬ n < 0) : (fdN n : Int) = 2 * n := by rw [fdN, if_neg h]; omega
/-- The groups of seven bits. -/
def gr (z : Nat) : List Int := if 128 ≤ z then ((z % 128 + 128 : Nat) : Int) :: gr (z / 128) else [(z : Int)]
termination_by z
decreasing_by omega
theorem gr_big {z : Nat} (h : 128 ≤ z) : gr z = ((z % 128 + 128 : Nat) : Int) :: gr (z / 128) := by rw [gr, if_pos h]
theorem gr_small {z : Nat} (h : ¬ 128 ≤ z) : gr z = [(z : Int)] := by rw [gr, if_neg h]
theorem gr_len : ∀ (k z : Nat), z < 128 ^ (k + 1) → (gr z).length ≤ k + 1
  | 0, z, h => by
    rw [gr_small (by simp at h; omega)]
    simp
  | k + 1, z, h => by
    by_cases g : 128 ≤ z
    · rw [gr_big g, List.length_cons]
      have := gr_len k (z / 128) (by
        rw [Nat.div_lt_iff_lt_mul (by omega)]
        rw [Nat.pow_succ] at h
        exact h)
      omega
    · rw [gr_small g]
      simp
theorem gr_len9 {n : Int} (h : -1000000000000000000 ≤ n ∧ n ≤ 1000000000000000000) : fdN n ≤ 2000000000000000000 ∧ (gr (fdN n)).length ≤ 9 := by
  have h1 : fdN n ≤ 2000000000000000000 := by
    by_cases g : n < 0
    · have := fdN_neg g; omega
    · have := fdN_pos g; omega
  refine ⟨h1, gr_len 8 _ ?_⟩
  have : (128 : Nat) ^ (8 + 1) = 9223372036854775808 := by decide
  omega
theorem u8_rng (x : Int) : 0 ≤ IntKind.u8.wrap x ∧ IntKind.u8.wrap x ≤ 255 := by
  have : IntKind.u8.wrap x = x % 256 := by simp [IntKind.wrap, IntKind.bits, IntKind.signed]
  omega
theorem bys_nil : Bys [] := fun i hi => by simp at hi
theorem bys_app {xs ys : List Int} (h1 : Bys xs) (h2 : Bys ys) : Bys (xs ++ ys) := by
  induction xs with
  | nil => exact h2
  | cons x xs ih => exact bys_cons (by have := h1 0 (by simp); simpa using this) (ih (fun i hi => by have := h1 (i + 1) (by simpa using hi); simpa using this))
theorem bys_gr (z : Nat) : Bys (gr z) := by
  induction z using Nat.strongRecOn with
  | _ z ih =>
    by_cases g : 128 ≤ z
    · rw [gr_big g]
      exact bys_cons (by omega) (ih (z / 128) (by omega))
    · rw [gr_small g]
      exact bys_cons (by omega) bys_nil
/-- The bytes of an entry. -/
def eb (r : Rl) : List Int := IntKind.u8.wrap r.2 :: gr (fdN r.1)
theorem bys_eb (r : Rl) : Bys (eb r) := bys_cons (u8_rng _) (bys_gr _)
def Rng (L : List Rl) : Prop := ∀ r ∈ L, -1000000000000000000 ≤ r.1 ∧ r.1 ≤ 1000000000000000000
theorem eb_len {r : Rl} (h : -1000000000000000000 ≤ r.1 ∧ r.1 ≤ 1000000000000000000) : (eb r).length ≤ 10 := by
  have := (gr_len9 h).2
  simp [eb]
  omega
/-- The block of a database. -/
def blkL (L : List Rl) : List Int := L.flatMap eb
theorem blkL_len : ∀ {L : List Rl}, Rng L → (blkL L).length ≤ 10 * L.length
  | [], _ => by simp [blkL]
  | r :: L, h => by
    have h1 := eb_len (h r (by simp))
    have h2 := blkL_len (L := L) (fun x hx => h x (by simp [hx]))
    simp only [blkL, List.flatMap_cons, List.length_append, List.length_cons] at h2 ⊢
    omega
theorem bys_blkL : ∀ L : List Rl, Bys (blkL L)
  | [] => bys_nil
  | r :: L => by
    have := bys_blkL L
    simp only [blkL, List.flatMap_cons] at this ⊢
    exact bys_app (bys_eb r) this
theorem blkL_take (L : List Rl) (i : Nat) (r : Rl) (h : L[i]? = some r) : blkL (L.take (i + 1)) = blkL (L.take i) ++ eb r := by
  rw [List.take_add_one, h]
  simp [blkL]
theorem folded_any (n : Int) (w : World) (h : -1000000000000000000 ≤ n ∧ n ≤ 1000000000000000000) :
    Calls Try.prog 64 #[.int .i64 n] w fun e w' => e = .returned (.int .u64 (fdN n : Int)) ∧ w = w' := by
  obtain ⟨h1, h2⟩ := h
  by_cases g : n < 0
  · have e := fdN_neg g
    obtain ⟨Z, hZ⟩ : ∃ Z : Int, (fdN n : Int) = Z := ⟨_, rfl⟩
    rw [hZ] at e ⊢
    have w1 : IntKind.i64.wrap (-2 * n) = -2 * n := IntWalk.i64_in _ (by omega)
    have w2 : IntKind.i64.wrap (-2 * n - 1) = Z := by rw [IntWalk.i64_in _ (by omega), e]
    have w3 : IntKind.u64.wrap Z = Z := by rw [IntKind.wrap_u64]; omega
    clear hZ e
    go_enter Try.func64, Try.ntmps64
    go_wp2
    go_ret
    exact ⟨rfl, rfl⟩
  · have e := fdN_pos g
    obtain ⟨Z, hZ⟩ : ∃ Z : Int, (fdN n : Int) = Z := ⟨_, rfl⟩
    rw [hZ] at e ⊢
    have w2 : IntKind.i64.wrap (2 * n) = Z := by rw [IntWalk.i64_in _ (by omega), e]
    have w3 : IntKind.u64.wrap Z = Z := by rw [IntKind.wrap_u64]; omega
    clear hZ e
    go_enter Try.func64, Try.ntmps64
    go_wp2
    go_ret
    exact ⟨rfl, rfl⟩
theorem B8.one_row (w : World) (x : Int) : B8.IRow (w.alloc (.cells #[.int .u8 x] 5)) (some ⟨w.heap.size, 0, none⟩) [x] := fun i hi => by
  refine ⟨_, _, rfl, ?_⟩
  have hB := Blk.new w #[.int .u8 x] 5
  rw [Nat.zero_add, hB.cell i]
  obtain rfl : i = 0 := by simpa using hi
  rfl
set_option maxRecDepth 8000 in
set_option maxHeartbeats 2000000 in
theorem writeEntry_any (E B : Nat) (n d : Int) (out : List Int) (w : World) (h : -1000000000000000000 ≤ n ∧ n ≤ 1000000000000000000) (hl : out.length ≤ 90000000) (hE : EncB w E B out) :
    Calls Try.prog 47 #[.pointer (some ⟨E, 0, none⟩), .agg #[.int .i64 n, .int .i64 d]] w fun e w' => e = .returned (.tuple #[]) ∧ EncB w' E B (out ++ eb (n, d)) ∧ KeepE E B w w' ∧ KeepT E w w' := by
  obtain ⟨hz1, hz2⟩ := gr_len9 h
  have HFO := Lib.hid (fun W => folded_any n W h)
  have HW := Lib.hid (fun (x : Int) (D : List Int) (W : World) (q2 : D.length ≤ 99999999) (q3 : EncB W E B D) => write_any E B W.heap.size 0 1 1 [x] D (W.alloc (.cells #[.int .u8 x] 5)) rfl (by omega) (q3.below ((Below.refl _ _).alloc (Nat.le_refl _) _)) (B8.one_row W x))
  have BX := Blk.new w #[.int .i64 n, .int .i64 d] 66
  have hb0 : Below w.heap.size w (w.alloc (.cells #[.int .i64 n, .int .i64 d] 66)) := (Below.refl _ _).alloc (Nat.le_refl _) _
  have hE1 := hE.below hb0
  have hk0 : KeepE E B w (w.alloc (.cells #[.int .i64 n, .int .i64 d] 66)) := KeepE.of hb0
  have hBw : B ≤ w.heap.size := by obtain ⟨_, _, q, _⟩ := hE; exact q
  have hEw := hE.lt
  clear hE hb0
  have ht0 : KeepT E w (w.alloc (.cells #[.int .i64 n, .int .i64 d] 66)) := KeepT.of ((Below.refl _ _).alloc (Nat.le_refl _) _)
  have hvs : (w.alloc (.cells #[.int .i64 n, .int .i64 d] 66)).heap.size = w.heap.size + 1 := by simp
  obtain ⟨x0, x1, xf, xl⟩ := BX.two
  unfold eb
  dsimp only
  obtain ⟨D0, hD0⟩ : ∃ x, IntKind.u8.wrap d = x := ⟨_, rfl⟩
  rw [hD0]
  obtain ⟨Z0, hZ0⟩ : ∃ x, fdN n = x := ⟨_, rfl⟩
  rw [hZ0] at HFO hz1 hz2 ⊢
  have hal : ∀ (x : Int) (W : World), KeepE E B W (W.alloc (.cells #[.int .u8 x] 5)) ∧ KeepT E W (W.alloc (.cells #[.int .u8 x] 5)) := fun x W => ⟨KeepE.of ((Below.refl _ _).alloc (Nat.le_refl _) _), KeepT.of ((Below.refl _ _).alloc (Nat.le_refl _) _)⟩
  go_enter Try.func47, Try.ntmps47
  go_wp2_with fail
  clear x0 x1 xf xl
  generalize (w.alloc (.cells #[.int .i64 n, .int .i64 d] 66)) = v0 at *
  have H1 := HW.out D0 out v0 (by omega) hE1
  rw [hvs] at H1
  refine H1.mono ?_
  rintro e w1 ⟨rfl, hE2, hk1, ht1⟩
  clear H1
  (first | go_end0 | skip)
  have BX2 : Blk w1 w.heap.size #[.int .i64 n, .int .i64 d] 66 := ht1 _ _ _ (BX.alloc _) (by decide) (by omega)
  have hK : KeepE E B w w1 := (hk0.trans (hal D0 v0).1).trans hk1
  have hT : KeepT E w w1 := (ht0.trans (hal D0 v0).2).trans ht1
  clear hk1 ht1 hk0 ht0 hE1 BX
  obtain ⟨x0, x1, xf, xl⟩ := BX2.two
  go_wp2_with fail
  refine (HFO.out _).mono ?_
  rintro e w2 ⟨rfl, rfl⟩
  go_wp2_with fail
  clear x0 x1 xf xl
  go_loopg [4] Z0 (fun m z wr => ∃ (Z : Nat) (D : List Int), m = Z ∧ z = .int .u64 (Z : Int) ∧ Z ≤ Z0 ∧ EncB wr E B (out ++ [D0] ++ D) ∧ D ++ gr Z = gr Z0 ∧ KeepE E B w wr ∧ KeepT E w wr)
  case atStart => exact ⟨Z0, [], rfl, rfl, Nat.le_refl _, by simpa using hE2, by simp, hK, hT⟩
  case round =>
    clear hE2 hK hT BX2
    obtain ⟨Z, D, hm, rfl, hzle, hE2, hD, hK, hT⟩ := hrel
    have hDl : D.length ≤ 9 := by
      have := congrArg List.length hD
      simp only [List.length_append] at this
      omega
    have hDL2 : (out ++ [D0] ++ D).length ≤ 99999999 := by simp only [List.length_append, List.length_cons, List.length_nil]; omega
    by_cases hlt : 128 ≤ Z
    · have hlI : (128 : Int) ≤ (Z : Int) := by omega
      rw [gr_big hlt] at hD
      obtain ⟨Q, hQ⟩ : ∃ Q, Z % 128 + 128 = Q := ⟨_, rfl⟩
      obtain ⟨R, hR⟩ : ∃ R, Z % 128 = R := ⟨_, rfl⟩
      obtain ⟨Z2, hZ2⟩ : ∃ Q, Z / 128 = Q := ⟨_, rfl⟩
      have t1 : (Z : Int).tmod 128 = (R : Int) := by rw [← hR]; exact (Int.ofNat_tmod Z 128).symm
      have t2 : IntKind.u64.wrap ((R : Int) + 128) = (Q : Int) := by rw [IntKind.wrap_u64]; omega
      have t3 : IntKind.u8.wrap (Q : Int) = (Q : Int) := IntWalk.u8_in _ (by omega)
      have t4 : (Z : Int).tdiv 128 = (Z2 : Int) := by rw [← hZ2]; exact (Int.ofNat_tdiv Z 128).symm
      have t5 : IntKind.u64.wrap (Z2 : Int) = (Z2 : Int) := by rw [IntKind.wrap_u64]; omega
      rw [hQ, hZ2] at hD
      have HD := Lib.hid hD
      have hlt2 : Z2 < Z := by omega
      have H1 := Lib.hid (HW.out (Q : Int) (out ++ [D0] ++ D) wr hDL2 hE2)
      have HALL := Lib.hid hal
      clear hD hQ hR hZ2 hal
      go_wp2_with fail
      refine H1.out.mono ?_
      rintro e w5 ⟨rfl, hE5, hk5, ht5⟩
      (first | go_end0 | skip)
      go_wp2_with fail
      go_roundg Z2
      case measure => omega
      case rel => exact ⟨Z2, D ++ [(Q : Int)], rfl, rfl, by omega, by rw [← List.append_assoc]; exact hE5, by rw [← HD.out]; simp, (hK.trans (HALL.out _ _).1).trans hk5, (hT.trans (HALL.out _ _).2).trans ht5⟩
    · have hlI : ¬ (128 : Int) ≤ (Z : Int) := by omega
      rw [gr_small hlt] at hD
      have t3 : IntKind.u8.wrap (Z : Int) = (Z : Int) := IntWalk.u8_in _ (by omega)
      have HD := Lib.hid hD
      have H1 := Lib.hid (HW.out (Z : Int) (out ++ [D0] ++ D) wr hDL2 hE2)
      have HALL := Lib.hid hal
      clear hD hal
      go_wp2_with fail
      refine H1.out.mono ?_
      rintro e w5 ⟨rfl, hE5, hk5, ht5⟩
      (first | go_end0 | skip)
      go_wp2_with fail
      exact ⟨rfl, .tuple #[], by simp [results, Try.results47, go_sem], rfl, by rw [← HD.out]; simpa [List.append_assoc] using hE5, (hK.trans (HALL.out _ _).1).trans hk5, (hT.trans (HALL.out _ _).2).trans ht5⟩
end Go.Proofs.Ytgohipfaojiilaa
