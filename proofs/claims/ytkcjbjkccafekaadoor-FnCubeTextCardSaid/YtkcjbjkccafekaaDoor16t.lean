/- Contracts of the texts of cubes, of the program and of its model. -/
import Derived.Test.YtkcjbjkccafekaaDoor16a
import Derived.Test.YtkcjbjkccafekaaDoor16d0
import Derived.Test.YtkcjbjkccafekaaDoorShelf
import Derived.Lib.LaidTab
import Derived.Lib.AppendIntMem
import Derived.Sort.Grow
import Derived.Deep.RegionWith
import Derived.Laws.BytesArg
import Derived.IntWalk
import Derived.ArgAppend
import Derived.Laws.IdiomStrings
namespace Go.Proofs.YtkcjbjkccafekaaDoor
open Go.ChangeShapes Go.WideShapes Go.ChangeAt Go.RowKit
set_option linter.unusedVariables false
set_option linter.unusedSimpArgs false
set_option maxRecDepth 4000

theorem cat16 {a b : ByteArray} {m n : Nat} (ha : a.size ≤ m) (hb : b.size ≤ n) (h : m + n ≤ 1000000) :
    ∃ T : ByteArray, T = a ++ b ∧ T.size ≤ m + n ∧ ∀ W : World, (Op.stringOp .add a b).run Tryd.prog W = .ok (.string T) W :=
  ⟨a ++ b, rfl, by simp [ByteArray.size_append]; omega, fun W => run_string_add_sum W a b (by omega)⟩
theorem conv16 (W : World) (g : Nat) (x : Int) (h : W.cell? ⟨g, 0, none⟩ = some (.int .u8 x)) :
    (convert 22 9 (.slice (some ⟨g, 0, none⟩) 1 1)).run Tryd.prog W = .ok (.string ⟨#[UInt8.ofNat x.toNat]⟩) W := by
  have := run_convert_bytes_arg (P := Tryd.prog) W 22 5 Tryd.underlying22 Tryd.underlying5 g 0 1 1 [x] rfl (fun i hi => by
    obtain rfl : i = 0 := by omega
    simpa using h) 9 Tryd.underlying9
  simpa [strOfNums] using this
/-- The library's table of powers of ten lies in its variable. -/
def T10c (w : World) : Prop := Lib.TabIs Tryd.prog w "internal/strconv.uint64pow10" .u64 Lib.pow10Tab
theorem T10c.drew {w : World} (h : T10c w) : T10c w.drew := h
theorem T10c.below {w w' : World} (h : T10c w) (hb : Below w.heap.size w w') : T10c w' := Lib.tabBelow_of_tabIs h w' hb
theorem grow16 (w : World) (os : Array Obj) : Below w.heap.size w (Go.Sort.grow w os) := ⟨rfl, rfl, rfl, by simp, fun i hi => by show (w.heap ++ os)[i]? = _; rw [Array.getElem?_append_left hi]⟩
theorem dig_step (n : Nat) (h : 10 ≤ n) : Lib.decDigits n = Lib.decDigits (n / 10) ++ [UInt8.ofNat (48 + n % 10)] := by
  rw [Lib.decDigits, dif_neg (by omega)]
theorem dig_one (n : Nat) (h : n < 10) : Lib.decDigits n = [UInt8.ofNat (48 + n)] := by
  rw [Lib.decDigits, dif_pos h]
theorem dig_len : ∀ n : Nat, n < 10000 → (Lib.decDigits n).length ≤ 4 := fun n h => by
  by_cases h1 : n < 10
  · rw [dig_one n h1]; simp
  · rw [dig_step n (by omega), List.length_append]
    by_cases h2 : n / 10 < 10
    · rw [dig_one _ h2]; simp
    · rw [dig_step (n / 10) (by omega), List.length_append]
      by_cases h3 : n / 10 / 10 < 10
      · rw [dig_one _ h3]; simp
      · rw [dig_step (n / 10 / 10) (by omega), List.length_append, dig_one _ (by omega)]; simp
theorem letter0 (W : World) : (Instr.slice 9 (.string ⟨#[99, 111, 116]⟩) (some (.int .i64 0)) (some (.int .i64 (IntKind.i64.wrap 1))) none).run Tryd.prog W = .ok (.string ⟨#[99]⟩) W := by
  rw [show IntKind.i64.wrap 1 = 1 from IntWalk.i64_in _ (by omega), run_slice_string W 9 _ .i64 .i64 0 1 Tryd.underlying9 (by decide) (by decide) (by decide)]
  rfl
theorem letter1 (W : World) : (Instr.slice 9 (.string ⟨#[99, 111, 116]⟩) (some (.int .i64 1)) (some (.int .i64 (IntKind.i64.wrap 2))) none).run Tryd.prog W = .ok (.string ⟨#[111]⟩) W := by
  rw [show IntKind.i64.wrap 2 = 2 from IntWalk.i64_in _ (by omega), run_slice_string W 9 _ .i64 .i64 1 2 Tryd.underlying9 (by decide) (by decide) (by decide)]
  rfl
theorem letter2 (W : World) : (Instr.slice 9 (.string ⟨#[99, 111, 116]⟩) (some (.int .i64 2)) (some (.int .i64 (IntKind.i64.wrap 3))) none).run Tryd.prog W = .ok (.string ⟨#[116]⟩) W := by
  rw [show IntKind.i64.wrap 3 = 3 from IntWalk.i64_in _ (by omega), run_slice_string W 9 _ .i64 .i64 2 3 Tryd.underlying9 (by decide) (by decide) (by decide)]
  rfl
/-- The owner's letter. -/
def ltO (o : Int) : UInt8 := if o = 0 then 99 else if o = 1 then 111 else 116
/-- The text of a cube. -/
def ctL (v o : Int) : List UInt8 := Lib.decDigits v.toNat ++ [ltO o]
def ctT (v o : Int) : List UInt8 := if cbB 1024 v o = true then ctL v o else []
theorem ctL_len {v o : Int} (h : 1 ≤ v ∧ v ≤ 1024) : (ctL v o).length ≤ 5 := by
  unfold ctL
  have := dig_len v.toNat (by omega)
  rw [List.length_append, List.length_singleton]
  omega
theorem l16Number_one (n : Nat) (w : World) (h : n < 10) :
    Calls Tryd.prog 21 #[.int .i64 (n : Int)] w fun e w' => e = .returned (.string ⟨(Lib.decDigits n).toArray⟩) ∧ Below w.heap.size w w' := by
  rw [dig_one n h]
  have kc := conv16
  have e2 : IntKind.i64.wrap (48 + (n : Int)) = 48 + (n : Int) := IntWalk.i64_in _ (by omega)
  have e3 : IntKind.u8.wrap (48 + (n : Int)) = 48 + (n : Int) := IntWalk.u8_in _ (by omega)
  have e4 : (48 + (n : Int)).toNat = 48 + n := by omega
  have h1 : (n : Int) < 10 := by omega
  go_enter Tryd.func21, Tryd.ntmps21
  go_wp2
  go_ret
  exact ⟨by first | rfl | (rw [e4]) | (simp [e4]), (Below.refl _ _).alloc (Nat.le_refl _) _⟩
set_option maxHeartbeats 1000000 in
theorem l16Number_step (n : Nat) (w : World) (h0 : 10 ≤ n) (h1 : n < 10000) (hi : ∀ W, Calls Tryd.prog 21 #[.int .i64 ((n / 10 : Nat) : Int)] W fun e w' => e = .returned (.string ⟨(Lib.decDigits (n / 10)).toArray⟩) ∧ Below W.heap.size W w') :
    Calls Tryd.prog 21 #[.int .i64 (n : Int)] w fun e w' => e = .returned (.string ⟨(Lib.decDigits n).toArray⟩) ∧ Below w.heap.size w w' := by
  have hl := dig_len (n / 10) (by omega)
  obtain ⟨T, hT⟩ : ∃ T : ByteArray, ⟨(Lib.decDigits (n / 10)).toArray⟩ = T := ⟨_, rfl⟩
  have hTs : T.size ≤ 4 := by rw [← hT]; exact hl
  obtain ⟨U, e1, s1, k1⟩ := cat16 (a := T) (b := ⟨#[UInt8.ofNat (48 + n % 10)]⟩) (m := 4) (n := 1) hTs (by simp [ByteArray.size]) (by omega)
  have e0 : (⟨(Lib.decDigits n).toArray⟩ : ByteArray) = U := by
    rw [e1, ← hT, dig_step n h0]
    apply ByteArray.ext
    simp [ByteArray.data_append]
  rw [e0]
  rw [hT] at hi
  obtain ⟨q, hq⟩ : ∃ q : Nat, n / 10 = q := ⟨_, rfl⟩
  obtain ⟨d, hd⟩ : ∃ d : Nat, n % 10 = d := ⟨_, rfl⟩
  rw [hq] at hi
  rw [hd] at k1
  have hd9 : d ≤ 9 := by omega
  have hq1 : q ≤ 1000 := by omega
  have f1 : IntKind.i64.wrap ((n : Int).tdiv 10) = (q : Int) := by rw [IntWalk.i64_quo _ _ (by omega)]; omega
  have f6 : IntKind.i64.wrap ((n : Int) / 10) = (q : Int) := by rw [IntWalk.i64_in _ (by omega)]; omega
  have f4 : (n : Int).tmod 10 = (d : Int) := by rw [IntWalk.rem_in _ _ (by omega)]; omega
  have f2 : IntKind.i64.wrap (48 + (d : Int)) = 48 + (d : Int) := IntWalk.i64_in _ (by omega)
  have f3 : IntKind.u8.wrap (48 + (d : Int)) = 48 + (d : Int) := IntWalk.u8_in _ (by omega)
  have f5 : (48 + (d : Int)).toNat = 48 + d := by omega
  have fn : ¬ (n : Int) < 10 := by omega
  obtain ⟨Z, hZ⟩ : ∃ Z, UInt8.ofNat (48 + d) = Z := ⟨_, rfl⟩
  rw [hZ] at k1
  have kc := fun (W : World) (g : Nat) (h : W.cell? ⟨g, 0, none⟩ = some (.int .u8 (48 + (d : Int)))) => conv16 W g (48 + (d : Int)) h
  rw [f5, hZ] at kc
  clear hZ f5
  have HC := Lib.hid hi
  clear hi hl hT hTs e1 s1 e0 hq hd h0 h1
  go_enter Tryd.func21, Tryd.ntmps21
  go_wp2
  go_region_with (go_at_call 21; (with_reducible refine (HC.out _).mono ?_); rintro e w1 ⟨rfl, hb1⟩; obtain ⟨hc1, hf1⟩ := bcell hb1)
  all_goals go_wp2
  all_goals go_ret
  all_goals refine ⟨rfl, ?_⟩
  all_goals first
    | exact ((Below.refl _ _).drew.trans hb1).alloc hb1.size _
    | exact (((Below.refl _ _).alloc (Nat.le_refl _) _).drew).trans (hb1.mono (by simp))
    | exact (((Below.refl _ _).drew).alloc (Nat.le_refl _) _).trans (hb1.mono (by simp))
theorem l16Number_any (n : Nat) (h : n < 10000) (w : World) :
    Calls Tryd.prog 21 #[.int .i64 (n : Int)] w fun e w' => e = .returned (.string ⟨(Lib.decDigits n).toArray⟩) ∧ Below w.heap.size w w' := by
  by_cases h1 : n < 10
  · exact l16Number_one n w h1
  · refine l16Number_step n w (by omega) h fun W => ?_
    by_cases h2 : n / 10 < 10
    · exact l16Number_one _ W h2
    · refine l16Number_step _ W (by omega) (by omega) fun W => ?_
      by_cases h3 : n / 10 / 10 < 10
      · exact l16Number_one _ W h3
      · refine l16Number_step _ W (by omega) (by omega) fun W => ?_
        exact l16Number_one _ W (by omega)
theorem fmt16 (n : Nat) (h : n < 10000) (w : World) (ht : T10c w) :
    Calls Tryd.prog 26 #[.int .i64 (n : Int), .int .i64 10] w fun e w' => e = .returned (.string ⟨(Lib.decDigits n).toArray⟩) ∧ Below w.heap.size w w' := by
  refine (Tryd.strconv_FormatInt_10 n (by omega) (by omega) w ht).mono ?_
  rintro e w' ⟨rfl, k, os, rfl⟩
  refine ⟨?_, (below_drewN (Below.refl _ w) k).trans ((grow16 (w.drewN k) os).mono (below_drewN (Below.refl w.heap.size w) k).size)⟩
  unfold Lib.itoa
  rw [if_neg (by omega), Int.toNat_natCast]
set_option maxRecDepth 8000 in
set_option maxHeartbeats 1000000 in
theorem text16_any (v o : Int) (w : World) (hv : 1 ≤ v ∧ v ≤ 1024) (ho : 0 ≤ o ∧ o ≤ 2) (ht : T10c w) :
    Calls Tryd.prog 18 #[.agg #[.int .i64 v, .int .i64 o]] w fun e w' => e = .returned (.string ⟨(ctL v o).toArray⟩) ∧ Below w.heap.size w w' := by
  obtain ⟨N, rfl⟩ := Int.eq_ofNat_of_zero_le (by omega : 0 ≤ v)
  have hn := fun W t => fmt16 N (by omega) W t
  have hl := dig_len N (by omega)
  obtain ⟨T, hT⟩ : ∃ T : ByteArray, ⟨(Lib.decDigits N).toArray⟩ = T := ⟨_, rfl⟩
  have hTs : T.size ≤ 4 := by rw [← hT]; exact hl
  rw [hT] at hn
  have HN := Lib.hid hn
  clear hn hl hv
  rcases (show o = 0 ∨ o = 1 ∨ o = 2 by omega) with rfl | rfl | rfl
  · clear ho
    rw [show ctL (N : Int) 0 = Lib.decDigits N ++ [99] by simp [ctL, ltO]]
    obtain ⟨U, e1, s1, k1⟩ := cat16 (a := T) (b := ⟨#[99]⟩) (m := 4) (n := 1) hTs (by decide) (by omega)
    have e0 : (⟨(Lib.decDigits N ++ [99]).toArray⟩ : ByteArray) = U := by
      rw [e1, ← hT]
      apply ByteArray.ext
      simp [ByteArray.data_append]
    rw [e0]
    have BC := Blk.new w #[.int .i64 (N : Int), .int .i64 0] 25
    have hb : Below w.heap.size w (w.alloc (.cells #[.int .i64 (N : Int), .int .i64 0] 25)) := (Below.refl _ _).alloc (Nat.le_refl _) _
    replace ht := ht.below hb
    obtain ⟨x0, x1, xf, xl⟩ := BC.two
    clear hT hTs e1 s1 e0
    have hlt := fun W => letter0 W
    go_enter Tryd.func18, Tryd.ntmps18
    go_wp2_with fail
    clear x0 x1 xf xl
    generalize (w.alloc (.cells #[.int .i64 (N : Int), .int .i64 0] 25)) = v0 at *
    have hd_ : v0.drew.heap.size = v0.heap.size := rfl
    replace BC := BC.drew
    replace hb := hb.drew
    replace ht := ht.drew
    refine wp_region_held_drew (S := fun w' => w'.cell? ⟨w.heap.size, 0, none⟩ = some (.int .i64 (N : Int)) ∧ w'.cell? ⟨w.heap.size, 1, none⟩ = some (.int .i64 0)) (by kernel_rfl) ⟨BC.two.1, BC.two.2.1⟩ (fun hHeld => ?_)
    clear hHeld
    generalize v0.drew = vd at *
    have hHeld : vd.cell? ⟨w.heap.size, 0, none⟩ = some (.int .i64 (N : Int)) ∧ vd.cell? ⟨w.heap.size, 1, none⟩ = some (.int .i64 0) := ⟨BC.two.1, BC.two.2.1⟩
    refine tk 0 3 ?_
    refine tk 1 4 ?_
    refine tk 3 6 ?_
    refine tk 4 7 ?_
    refine tk 5 8 ?_
    refine tk 6 9 ?_
    refine tk 7 10 ?_
    refine tk 8 11 ?_
    refine rdk 2 5 fun K hK => ?_
    go_simp
    refine (HN.out _ ht).mono ?_
    rintro e w1 ⟨rfl, hb1⟩
    replace BC := BC.below hb1
    replace hb := chain hb hb1
    clear hb1
    (try go_wp2_with fail)
    refine hko hK (Blk.l2 BC) fun hHeld => ?_
    clear hK K
    refine tk 9 12 ?_
    refine tk 10 2 ?_
    refine wpAnyH_done (by kernel_rfl) ?_ _
    clear hHeld
    go_wp2_with fail
    go_ret
    exact ⟨rfl, hb⟩
  · clear ho
    rw [show ctL (N : Int) 1 = Lib.decDigits N ++ [111] by simp [ctL, ltO]]
    obtain ⟨U, e1, s1, k1⟩ := cat16 (a := T) (b := ⟨#[111]⟩) (m := 4) (n := 1) hTs (by decide) (by omega)
    have e0 : (⟨(Lib.decDigits N ++ [111]).toArray⟩ : ByteArray) = U := by
      rw [e1, ← hT]
      apply ByteArray.ext
      simp [ByteArray.data_append]
    rw [e0]
    have BC := Blk.new w #[.int .i64 (N : Int), .int .i64 1] 25
    have hb : Below w.heap.size w (w.alloc (.cells #[.int .i64 (N : Int), .int .i64 1] 25)) := (Below.refl _ _).alloc (Nat.le_refl _) _
    replace ht := ht.below hb
    obtain ⟨x0, x1, xf, xl⟩ := BC.two
    clear hT hTs e1 s1 e0
    have hlt := fun W => letter1 W
    go_enter Tryd.func18, Tryd.ntmps18
    go_wp2_with fail
    clear x0 x1 xf xl
    generalize (w.alloc (.cells #[.int .i64 (N : Int), .int .i64 1] 25)) = v0 at *
    have hd_ : v0.drew.heap.size = v0.heap.size := rfl
    replace BC := BC.drew
    replace hb := hb.drew
    replace ht := ht.drew
    refine wp_region_held_drew (S := fun w' => w'.cell? ⟨w.heap.size, 0, none⟩ = some (.int .i64 (N : Int)) ∧ w'.cell? ⟨w.heap.size, 1, none⟩ = some (.int .i64 1)) (by kernel_rfl) ⟨BC.two.1, BC.two.2.1⟩ (fun hHeld => ?_)
    clear hHeld
    generalize v0.drew = vd at *
    have hHeld : vd.cell? ⟨w.heap.size, 0, none⟩ = some (.int .i64 (N : Int)) ∧ vd.cell? ⟨w.heap.size, 1, none⟩ = some (.int .i64 1) := ⟨BC.two.1, BC.two.2.1⟩
    refine tk 0 3 ?_
    refine tk 1 4 ?_
    refine tk 3 6 ?_
    refine tk 4 7 ?_
    refine tk 5 8 ?_
    refine tk 6 9 ?_
    refine tk 7 10 ?_
    refine tk 8 11 ?_
    refine rdk 2 5 fun K hK => ?_
    go_simp
    refine (HN.out _ ht).mono ?_
    rintro e w1 ⟨rfl, hb1⟩
    replace BC := BC.below hb1
    replace hb := chain hb hb1
    clear hb1
    (try go_wp2_with fail)
    refine hko hK (Blk.l2 BC) fun hHeld => ?_
    clear hK K
    refine tk 9 12 ?_
    refine tk 10 2 ?_
    refine wpAnyH_done (by kernel_rfl) ?_ _
    clear hHeld
    go_wp2_with fail
    go_ret
    exact ⟨rfl, hb⟩
  · clear ho
    rw [show ctL (N : Int) 2 = Lib.decDigits N ++ [116] by simp [ctL, ltO]]
    obtain ⟨U, e1, s1, k1⟩ := cat16 (a := T) (b := ⟨#[116]⟩) (m := 4) (n := 1) hTs (by decide) (by omega)
    have e0 : (⟨(Lib.decDigits N ++ [116]).toArray⟩ : ByteArray) = U := by
      rw [e1, ← hT]
      apply ByteArray.ext
      simp [ByteArray.data_append]
    rw [e0]
    have BC := Blk.new w #[.int .i64 (N : Int), .int .i64 2] 25
    have hb : Below w.heap.size w (w.alloc (.cells #[.int .i64 (N : Int), .int .i64 2] 25)) := (Below.refl _ _).alloc (Nat.le_refl _) _
    replace ht := ht.below hb
    obtain ⟨x0, x1, xf, xl⟩ := BC.two
    clear hT hTs e1 s1 e0
    have hlt := fun W => letter2 W
    go_enter Tryd.func18, Tryd.ntmps18
    go_wp2_with fail
    clear x0 x1 xf xl
    generalize (w.alloc (.cells #[.int .i64 (N : Int), .int .i64 2] 25)) = v0 at *
    have hd_ : v0.drew.heap.size = v0.heap.size := rfl
    replace BC := BC.drew
    replace hb := hb.drew
    replace ht := ht.drew
    refine wp_region_held_drew (S := fun w' => w'.cell? ⟨w.heap.size, 0, none⟩ = some (.int .i64 (N : Int)) ∧ w'.cell? ⟨w.heap.size, 1, none⟩ = some (.int .i64 2)) (by kernel_rfl) ⟨BC.two.1, BC.two.2.1⟩ (fun hHeld => ?_)
    clear hHeld
    generalize v0.drew = vd at *
    have hHeld : vd.cell? ⟨w.heap.size, 0, none⟩ = some (.int .i64 (N : Int)) ∧ vd.cell? ⟨w.heap.size, 1, none⟩ = some (.int .i64 2) := ⟨BC.two.1, BC.two.2.1⟩
    refine tk 0 3 ?_
    refine tk 1 4 ?_
    refine tk 3 6 ?_
    refine tk 4 7 ?_
    refine tk 5 8 ?_
    refine tk 6 9 ?_
    refine tk 7 10 ?_
    refine tk 8 11 ?_
    refine rdk 2 5 fun K hK => ?_
    go_simp
    refine (HN.out _ ht).mono ?_
    rintro e w1 ⟨rfl, hb1⟩
    replace BC := BC.below hb1
    replace hb := chain hb hb1
    clear hb1
    (try go_wp2_with fail)
    refine hko hK (Blk.l2 BC) fun hHeld => ?_
    clear hK K
    refine tk 9 12 ?_
    refine tk 10 2 ?_
    refine wpAnyH_done (by kernel_rfl) ?_ _
    clear hHeld
    go_wp2_with fail
    go_ret
    exact ⟨rfl, hb⟩
theorem widest_any (w : World) : Calls Tryd.prog 16 #[] w fun e w' => e = .returned (.agg #[.int .i64 1024, .bool false, .bool false]) ∧ Below w.heap.size w w' := by
  go_enter Tryd.func16, Tryd.ntmps16
  go_wp2
  refine bodyPost_ret (v := .agg #[.int .i64 1024, .bool false, .bool false]) (by simp [results, Tryd.results16, go_sem]) rfl ?_
  exact ⟨rfl, (Below.refl _ _).alloc (Nat.le_refl _) _⟩
set_option maxRecDepth 8000 in
set_option maxHeartbeats 1000000 in
theorem cubeText_any (v o : Int) (w : World) (ht : T10c w) :
    Calls Tryd.prog 8 #[.agg #[.int .i64 v, .int .i64 o]] w fun e w' => e = .returned (.string ⟨(ctT v o).toArray⟩) ∧ Below w.heap.size w w' := by
  have hc := fun W => hasCube_any 1024 v o false false W
  have hw := fun W => widest_any W
  have BC := Blk.new w #[.int .i64 v, .int .i64 o] 25
  have hb : Below w.heap.size w (w.alloc (.cells #[.int .i64 v, .int .i64 o] 25)) := (Below.refl _ _).alloc (Nat.le_refl _) _
  replace ht := ht.below hb
  obtain ⟨x0, x1, xf, xl⟩ := BC.two
  unfold ctT
  cases g : cbB 1024 v o with
  | false =>
    rw [if_neg (show ¬ false = true by simp)]
    rw [g] at hc
    have HC := Lib.hid hc
    have HW := Lib.hid hw
    clear hc hw g
    go_enter Tryd.func8, Tryd.ntmps8
    go_wp2_with fail
    clear x0 x1 xf xl
    generalize (w.alloc (.cells #[.int .i64 v, .int .i64 o] 25)) = v0 at *
    have hd_ : v0.drew.heap.size = v0.heap.size := rfl
    replace BC := BC.drew
    replace hb := hb.drew
    refine wp_region_held_drew (S := fun w' => w'.cell? ⟨w.heap.size, 0, none⟩ = some (.int .i64 v) ∧ w'.cell? ⟨w.heap.size, 1, none⟩ = some (.int .i64 o)) (by kernel_rfl) ⟨BC.two.1, BC.two.2.1⟩ (fun hHeld => ?_)
    clear hHeld
    generalize v0.drew = vd at *
    have hHeld : vd.cell? ⟨w.heap.size, 0, none⟩ = some (.int .i64 v) ∧ vd.cell? ⟨w.heap.size, 1, none⟩ = some (.int .i64 o) := ⟨BC.two.1, BC.two.2.1⟩
    refine tk 1 4 ?_
    refine rdk 0 3 fun K hK => ?_
    go_simp
    refine (HW.out _).mono ?_
    rintro e w1 ⟨rfl, hb1⟩
    replace BC := BC.below hb1
    replace hb := chain hb hb1
    clear hb1
    (try go_wp2_with fail)
    refine hko hK (Blk.l2 BC) fun hHeld => ?_
    clear hK K
    refine rdk 2 5 fun K hK => ?_
    go_simp
    refine (HC.out _).mono ?_
    rintro e w2 ⟨rfl, hb2⟩
    replace BC := BC.below hb2
    replace hb := chain hb hb2
    clear hb2
    (try go_wp2_with fail)
    refine hko hK (Blk.l2 BC) fun hHeld => ?_
    clear hK K
    refine tk 3 6 ?_
    refine wpAnyH_done (by kernel_rfl) ?_ _
    clear hHeld
    go_wp2_with fail
    go_ret
    exact ⟨rfl, hb⟩
  | true =>
    have hp := cbB_parts g
    have hx := fun W t => text16_any v o W (by omega) (by omega) t
    rw [if_pos rfl]
    rw [g] at hc
    obtain ⟨T, hT⟩ : ∃ T : ByteArray, ⟨(ctL v o).toArray⟩ = T := ⟨_, rfl⟩
    rw [hT] at hx ⊢
    have HC := Lib.hid hc
    have HW := Lib.hid hw
    have HX := Lib.hid hx
    clear hc hw hx g hp hT
    go_enter Tryd.func8, Tryd.ntmps8
    go_wp2_with fail
    clear x0 x1 xf xl
    generalize (w.alloc (.cells #[.int .i64 v, .int .i64 o] 25)) = v0 at *
    have hd_ : v0.drew.heap.size = v0.heap.size := rfl
    replace BC := BC.drew
    replace hb := hb.drew
    replace ht := ht.drew
    refine wp_region_held_drew (S := fun w' => w'.cell? ⟨w.heap.size, 0, none⟩ = some (.int .i64 v) ∧ w'.cell? ⟨w.heap.size, 1, none⟩ = some (.int .i64 o)) (by kernel_rfl) ⟨BC.two.1, BC.two.2.1⟩ (fun hHeld => ?_)
    clear hHeld
    generalize v0.drew = vd at *
    have hHeld : vd.cell? ⟨w.heap.size, 0, none⟩ = some (.int .i64 v) ∧ vd.cell? ⟨w.heap.size, 1, none⟩ = some (.int .i64 o) := ⟨BC.two.1, BC.two.2.1⟩
    refine tk 1 4 ?_
    refine rdk 0 3 fun K hK => ?_
    go_simp
    refine (HW.out _).mono ?_
    rintro e w1 ⟨rfl, hb1⟩
    replace BC := BC.below hb1
    replace ht := ht.below hb1
    replace hb := chain hb hb1
    clear hb1
    (try go_wp2_with fail)
    refine hko hK (Blk.l2 BC) fun hHeld => ?_
    clear hK K
    refine rdk 2 5 fun K hK => ?_
    go_simp
    refine (HC.out _).mono ?_
    rintro e w2 ⟨rfl, hb2⟩
    replace BC := BC.below hb2
    replace ht := ht.below hb2
    replace hb := chain hb hb2
    clear hb2
    (try go_wp2_with fail)
    refine hko hK (Blk.l2 BC) fun hHeld => ?_
    clear hK K
    refine tk 3 6 ?_
    refine wpAnyH_done (by kernel_rfl) ?_ _
    clear hHeld
    obtain ⟨x0, x1, xf, xl⟩ := BC.two
    go_wp2_with (go_at_call 18; refine (HX.out _ ht).mono ?_; rintro e w3 ⟨rfl, hb3⟩)
    go_ret
    exact ⟨rfl, chain hb hb3⟩
set_option maxRecDepth 8000 in
set_option maxHeartbeats 1000000 in
theorem specCubeText_any (v o : Int) (w : World) :
    Calls Tryd.prog 10 #[.agg #[.int .i64 v, .int .i64 o]] w fun e w' => e = .returned (.string ⟨(ctT v o).toArray⟩) ∧ Below w.heap.size w w' := by
  have hc := fun W => specIsCube_any 1024 v o false false W
  unfold ctT
  cases g : cbB 1024 v o with
  | false =>
    have hb : Below w.heap.size w (w.alloc (.cells #[.int .i64 v, .int .i64 o] 25)) := (Below.refl _ _).alloc (Nat.le_refl _) _
    obtain ⟨x0, x1, xf, xl⟩ := (Blk.new w #[.int .i64 v, .int .i64 o] 25).two
    rw [if_neg (show ¬ false = true by simp)]
    rw [g] at hc
    have HC := Lib.hid hc
    clear hc g
    go_enter Tryd.func10, Tryd.ntmps10
    go_wp2_with (go_at_call 20; refine (HC.out _).mono ?_; rintro e w1 ⟨rfl, hb1⟩)
    go_ret
    exact ⟨rfl, chain hb hb1⟩
  | true =>
    have hp := cbB_parts g
    rw [if_pos rfl]
    rw [g] at hc
    have HC := Lib.hid hc
    clear hc g
    obtain ⟨N, rfl⟩ := Int.eq_ofNat_of_zero_le (by omega : 0 ≤ v)
    have hn := fun W => l16Number_any N (by omega) W
    have hl := dig_len N (by omega)
    obtain ⟨T, hT⟩ : ∃ T : ByteArray, ⟨(Lib.decDigits N).toArray⟩ = T := ⟨_, rfl⟩
    have hTs : T.size ≤ 4 := by rw [← hT]; exact hl
    rw [hT] at hn
    have HN := Lib.hid hn
    clear hn hl
    have ho : o = 0 ∨ o = 1 ∨ o = 2 := by omega
    clear hp
    rcases ho with rfl | rfl | rfl
    ·
      rw [show ctL (N : Int) 0 = Lib.decDigits N ++ [99] by simp [ctL, ltO]]
      obtain ⟨U, e1, s1, k1⟩ := cat16 (a := T) (b := ⟨#[99]⟩) (m := 4) (n := 1) hTs (by decide) (by omega)
      have e0 : (⟨(Lib.decDigits N ++ [99]).toArray⟩ : ByteArray) = U := by
        rw [e1, ← hT]
        apply ByteArray.ext
        simp [ByteArray.data_append]
      rw [e0]
      have BC := Blk.new w #[.int .i64 (N : Int), .int .i64 0] 25
      have hb : Below w.heap.size w (w.alloc (.cells #[.int .i64 (N : Int), .int .i64 0] 25)) := (Below.refl _ _).alloc (Nat.le_refl _) _
      obtain ⟨x0, x1, xf, xl⟩ := BC.two
      clear hT hTs e1 s1 e0
      have hlt := fun W => letter0 W
      go_enter Tryd.func10, Tryd.ntmps10
      go_wp2_with (go_at_call 20; refine (HC.out _).mono ?_; rintro e w0 ⟨rfl, hb0⟩; obtain ⟨y0, y1, yf, yl⟩ := (BC.below hb0).two)
      clear x0 x1 xf xl y0 y1 yf yl
      replace BC := BC.below hb0
      replace hb := chain hb hb0
      clear hb0
      have hd_ : w0.drew.heap.size = w0.heap.size := rfl
      replace BC := BC.drew
      replace hb := hb.drew
      refine wp_region_held_drew (S := fun w' => w'.cell? ⟨w.heap.size, 0, none⟩ = some (.int .i64 (N : Int)) ∧ w'.cell? ⟨w.heap.size, 1, none⟩ = some (.int .i64 0)) (by kernel_rfl) ⟨BC.two.1, BC.two.2.1⟩ (fun hHeld => ?_)
      clear hHeld
      generalize w0.drew = vd at *
      have hHeld : vd.cell? ⟨w.heap.size, 0, none⟩ = some (.int .i64 (N : Int)) ∧ vd.cell? ⟨w.heap.size, 1, none⟩ = some (.int .i64 0) := ⟨BC.two.1, BC.two.2.1⟩
      refine tk 0 7 ?_
      refine tk 1 8 ?_
      refine tk 3 10 ?_
      refine tk 4 11 ?_
      refine tk 5 12 ?_
      refine tk 6 13 ?_
      refine tk 7 14 ?_
      refine tk 8 15 ?_
      refine rdk 2 9 fun K hK => ?_
      go_simp
      refine (HN.out _).mono ?_
      rintro e w1 ⟨rfl, hb1⟩
      replace BC := BC.below hb1
      replace hb := chain hb hb1
      clear hb1
      (try go_wp2_with fail)
      refine hko hK (Blk.l2 BC) fun hHeld => ?_
      clear hK K
      refine tk 9 16 ?_
      refine tk 10 2 ?_
      refine wpAnyH_done (by kernel_rfl) ?_ _
      clear hHeld
      go_wp2_with fail
      go_ret
      exact ⟨rfl, hb⟩
    ·
      rw [show ctL (N : Int) 1 = Lib.decDigits N ++ [111] by simp [ctL, ltO]]
      obtain ⟨U, e1, s1, k1⟩ := cat16 (a := T) (b := ⟨#[111]⟩) (m := 4) (n := 1) hTs (by decide) (by omega)
      have e0 : (⟨(Lib.decDigits N ++ [111]).toArray⟩ : ByteArray) = U := by
        rw [e1, ← hT]
        apply ByteArray.ext
        simp [ByteArray.data_append]
      rw [e0]
      have BC := Blk.new w #[.int .i64 (N : Int), .int .i64 1] 25
      have hb : Below w.heap.size w (w.alloc (.cells #[.int .i64 (N : Int), .int .i64 1] 25)) := (Below.refl _ _).alloc (Nat.le_refl _) _
      obtain ⟨x0, x1, xf, xl⟩ := BC.two
      clear hT hTs e1 s1 e0
      have hlt := fun W => letter1 W
      go_enter Tryd.func10, Tryd.ntmps10
      go_wp2_with (go_at_call 20; refine (HC.out _).mono ?_; rintro e w0 ⟨rfl, hb0⟩; obtain ⟨y0, y1, yf, yl⟩ := (BC.below hb0).two)
      clear x0 x1 xf xl y0 y1 yf yl
      replace BC := BC.below hb0
      replace hb := chain hb hb0
      clear hb0
      have hd_ : w0.drew.heap.size = w0.heap.size := rfl
      replace BC := BC.drew
      replace hb := hb.drew
      refine wp_region_held_drew (S := fun w' => w'.cell? ⟨w.heap.size, 0, none⟩ = some (.int .i64 (N : Int)) ∧ w'.cell? ⟨w.heap.size, 1, none⟩ = some (.int .i64 1)) (by kernel_rfl) ⟨BC.two.1, BC.two.2.1⟩ (fun hHeld => ?_)
      clear hHeld
      generalize w0.drew = vd at *
      have hHeld : vd.cell? ⟨w.heap.size, 0, none⟩ = some (.int .i64 (N : Int)) ∧ vd.cell? ⟨w.heap.size, 1, none⟩ = some (.int .i64 1) := ⟨BC.two.1, BC.two.2.1⟩
      refine tk 0 7 ?_
      refine tk 1 8 ?_
      refine tk 3 10 ?_
      refine tk 4 11 ?_
      refine tk 5 12 ?_
      refine tk 6 13 ?_
      refine tk 7 14 ?_
      refine tk 8 15 ?_
      refine rdk 2 9 fun K hK => ?_
      go_simp
      refine (HN.out _).mono ?_
      rintro e w1 ⟨rfl, hb1⟩
      replace BC := BC.below hb1
      replace hb := chain hb hb1
      clear hb1
      (try go_wp2_with fail)
      refine hko hK (Blk.l2 BC) fun hHeld => ?_
      clear hK K
      refine tk 9 16 ?_
      refine tk 10 2 ?_
      refine wpAnyH_done (by kernel_rfl) ?_ _
      clear hHeld
      go_wp2_with fail
      go_ret
      exact ⟨rfl, hb⟩
    ·
      rw [show ctL (N : Int) 2 = Lib.decDigits N ++ [116] by simp [ctL, ltO]]
      obtain ⟨U, e1, s1, k1⟩ := cat16 (a := T) (b := ⟨#[116]⟩) (m := 4) (n := 1) hTs (by decide) (by omega)
      have e0 : (⟨(Lib.decDigits N ++ [116]).toArray⟩ : ByteArray) = U := by
        rw [e1, ← hT]
        apply ByteArray.ext
        simp [ByteArray.data_append]
      rw [e0]
      have BC := Blk.new w #[.int .i64 (N : Int), .int .i64 2] 25
      have hb : Below w.heap.size w (w.alloc (.cells #[.int .i64 (N : Int), .int .i64 2] 25)) := (Below.refl _ _).alloc (Nat.le_refl _) _
      obtain ⟨x0, x1, xf, xl⟩ := BC.two
      clear hT hTs e1 s1 e0
      have hlt := fun W => letter2 W
      go_enter Tryd.func10, Tryd.ntmps10
      go_wp2_with (go_at_call 20; refine (HC.out _).mono ?_; rintro e w0 ⟨rfl, hb0⟩; obtain ⟨y0, y1, yf, yl⟩ := (BC.below hb0).two)
      clear x0 x1 xf xl y0 y1 yf yl
      replace BC := BC.below hb0
      replace hb := chain hb hb0
      clear hb0
      have hd_ : w0.drew.heap.size = w0.heap.size := rfl
      replace BC := BC.drew
      replace hb := hb.drew
      refine wp_region_held_drew (S := fun w' => w'.cell? ⟨w.heap.size, 0, none⟩ = some (.int .i64 (N : Int)) ∧ w'.cell? ⟨w.heap.size, 1, none⟩ = some (.int .i64 2)) (by kernel_rfl) ⟨BC.two.1, BC.two.2.1⟩ (fun hHeld => ?_)
      clear hHeld
      generalize w0.drew = vd at *
      have hHeld : vd.cell? ⟨w.heap.size, 0, none⟩ = some (.int .i64 (N : Int)) ∧ vd.cell? ⟨w.heap.size, 1, none⟩ = some (.int .i64 2) := ⟨BC.two.1, BC.two.2.1⟩
      refine tk 0 7 ?_
      refine tk 1 8 ?_
      refine tk 3 10 ?_
      refine tk 4 11 ?_
      refine tk 5 12 ?_
      refine tk 6 13 ?_
      refine tk 7 14 ?_
      refine tk 8 15 ?_
      refine rdk 2 9 fun K hK => ?_
      go_simp
      refine (HN.out _).mono ?_
      rintro e w1 ⟨rfl, hb1⟩
      replace BC := BC.below hb1
      replace hb := chain hb hb1
      clear hb1
      (try go_wp2_with fail)
      refine hko hK (Blk.l2 BC) fun hHeld => ?_
      clear hK K
      refine tk 9 16 ?_
      refine tk 10 2 ?_
      refine wpAnyH_done (by kernel_rfl) ?_ _
      clear hHeld
      go_wp2_with fail
      go_ret
      exact ⟨rfl, hb⟩
end Go.Proofs.YtkcjbjkccafekaaDoor
