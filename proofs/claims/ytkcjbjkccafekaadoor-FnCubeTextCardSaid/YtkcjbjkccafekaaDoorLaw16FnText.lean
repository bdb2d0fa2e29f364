/- The law of chapter 16 on texts of cubes holds: for every code the law returns true and the code reads behind the call as it read before. No conditions but those of the card: the listed tables of the library hold what their initialisers lay. -/
import Derived.Test.YtkcjbjkccafekaaDoorDraw16b
import Derived.Test.YtkcjbjkccafekaaDoor16c
import Derived.Test.YtkcjbjkccafekaaDoor16v
import Derived.Test.YtkcjbjkccafekaaDoorSrc2
import Derived.Test.YtkcjbjkccafekaaDoorSrc3
import Derived.Laws.StructEq
import Derived.Test.YtkcjbjkccafekaaDoorCards
import Derived.Test.YtkcjbjkccafekaaDoorTie
import Derived.Deep.DeepHandedRow
import Derived.Lib.LaidTab
import Derived.Stop.LaidErr
import Derived.MakeChecks
import Derived.Test.YtkcjbjkccafekaaDoorCbL
import Derived.Test.YtkcjbjkccafekaaDoorL01b
import Derived.Test.YtkcjbjkccafekaaDoorVarB
import Derived.Test.YtkcjbjkccafekaaDoorRows
import Derived.ChangeOld
namespace Go.Proofs.YtkcjbjkccafekaaDoor.fnCubeTextLaw
open Go.ChangeMaps (open_string shut_string)
open Go.ChangeShapes Go.WideShapes Go.ChangeAt Go.RowKit
set_option linter.unusedVariables false
set_option linter.unusedSimpArgs false
set_option maxRecDepth 4000
theorem code_of_ints {w : World} {x : Addr} {len : Nat} {zs : List Int} (hl : len ≤ zs.length) (_hz : True) (hcell : ∀ i, i < zs.length → w.cell? (x.add i) = some (.int .u8 (zs.getD i 0))) (hwz : ∀ n ∈ zs, (Lit.int .u8 n).wf = true) : CodeIn w.heap.size w (some x) len := by
  intro i hi
  obtain ⟨b, o, spot⟩ := x
  have hc := hcell i (by omega)
  have hspot : spot = none := by
    have hc0 := hcell 0 (by omega)
    simpa [Addr.add] using World.cell?_spot hc0
  subst hspot
  rw [show (⟨b, o, none⟩ : Addr).add i = ⟨b, o + i, none⟩ from by unfold Addr.add; split <;> simp_all] at hc
  have hm : zs.getD i 0 ∈ zs := by
    have : i < zs.length := by omega
    simp [List.getD, this]
  have hw := hwz _ hm
  have hr : 0 ≤ zs.getD i 0 ∧ zs.getD i 0 ≤ 255 := by simpa [Lit.wf, IntKind.min, IntKind.max, IntKind.signed, IntKind.bits] using hw
  exact ⟨b, o, zs.getD i 0, rfl, World.block_lt_of_cell? w _ hc, hc, hr.1, hr.2⟩
theorem bigR_any (a : Option Addr) (len cap : Nat) (w : World) :
    Calls Tryd.prog 6 #[.slice a len cap] w fun e w' => e = .returned (.bool (decide (4096 < (len : Int)))) ∧ w = w' := by
  go_enter Tryd.func6, Tryd.ntmps6
  go_wp2
  go_ret
  exact ⟨rfl, rfl⟩
def lay (vs : Array Value) : Obj → Obj
  | .cells _ t frozen => .cells vs t frozen
  | o => o
/-- A world for the witness: the settled one, each listed table holding what its initialiser lays. -/
noncomputable def lowBlock : Nat := (World.holding Tryd.prog default ⟨#[], #[], []⟩).heap.size
noncomputable def laidWorld (os : Os) : World :=
  { World.holding Tryd.prog os ⟨#[], #[], []⟩ with heap := ((((World.holding Tryd.prog os ⟨#[], #[], []⟩).heap.modify 1 (lay #[.int .u8 0, .int .u8 1, .int .u8 28, .int .u8 2, .int .u8 29, .int .u8 14, .int .u8 24, .int .u8 3, .int .u8 30, .int .u8 22, .int .u8 20, .int .u8 15, .int .u8 25, .int .u8 17, .int .u8 4, .int .u8 8, .int .u8 31, .int .u8 27, .int .u8 13, .int .u8 23, .int .u8 21, .int .u8 19, .int .u8 16, .int .u8 7, .int .u8 26, .int .u8 12, .int .u8 18, .int .u8 6, .int .u8 11, .int .u8 5, .int .u8 10, .int .u8 9])).modify 2 (lay #[.int .u8 0, .int .u8 1, .int .u8 56, .int .u8 2, .int .u8 57, .int .u8 49, .int .u8 28, .int .u8 3, .int .u8 61, .int .u8 58, .int .u8 42, .int .u8 50, .int .u8 38, .int .u8 29, .int .u8 17, .int .u8 4, .int .u8 62, .int .u8 47, .int .u8 59, .int .u8 36, .int .u8 45, .int .u8 43, .int .u8 51, .int .u8 22, .int .u8 53, .int .u8 39, .int .u8 33, .int .u8 30, .int .u8 24, .int .u8 18, .int .u8 12, .int .u8 5, .int .u8 63, .int .u8 55, .int .u8 48, .int .u8 27, .int .u8 60, .int .u8 41, .int .u8 37, .int .u8 16, .int .u8 46, .int .u8 35, .int .u8 44, .int .u8 21, .int .u8 52, .int .u8 32, .int .u8 23, .int .u8 11, .int .u8 54, .int .u8 26, .int .u8 40, .int .u8 15, .int .u8 34, .int .u8 20, .int .u8 31, .int .u8 10, .int .u8 25, .int .u8 14, .int .u8 19, .int .u8 9, .int .u8 13, .int .u8 8, .int .u8 7, .int .u8 6])).modify 0 (lay #[.int .u64 1, .int .u64 10, .int .u64 100, .int .u64 1000, .int .u64 10000, .int .u64 100000, .int .u64 1000000, .int .u64 10000000, .int .u64 100000000, .int .u64 1000000000, .int .u64 10000000000, .int .u64 100000000000, .int .u64 1000000000000, .int .u64 10000000000000, .int .u64 100000000000000, .int .u64 1000000000000000, .int .u64 10000000000000000, .int .u64 100000000000000000, .int .u64 1000000000000000000, .int .u64 10000000000000000000])) }
theorem t10_of {W : World} (hL : laidMetH Tryd.prog Rows.fnCubeTextRow.laid W) : T10c W := by
  have hL1 : laidMet Tryd.prog Rows.fnCubeTextRow.laid W := by
    rw [← Go.MakeChecks.laidMetH_plain _ _ _ (by kernel_rfl)]
    exact hL
  exact Lib.tabIs_of_head (by kernel_rfl) (show (Tryd.prog.globals[0]?).map (·.type) = some 71 by kernel_rfl) Tryd.underlying71 Tryd.underlying52 (by kernel_rfl) (by kernel_rfl) (rest := _) ((hL1.tail).tail)
theorem swO_swO (o : Int) : swO (swO o) = o := by
  unfold swO
  by_cases h1 : o = 1
  · subst h1; rfl
  · by_cases h2 : o = 2
    · subst h2; rfl
    · rw [if_neg h1, if_neg h2, if_neg h1, if_neg h2]
def digV (l : List UInt8) : Nat := l.foldl (fun a c => a * 10 + (c.toNat - 48)) 0
theorem dig_byte {d : Nat} (h : d < 10) : (UInt8.ofNat (48 + d)).toNat - 48 = d := by
  rw [show (UInt8.ofNat (48 + d)).toNat = 48 + d by simp [UInt8.toNat_ofNat]; omega]
  omega
theorem dig_val (n : Nat) : digV (Lib.decDigits n) = n := by
  induction n using Nat.strongRecOn with
  | _ n ih =>
    by_cases h : n < 10
    · rw [dig_one n h]
      show 0 * 10 + ((UInt8.ofNat (48 + n)).toNat - 48) = n
      rw [dig_byte h]
      omega
    · rw [dig_step n (by omega), digV, List.foldl_append]
      have := ih (n / 10) (by omega)
      unfold digV at this
      rw [this]
      simp only [List.foldl_cons, List.foldl_nil, dig_byte (show n % 10 < 10 by omega)]
      omega
theorem ctL_inj {v o v' o' : Int} (g : cbB 1024 v o = true) (g' : cbB 1024 v' o' = true) (h : ctL v o = ctL v' o') : v = v' ∧ o = o' := by
  have p := cbB_parts g
  have p' := cbB_parts g'
  unfold ctL at h
  obtain ⟨h1, h2⟩ := List.append_inj' h rfl
  have e1 : v.toNat = v'.toNat := by rw [← dig_val v.toNat, ← dig_val v'.toNat, h1]
  have e2 : ltO o = ltO o' := by simpa using h2
  refine ⟨by omega, ?_⟩
  have ho : o = 0 ∨ o = 1 ∨ o = 2 := by omega
  have ho' : o' = 0 ∨ o' = 1 ∨ o' = 2 := by omega
  rcases ho with rfl | rfl | rfl <;> rcases ho' with rfl | rfl | rfl <;> first | rfl | (exfalso; revert e2; decide)
theorem cu_mem {v o : Int} (g : cbB 1024 v o = true) : (⟨(v, o), g⟩ : CuS) ∈ cuS 33 := by
  have p := cbB_parts g
  obtain ⟨k, hk, rfl⟩ := pwB_p2.1 p.2.1
  obtain ⟨j, rfl⟩ := Int.eq_ofNat_of_zero_le (by omega : 0 ≤ o)
  have hj : j < 3 := by omega
  refine (cuS_pre (show 3 * k + (j + 1) ≤ 33 by omega)).subset ?_
  rw [cuS_yes hj g]
  simp
/-- A cube is recovered from its text. -/
theorem rcV_text {v o : Int} : rcV ⟨(ctT v o).toArray⟩ = if cbB 1024 v o = true then (v, o, true) else (0, 0, false) := by
  cases g : cbB 1024 v o with
  | false =>
    rw [if_neg (by simp)]
    refine rcV_none fun y _ e => ?_
    unfold ctT at e
    rw [g, if_neg (by simp)] at e
    have := congrArg (fun x => x.data.toList) e
    simp [ctB] at this
    exact ctL_ne _ _ this
  | true =>
    rw [if_pos rfl]
    have hm := cu_mem g
    have hS : (⟨(ctT v o).toArray⟩ : ByteArray) = ctB ⟨(v, o), g⟩ := by unfold ctT; rw [if_pos g]; rfl
    unfold rcV rcF
    cases h : (cuS 33).find? (fun y => decide (ctB y = ⟨(ctT v o).toArray⟩)) with
    | none =>
      have := List.find?_eq_none.1 h _ hm
      simp [hS] at this
    | some y =>
      have h1 := List.find?_some h
      rw [hS] at h1
      simp at h1
      have h2 := congrArg (fun x => x.data.toList) h1
      simp [ctB] at h2
      obtain ⟨e1, e2⟩ := ctL_inj y.2 g h2
      simp [e1, e2]
set_option maxRecDepth 8000 in
set_option maxHeartbeats 4000000 in
theorem fnCubeText_walk (a : Option Addr) (len cap : Nat) (w : World) (hcode : CodeIn w.heap.size w a len) (ht : T10c w) :
    Calls Tryd.prog 3 #[.slice a len cap] w fun e w' => e = .returned (.bool true) ∧ Below w.heap.size w w' := by
  by_cases hbig : 4096 < len
  · have f0 : decide (4096 < (len : Int)) = true := by simp; omega
    go_enter Tryd.func3, Tryd.ntmps3
    go_wp2_with fail
    refine (bigR_any _ _ _ _).mono ?_
    rintro e w1 ⟨rfl, rfl⟩
    go_wp2
    go_ret
    exact ⟨rfl, Below.refl _ _⟩
  · have f0 : decide (4096 < (len : Int)) = false := by simp; omega
    go_enter Tryd.func3, Tryd.ntmps3
    go_wp2_with fail
    refine (bigR_any _ _ _ _).mono ?_
    rintro e w0 ⟨rfl, rfl⟩
    go_wp2_with fail
    refine (drawCubeText_any w.heap.size a len cap w (Nat.le_refl _) (by omega) hcode).mono ?_
    rintro e w1 ⟨v, o, rfl, hb⟩
    clear hbig f0 hcode
    have BC := Blk.new w1 #[.int .i64 v, .int .i64 o] 25
    replace hb := chain_alloc hb (.cells #[.int .i64 v, .int .i64 o] 25)
    have htx := fun W t => cubeText_any v o W t
    have hts := fun W => specCubeText_any v o W
    have hrd := fun W t => readCube_any ⟨(ctT v o).toArray⟩ W t
    rw [rcV_text] at hrd
    have hs1 := fun W => swapCube_any v o W
    have hs2 := fun W => swapCube_any v (swO o) W
    rw [swO_swO] at hs2
    obtain ⟨p, hp⟩ : ∃ p, swO o = p := ⟨_, rfl⟩
    rw [hp] at hs1 hs2
    have hem : cbB 1024 v o = false → (⟨(ctT v o).toArray⟩ : ByteArray) = ⟨#[]⟩ := fun g => by unfold ctT; rw [g]; rfl
    have hne : cbB 1024 v o = true → ¬ (⟨(ctT v o).toArray⟩ : ByteArray) = ⟨#[]⟩ := fun g e => by
      unfold ctT at e
      rw [if_pos g] at e
      have := congrArg (fun x => x.data.toList) e
      simp at this
      exact ctL_ne _ _ this
    obtain ⟨T, hT⟩ : ∃ T : ByteArray, ⟨(ctT v o).toArray⟩ = T := ⟨_, rfl⟩
    rw [hT] at htx hts hrd hem hne
    obtain ⟨b3, hb3⟩ : ∃ b3, w1.heap.size = b3 := ⟨_, rfl⟩
    rw [hb3] at BC
    have HTX := Lib.hid htx
    have HTS := Lib.hid hts
    have HS1 := Lib.hid hs1
    have HS2 := Lib.hid hs2
    clear htx hts hs1 hs2 hp hT
    cases g : cbB 1024 v o with
    | false =>
      rw [g, if_neg (show ¬ false = true by simp)] at hrd
      have e0 : (T.toList == []) = true := by rw [hem g, ByteArray.toList_eq]; rfl
      clear hem hne g
      dsimp only at hrd
      have HRD := Lib.hid hrd
      clear hrd
      obtain ⟨x0, x1, xf, xl⟩ := BC.two
      go_wp2_with fail
      clear x0 x1 xf xl
      (try rw [hb3])
      generalize w1.alloc (.cells #[.int .i64 v, .int .i64 o] 25) = w2 at *
      refine (HTX.out _ (ht.below hb)).mono ?_
      rintro e w3 ⟨rfl, hq⟩
      replace BC := BC.below hq
      replace hb := chain hb hq
      clear hq
      go_wp2_with fail
      refine (HRD.out _ (ht.below hb)).mono ?_
      rintro e w4 ⟨rfl, hq⟩
      replace BC := BC.below hq
      replace hb := chain hb hq
      clear hq
      have B5 := Blk.new w4 #[.int .i64 0, .int .i64 0] 25
      have hlt5 := BC.lt
      replace BC := BC.alloc (.cells #[.int .i64 0, .int .i64 0] 25)
      replace hb := chain_alloc hb (.cells #[.int .i64 0, .int .i64 0] 25)
      obtain ⟨b5, hb5⟩ : ∃ b5, w4.heap.size = b5 := ⟨_, rfl⟩
      obtain ⟨x0, x1, xf, xl⟩ := BC.two
      go_wp2_with fail
      clear x0 x1 xf xl
      (try rw [hb5])
      rw [hb5] at B5 hlt5
      generalize w4.alloc (.cells #[.int .i64 0, .int .i64 0] 25) = w5 at *
      clear hb5
      refine (HTS.out _).mono ?_
      rintro e w8 ⟨rfl, hq⟩
      replace BC := BC.below hq
      replace B5 := B5.below hq
      replace hb := chain hb hq
      clear hq
      go_wp2_with fail
      have hd_ : w8.drew.heap.size = w8.heap.size := rfl
      replace BC := BC.drew
      replace B5 := B5.drew
      replace hb := hb.drew
      refine wp_region_held_drew (S := fun w' => w'.cell? ⟨b3, 0, none⟩ = some (.int .i64 v) ∧ w'.cell? ⟨b3, 1, none⟩ = some (.int .i64 o) ∧ w'.cell? ⟨b5, 0, none⟩ = some (.int .i64 0) ∧ w'.cell? ⟨b5, 1, none⟩ = some (.int .i64 0)) (by kernel_rfl) ⟨BC.two.1, BC.two.2.1, B5.two.1, B5.two.2.1⟩ (fun hHeld => ?_)
      clear hHeld
      generalize w8.drew = vd at *
      have hHeld : vd.cell? ⟨b3, 0, none⟩ = some (.int .i64 v) ∧ vd.cell? ⟨b3, 1, none⟩ = some (.int .i64 o) ∧ vd.cell? ⟨b5, 0, none⟩ = some (.int .i64 0) ∧ vd.cell? ⟨b5, 1, none⟩ = some (.int .i64 0) := ⟨BC.two.1, BC.two.2.1, B5.two.1, B5.two.2.1⟩
      refine tk 0 22 ?_
      refine tk 1 23 ?_
      refine tk 2 24 ?_
      refine tk 3 25 ?_
      refine tk 4 26 ?_
      refine tk 5 27 ?_
      refine tk 6 28 ?_
      refine tk 7 29 ?_
      refine tkv 8 30 ?_
      refine tkv 9 31 ?_
      refine tkv 10 32 ?_
      refine tk 11 33 ?_
      refine tk 12 34 ?_
      refine tk 13 35 ?_
      refine tk 14 36 ?_
      refine tk 17 39 ?_
      refine rdk 15 37 fun K hK => ?_
      go_simp
      refine (HS1.out _).mono ?_
      rintro e w1s ⟨rfl, hq⟩
      replace BC := BC.below hq
      replace B5 := B5.below hq
      replace hb := chain hb hq
      clear hq
      (try go_wp2_with fail)
      refine hko hK (Blk.f2 BC (Blk.l2 B5)) fun hHeld => ?_
      clear hK K
      refine rdk 16 38 fun K hK => ?_
      go_simp
      refine (HS2.out _).mono ?_
      rintro e w2s ⟨rfl, hq⟩
      replace BC := BC.below hq
      replace B5 := B5.below hq
      replace hb := chain hb hq
      clear hq
      (try go_wp2_with fail)
      refine hko hK (Blk.f2 BC (Blk.l2 B5)) fun hHeld => ?_
      clear hK K
      refine tk 18 40 ?_
      refine tk 19 41 ?_
      refine tk 20 2 ?_
      refine wpAnyH_done (by kernel_rfl) ?_ _
      clear hHeld
      go_wp2_with fail
      go_ret
      exact ⟨by simp, hb⟩
    | true =>
      rw [g, if_pos rfl] at hrd
      have e0 : (T.toList == []) = false := by rw [beq_eq_false_iff_ne, ByteArray.toList_eq]; exact fun q => hne g (ByteArray.ext (Array.toList_inj.1 q))
      clear hem hne g
      dsimp only at hrd
      have HRD := Lib.hid hrd
      clear hrd
      obtain ⟨x0, x1, xf, xl⟩ := BC.two
      go_wp2_with fail
      clear x0 x1 xf xl
      (try rw [hb3])
      generalize w1.alloc (.cells #[.int .i64 v, .int .i64 o] 25) = w2 at *
      refine (HTX.out _ (ht.below hb)).mono ?_
      rintro e w3 ⟨rfl, hq⟩
      replace BC := BC.below hq
      replace hb := chain hb hq
      clear hq
      go_wp2_with fail
      refine (HRD.out _ (ht.below hb)).mono ?_
      rintro e w4 ⟨rfl, hq⟩
      replace BC := BC.below hq
      replace hb := chain hb hq
      clear hq
      have B5 := Blk.new w4 #[.int .i64 v, .int .i64 o] 25
      have hlt5 := BC.lt
      replace BC := BC.alloc (.cells #[.int .i64 v, .int .i64 o] 25)
      replace hb := chain_alloc hb (.cells #[.int .i64 v, .int .i64 o] 25)
      obtain ⟨b5, hb5⟩ : ∃ b5, w4.heap.size = b5 := ⟨_, rfl⟩
      obtain ⟨x0, x1, xf, xl⟩ := BC.two
      go_wp2_with fail
      clear x0 x1 xf xl
      (try rw [hb5])
      rw [hb5] at B5 hlt5
      generalize w4.alloc (.cells #[.int .i64 v, .int .i64 o] 25) = w5 at *
      clear hb5
      refine (HTS.out _).mono ?_
      rintro e w8 ⟨rfl, hq⟩
      replace BC := BC.below hq
      replace B5 := B5.below hq
      replace hb := chain hb hq
      clear hq
      go_wp2_with fail
      have hd_ : w8.drew.heap.size = w8.heap.size := rfl
      replace BC := BC.drew
      replace B5 := B5.drew
      replace hb := hb.drew
      refine wp_region_held_drew (S := fun w' => w'.cell? ⟨b3, 0, none⟩ = some (.int .i64 v) ∧ w'.cell? ⟨b3, 1, none⟩ = some (.int .i64 o) ∧ w'.cell? ⟨b5, 0, none⟩ = some (.int .i64 v) ∧ w'.cell? ⟨b5, 1, none⟩ = some (.int .i64 o)) (by kernel_rfl) ⟨BC.two.1, BC.two.2.1, B5.two.1, B5.two.2.1⟩ (fun hHeld => ?_)
      clear hHeld
      generalize w8.drew = vd at *
      have hHeld : vd.cell? ⟨b3, 0, none⟩ = some (.int .i64 v) ∧ vd.cell? ⟨b3, 1, none⟩ = some (.int .i64 o) ∧ vd.cell? ⟨b5, 0, none⟩ = some (.int .i64 v) ∧ vd.cell? ⟨b5, 1, none⟩ = some (.int .i64 o) := ⟨BC.two.1, BC.two.2.1, B5.two.1, B5.two.2.1⟩
      refine tk 0 22 ?_
      refine tk 1 23 ?_
      refine tk 2 24 ?_
      refine tk 3 25 ?_
      refine tk 4 26 ?_
      refine tk 5 27 ?_
      refine tk 6 28 ?_
      refine tk 7 29 ?_
      refine tk 8 30 ?_
      refine tk 9 31 ?_
      refine tk 10 32 ?_
      refine tk 11 33 ?_
      refine tk 12 34 ?_
      refine tk 13 35 ?_
      refine tk 14 36 ?_
      refine tk 17 39 ?_
      refine rdk 15 37 fun K hK => ?_
      go_simp
      refine (HS1.out _).mono ?_
      rintro e w1s ⟨rfl, hq⟩
      replace BC := BC.below hq
      replace B5 := B5.below hq
      replace hb := chain hb hq
      clear hq
      (try go_wp2_with fail)
      refine hko hK (Blk.f2 BC (Blk.l2 B5)) fun hHeld => ?_
      clear hK K
      refine rdk 16 38 fun K hK => ?_
      go_simp
      refine (HS2.out _).mono ?_
      rintro e w2s ⟨rfl, hq⟩
      replace BC := BC.below hq
      replace B5 := B5.below hq
      replace hb := chain hb hq
      clear hq
      (try go_wp2_with fail)
      refine hko hK (Blk.f2 BC (Blk.l2 B5)) fun hHeld => ?_
      clear hK K
      refine tk 18 40 ?_
      refine tk 19 41 ?_
      refine tk 20 2 ?_
      refine wpAnyH_done (by kernel_rfl) ?_ _
      clear hHeld
      go_wp2_with fail
      go_ret
      exact ⟨by simp, hb⟩
set_option maxRecDepth 100000 in
theorem fnCubeText_contract (H : Type) (enc : TypeId × Value → H) (W : World) (base : Nat) (args : Array Value) (ds gs : List (DataW H)) (before : List MemPlace)
    (hval : ∀ (j : Nat) t v, Tryd.f3.params[j]? = some t → args[j]? = some v → Value.okWide Tryd.prog W .any base t v)
    (hW : DataW.Whole enc Tryd.prog Tryd.f3.params.toList Rows.fnCubeTextSpec.vars false W args.toList ds gs before) (hL : laidMetH Tryd.prog Rows.fnCubeTextRow.laid W) :
    Calls Tryd.prog 3 args W fun e W' => ∃ v, e = .returned v ∧ Rows.fnCubeTextSpec.post enc Tryd.prog Tryd.f3 false true false false W args v W' := by
  have hT := t10_of hL
  have hW' := hW
  obtain ⟨p, q, hA0, hV, rfl, hfz, hnd⟩ := hW
  have hA : DataW.TrodAll enc Tryd.prog W 0 (fun _ => true) true Tryd.f3.params.toList args.toList ds p := hA0
  rw [Tryd.params3] at hA hval
  obtain ⟨v0, vs0, d0, ds0, p0, q0, hargs, rfl, rfl, h0, r0⟩ := trodAll_cons hA
  obtain ⟨rfl, rfl, rfl⟩ := trodAll_nil r0
  obtain rfl : args = #[v0] := by cases args; simp_all
  obtain ⟨rfl, rfl⟩ := trodVars_none hV
  have k0 := h0
  have lt0 : ∀ x ∈ p0, x.block < W.heap.size := by obtain ⟨m, hm⟩ := k0; exact DataW.trod_lt m _ _ _ hm
  obtain ⟨sa_0, sl_0, sc_0, rfl⟩ := okWide_slice Tryd.underlying22 (hval 0 22 v0 rfl rfl)
  have hcode_0 : CodeIn W.heap.size W sa_0 sl_0 := by
    obtain ⟨fuel, hf⟩ := h0
    rcases open_ints Tryd.underlying22 Tryd.underlying5 (by kernel_rfl) hf with ⟨hcs, _⟩ | ⟨x, l, c, zs, hcs, _, hl, hm, hz, _, hcell, hwz⟩
    · simp [Value.cells] at hcs
      obtain ⟨rfl, rfl, rfl⟩ := hcs
      intro i hi
      omega
    · simp [Value.cells] at hcs
      obtain ⟨rfl, rfl, rfl⟩ := hcs
      exact code_of_ints (by have hz2 := hz; simp at hz2; omega) trivial hcell hwz
  clear hA0
  refine (fnCubeText_walk sa_0 sl_0 sc_0 W hcode_0 hT).mono fun e W' ⟨he, bel⟩ => ?_
  subst he
  exact ⟨_, rfl, _, _, _, [], _, [], hW', trodAll_mk1 (shut_bool Tryd.underlying4 _), (trodAll_cons_mk (Below.trod laidOut (by kernel_rfl) (of_decide_eq_true (by kernel_rfl)) k0 bel lt0) trodAll_mk0), rfl, bel.frame _, fun h => by cases h⟩
theorem fnCubeText_laid (os : Os) : laidMet Tryd.prog Rows.fnCubeTextRow.laid ((laidWorld os).forCall (fun _ _ => 0) ⟨#[], #[.slice none 0 0], []⟩).memory :=
  laidMet_of_run' 8 (by kernel_rfl) (by kernel_rfl)
theorem fnCubeText_reads (os : Os) {H : Type} (enc : TypeId × Value → H) : ∃ places, DataW.whole enc Tryd.prog ((laidWorld os).forCall (fun _ _ => 0) ⟨#[], #[.slice none 0 0], []⟩).memory Tryd.f3.params.toList Rows.fnCubeTextSpec.vars false (#[.slice none 0 0] : Array Value).toList 8 = some ([.nil], [], places) :=
  ⟨[], by kernel_rfl⟩
set_option maxRecDepth 100000 in
theorem fnCubeText_lifted (os : Os) (started : os.Started) (H : Type) (enc : TypeId × Value → H) (F : Stop.Interp) :
    ReturnsInHanded {} Tryd.checked os 3 .any ((OpenSpec.ofChange Rows.fnCubeTextSpec).preRow enc Tryd.prog Tryd.f3 Rows.fnCubeTextRow.domain false Rows.fnCubeTextRow.laid) (((OpenSpec.ofChange Rows.fnCubeTextSpec).at F).post enc Tryd.prog Tryd.f3 false true false false) := by
  obtain ⟨places, hx⟩ := fnCubeText_reads os enc
  refine returnsInHanded_of_row (C := Tryd.checked) (s := OpenSpec.ofChange Rows.fnCubeTextSpec) own started (by kernel_rfl) Tryd.func3
    (witness_row_at (enc := enc) (C := Tryd.checked) false (laidWorld os) #[.slice none 0 0] rfl (by kernel_rfl) (by kernel_rfl) (by kernel_rfl)
      (OpenSpec.preRow_of_cond 8 hx (by kernel_rfl) (fun k hk => by cases hk) (by kernel_rfl) (fnCubeText_laid os))) ?_
  intro W base args ds gs before hval hW _ _ _ hL _ _
  exact fnCubeText_contract H enc W base args ds gs before hval hW hL
theorem fnCubeText_said : Rows.FnCubeTextSaid :=
  OpenClaim.holds_of_cond 3 Tryd.f3 rfl rfl rfl rfl rfl rfl rfl ⟨rfl, rfl, rfl, rfl, rfl⟩ rfl rfl rfl rfl rfl (by kernel_rfl) Tryd.func3 (by kernel_rfl)
    (of_decide_eq_true (by kernel_rfl)) (by unfold Func.isWrapper; first | (rw [if_pos (by decide +kernel)]; kernel_rfl) | (rw [if_neg (by decide +kernel)]; exact ⟨rfl, rfl⟩))
    (fun os started H enc _ F => by rw [OpenClaim.pre_eq_preRow]; exact fnCubeText_lifted os started H enc F)
/-- No parameter wants a stand-in; the program's own looks are off: what the card asks. -/
theorem fnCubeText_plain (f : FuncId) (fn : Func) (hf : Tryd.pinned.checked.prog.funcNamed "loop.example/g00885/laws.FnCubeText" = some f) (hfn : Tryd.pinned.checked.prog.funcs[f]? = some fn) :
    false = Tryd.pinned.checked.prog.looks [] ∧ ∀ (j : Nat) t, fn.params[j]? = some t → Tryd.pinned.checked.prog.wantsStandIn t = false := by
  obtain rfl : f = 3 := Option.some.inj ((show Tryd.prog.funcNamed "loop.example/g00885/laws.FnCubeText" = some 3 by kernel_rfl).symm.trans hf) |>.symm
  obtain rfl : fn = Tryd.f3 := (Option.some.inj (Tryd.func3.symm.trans hfn)).symm
  refine ⟨by kernel_rfl, fun j t ht => ?_⟩
  rw [Tryd.params3] at ht
  have hm := Array.mem_of_getElem? ht
  simp at hm
  subst hm
  exact (show Tryd.prog.wantsStandIn 22 = false by kernel_rfl)
theorem fnCubeText_card : Rows.FnCubeTextCardSaid :=
  Claim7.holds_tied_plain_at .later [] _ _ _ _ fnCubeText_said (fun _ h => by cases h) (by kernel_rfl) (fun _ h => by cases h) fnCubeText_row_tie rfl ⟨rfl, rfl⟩ (by kernel_rfl) rfl fnCubeText_plain (by kernel_rfl)
end Go.Proofs.YtkcjbjkccafekaaDoor.fnCubeTextLaw
