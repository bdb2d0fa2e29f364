/- Texts of a proof, laid together. -/
import Derived.Test.YtnlclmlnpkncoaaGreatW43
import Derived.Test.YtnlclmlnpkncoaaGreatW01
import Derived.Test.YtnlclmlnpkncoaaGreatW13
import Derived.Deep.LoopGhost
import Derived.Lib.MinMax
namespace Go.Proofs.YtnlclmlnpkncoaaGreat
open Go.ChangeShapes Go.WideShapes Go.ChangeAt Go.RowKit
set_option linter.unusedVariables false
set_option linter.unusedSimpArgs false
set_option maxRecDepth 4000
theorem sumZ : ∀ (xs : List Int), (∀ x ∈ xs, -1000 ≤ x ∧ x ≤ 1000) → -1000 * (xs.length : Int) ≤ xs.sum ∧ xs.sum ≤ 1000 * (xs.length : Int)
  | [], _ => by simp
  | x :: xs, h => by
    have h1 := h x (by simp)
    have h2 := sumZ xs (fun y hy => h y (by simp [hy]))
    simp only [List.sum_cons, List.length_cons]
    omega
set_option maxHeartbeats 1000000 in
theorem l10SumZ_any (a : Option Addr) (n cap : Nat) (xs : List Int) (w : World) (hn : xs.length = n) (hle : n ≤ 1000) (hx : ∀ x ∈ xs, -1000 ≤ x ∧ x ≤ 1000) (hr : IRow w a xs) :
    Calls Tryz.prog 56 #[.slice a n cap] w fun e w' => e = .returned (.int .i64 xs.sum) ∧ w = w' := by
  subst hn
  go_enter Tryz.func56, Tryz.ntmps56
  go_wp2
  go_loopg [3, 4] xs.length (fun m q i wr => w = wr ∧ ∃ k : Nat, k ≤ xs.length ∧ m = xs.length - k ∧ i = .int .i64 k ∧ q = .int .i64 (xs.take k).sum)
  case atStart => exact ⟨rfl, 0, by omega, by omega, rfl, rfl⟩
  case round =>
    obtain ⟨rfl, k, hk, hm, rfl, rfl⟩ := hrel
    by_cases hlt : k < xs.length
    · have hlt' : (k : Int) < (xs.length : Int) := by omega
      obtain ⟨b, o, rfl, hc⟩ := hr k hlt
      have hb := sumZ (xs.take k) (fun x h => hx x (List.mem_of_mem_take h))
      have hl : (xs.take k).length ≤ 1000 := by simp; omega
      have hb0 : -1000000 ≤ (xs.take k).sum := by have := hb.1; omega
      have hb1 : (xs.take k).sum ≤ 1000000 := by have := hb.2; omega
      have hg := hx _ (getD_mem hlt)
      obtain ⟨v, hv⟩ : ∃ v, xs.getD k 0 = v := ⟨_, rfl⟩
      have hst := sum_take xs k hlt
      rw [hv] at hc hg hst
      have hg0 : -1000 ≤ v := hg.1
      have hg1 : v ≤ 1000 := hg.2
      have HS := Lib.hid hst
      clear hst hv hb hl hg
      go_wp2
      go_roundg (xs.length - (k + 1))
      case measure => omega
      case rel => exact ⟨rfl, k + 1, by omega, rfl, by go_num, by rw [HS.out]⟩
    · obtain rfl : k = xs.length := by omega
      go_wp2
      go_ret
      exact ⟨by simp, rfl⟩
theorem dlS_el (len : Nat) (bs : Nat → Int) (c : Int) (hc : 0 ≤ c ∧ c ≤ 16) (st : Nat × Int) : ∀ j, (0 ≤ (dlS len bs c st j).2.1 ∧ (dlS len bs c st j).2.1 ≤ 16) ∧ ∀ x ∈ (dlS len bs c st j).1, 0 ≤ x ∧ x ≤ 16
  | 0 => ⟨hc, by simp [dlS]⟩
  | j + 1 => by
    obtain ⟨ih1, ih2⟩ := dlS_el len bs c hc st j
    unfold dlS
    dsimp only
    have hb := nx_bnd len bs (dlS len bs c st j).2.2 (max 1 ((dlS len bs c st j).2.1 + 1))
    have hm : max 1 ((dlS len bs c st j).2.1 + 1) = (dlS len bs c st j).2.1 + 1 := by omega
    rw [hm] at hb
    rw [hm]
    split
    · refine ⟨ih1, fun x hx => ?_⟩
      rcases List.mem_append.1 hx with hx | hx
      · exact ih2 x hx
      · simp at hx
        omega
    · refine ⟨?_, fun x hx => ?_⟩
      · dsimp only
        omega
      · rcases List.mem_append.1 hx with hx | hx
        · exact ih2 x hx
        · simp at hx
          omega
theorem dlV_el (len : Nat) (bs : Nat → Int) (c h : Int) (hc : 0 ≤ c ∧ c ≤ 16) (st : Nat × Int) : ∀ x ∈ (dlV len bs c h st).1, -1000 ≤ x ∧ x ≤ 1000 := by
  obtain ⟨-, h2⟩ := dlS_el len bs c hc st (min 24 h).toNat
  unfold dlV dlE
  split
  · intro x hx
    rcases List.mem_append.1 hx with hx | hx
    · have := h2 x hx; omega
    · simp at hx
      omega
  · split
    · intro x hx
      rcases List.mem_or_eq_of_mem_set hx with hx | hx
      · have := h2 x hx; omega
      · omega
    · split
      · intro x hx
        rcases List.mem_or_eq_of_mem_set hx with hx | hx
        · have := h2 x hx; omega
        · omega
      · intro x hx
        have := h2 x hx
        omega
def fxL (xs : List Int) : List Int := if xs.sum = 0 then xs.set 0 1 else xs
theorem fxL_length (xs : List Int) : (fxL xs).length = xs.length := by
  unfold fxL
  split <;> simp
theorem fxL_el {xs : List Int} (h : ∀ x ∈ xs, -1000 ≤ x ∧ x ≤ 1000) : ∀ x ∈ fxL xs, -1000 ≤ x ∧ x ≤ 1000 := by
  unfold fxL
  split
  · intro x hx
    rcases List.mem_or_eq_of_mem_set hx with hx | hx
    · exact h x hx
    · omega
  · exact h
def lpV (len : Nat) (bs : Nat → Int) : Nat → List Int → List Int → Nat × Int → (List Int × List Int) × (Nat × Int)
  | 0, xs, ys, st => ((xs, ys), st)
  | m + 1, xs, ys, st => if 0 < (nxV len bs st 8).1 then lpV len bs m (fxL xs) (fxL ys) (nxV len bs st 8).2 else ((xs, ys), (nxV len bs st 8).2)
def ldV (len : Nat) (bs : Nat → Int) (st : Nat × Int) : ((Int × Int × Int × Int) × List Int × List Int) × (Nat × Int) :=
  let v := dvV len bs st
  let a := nxV len bs v.2 2
  let x := dlV len bs v.1.2.1 v.1.2.2.1 a.2
  let y := dlV len bs v.1.2.1 v.1.2.2.1 x.2
  let l := lpV len bs 2 x.1 y.1 y.2
  (((v.1.1, v.1.2.1, v.1.2.2.1, min v.1.2.2.2 (2 + a.1)), l.1.1, l.1.2), l.2)
def L12D (B g : Nat) (a : Option Addr) (len cap : Nat) (bs : Nat → Int) (q : ((Int × Int × Int × Int) × List Int × List Int) × (Nat × Int)) (w : World) (e : Ending) (w' : World) : Prop :=
  ∃ (aL aM : Option Addr) (kL kM m : Nat), e = .returned (.tuple #[.agg #[.int .i64 q.1.1.1, .int .i64 q.1.1.2.1, .int .i64 q.1.1.2.2.1, .int .i64 q.1.1.2.2.2], .slice aL q.1.2.1.length kL, .slice aM q.1.2.2.length kM]) ∧ OSl w.heap.size m w' aL q.1.2.1 ∧ OSl m w'.heap.size w' aM q.1.2.2 ∧ w.heap.size ≤ m ∧ q.1.2.1.length ≤ kL ∧ q.1.2.2.length ≤ kM ∧ SrcD B w' g a len cap bs q.2 ∧ w.grownBy w' (some g)
theorem l12_mk {B g : Nat} {a : Option Addr} {len cap : Nat} {bs : Nat → Int} {q : ((Int × Int × Int × Int) × List Int × List Int) × (Nat × Int)} {w : World} {e : Ending} {w' : World} {p c h s : Int} {xs ys : List Int} {tt : Nat × Int} {aL aM : Option Addr} {nx ny kL kM m : Nat}
    (hq : q = (((p, c, h, s), xs, ys), tt)) (he : e = .returned (.tuple #[.agg #[.int .i64 p, .int .i64 c, .int .i64 h, .int .i64 s], .slice aL nx kL, .slice aM ny kM])) (hx : xs.length = nx) (hy : ys.length = ny) (ho : OSl w.heap.size m w' aL xs) (hp : OSl m w'.heap.size w' aM ys) (hm : w.heap.size ≤ m)
    (hkx : nx ≤ kL) (hky : ny ≤ kM) (hs : SrcD B w' g a len cap bs tt) (hg : w.grownBy w' (some g)) : L12D B g a len cap bs q w e w' := by
  subst hq
  subst hx
  subst hy
  exact ⟨aL, aM, kL, kM, m, he, ho, hp, hm, hkx, hky, hs, hg⟩
set_option maxRecDepth 8000 in
set_option maxHeartbeats 4000000 in
theorem l12DrawD_any (B g : Nat) (a : Option Addr) (len cap : Nat) (w : World) (bs : Nat → Int) (st : Nat × Int) (hS : SrcD B w g a len cap bs st) :
    Calls Tryz.prog 20 #[.pointer (some ⟨g, 0, none⟩)] w (L12D B g a len cap bs (ldV len bs st) w) := by
  have hgl := hS.lt
  have hgB := hS.base
  have BZ := Blk.new w #[.int .i64 0, .int .i64 0, .int .i64 0, .int .i64 0] 25
  replace hS := hS.alloc (.cells #[.int .i64 0, .int .i64 0, .int .i64 0, .int .i64 0] 25)
  have hG : w.grownBy (w.alloc (.cells #[.int .i64 0, .int .i64 0, .int .i64 0, .int .i64 0] 25)) (some g) := World.grownBy_alloc w _ _
  have hz0 : (w.alloc (.cells #[.int .i64 0, .int .i64 0, .int .i64 0, .int .i64 0] 25)).heap.size = w.heap.size + 1 := by simp
  go_enter Tryz.func20, Tryz.ntmps20
  go_wp2_with fail
  generalize (w.alloc (.cells #[.int .i64 0, .int .i64 0, .int .i64 0, .int .i64 0] 25)) = v0 at *
  have HV := draw10VD_any B g a len cap _ bs st hS
  have hvb := dv_bnd len bs st
  have hsb := ds_bnd len bs st
  obtain ⟨⟨⟨p, c, h, s⟩, t0⟩, q0⟩ : ∃ q, dvV len bs st = q := ⟨_, rfl⟩
  rw [q0] at HV hvb hsb
  refine HV.mono ?_
  clear HV
  rintro e wA ⟨rfl, hS, hgA⟩
  dsimp only at hS hvb hsb
  obtain ⟨bc, bh⟩ := hvb
  replace BZ := BZ.grown hgA (by omega)
  have hzA := hgA.size
  replace hG := grown_trans hG hgA
  clear hgA
  have BV := Blk.new wA #[.int .i64 p, .int .i64 c, .int .i64 h, .int .i64 s] 25
  replace hS := hS.alloc (.cells #[.int .i64 p, .int .i64 c, .int .i64 h, .int .i64 s] 25)
  replace BZ := BZ.alloc (.cells #[.int .i64 p, .int .i64 c, .int .i64 h, .int .i64 s] 25)
  replace hG := grown_trans hG (World.grownBy_alloc wA (.cells #[.int .i64 p, .int .i64 c, .int .i64 h, .int .i64 s] 25) (some g))
  have hz1 : (wA.alloc (.cells #[.int .i64 p, .int .i64 c, .int .i64 h, .int .i64 s] 25)).heap.size = wA.heap.size + 1 := by simp
  obtain ⟨bv, hbv⟩ : ∃ bv, wA.heap.size = bv := ⟨_, rfl⟩
  obtain ⟨x0, x1, x2, x3, xf, xl⟩ := BV.four
  go_wp2_with fail
  clear x0 x1 x2 x3 xf xl
  rw [hbv] at BV hzA hz1
  (try rw [hbv])
  generalize (wA.alloc (.cells #[.int .i64 p, .int .i64 c, .int .i64 h, .int .i64 s] 25)) = wB at *
  clear hbv
  refine wp_region_held_drew (S := fun w' => w'.cell? ⟨bv, 0, none⟩ = some (.int .i64 p) ∧ w'.cell? ⟨bv, 1, none⟩ = some (.int .i64 c)) (by kernel_rfl) ⟨BV.four.1, BV.four.2.1⟩ (fun hHeld => ?_)
  clear hHeld
  replace BV := BV.drew
  replace BZ := BZ.drew
  replace hS := hS.drew
  replace hG := grown_drew hG
  have hd_ : wB.drew.heap.size = wB.heap.size := rfl
  generalize wB.drew = vd at *
  have hHeld : vd.cell? ⟨bv, 0, none⟩ = some (.int .i64 p) ∧ vd.cell? ⟨bv, 1, none⟩ = some (.int .i64 c) := ⟨BV.four.1, BV.four.2.1⟩
  refine tk 0 11 ?_
  refine tk 2 13 ?_
  refine wpAnyH_ready (rs := [1, 3]) (by kernel_rfl) (by simp) ?_
  refine AllReadyH.cons (o := ⟨some 12, _, _, _, _, _⟩) rfl (fun K hK => ?_) (AllReadyH.cons (o := ⟨some 14, _, _, _, _, _⟩) rfl (fun K hK => ?_) AllReadyH.nil)
  focus
    have z3 := BV.four.2.2.2.1
    go_simp
    (try go_wp2_with fail)
    refine hko hK ⟨BV.four.1, BV.four.2.1⟩ fun hHeld => ?_
    clear hK K
    clear z3
    refine rdk 3 14 fun K hK => ?_
    go_simp
    have HN1 := nextD_any B g a len cap bs t0 2 _ hS (by omega)
    have hnb1 := nx_bnd len bs t0 2
    obtain ⟨⟨r1, t1⟩, q1⟩ : ∃ q, nxV len bs t0 2 = q := ⟨_, rfl⟩
    rw [q1] at HN1 hnb1
    refine HN1.mono ?_
    clear HN1
    rintro e w1 ⟨rfl, hS, hg1⟩
    obtain ⟨l1, u1⟩ := hnb1
    dsimp only at l1 u1 hS
    have hz1 := hg1.size
    replace BV := BV.grown hg1 (by omega)
    replace BZ := BZ.grown hg1 (by omega)
    replace hG := grown_trans hG hg1
    clear hg1
    have w2_ : IntKind.i64.wrap (2 + r1) = 2 + r1 := IntWalk.i64_in _ (by omega)
    (try go_wp2_with fail)
    refine hko hK ⟨BV.four.1, BV.four.2.1⟩ fun hHeld => ?_
    clear hK K
    refine tk 4 15 ?_
    refine tk 5 16 ?_
    refine tk 6 17 ?_
    refine rdn 7 fun K hK => ?_
    have z3 := BV.four.2.2.2.1
    have zf := BV.four.2.2.2.2.1
    have zl := BV.four.2.2.2.2.2
    have HBV := Lib.hid (BV.set (i := 3) (.int .i64 (min s (2 + r1))))
    go_simp
    (try go_wp2_with fail)
    refine hko hK ⟨HBV.out.four.1, HBV.out.four.2.1⟩ fun hHeld => ?_
    clear hK K
    clear z3 zf zl HBV
    refine wpAnyH_done (by kernel_rfl) ?_ _
    clear hHeld
  rotate_left
  focus
    go_simp
    have HN1 := nextD_any B g a len cap bs t0 2 _ hS (by omega)
    have hnb1 := nx_bnd len bs t0 2
    obtain ⟨⟨r1, t1⟩, q1⟩ : ∃ q, nxV len bs t0 2 = q := ⟨_, rfl⟩
    rw [q1] at HN1 hnb1
    refine HN1.mono ?_
    clear HN1
    rintro e w1 ⟨rfl, hS, hg1⟩
    obtain ⟨l1, u1⟩ := hnb1
    dsimp only at l1 u1 hS
    have hz1 := hg1.size
    replace BV := BV.grown hg1 (by omega)
    replace BZ := BZ.grown hg1 (by omega)
    replace hG := grown_trans hG hg1
    clear hg1
    have w2_ : IntKind.i64.wrap (2 + r1) = 2 + r1 := IntWalk.i64_in _ (by omega)
    (try go_wp2_with fail)
    refine hko hK ⟨BV.four.1, BV.four.2.1⟩ fun hHeld => ?_
    clear hK K
    refine tk 4 15 ?_
    refine rdk 1 12 fun K hK => ?_
    have z3 := BV.four.2.2.2.1
    go_simp
    (try go_wp2_with fail)
    refine hko hK ⟨BV.four.1, BV.four.2.1⟩ fun hHeld => ?_
    clear hK K
    clear z3
    refine tk 5 16 ?_
    refine tk 6 17 ?_
    refine rdn 7 fun K hK => ?_
    have z3 := BV.four.2.2.2.1
    have zf := BV.four.2.2.2.2.1
    have zl := BV.four.2.2.2.2.2
    have HBV := Lib.hid (BV.set (i := 3) (.int .i64 (min s (2 + r1))))
    go_simp
    (try go_wp2_with fail)
    refine hko hK ⟨HBV.out.four.1, HBV.out.four.2.1⟩ fun hHeld => ?_
    clear hK K
    clear z3 zf zl HBV
    refine wpAnyH_done (by kernel_rfl) ?_ _
    clear hHeld
  all_goals
    have wS : 2 + r1 ≤ 4 := by omega
    obtain ⟨sd, hsd⟩ : ∃ q, min s (2 + r1) = q := ⟨_, rfl⟩
    have BV2 := BV.set (i := 3) (.int .i64 (min s (2 + r1)))
    simp only [List.setIfInBounds_toArray, List.set_cons_zero, List.set_cons_succ] at BV2
    have hS2 := hS.set (g' := bv) (o := 3) (v := .int .i64 (min s (2 + r1))) (by omega) (by omega)
    have BZ2 := BZ.other (g := bv) (o := 3) (v := .int .i64 (min s (2 + r1))) (by omega)
    have hG2 := grown_new hG (g' := bv) (o := 3) (v := .int .i64 (min s (2 + r1))) (by omega)
    rw [hsd] at BV2 hS2 BZ2 hG2
    (try rw [hsd])
    have HSD := Lib.hid hsd
    clear hsd BV hS BZ hG
    obtain ⟨wC, hwC⟩ : ∃ W, w1.setCell ⟨bv, 3, none⟩ (.int .i64 sd) = W := ⟨_, rfl⟩
    rw [hwC] at BV2 hS2 BZ2 hG2
    (try rw [hwC])
    have hzC : bv < wC.heap.size := BV2.lt
    obtain ⟨x0, x1, x2, x3, xf, xl⟩ := BV2.four
    have HD := draw10D_any B g a len cap p c h sd bc.1 bc.2 bh.1 _ bs t1 hS2
    have hel := dlV_el len bs c h bc t1
    obtain ⟨⟨xs, t2⟩, q3⟩ : ∃ q, dlV len bs c h t1 = q := ⟨_, rfl⟩
    have hxl := dlV_length len bs c h t1 bh.1
    rw [q3] at HD hel hxl
    go_wp2_with fail
    refine HD.mono ?_
    clear HD x0 x1 x2 x3 xf xl
    rintro e wD ⟨aL, kL, rfl, hO, hS3, hg3, hkL⟩
    dsimp only at hO hS3 hkL hel hxl
    have hz3 := hg3.size
    have BV3 := BV2.grown hg3 (by omega)
    have BZ3 := BZ2.grown hg3 (by omega)
    have hG3 := grown_trans hG2 hg3
    clear BV2 hS2 BZ2 hG2 hg3
    obtain ⟨x0, x1, x2, x3, xf, xl⟩ := BV3.four
    have HD := draw10D_any B g a len cap p c h sd bc.1 bc.2 bh.1 _ bs t2 hS3
    have hem := dlV_el len bs c h bc t2
    obtain ⟨⟨ys, t3⟩, q4⟩ : ∃ q, dlV len bs c h t2 = q := ⟨_, rfl⟩
    have hyl := dlV_length len bs c h t2 bh.1
    rw [q4] at HD hem hyl
    go_wp2_with fail
    refine HD.mono ?_
    clear HD x0 x1 x2 x3 xf xl
    rintro e wE ⟨aM, kM, rfl, hO2, hS4, hg4, hkM⟩
    dsimp only at hO2 hS4 hkM hem hyl
    have hz4 := hg4.size
    have BV4 := BV3.grown hg4 (by omega)
    have BZ4 := BZ3.grown hg4 (by omega)
    have hG4 := grown_trans hG3 hg4
    obtain ⟨g1, rfl, k1, k2, RX⟩ : ∃ g1, aL = some ⟨g1, 0, none⟩ ∧ wC.heap.size ≤ g1 ∧ g1 < wD.heap.size ∧ Row wD g1 xs := by
      rcases hO with ⟨_, rfl⟩ | q
      · simp at hxl
      · exact q
    obtain ⟨g2, rfl, k3, k4, RY⟩ : ∃ g2, aM = some ⟨g2, 0, none⟩ ∧ wD.heap.size ≤ g2 ∧ g2 < wE.heap.size ∧ Row wE g2 ys := by
      rcases hO2 with ⟨_, rfl⟩ | q
      · simp at hyl
      · exact q
    replace RX := RX.grown hg4 (by omega)
    have HFIN := Lib.hid (show ldV len bs st = (((p, c, h, sd), (lpV len bs 2 xs ys t3).1.1, (lpV len bs 2 xs ys t3).1.2), (lpV len bs 2 xs ys t3).2) by unfold ldV; simp only [q0, q1, q3, q4, HSD.out])
    have HWC := Lib.hid hwC
    have hgs : g < w.heap.size := hgl
    have hgB2 : B ≤ g := hgB
    have hord : w.heap.size < bv ∧ bv < g1 ∧ g1 < g2 ∧ wD.heap.size ≤ g2 ∧ g1 < wD.heap.size := by omega
    obtain ⟨nx, hnx⟩ : ∃ n, xs.length = n := ⟨_, rfl⟩
    obtain ⟨ny, hny⟩ : ∃ n, ys.length = n := ⟨_, rfl⟩
    rw [hnx] at hxl hkL
    rw [hny] at hyl hkM
    (try rw [hnx, hny])
    have HXN := Lib.hid hnx
    have HYN := Lib.hid hny
    have hx0 : (0 : Int) < (nx : Int) := by omega
    have hy0 : (0 : Int) < (ny : Int) := by omega
    have hx25 : nx ≤ 25 := hxl.2
    have hy25 : ny ≤ 25 := hyl.2
    clear BV3 BZ3 hS3 hG3 hg4 hO hO2 q0 q1 q3 q4 hwC hnx hny hgl hgB hsb bc bh
    have hls : w.heap.size < wE.heap.size ∧ g2 < wE.heap.size := by omega
    clear wS hzC k1 k2 k3 k4 hz3
    go_wp2_with fail
    have HEL := Lib.hid hel
    have HEM := Lib.hid hem
    have HS4 := Lib.hid hS4
    clear hel hem
    go_loopg [8] 2 (fun m i wr => ∃ (k : Nat) (us vs : List Int) (tt : Nat × Int), k ≤ 2 ∧ m = 2 - k ∧ i = .int .i64 k ∧ (nx ≤ us.length ∧ us.length ≤ nx) ∧ (ny ≤ vs.length ∧ vs.length ≤ ny) ∧ Hid ((∀ x ∈ us, -1000 ≤ x ∧ x ≤ 1000) ∧ (∀ x ∈ vs, -1000 ≤ x ∧ x ≤ 1000)) ∧ Row wr g1 us ∧ Row wr g2 vs ∧ SrcD B wr g a len cap bs tt ∧ Blk wr bv #[.int .i64 p, .int .i64 c, .int .i64 h, .int .i64 sd] 25 ∧ Blk wr w.heap.size #[.int .i64 0, .int .i64 0, .int .i64 0, .int .i64 0] 25 ∧ w.grownBy wr (some g) ∧ wE.heap.size ≤ wr.heap.size ∧ Hid (lpV len bs 2 xs ys t3 = lpV len bs (2 - k) us vs tt))
    case atStart => exact ⟨0, xs, ys, t3, by omega, by omega, rfl, ⟨by have := HXN.out; omega, by have := HXN.out; omega⟩, ⟨by have := HYN.out; omega, by have := HYN.out; omega⟩, Lib.hid ⟨HEL.out, HEM.out⟩, RX, RY, hS4, BV4, BZ4, hG4, Nat.le_refl _, Lib.hid rfl⟩
    case round =>
      clear RX RY hS4 BV4 BZ4 hG4 HEL HEM HS4
      obtain ⟨k, us, vs, tt, hk, hm, rfl, hul, hvl, HUV, RU, RV, hS, BV, BZ, hG, hzr, HLP⟩ := hrel
      by_cases hlt : k < 2
      · have hlt' : (k : Int) < 2 := by omega
        have HN := nextD_any B g a len cap bs tt 8 _ hS (by omega)
        have hnb := nx_bnd len bs tt 8
        obtain ⟨⟨r, t4⟩, q5⟩ : ∃ q, nxV len bs tt 8 = q := ⟨_, rfl⟩
        rw [q5] at HN hnb
        have HQ5 := Lib.hid q5
        clear q5 hnb
        go_wp2_with fail
        refine HN.mono ?_
        clear HN
        rintro e w5 ⟨rfl, hS, hg5⟩
        dsimp only at hS
        have hz5 := hg5.size
        replace RU := RU.grown hg5 (by omega)
        replace RV := RV.grown hg5 (by omega)
        replace BV := BV.grown hg5 (by omega)
        replace BZ := BZ.grown hg5 (by omega)
        replace hG := grown_trans hG hg5
        clear hg5
        by_cases h0 : 0 < r
        · skip
          obtain ⟨s1, hs1⟩ : ∃ q, us.sum = q := ⟨_, rfl⟩
          obtain ⟨s2, hs2⟩ : ∃ q, vs.sum = q := ⟨_, rfl⟩
          have HL := l10SumZ_any (some ⟨g1, 0, none⟩) nx kL us w5 (by omega) (by omega) HUV.out.1 RU.irow
          have HM := Lib.hid (fun W (q : Row W g2 vs) => l10SumZ_any (some ⟨g2, 0, none⟩) ny kM vs W (by omega) (by omega) HUV.out.2 q.irow)
          rw [hs1] at HL
          rw [hs2] at HM
          have HS1 := Lib.hid hs1
          have HS2 := Lib.hid hs2
          have HL2 := Lib.hid (show lpV len bs (2 - k) us vs tt = lpV len bs (2 - (k + 1)) (fxL us) (fxL vs) t4 by rw [show 2 - k = (2 - (k + 1)) + 1 by omega]; simp only [lpV, HQ5.out]; rw [if_pos h0])
          have HFU := Lib.hid (fxL_length us)
          have HFV := Lib.hid (fxL_length vs)
          have HUV2 := Lib.hid (show (∀ x ∈ fxL us, -1000 ≤ x ∧ x ≤ 1000) ∧ (∀ x ∈ fxL vs, -1000 ≤ x ∧ x ≤ 1000) from ⟨fxL_el HUV.out.1, fxL_el HUV.out.2⟩)
          have hrb : (0 < r) = True := eq_true h0
          clear hs1 hs2 HUV h0
          go_wp2_with fail
          refine HL.mono ?_
          clear HL
          rintro e W ⟨rfl, rfl⟩
          by_cases e1 : s1 = 0
          · have hfx1 : fxL us = us.set 0 1 := by unfold fxL; rw [HS1.out]; exact if_pos e1
            have HFX1 := Lib.hid hfx1
            have b1 : (s1 == 0) = true := by rw [beq_iff_eq]; exact e1
            clear hfx1 e1
            have c1 := RU.cell 0 (by omega)
            have c2 := RU.free 0
            go_wp2_with fail
            clear c1 c2
            have hzz : (w5.setCell ⟨g1, 0, none⟩ (.int .i64 1)).heap.size = w5.heap.size := World.size_setCell _ _ _
            replace RU := (RU.set 0 1).wf HFX1.out.symm
            replace RV := RV.other (g := g1) (o := 0) (v := .int .i64 1) (by omega)
            replace hS := hS.set (g' := g1) (o := 0) (v := .int .i64 1) (by omega) (by omega)
            replace BV := BV.other (g := g1) (o := 0) (v := .int .i64 1) (by omega)
            replace BZ := BZ.other (g := g1) (o := 0) (v := .int .i64 1) (by omega)
            replace hG := grown_new hG (g' := g1) (o := 0) (v := .int .i64 1) (by omega)
            generalize (w5.setCell ⟨g1, 0, none⟩ (.int .i64 1)) = w6 at *
            refine (HM.out _ RV).mono ?_
            rintro e W9 ⟨rfl, rfl⟩
            by_cases e2 : s2 = 0
            · have hfx2 : fxL vs = vs.set 0 1 := by unfold fxL; rw [HS2.out]; exact if_pos e2
              have HFX2 := Lib.hid hfx2
              have b2 : (s2 == 0) = true := by rw [beq_iff_eq]; exact e2
              clear hfx2 e2
              have c1 := RV.cell 0 (by omega)
              have c2 := RV.free 0
              go_wp2_with fail
              go_roundg (2 - (k + 1))
              case measure => omega
              case rel => exact ⟨k + 1, fxL us, fxL vs, t4, by omega, rfl, by go_num, ⟨by rw [HFU.out]; omega, by rw [HFU.out]; omega⟩, ⟨by rw [HFV.out]; omega, by rw [HFV.out]; omega⟩, HUV2, RU.other (by omega), (RV.set 0 1).wf HFX2.out.symm, hS.set (by omega) (by omega), BV.other (by omega), BZ.other (by omega), grown_new hG (by omega), by rw [World.size_setCell]; omega, Lib.hid (HLP.out.trans HL2.out)⟩
            · have hfx2 : fxL vs = vs := by unfold fxL; rw [HS2.out]; exact if_neg e2
              have HFX2 := Lib.hid hfx2
              have b2 : (s2 == 0) = false := by rw [beq_eq_false_iff_ne]; exact e2
              clear hfx2 e2
              go_wp2_with fail
              go_roundg (2 - (k + 1))
              case measure => omega
              case rel => exact ⟨k + 1, fxL us, fxL vs, t4, by omega, rfl, by go_num, ⟨by rw [HFU.out]; omega, by rw [HFU.out]; omega⟩, ⟨by rw [HFV.out]; omega, by rw [HFV.out]; omega⟩, HUV2, RU, RV.wf HFX2.out.symm, hS, BV, BZ, hG, by omega, Lib.hid (HLP.out.trans HL2.out)⟩
          · have hfx1 : fxL us = us := by unfold fxL; rw [HS1.out]; exact if_neg e1
            have HFX1 := Lib.hid hfx1
            have b1 : (s1 == 0) = false := by rw [beq_eq_false_iff_ne]; exact e1
            clear hfx1 e1
            go_wp2_with fail
            replace RU := RU.wf HFX1.out.symm
            refine (HM.out _ RV).mono ?_
            rintro e W9 ⟨rfl, rfl⟩
            by_cases e2 : s2 = 0
            · have hfx2 : fxL vs = vs.set 0 1 := by unfold fxL; rw [HS2.out]; exact if_pos e2
              have HFX2 := Lib.hid hfx2
              have b2 : (s2 == 0) = true := by rw [beq_iff_eq]; exact e2
              clear hfx2 e2
              have c1 := RV.cell 0 (by omega)
              have c2 := RV.free 0
              go_wp2_with fail
              go_roundg (2 - (k + 1))
              case measure => omega
              case rel => exact ⟨k + 1, fxL us, fxL vs, t4, by omega, rfl, by go_num, ⟨by rw [HFU.out]; omega, by rw [HFU.out]; omega⟩, ⟨by rw [HFV.out]; omega, by rw [HFV.out]; omega⟩, HUV2, RU.other (by omega), (RV.set 0 1).wf HFX2.out.symm, hS.set (by omega) (by omega), BV.other (by omega), BZ.other (by omega), grown_new hG (by omega), by rw [World.size_setCell]; omega, Lib.hid (HLP.out.trans HL2.out)⟩
            · have hfx2 : fxL vs = vs := by unfold fxL; rw [HS2.out]; exact if_neg e2
              have HFX2 := Lib.hid hfx2
              have b2 : (s2 == 0) = false := by rw [beq_eq_false_iff_ne]; exact e2
              clear hfx2 e2
              go_wp2_with fail
              go_roundg (2 - (k + 1))
              case measure => omega
              case rel => exact ⟨k + 1, fxL us, fxL vs, t4, by omega, rfl, by go_num, ⟨by rw [HFU.out]; omega, by rw [HFU.out]; omega⟩, ⟨by rw [HFV.out]; omega, by rw [HFV.out]; omega⟩, HUV2, RU, RV.wf HFX2.out.symm, hS, BV, BZ, hG, by omega, Lib.hid (HLP.out.trans HL2.out)⟩
        · have HL2 := Lib.hid (show lpV len bs (2 - k) us vs tt = ((us, vs), t4) by rw [show 2 - k = (1 - k) + 1 by omega]; simp only [lpV, HQ5.out]; rw [if_neg h0])
          have hrb : (0 < r) = False := eq_false h0
          clear h0
          obtain ⟨x0, x1, x2, x3, xf, xl⟩ := BV.four
          obtain ⟨y0, y1, y2, y3, yf, yl⟩ := BZ.four
          go_wp2_with fail
          have BZn := BZ.put4 (.int .i64 p) (.int .i64 c) (.int .i64 h) (.int .i64 sd)
          obtain ⟨s0, s1, s2, s3, sf, sl⟩ := BZn.four
          refine bodyPost_ret (v := .tuple #[.agg #[.int .i64 p, .int .i64 c, .int .i64 h, .int .i64 sd], .slice (some ⟨g1, 0, none⟩) nx kL, .slice (some ⟨g2, 0, none⟩) ny kM]) (by simp [results, Tryz.results20, go_sem, s0, s1, s2, s3]) rfl ?_
          have RU4 := ((((RU.other (g := w.heap.size) (o := 0) (v := .int .i64 p) (by omega)).other (g := w.heap.size) (o := 1) (v := .int .i64 c) (by omega)).other (g := w.heap.size) (o := 2) (v := .int .i64 h) (by omega)).other (g := w.heap.size) (o := 3) (v := .int .i64 sd) (by omega))
          have RV4 := ((((RV.other (g := w.heap.size) (o := 0) (v := .int .i64 p) (by omega)).other (g := w.heap.size) (o := 1) (v := .int .i64 c) (by omega)).other (g := w.heap.size) (o := 2) (v := .int .i64 h) (by omega)).other (g := w.heap.size) (o := 3) (v := .int .i64 sd) (by omega))
          exact l12_mk (m := wD.heap.size) (by rw [HFIN.out, HLP.out, HL2.out]) rfl (by omega) (by omega) (.inr ⟨g1, rfl, by omega, by omega, RU4⟩) (.inr ⟨g2, rfl, by omega, RV4.lt, RV4⟩) (by omega) hkL hkM ((((hS.set (by omega) (by omega)).set (by omega) (by omega)).set (by omega) (by omega)).set (by omega) (by omega)) (grown_new (grown_new (grown_new (grown_new hG (by omega)) (by omega)) (by omega)) (by omega))
      · obtain rfl : k = 2 := by omega
        obtain ⟨x0, x1, x2, x3, xf, xl⟩ := BV.four
        obtain ⟨y0, y1, y2, y3, yf, yl⟩ := BZ.four
        go_wp2_with fail
        have BZn := BZ.put4 (.int .i64 p) (.int .i64 c) (.int .i64 h) (.int .i64 sd)
        obtain ⟨s0, s1, s2, s3, sf, sl⟩ := BZn.four
        refine bodyPost_ret (v := .tuple #[.agg #[.int .i64 p, .int .i64 c, .int .i64 h, .int .i64 sd], .slice (some ⟨g1, 0, none⟩) nx kL, .slice (some ⟨g2, 0, none⟩) ny kM]) (by simp [results, Tryz.results20, go_sem, s0, s1, s2, s3]) rfl ?_
        have RU4 := ((((RU.other (g := w.heap.size) (o := 0) (v := .int .i64 p) (by omega)).other (g := w.heap.size) (o := 1) (v := .int .i64 c) (by omega)).other (g := w.heap.size) (o := 2) (v := .int .i64 h) (by omega)).other (g := w.heap.size) (o := 3) (v := .int .i64 sd) (by omega))
        have RV4 := ((((RV.other (g := w.heap.size) (o := 0) (v := .int .i64 p) (by omega)).other (g := w.heap.size) (o := 1) (v := .int .i64 c) (by omega)).other (g := w.heap.size) (o := 2) (v := .int .i64 h) (by omega)).other (g := w.heap.size) (o := 3) (v := .int .i64 sd) (by omega))
        exact l12_mk (m := wD.heap.size) (by rw [HFIN.out, HLP.out]; rfl) rfl (by omega) (by omega) (.inr ⟨g1, rfl, by omega, by omega, RU4⟩) (.inr ⟨g2, rfl, by omega, RV4.lt, RV4⟩) (by omega) hkL hkM ((((hS.set (by omega) (by omega)).set (by omega) (by omega)).set (by omega) (by omega)).set (by omega) (by omega)) (grown_new (grown_new (grown_new (grown_new hG (by omega)) (by omega)) (by omega)) (by omega))
theorem OSl.setLo {lo hi g o : Nat} {w : World} {v : Value} {a : Option Addr} {xs : List Int} (h : OSl lo hi w a xs) (hg : g < lo) : OSl lo hi (w.setCell ⟨g, o, none⟩ v) a xs := by
  rcases h with h | ⟨b, rfl, h1, h2, r⟩
  · exact .inl h
  · exact .inr ⟨b, rfl, h1, h2, r.other (by omega)⟩
def qlV (len : Nat) (bs : Nat → Int) : (Int × Int × Int × Int) × List Int × List Int := (ldV len bs (frS len bs)).1
end Go.Proofs.YtnlclmlnpkncoaaGreat
