/- The chance of the player who waits and the win chance of the opponent add up to 1: for every code the law of chapter 12 returns true and its argument reads behind the call as it read before. No conditions. -/
import Derived.Test.YtfomfbfcnenhbaaGreatV48
import Derived.Test.YtfomfbfcnenhbaaGreatV45
import Derived.Test.YtfomfbfcnenhbaaGreatV15
import Derived.Test.YtfomfbfcnenhbaaGreatV50
import Derived.Test.YtfomfbfcnenhbaaGreatRows
import Derived.ChangeOld
namespace Go.Proofs.YtfomfbfcnenhbaaGreat
open Go.ChangeMaps (open_string shut_string)
open Go.ChangeShapes Go.WideShapes Go.ChangeAt Go.RowKit
set_option linter.unusedVariables false
set_option linter.unusedSimpArgs false
set_option maxRecDepth 4000
theorem code_of_ints {w : World} {x : Addr} {len : Nat} {zs : List Int} (hl : len ≤ zs.length) (_hz : True) (hcell : ∀ i, i < zs.length → w.cell? (x.add i) = some (.int .u8 (zs.getD i 0))) (hwz : ∀ n ∈ zs, (Lit.int .u8 n).wf = true) : CodeIn w.heap.size w (some x) len := by
  intro i hi
  obtain ⟨b, o, spot⟩ := x
  have hc := hcell i (by omega)
  have hspot : spot = none := by
    have hc0 := hcell 0 (by omega)
    simpa [Addr.add] using World.cell?_spot hc0
  subst hspot
  rw [show (⟨b, o, none⟩ : Addr).add i = ⟨b, o + i, none⟩ from by unfold Addr.add; split <;> simp_all] at hc
  have hm : zs.getD i 0 ∈ zs := by
    have : i < zs.length := by omega
    simp [List.getD, this]
  have hw := hwz _ hm
  have hr : 0 ≤ zs.getD i 0 ∧ zs.getD i 0 ≤ 255 := by simpa [Lit.wf, IntKind.min, IntKind.max, IntKind.signed, IntKind.bits] using hw
  exact ⟨b, o, zs.getD i 0, rfl, World.block_lt_of_cell? w _ hc, hc, hr.1, hr.2⟩
theorem bigR_any (a : Option Addr) (len cap : Nat) (w : World) :
    Calls Tryz.prog 13 #[.slice a len cap] w fun e w' => e = .returned (.bool (decide (4096 < (len : Int)))) ∧ w = w' := by
  go_enter Tryz.func13, Tryz.ntmps13
  go_wp2
  go_ret
  exact ⟨rfl, rfl⟩
theorem rcB_swap {p c h s : Int} {xs ys : List Int} (e : rcB p c h s xs ys = 0) : rcB p c h s ys xs = 0 := by
  have h1 : bcE p c h s ys = 0 := by
    unfold rcB at e
    split at e
    · exact e
    · omega
  have h2 : tcE p c h s xs = 0 := by
    unfold rcB at e
    rw [if_neg (by omega)] at e
    exact e
  obtain ⟨h3, h4⟩ := tcE_zero h2
  unfold rcB tcE
  rw [if_neg (by omega), if_pos h1, if_pos h4]
theorem rcE_parts {p c h s : Int} {xs ys : List Int} (e : rcE p c h s xs ys = 0) : rcB p c h s xs ys = 0 ∧ rcE p c h s ys xs = 0 := by
  have hB : rcB p c h s xs ys = 0 := by
    unfold rcE at e
    split at e <;> assumption
  have hne : ¬ (xs.sum = 0 ∧ ys.sum = 0) := by
    intro q
    unfold rcE at e
    rw [if_pos hB, if_pos q] at e
    omega
  refine ⟨hB, ?_⟩
  unfold rcE
  rw [if_pos (rcB_swap hB), if_neg (fun q => hne ⟨q.2, q.1⟩)]
theorem isP_dd {S : Nat} {n d P : Int} (hS : 1 ≤ S ∧ S ≤ 6) (h : IsP S n d P) : 0 ≤ d ∧ d ≤ 100 := by
  obtain ⟨a, -, b, -⟩ := isP_depth hS h
  have := nn_range hS
  omega
theorem both_law {p c h s : Int} {xs ys : List Int} {a1 a2 b1 b2 b3 : Int} (e : secondChanceV p c h s xs ys = (a1, a2, 0)) (e2 : winChanceV p c h s ys xs = (b1, b2, b3)) :
    b3 = 0 ∧ adV p c h s a1 a2 b1 b2 = (1, 0, 0) ∧ (0 ≤ a2 ∧ a2 ≤ 100) ∧ (0 ≤ b2 ∧ b2 ≤ 100) := by
  unfold secondChanceV at e
  split at e
  · rename_i k
    obtain ⟨hB, k2⟩ := rcE_parts k
    unfold winChanceV at e2
    rw [if_pos k2] at e2
    obtain ⟨S, rfl, hS, hx, hy, hc, -⟩ := rc_ready hB
    rw [Int.toNat_natCast] at e e2
    have htp := tp_in hS
    cases hw : wc S ys xs with
    | none =>
      rw [hw] at e
      simp [exO] at e
    | some z =>
      rw [hw] at e e2
      obtain ⟨q1, q2, q3, -⟩ := hy.po
      have hz := wc_in hS q2 q3 q1 hx.po.1 hw
      obtain ⟨n, d, u1, u2⟩ := ex_some hS (P := tp S - z) (by omega)
      obtain ⟨m, j, v1, v2⟩ := ex_some hS (P := z) (by omega)
      simp only [Option.map_some, exO, u1, xo3, Prod.mk.injEq] at e
      simp only [exO, v1, xo3, Prod.mk.injEq] at e2
      obtain ⟨rfl, rfl, -⟩ := e
      obtain ⟨rfl, rfl, rfl⟩ := e2
      refine ⟨rfl, ?_, isP_dd hS u2, isP_dd hS v2⟩
      obtain ⟨n2, d2, w1, w2⟩ := isP_add hS u2 v2 (by omega) (by omega)
      rw [show tp S - z + z = tp S by omega] at w2
      obtain ⟨rfl, rfl⟩ := isP_uniq hS w2 (isP_one hS)
      have hv : vB p c h (S : Int) = true := (okP_v hx).1
      have hs0 : sfC p c h (S : Int) [(n, d), (m, j)] = 0 := by
        unfold sfC
        rw [if_pos hv, if_pos]
        simp only [Int.toNat_natCast, List.all_cons, List.all_nil, Bool.and_true, u2.1, v2.1, Bool.and_self]
      unfold adV
      rw [if_pos hs0, Int.toNat_natCast, w1]
      rfl
  · rename_i k
    exact absurd (congrArg (fun q => q.2.2) e) k
theorem lpV_length (len : Nat) (bs : Nat → Int) : ∀ (m : Nat) (xs ys : List Int) (st : Nat × Int), (lpV len bs m xs ys st).1.1.length = xs.length ∧ (lpV len bs m xs ys st).1.2.length = ys.length
  | 0, xs, ys, st => ⟨rfl, rfl⟩
  | m + 1, xs, ys, st => by
    unfold lpV
    split
    · have q := lpV_length len bs m (fxL xs) (fxL ys) (nxV len bs st 8).2
      rw [fxL_length, fxL_length] at q
      exact q
    · exact ⟨rfl, rfl⟩
theorem qlV_length (len : Nat) (bs : Nat → Int) : (qlV len bs).2.1.length ≤ 25 ∧ (qlV len bs).2.2.length ≤ 25 := by
  have hb := (dv_bnd len bs (frS len bs)).2
  unfold qlV ldV
  dsimp only
  rw [(lpV_length len bs 2 _ _ _).1, (lpV_length len bs 2 _ _ _).2]
  exact ⟨(dlV_length _ _ _ _ _ hb.1).2, (dlV_length _ _ _ _ _ hb.1).2⟩
set_option maxRecDepth 8000 in
set_option maxHeartbeats 4000000 in
theorem fnBothSides_walk (a : Option Addr) (len cap : Nat) (w : World) (hcode : CodeIn w.heap.size w a len) :
    Calls Tryz.prog 3 #[.slice a len cap] w fun e w' => e = .returned (.bool true) ∧ Below w.heap.size w w' := by
  by_cases hbig : 4096 < len
  · have f0 : decide (4096 < (len : Int)) = true := by simp; omega
    go_enter Tryz.func3, Tryz.ntmps3
    go_wp2_with fail
    refine (bigR_any _ _ _ _).mono ?_
    rintro e w1 ⟨rfl, rfl⟩
    go_wp2
    go_ret
    exact ⟨rfl, Below.refl _ _⟩
  · have f0 : decide (4096 < (len : Int)) = false := by simp; omega
    go_enter Tryz.func3, Tryz.ntmps3
    go_wp2_with fail
    refine (bigR_any _ _ _ _).mono ?_
    rintro e w0 ⟨rfl, rfl⟩
    go_wp2_with fail
    obtain ⟨bs, hcs⟩ := hcode.is
    have hD0 := fun W (hb : Below w.heap.size w W) => drawSecondD_any w.heap.size a len cap W hb.size (by omega) bs (hcs.below hb)
    have hln := qlV_length len bs
    obtain ⟨⟨⟨p, c, h, s⟩, xs, ys⟩, hq⟩ : ∃ q, qlV len bs = q := ⟨_, rfl⟩
    rw [hq] at hD0 hln
    dsimp only at hln
    obtain ⟨hxl, hyl⟩ := hln
    have hD : ∀ W, Below w.heap.size w W → Calls Tryz.prog 14 #[.slice a len cap] W fun e w' => ∃ (aL aM : Option Addr) (kL kM m n : Nat), e = .returned (.tuple #[.agg #[.int .i64 p, .int .i64 c, .int .i64 h, .int .i64 s], .slice aL xs.length kL, .slice aM ys.length kM]) ∧ OSl W.heap.size m w' aL xs ∧ OSl m n w' aM ys ∧ W.heap.size ≤ m ∧ n ≤ w'.heap.size ∧ xs.length ≤ kL ∧ ys.length ≤ kM ∧ Below W.heap.size W w' := hD0
    have HD := Lib.hid hD
    clear hbig f0 hcode hcs hD hD0 hq
    have hi := fun (W : World) (b1 b2 : Option Addr) (k1 k2 : Nat) (r1 : IRow W b1 xs) (r2 : IRow W b2 ys) => secondChance_any p c h s b1 b2 xs.length ys.length k1 k2 xs ys W rfl rfl (by omega) (by omega) r1 r2
    have hs := fun (W : World) (b1 b2 : Option Addr) (k1 k2 : Nat) (q1 : xs.length ≤ k1) (q2 : ys.length ≤ k2) (r1 : IRow W b1 xs) (r2 : IRow W b2 ys) => specSecondChance_any p c h s b1 b2 xs.length ys.length k1 k2 xs ys W rfl rfl (by omega) (by omega) q1 q2 r1 r2
    have hv := fun (W : World) (b1 b2 : Option Addr) (k1 k2 : Nat) (r1 : IRow W b1 ys) (r2 : IRow W b2 xs) => winChance_any p c h s b1 b2 ys.length xs.length k1 k2 ys xs W rfl rfl (by omega) (by omega) r1 r2
    have hlaw := fun (a1 a2 b1 b2 b3 : Int) => both_law (p := p) (c := c) (h := h) (s := s) (xs := xs) (ys := ys) (a1 := a1) (a2 := a2) (b1 := b1) (b2 := b2) (b3 := b3)
    obtain ⟨⟨a1, a2, a3⟩, ha⟩ : ∃ r, secondChanceV p c h s xs ys = r := ⟨_, rfl⟩
    obtain ⟨⟨b1, b2, b3⟩, hbb⟩ : ∃ r, winChanceV p c h s ys xs = r := ⟨_, rfl⟩
    rw [ha] at hi hs
    rw [hbb] at hv
    dsimp only [xoV] at hi hs hv
    have HA := Lib.hid ha
    have HBB := Lib.hid hbb
    have HI := Lib.hid hi
    have HS := Lib.hid hs
    have HV := Lib.hid hv
    have HLAW := Lib.hid hlaw
    clear hi hs hv hlaw ha hbb
    refine (HD.out _ (Below.refl _ _)).mono ?_
    rintro e w1 ⟨aL, aM, kL, kM, m, n, rfl, hO, hP, -, -, -, -, hb⟩
    have hw1 := hb.size
    have BV := Blk.new w1 #[.int .i64 p, .int .i64 c, .int .i64 h, .int .i64 s] 25
    have rx := hO.irow.alloc (.cells #[.int .i64 p, .int .i64 c, .int .i64 h, .int .i64 s] 25)
    have ry := hP.irow.alloc (.cells #[.int .i64 p, .int .i64 c, .int .i64 h, .int .i64 s] 25)
    replace hb := chain_alloc hb (.cells #[.int .i64 p, .int .i64 c, .int .i64 h, .int .i64 s] 25)
    clear hO hP
    obtain ⟨bv, hbv⟩ : ∃ bv, w1.heap.size = bv := ⟨_, rfl⟩
    have hbw : w.heap.size ≤ bv := by omega
    obtain ⟨x0, x1, x2, x3, xf, xl⟩ := BV.four
    go_wp2_with fail
    (try rw [hbv] at BV x0 x1 x2 x3 xf xl)
    (try rw [hbv])
    generalize (w1.alloc (.cells #[.int .i64 p, .int .i64 c, .int .i64 h, .int .i64 s] 25)) = w2 at *
    refine (HI.out _ _ _ _ _ rx ry).mono ?_
    rintro e w3 ⟨rfl, hb3⟩
    clear x0 x1 x2 x3 xf xl
    have hbl := BV.lt
    replace BV := (BV.below hb3).alloc (.cells #[.int .i64 a1, .int .i64 a2] 30)
    have R1 := Blk.new w3 #[.int .i64 a1, .int .i64 a2] 30
    have hz3 := hb3.size
    replace hb := chain_alloc (chain hb hb3) (.cells #[.int .i64 a1, .int .i64 a2] 30)
    clear rx ry hb3
    obtain ⟨r1, hr1⟩ : ∃ r, w3.heap.size = r := ⟨_, rfl⟩
    rw [hr1] at R1 hz3
    have hbl4 := BV.lt
    go_wp2_with fail
    (try rw [hr1])
    generalize (w3.alloc (.cells #[.int .i64 a1, .int .i64 a2] 30)) = w4 at *
    refine (HD.out _ hb).mono ?_
    rintro e w5 ⟨aL2, aM2, kL2, kM2, m2, n2, rfl, hO, hP, hm2, hn2, hkL, hkM, hb5⟩
    have hw5 := hb5.size
    replace BV := BV.below hb5
    replace R1 := R1.below hb5
    replace hb := chain hb hb5
    have hO6 := ((((hO.setLo (g := bv) (o := 0) (v := .int .i64 p) (by omega)).setLo (g := bv) (o := 1) (v := .int .i64 c) (by omega)).setLo (g := bv) (o := 2) (v := .int .i64 h) (by omega)).setLo (g := bv) (o := 3) (v := .int .i64 s) (by omega))
    have hP6 := ((((hP.setLo (g := bv) (o := 0) (v := .int .i64 p) (by omega)).setLo (g := bv) (o := 1) (v := .int .i64 c) (by omega)).setLo (g := bv) (o := 2) (v := .int .i64 h) (by omega)).setLo (g := bv) (o := 3) (v := .int .i64 s) (by omega))
    have rx := hO6.irow
    have ry := hP6.irow
    have BVn := BV.put4 (.int .i64 p) (.int .i64 c) (.int .i64 h) (.int .i64 s)
    have R1n := ((((R1.other (g := bv) (o := 0) (v := .int .i64 p) (by omega)).other (g := bv) (o := 1) (v := .int .i64 c) (by omega)).other (g := bv) (o := 2) (v := .int .i64 h) (by omega)).other (g := bv) (o := 3) (v := .int .i64 s) (by omega))
    have hb6 := (((hb.setCell (p := ⟨bv, 0, none⟩) hbw (.int .i64 p)).setCell (p := ⟨bv, 1, none⟩) hbw (.int .i64 c)).setCell (p := ⟨bv, 2, none⟩) hbw (.int .i64 h)).setCell (p := ⟨bv, 3, none⟩) hbw (.int .i64 s)
    clear hO hP hO6 hP6 hm2 hn2 hb5 HD R1 hb
    obtain ⟨x0, x1, x2, x3, xf, xl⟩ := BV.four
    obtain ⟨s0, s1, s2, s3, sf, sl⟩ := BVn.four
    go_wp2_with fail
    clear x0 x1 x2 x3 xf xl
    clear s0 s1 s2 s3 sf sl BV
    generalize ((((w5.setCell ⟨bv, 0, none⟩ (.int .i64 p)).setCell ⟨bv, 1, none⟩ (.int .i64 c)).setCell ⟨bv, 2, none⟩ (.int .i64 h)).setCell ⟨bv, 3, none⟩ (.int .i64 s)) = w6 at *
    refine (HS.out _ _ _ _ _ hkL hkM rx ry).mono ?_
    rintro e w7 ⟨rfl, hb7⟩
    have hw7 := hb7.size
    have BV := (BVn.below hb7).alloc (.cells #[.int .i64 a1, .int .i64 a2] 30)
    have R1 := (R1n.below hb7).alloc (.cells #[.int .i64 a1, .int .i64 a2] 30)
    have R2 := Blk.new w7 #[.int .i64 a1, .int .i64 a2] 30
    replace rx := (rx.below hb7).alloc (.cells #[.int .i64 a1, .int .i64 a2] 30)
    replace ry := (ry.below hb7).alloc (.cells #[.int .i64 a1, .int .i64 a2] 30)
    have hb := chain_alloc (chain hb6 hb7) (.cells #[.int .i64 a1, .int .i64 a2] 30)
    clear BVn R1n hb6 hb7 HS HI hkL hkM
    obtain ⟨r2, hr2⟩ : ∃ r, w7.heap.size = r := ⟨_, rfl⟩
    rw [hr2] at R2 hw7
    obtain ⟨x0, x1, x2, x3, xf, xl⟩ := BV.four
    obtain ⟨y0, y1, yf, yl⟩ := R1.two
    obtain ⟨z0, z1, zf, zl⟩ := R2.two
    by_cases ca : a3 = 0
    · obtain rfl : a3 = 0 := ca
      have hl := HLAW.out a1 a2 b1 b2 b3 HA.out HBB.out
      obtain ⟨rfl, l2, l3, l4⟩ := hl
      have hae := fun W => specAddExact_any p c h s a1 a2 b1 b2 (by omega) (by omega) W
      rw [l2] at hae
      dsimp only [xoV] at hae
      have HAE := Lib.hid hae
      clear hae l2 l3 l4 HLAW HA HBB
      go_wp2_with fail
      clear x0 x1 x2 x3 xf xl
      clear y0 y1 yf yl z0 z1 zf zl R2
      generalize (w7.alloc (.cells #[.int .i64 a1, .int .i64 a2] 30)) = w8 at *
      refine (HV.out _ _ _ _ _ ry rx).mono ?_
      rintro e w9 ⟨rfl, hb9⟩
      replace BV := (BV.below hb9).alloc (.cells #[.int .i64 b1, .int .i64 b2] 30)
      replace R1 := (R1.below hb9).alloc (.cells #[.int .i64 b1, .int .i64 b2] 30)
      have R3 := Blk.new w9 #[.int .i64 b1, .int .i64 b2] 30
      replace hb := chain_alloc (chain hb hb9) (.cells #[.int .i64 b1, .int .i64 b2] 30)
      clear rx ry hb9 HV
      obtain ⟨x0, x1, x2, x3, xf, xl⟩ := BV.four
      obtain ⟨y0, y1, yf, yl⟩ := R1.two
      obtain ⟨z0, z1, zf, zl⟩ := R3.two
      go_wp2_with fail
      clear x0 x1 x2 x3 xf xl
      clear y0 y1 yf yl z0 z1 zf zl BV R1 R3
      generalize (w9.alloc (.cells #[.int .i64 b1, .int .i64 b2] 30)) = w10 at *
      refine (HAE.out _).mono ?_
      rintro e w11 ⟨rfl, hb11⟩
      have R4 := Blk.new w11 #[.int .i64 1, .int .i64 0] 30
      replace hb := chain_alloc (chain hb hb11) (.cells #[.int .i64 1, .int .i64 0] 30)
      obtain ⟨z0, z1, zf, zl⟩ := R4.two
      clear hb11 HAE
      go_wp2_with fail
      go_ret
      exact ⟨by simp, hb⟩
    · have fa : (a3 == 0) = false := by rw [beq_eq_false_iff_ne]; exact ca
      have fa2 : (a3 != 0) = true := by rw [bne, fa]; rfl
      clear ca HLAW HA HBB HV
      go_wp2_with fail
      go_ret
      exact ⟨by simp, hb⟩
set_option maxRecDepth 100000 in
theorem fnBothSides_lifted (os : Os) (started : os.Started) (H : Type) (enc : TypeId × Value → H) :
    ReturnsInHanded {} Tryz.checked os 3 .any (Rows.fnBothSidesSpec.pre6 enc Tryz.prog Tryz.f3 Rows.fnBothSidesRow.domain false) (Rows.fnBothSidesSpec.post enc Tryz.prog Tryz.f3 false true false false) := by
  refine returnsInHanded_of_change (C := Tryz.checked) own started (by kernel_rfl) Tryz.func3
    (ChangeSpec.witness6 (enc := enc) (C := Tryz.checked) false ⟨#[], #[.slice none 0 0], []⟩ 8 (by kernel_rfl) (by kernel_rfl) (by kernel_rfl) (by kernel_rfl)) ?_
  intro W base args ds gs before hval0 hW hcnd _
  have hval : ∀ (j : Nat) t v, Tryz.f3.params[j]? = some t → args[j]? = some v → Value.okWide Tryz.prog W .any base t v := hval0
  have hW' := hW
  obtain ⟨p, q, hA0, hV, rfl, hfz, hnd⟩ := hW
  have hA : DataW.TrodAll enc Tryz.prog W 0 (fun _ => true) true Tryz.f3.params.toList args.toList ds p := hA0
  rw [Tryz.params3] at hA hval
  obtain ⟨v0, vs0, d0, ds0, p0, q0, hargs, rfl, rfl, h0, r0⟩ := trodAll_cons hA
  obtain ⟨rfl, rfl, rfl⟩ := trodAll_nil r0
  obtain rfl : args = #[v0] := by cases args; simp_all
  obtain ⟨rfl, rfl⟩ := trodVars_none hV
  have k0 := h0
  have lt0 : ∀ x ∈ p0, x.block < W.heap.size := by obtain ⟨m, hm⟩ := k0; exact DataW.trod_lt m _ _ _ hm
  obtain ⟨sa_0, sl_0, sc_0, rfl⟩ := okWide_slice Tryz.underlying22 (hval 0 22 v0 rfl rfl)
  have hcode_0 : CodeIn W.heap.size W sa_0 sl_0 := by
    obtain ⟨fuel, hf⟩ := h0
    rcases open_ints Tryz.underlying22 Tryz.underlying5 (by kernel_rfl) hf with ⟨hcs, _⟩ | ⟨x, l, c, zs, hcs, _, hl, hm, hz, _, hcell, hwz⟩
    · simp [Value.cells] at hcs
      obtain ⟨rfl, rfl, rfl⟩ := hcs
      intro i hi
      omega
    · simp [Value.cells] at hcs
      obtain ⟨rfl, rfl, rfl⟩ := hcs
      exact code_of_ints (by have hz2 := hz; simp at hz2; omega) trivial hcell hwz
  clear hA0 hval0
  refine (fnBothSides_walk sa_0 sl_0 sc_0 W hcode_0).mono fun e W' ⟨he, bel⟩ => ?_
  subst he
  exact ⟨_, rfl, _, _, _, [], _, [], hW', trodAll_mk1 (shut_bool Tryz.underlying4 _), (trodAll_cons_mk (Below.trod laidOut (by kernel_rfl) (of_decide_eq_true (by kernel_rfl)) k0 bel lt0) trodAll_mk0), rfl, bel.frame _, fun h => by cases h⟩
theorem fnBothSides_holds : Rows.FnBothSidesSaid :=
  OpenClaim.holds_of_wide 3 Tryz.f3 rfl rfl rfl rfl rfl rfl rfl ⟨rfl, rfl, rfl, rfl, rfl⟩ rfl rfl rfl rfl rfl (by kernel_rfl) Tryz.func3 (by kernel_rfl)
    (of_decide_eq_true (by kernel_rfl)) (by unfold Func.isWrapper; first | (rw [if_pos (by decide +kernel)]; kernel_rfl) | (rw [if_neg (by decide +kernel)]; exact ⟨rfl, rfl⟩))
    (fun os started H enc _ => fnBothSides_lifted os started H enc)
end Go.Proofs.YtfomfbfcnenhbaaGreat
