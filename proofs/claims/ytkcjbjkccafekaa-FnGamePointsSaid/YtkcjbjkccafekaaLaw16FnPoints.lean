/- The law of chapter 16 on the points of a game holds: for every code the law returns true and the code reads behind the call as it read before. No conditions. -/
import Derived.Test.YtkcjbjkccafekaaDraw16b
import Derived.Test.Ytkcjbjkccafekaa16d
import Derived.Test.YtkcjbjkccafekaaCbL
import Derived.Test.YtkcjbjkccafekaaL01b
import Derived.Test.YtkcjbjkccafekaaRows
import Derived.ChangeOld
namespace Go.Proofs.Ytkcjbjkccafekaa
open Go.ChangeMaps (open_string shut_string)
open Go.ChangeShapes Go.WideShapes Go.ChangeAt Go.RowKit
set_option linter.unusedVariables false
set_option linter.unusedSimpArgs false
set_option maxRecDepth 4000

theorem code_of_ints {w : World} {x : Addr} {len : Nat} {zs : List Int} (hl : len ≤ zs.length) (_hz : True) (hcell : ∀ i, i < zs.length → w.cell? (x.add i) = some (.int .u8 (zs.getD i 0))) (hwz : ∀ n ∈ zs, (Lit.int .u8 n).wf = true) : CodeIn w.heap.size w (some x) len := by
  intro i hi
  obtain ⟨b, o, spot⟩ := x
  have hc := hcell i (by omega)
  have hspot : spot = none := by
    have hc0 := hcell 0 (by omega)
    simpa [Addr.add] using World.cell?_spot hc0
  subst hspot
  rw [show (⟨b, o, none⟩ : Addr).add i = ⟨b, o + i, none⟩ from by unfold Addr.add; split <;> simp_all] at hc
  have hm : zs.getD i 0 ∈ zs := by
    have : i < zs.length := by omega
    simp [List.getD, this]
  have hw := hwz _ hm
  have hr : 0 ≤ zs.getD i 0 ∧ zs.getD i 0 ≤ 255 := by simpa [Lit.wf, IntKind.min, IntKind.max, IntKind.signed, IntKind.bits] using hw
  exact ⟨b, o, zs.getD i 0, rfl, World.block_lt_of_cell? w _ hc, hc, hr.1, hr.2⟩
theorem bigR_any (a : Option Addr) (len cap : Nat) (w : World) :
    Calls Try.prog 12 #[.slice a len cap] w fun e w' => e = .returned (.bool (decide (4096 < (len : Int)))) ∧ w = w' := by
  go_enter Try.func12, Try.ntmps12
  go_wp2
  go_ret
  exact ⟨rfl, rfl⟩
theorem gpV_bad {m : Int} {ja : Bool} {v o k : Int} (g : cbB m v o = false) : gpV m ja v o k = (0, 1) := by simp [gpV, g]
theorem gpV_jac {m : Int} {v o k : Int} (g : cbB m v o = true) (ho : o = 0) (hk : 1 ≤ k ∧ k ≤ 3) : gpV m true v o k = (v, 0) := by
  unfold gpV
  rw [if_neg (by simp [g]), if_neg (fun q => q hk), if_pos ⟨rfl, ho⟩]
theorem gpV_mul {m : Int} {ja : Bool} {v o k : Int} (g : cbB m v o = true) (ho : ¬ (ja = true ∧ o = 0)) (hk : 1 ≤ k ∧ k ≤ 3) : gpV m ja v o k = (k * v, 0) := by
  unfold gpV
  rw [if_neg (by simp [g]), if_neg (fun q => q hk), if_neg ho]
set_option maxRecDepth 8000 in
set_option maxHeartbeats 4000000 in
theorem fnGamePoints_walk (a : Option Addr) (len cap : Nat) (w : World) (hcode : CodeIn w.heap.size w a len) :
    Calls Try.prog 4 #[.slice a len cap] w fun e w' => e = .returned (.bool true) ∧ Below w.heap.size w w' := by
  by_cases hbig : 4096 < len
  · have f0 : decide (4096 < (len : Int)) = true := by simp; omega
    go_enter Try.func4, Try.ntmps4
    go_wp2_with fail
    refine (bigR_any _ _ _ _).mono ?_
    rintro e w1 ⟨rfl, rfl⟩
    go_wp2
    go_ret
    exact ⟨rfl, Below.refl _ _⟩
  · have f0 : decide (4096 < (len : Int)) = false := by simp; omega
    go_enter Try.func4, Try.ntmps4
    go_wp2_with fail
    refine (bigR_any _ _ _ _).mono ?_
    rintro e w0 ⟨rfl, rfl⟩
    go_wp2_with fail
    refine (drawGamePoints_any w.heap.size a len cap w (Nat.le_refl _) (by omega) hcode).mono ?_
    rintro e w1 ⟨m, x, y, v, o, k, rfl, hb⟩
    clear hbig f0 hcode
    obtain ⟨BR, BC, hq0, hz⟩ := two_new w1 #[.int .i64 m, .bool x, .bool y] #[.int .i64 v, .int .i64 o] 25 27
    replace hb := chain hb hq0
    clear hz hq0
    have h1 := fun W => gamePoints_any m v o 1 x y W
    have h2 := fun W => gamePoints_any m v o 2 x y W
    have h3 := fun W => gamePoints_any m v o 3 x y W
    have hc := fun W => specIsCube_any m v o x y W
    cases g : cbB m v o with
    | false =>
      rw [g] at hc
      rw [show gpV m y v o 1 = (0, 1) from gpV_bad g] at h1
      rw [show gpV m y v o 2 = (0, 1) from gpV_bad g] at h2
      rw [show gpV m y v o 3 = (0, 1) from gpV_bad g] at h3
      dsimp only at h1 h2 h3
      have H1 := Lib.hid h1
      have H2 := Lib.hid h2
      have H3 := Lib.hid h3
      have HC := Lib.hid hc
      clear h1 h2 h3 hc g
      obtain ⟨x0, x1, x2, xf, xl⟩ := BR.t3
      obtain ⟨u0, u1, uf, ul⟩ := BC.two
      go_wp2_with fail
      clear x0 x1 x2 xf xl u0 u1 uf ul
      generalize ((w1.alloc (.cells #[.int .i64 m, .bool x, .bool y] 25)).alloc (.cells #[.int .i64 v, .int .i64 o] 27)) = v0 at *
      refine (H1.out _).mono ?_
      rintro e w2 ⟨rfl, hq⟩
      replace BR := BR.below hq
      replace BC := BC.below hq
      replace hb := chain hb hq
      clear hq
      obtain ⟨x0, x1, x2, xf, xl⟩ := BR.t3
      obtain ⟨u0, u1, uf, ul⟩ := BC.two
      go_wp2_with fail
      clear x0 x1 x2 xf xl u0 u1 uf ul
      refine (H2.out _).mono ?_
      rintro e w3 ⟨rfl, hq⟩
      replace BR := BR.below hq
      replace BC := BC.below hq
      replace hb := chain hb hq
      clear hq
      obtain ⟨x0, x1, x2, xf, xl⟩ := BR.t3
      obtain ⟨u0, u1, uf, ul⟩ := BC.two
      go_wp2_with fail
      clear x0 x1 x2 xf xl u0 u1 uf ul
      refine (H3.out _).mono ?_
      rintro e w4 ⟨rfl, hq⟩
      replace BR := BR.below hq
      replace BC := BC.below hq
      replace hb := chain hb hq
      clear hq
      obtain ⟨x0, x1, x2, xf, xl⟩ := BR.t3
      obtain ⟨u0, u1, uf, ul⟩ := BC.two
      go_wp2_with fail
      clear x0 x1 x2 xf xl u0 u1 uf ul
      refine (HC.out _).mono ?_
      rintro e w5 ⟨rfl, hq⟩
      replace BR := BR.below hq
      replace BC := BC.below hq
      replace hb := chain hb hq
      clear hq
      obtain ⟨x0, x1, x2, xf, xl⟩ := BR.t3
      obtain ⟨u0, u1, uf, ul⟩ := BC.two
      go_wp2
      go_ret
      exact ⟨by simp, hb⟩
    | true =>
      have gp := cbB_parts g
      have v1 : 1 ≤ v := gp.2.2.1
      have v2 : v ≤ 1024 := by omega
      have hov : o = 0 ↔ v = 1 := gp.2.2.2.2.2.2.2
      clear gp
      rw [g] at hc
      cases y with
      | false =>
        have e1 : (1 : Int) * v = v := Int.one_mul v
        rw [show gpV m false v o 1 = (v, 0) from by rw [gpV_mul g (fun q => by cases q.1) (by omega), Int.one_mul]] at h1
        rw [show gpV m false v o 2 = ((2 * v), 0) from by rw [gpV_mul g (fun q => by cases q.1) (by omega)]] at h2
        rw [show gpV m false v o 3 = ((3 * v), 0) from by rw [gpV_mul g (fun q => by cases q.1) (by omega)]] at h3
        dsimp only at h1 h2 h3
        have H1 := Lib.hid h1
        have H2 := Lib.hid h2
        have H3 := Lib.hid h3
        have HC := Lib.hid hc
        clear h1 h2 h3 hc g hov e1
        obtain ⟨x0, x1, x2, xf, xl⟩ := BR.t3
        obtain ⟨u0, u1, uf, ul⟩ := BC.two
        go_wp2_with fail
        clear x0 x1 x2 xf xl u0 u1 uf ul
        generalize ((w1.alloc (.cells #[.int .i64 m, .bool x, .bool false] 25)).alloc (.cells #[.int .i64 v, .int .i64 o] 27)) = v0 at *
        refine (H1.out _).mono ?_
        rintro e w2 ⟨rfl, hq⟩
        replace BR := BR.below hq
        replace BC := BC.below hq
        replace hb := chain hb hq
        clear hq
        obtain ⟨x0, x1, x2, xf, xl⟩ := BR.t3
        obtain ⟨u0, u1, uf, ul⟩ := BC.two
        go_wp2_with fail
        clear x0 x1 x2 xf xl u0 u1 uf ul
        refine (H2.out _).mono ?_
        rintro e w3 ⟨rfl, hq⟩
        replace BR := BR.below hq
        replace BC := BC.below hq
        replace hb := chain hb hq
        clear hq
        obtain ⟨x0, x1, x2, xf, xl⟩ := BR.t3
        obtain ⟨u0, u1, uf, ul⟩ := BC.two
        go_wp2_with fail
        clear x0 x1 x2 xf xl u0 u1 uf ul
        refine (H3.out _).mono ?_
        rintro e w4 ⟨rfl, hq⟩
        replace BR := BR.below hq
        replace BC := BC.below hq
        replace hb := chain hb hq
        clear hq
        obtain ⟨x0, x1, x2, xf, xl⟩ := BR.t3
        obtain ⟨u0, u1, uf, ul⟩ := BC.two
        go_wp2_with fail
        clear x0 x1 x2 xf xl u0 u1 uf ul
        refine (HC.out _).mono ?_
        rintro e w5 ⟨rfl, hq⟩
        replace BR := BR.below hq
        replace BC := BC.below hq
        replace hb := chain hb hq
        clear hq
        obtain ⟨x0, x1, x2, xf, xl⟩ := BR.t3
        obtain ⟨u0, u1, uf, ul⟩ := BC.two
        go_wp2
        go_ret
        exact ⟨by simp, hb⟩
      | true =>
        by_cases ho : o = 0
        · have hv1 : v = 1 := hov.1 ho
          have f1 : (v == 1) = true := by rw [beq_iff_eq]; exact hv1
          rw [show gpV m true v o 1 = (v, 0) from gpV_jac g ho (by omega)] at h1
          rw [show gpV m true v o 2 = (v, 0) from gpV_jac g ho (by omega)] at h2
          rw [show gpV m true v o 3 = (v, 0) from gpV_jac g ho (by omega)] at h3
          dsimp only at h1 h2 h3
          have H1 := Lib.hid h1
          have H2 := Lib.hid h2
          have H3 := Lib.hid h3
          have HC := Lib.hid hc
          clear h1 h2 h3 hc g hov ho hv1
          obtain ⟨x0, x1, x2, xf, xl⟩ := BR.t3
          obtain ⟨u0, u1, uf, ul⟩ := BC.two
          go_wp2_with fail
          clear x0 x1 x2 xf xl u0 u1 uf ul
          generalize ((w1.alloc (.cells #[.int .i64 m, .bool x, .bool true] 25)).alloc (.cells #[.int .i64 v, .int .i64 o] 27)) = v0 at *
          refine (H1.out _).mono ?_
          rintro e w2 ⟨rfl, hq⟩
          replace BR := BR.below hq
          replace BC := BC.below hq
          replace hb := chain hb hq
          clear hq
          obtain ⟨x0, x1, x2, xf, xl⟩ := BR.t3
          obtain ⟨u0, u1, uf, ul⟩ := BC.two
          go_wp2_with fail
          clear x0 x1 x2 xf xl u0 u1 uf ul
          refine (H2.out _).mono ?_
          rintro e w3 ⟨rfl, hq⟩
          replace BR := BR.below hq
          replace BC := BC.below hq
          replace hb := chain hb hq
          clear hq
          obtain ⟨x0, x1, x2, xf, xl⟩ := BR.t3
          obtain ⟨u0, u1, uf, ul⟩ := BC.two
          go_wp2_with fail
          clear x0 x1 x2 xf xl u0 u1 uf ul
          refine (H3.out _).mono ?_
          rintro e w4 ⟨rfl, hq⟩
          replace BR := BR.below hq
          replace BC := BC.below hq
          replace hb := chain hb hq
          clear hq
          obtain ⟨x0, x1, x2, xf, xl⟩ := BR.t3
          obtain ⟨u0, u1, uf, ul⟩ := BC.two
          go_wp2_with fail
          clear x0 x1 x2 xf xl u0 u1 uf ul
          refine (HC.out _).mono ?_
          rintro e w5 ⟨rfl, hq⟩
          replace BR := BR.below hq
          replace BC := BC.below hq
          replace hb := chain hb hq
          clear hq
          obtain ⟨x0, x1, x2, xf, xl⟩ := BR.t3
          obtain ⟨u0, u1, uf, ul⟩ := BC.two
          go_wp2
          go_ret
          exact ⟨by simp, hb⟩
        · have hv1 : ¬ v = 1 := fun q => ho (hov.2 q)
          have f1 : (v == 1) = false := by rw [beq_eq_false_iff_ne]; exact hv1
          rw [show gpV m true v o 1 = (v, 0) from by rw [gpV_mul g (fun q => ho q.2) (by omega), Int.one_mul]] at h1
          rw [show gpV m true v o 2 = ((2 * v), 0) from by rw [gpV_mul g (fun q => ho q.2) (by omega)]] at h2
          rw [show gpV m true v o 3 = ((3 * v), 0) from by rw [gpV_mul g (fun q => ho q.2) (by omega)]] at h3
          dsimp only at h1 h2 h3
          have H1 := Lib.hid h1
          have H2 := Lib.hid h2
          have H3 := Lib.hid h3
          have HC := Lib.hid hc
          clear h1 h2 h3 hc g hov ho hv1
          obtain ⟨x0, x1, x2, xf, xl⟩ := BR.t3
          obtain ⟨u0, u1, uf, ul⟩ := BC.two
          go_wp2_with fail
          clear x0 x1 x2 xf xl u0 u1 uf ul
          generalize ((w1.alloc (.cells #[.int .i64 m, .bool x, .bool true] 25)).alloc (.cells #[.int .i64 v, .int .i64 o] 27)) = v0 at *
          refine (H1.out _).mono ?_
          rintro e w2 ⟨rfl, hq⟩
          replace BR := BR.below hq
          replace BC := BC.below hq
          replace hb := chain hb hq
          clear hq
          obtain ⟨x0, x1, x2, xf, xl⟩ := BR.t3
          obtain ⟨u0, u1, uf, ul⟩ := BC.two
          go_wp2_with fail
          clear x0 x1 x2 xf xl u0 u1 uf ul
          refine (H2.out _).mono ?_
          rintro e w3 ⟨rfl, hq⟩
          replace BR := BR.below hq
          replace BC := BC.below hq
          replace hb := chain hb hq
          clear hq
          obtain ⟨x0, x1, x2, xf, xl⟩ := BR.t3
          obtain ⟨u0, u1, uf, ul⟩ := BC.two
          go_wp2_with fail
          clear x0 x1 x2 xf xl u0 u1 uf ul
          refine (H3.out _).mono ?_
          rintro e w4 ⟨rfl, hq⟩
          replace BR := BR.below hq
          replace BC := BC.below hq
          replace hb := chain hb hq
          clear hq
          obtain ⟨x0, x1, x2, xf, xl⟩ := BR.t3
          obtain ⟨u0, u1, uf, ul⟩ := BC.two
          go_wp2_with fail
          clear x0 x1 x2 xf xl u0 u1 uf ul
          refine (HC.out _).mono ?_
          rintro e w5 ⟨rfl, hq⟩
          replace BR := BR.below hq
          replace BC := BC.below hq
          replace hb := chain hb hq
          clear hq
          obtain ⟨x0, x1, x2, xf, xl⟩ := BR.t3
          obtain ⟨u0, u1, uf, ul⟩ := BC.two
          go_wp2
          go_ret
          exact ⟨by simp, hb⟩
set_option maxRecDepth 100000 in
theorem fnGamePoints_lifted (os : Os) (started : os.Started) (H : Type) (enc : TypeId × Value → H) :
    ReturnsInHanded {} Try.checked os 4 .any (Rows.fnGamePointsSpec.pre6 enc Try.prog Try.f4 Rows.fnGamePointsRow.domain false) (Rows.fnGamePointsSpec.post enc Try.prog Try.f4 false true false false) := by
  refine returnsInHanded_of_change (C := Try.checked) own started (by kernel_rfl) Try.func4
    (ChangeSpec.witness6 (enc := enc) (C := Try.checked) false ⟨#[], #[.slice none 0 0], []⟩ 8 (by kernel_rfl) (by kernel_rfl) (by kernel_rfl) (by kernel_rfl)) ?_
  intro W base args ds gs before hval0 hW hcnd _
  have hval : ∀ (j : Nat) t v, Try.f4.params[j]? = some t → args[j]? = some v → Value.okWide Try.prog W .any base t v := hval0
  have hW' := hW
  obtain ⟨p, q, hA0, hV, rfl, hfz, hnd⟩ := hW
  have hA : DataW.TrodAll enc Try.prog W 0 (fun _ => true) true Try.f4.params.toList args.toList ds p := hA0
  rw [Try.params4] at hA hval
  obtain ⟨v0, vs0, d0, ds0, p0, q0, hargs, rfl, rfl, h0, r0⟩ := trodAll_cons hA
  obtain ⟨rfl, rfl, rfl⟩ := trodAll_nil r0
  obtain rfl : args = #[v0] := by cases args; simp_all
  obtain ⟨rfl, rfl⟩ := trodVars_none hV
  have k0 := h0
  have lt0 : ∀ x ∈ p0, x.block < W.heap.size := by obtain ⟨m, hm⟩ := k0; exact DataW.trod_lt m _ _ _ hm
  obtain ⟨sa_0, sl_0, sc_0, rfl⟩ := okWide_slice Try.underlying22 (hval 0 22 v0 rfl rfl)
  have hcode_0 : CodeIn W.heap.size W sa_0 sl_0 := by
    obtain ⟨fuel, hf⟩ := h0
    rcases open_ints Try.underlying22 Try.underlying5 (by kernel_rfl) hf with ⟨hcs, _⟩ | ⟨x, l, c, zs, hcs, _, hl, hm, hz, _, hcell, hwz⟩
    · simp [Value.cells] at hcs
      obtain ⟨rfl, rfl, rfl⟩ := hcs
      intro i hi
      omega
    · simp [Value.cells] at hcs
      obtain ⟨rfl, rfl, rfl⟩ := hcs
      exact code_of_ints (by have hz2 := hz; simp at hz2; omega) trivial hcell hwz
  clear hA0 hval0
  refine (fnGamePoints_walk sa_0 sl_0 sc_0 W hcode_0).mono fun e W' ⟨he, bel⟩ => ?_
  subst he
  exact ⟨_, rfl, _, _, _, [], _, [], hW', trodAll_mk1 (shut_bool Try.underlying4 _), (trodAll_cons_mk (Below.trod laidOut (by kernel_rfl) (of_decide_eq_true (by kernel_rfl)) k0 bel lt0) trodAll_mk0), rfl, bel.frame _, fun h => by cases h⟩
theorem fnGamePoints_holds : Rows.FnGamePointsSaid :=
  OpenClaim.holds_of_wide 4 Try.f4 rfl rfl rfl rfl rfl rfl rfl ⟨rfl, rfl, rfl, rfl, rfl⟩ rfl rfl rfl rfl rfl (by kernel_rfl) Try.func4 (by kernel_rfl)
    (of_decide_eq_true (by kernel_rfl)) (by unfold Func.isWrapper; first | (rw [if_pos (by decide +kernel)]; kernel_rfl) | (rw [if_neg (by decide +kernel)]; exact ⟨rfl, rfl⟩))
    (fun os started H enc _ => fnGamePoints_lifted os started H enc)
end Go.Proofs.Ytkcjbjkccafekaa
