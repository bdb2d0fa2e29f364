/- The law of chapter 3 on the numbers of sides holds: for every code the law returns true and the code reads behind the call as it read before. No conditions. -/
import Derived.Test.YthnkckflajkaiaaDrawN
import Derived.Test.YthnkckflajkaiaaL03cN
import Derived.Test.YthnkckflajkaiaaOpen
import Derived.ChangeOld
namespace Go.Proofs.Ythnkckflajkaiaa
open Go.ChangeMaps (open_string shut_string)
open Go.ChangeShapes Go.WideShapes Go.ChangeAt Go.RowKit
set_option linter.unusedVariables false
set_option linter.unusedSimpArgs false

theorem code_of_ints {w : World} {x : Addr} {len : Nat} {zs : List Int} (hl : len ≤ zs.length) (_hz : True) (hcell : ∀ i, i < zs.length → w.cell? (x.add i) = some (.int .u8 (zs.getD i 0))) (hwz : ∀ n ∈ zs, (Lit.int .u8 n).wf = true) : CodeIn w.heap.size w (some x) len := by
  intro i hi
  obtain ⟨b, o, spot⟩ := x
  have hc := hcell i (by omega)
  have hspot : spot = none := by
    have hc0 := hcell 0 (by omega)
    simpa [Addr.add] using World.cell?_spot hc0
  subst hspot
  rw [show (⟨b, o, none⟩ : Addr).add i = ⟨b, o + i, none⟩ from by unfold Addr.add; split <;> simp_all] at hc
  have hm : zs.getD i 0 ∈ zs := by
    have : i < zs.length := by omega
    simp [List.getD, this]
  have hw := hwz _ hm
  have hr : 0 ≤ zs.getD i 0 ∧ zs.getD i 0 ≤ 255 := by simpa [Lit.wf, IntKind.min, IntKind.max, IntKind.signed, IntKind.bits] using hw
  exact ⟨b, o, zs.getD i 0, rfl, World.block_lt_of_cell? w _ hc, hc, hr.1, hr.2⟩

theorem nat_le_sum : ∀ {l : List Nat} {y : Nat}, y ∈ l → y ≤ l.sum
  | [], y, h => by simp at h
  | x :: l, y, h => by
    rw [List.sum_cons]
    rcases List.mem_cons.1 h with rfl | h
    · omega
    · have := nat_le_sum h
      omega
theorem unrI_getD (n k l i : Nat) : (unrI n k l).getD i 0 = (((unr n k l).getD i 0 : Nat) : Int) := by
  unfold unrI
  by_cases h : i < (unr n k l).length
  · simp [List.getD, h]
  · simp [List.getD, h]
theorem nats_unrI (n k l : Nat) : nats (unrI n k l) = unr n k l := by simp [nats, unrI, Function.comp_def]
/-- What holds of a side with a number and of its successor. -/
theorem son_facts (p c h s k : Int) : ∃ X Y : List Int, ∃ E F : Int, sonL p c h s k = X ∧ sonL p c h s (k + 1) = Y ∧ sonE p c h s k = E ∧ sonE p c h s (k + 1) = F ∧ (E ≠ 0 → X = []) ∧
    (E = 0 → snI p c h s X = k ∧ seI p c h s X = 0 ∧ (X.length : Int) = p + 1 ∧ 0 < X.length ∧ X.length ≤ 1048576 ∧ (F ≠ 0 → scI p c h s = k + 1) ∧
      (F = 0 → Y.length = X.length ∧ ∃ d, d < X.length ∧ (∀ j, j < d → X.getD j 0 = Y.getD j 0) ∧ X.getD d 0 < Y.getD d 0)) := by
  refine ⟨_, _, _, _, rfl, rfl, rfl, rfl, ?_, ?_⟩
  · intro hE
    unfold sonL
    rw [if_neg]
    rintro ⟨g, z⟩
    apply hE
    unfold sonE
    rw [if_pos g, if_pos z]
  · intro hE
    have g : vB p c h s = true := by
      by_cases g : vB p c h s = true
      · exact g
      · unfold sonE at hE
        rw [if_neg g] at hE
        omega
    have z : okN p c k = true := by
      by_cases z : okN p c k = true
      · exact z
      · unfold sonE at hE
        rw [if_pos g, if_neg z] at hE
        omega
    have hv := vB_iff.1 g
    have hz : 0 ≤ k ∧ k < (cnt (p + 1).toNat c.toNat : Int) := by simpa [okN] using z
    have hX : sonL p c h s k = unrI (p + 1).toNat k.toNat c.toNat := by unfold sonL; rw [if_pos ⟨g, z⟩]
    obtain ⟨u1, u2, u3⟩ := unr_ok (p + 1).toNat k.toNat c.toNat (by omega)
    have hlen := unrI_length (p + 1).toNat k.toNat c.toNat (by omega)
    have hsum := nats_sum (unrI (p + 1).toNat k.toNat c.toNat) (fun x hx => by
      simp only [unrI, List.mem_map] at hx
      obtain ⟨y, _, rfl⟩ := hx
      omega)
    rw [nats_unrI] at hsum
    have hok : okS p c h s (unrI (p + 1).toNat k.toNat c.toNat) = true := by
      unfold okS
      rw [g, Bool.true_and]
      refine sideB_iff.2 ⟨by omega, fun x hx => ?_, by omega⟩
      simp only [unrI, List.mem_map] at hx
      obtain ⟨y, hy, rfl⟩ := hx
      have := nat_le_sum hy
      omega
    rw [hX]
    refine ⟨?_, ?_, by omega, by omega, by omega, ?_, ?_⟩
    · unfold snI
      rw [if_pos hok, nats_unrI, u3]
      omega
    · unfold seI
      rw [if_pos hok]
    · intro hF
      unfold scI
      rw [if_pos g]
      by_cases z2 : okN p c (k + 1) = true
      · unfold sonE at hF
        rw [if_pos g, if_pos z2] at hF
        omega
      · have : ¬ (0 ≤ k + 1 ∧ k + 1 < (cnt (p + 1).toNat c.toNat : Int)) := by simpa [okN] using z2
        omega
    · intro hF
      have z2 : okN p c (k + 1) = true := by
        by_cases z2 : okN p c (k + 1) = true
        · exact z2
        · unfold sonE at hF
          rw [if_pos g, if_neg z2] at hF
          omega
      have hz2 : 0 ≤ k + 1 ∧ k + 1 < (cnt (p + 1).toNat c.toNat : Int) := by simpa [okN] using z2
      have hY : sonL p c h s (k + 1) = unrI (p + 1).toNat (k.toNat + 1) c.toNat := by
        unfold sonL
        rw [if_pos ⟨g, z2⟩, show (k + 1).toNat = k.toNat + 1 by omega]
      have hlen2 := unrI_length (p + 1).toNat (k.toNat + 1) c.toNat (by omega)
      obtain ⟨d, hd, hpre, A, B, hA, hB, hlt⟩ := unr_next (p + 1).toNat k.toNat c.toNat (by omega)
      rw [hY]
      refine ⟨by omega, d, by omega, fun j hj => ?_, ?_⟩
      · rw [unrI_getD, unrI_getD]
        have := hpre j hj
        simp only [List.getD, this]
      · rw [unrI_getD, unrI_getD]
        simp only [List.getD, hA, hB, Option.getD_some]
        omega
theorem OSl.row {lo hi : Nat} {w : World} {a : Option Addr} {xs : List Int} (h : OSl lo hi w a xs) (hp : 0 < xs.length) : ∃ g, a = some ⟨g, 0, none⟩ ∧ Row w g xs := by
  rcases h with ⟨rfl, rfl⟩ | ⟨g, e, _, _, r⟩
  · simp at hp
  · exact ⟨g, e, r⟩
theorem bigN_any (a : Option Addr) (len cap : Nat) (w : World) :
    Calls Try.prog 39 #[.slice a len cap] w fun e w' => e = .returned (.bool (decide (4096 < (len : Int)))) ∧ w = w' := by
  go_enter Try.func39, Try.ntmps39
  go_wp2
  go_ret
  exact ⟨rfl, rfl⟩
set_option maxHeartbeats 4000000 in
theorem fnSideNumbers_walk (a : Option Addr) (len cap : Nat) (w : World) (hcode : CodeIn w.heap.size w a len) :
    Calls Try.prog 15 #[.slice a len cap] w fun e w' => e = .returned (.bool true) ∧ Below w.heap.size w w' := by
  by_cases hbig : 4096 < len
  · have f0 : decide (4096 < (len : Int)) = true := by simp; omega
    go_enter Try.func15, Try.ntmps15
    go_wp2_with fail
    refine (bigN_any _ _ _ _).mono ?_
    rintro e w1 ⟨rfl, rfl⟩
    go_wp2
    go_ret
    exact ⟨rfl, Below.refl _ _⟩
  · have f0 : decide (4096 < (len : Int)) = false := by simp; omega
    go_enter Try.func15, Try.ntmps15
    go_wp2_with fail
    refine (bigN_any _ _ _ _).mono ?_
    rintro e w0 ⟨rfl, rfl⟩
    go_wp2_with fail
    refine (drawNum_any w.heap.size a len cap w (Nat.le_refl _) (by omega) hcode).mono ?_
    rintro e w1 ⟨p, c, h, s, k, rfl, bk1, bk2, hb⟩
    clear hbig f0 hcode
    have BV := Blk.new w1 #[.int .i64 p, .int .i64 c, .int .i64 h, .int .i64 s] 26
    have hal : Below w1.heap.size w1 (w1.alloc (.cells #[.int .i64 p, .int .i64 c, .int .i64 h, .int .i64 s] 26)) := (Below.refl _ _).alloc (Nat.le_refl _) _
    replace hb := chain hb hal
    clear hal
    obtain ⟨x0, x1, x2, x3, xf, xl⟩ := BV.four
    have wk : IntKind.i64.wrap (k + 1) = k + 1 := IntWalk.i64_in _ (by omega)
    obtain ⟨X, Y, E, F, eX, eY, eE, eF, n0, y0⟩ := son_facts p c h s k
    have hS := fun W => sideOfNumber_any p c h s k W
    have hP := fun W => specSideOfNumber_any p c h s k W
    have hT := fun W => sideOfNumber_any p c h s (k + 1) W
    rw [eX, eE] at hS hP
    rw [eY, eF] at hT
    have HS := Lib.hid hS
    have HP := Lib.hid hP
    have HT := Lib.hid hT
    clear hS hP hT eX eY eE eF
    go_wp2_with fail
    generalize (w1.alloc (.cells #[.int .i64 p, .int .i64 c, .int .i64 h, .int .i64 s] 26)) = v0 at *
    refine (HS.out _).mono ?_
    rintro e w2 ⟨a1, k1, rfl, O1, hb2⟩
    clear x0 x1 x2 x3 xf xl
    replace BV := BV.below hb2
    replace hb := chain hb hb2
    clear hb2
    obtain ⟨x0, x1, x2, x3, xf, xl⟩ := BV.four
    go_wp2_with fail
    refine (HP.out _).mono ?_
    rintro e w3 ⟨a2, k2, rfl, -, hb3⟩
    clear x0 x1 x2 x3 xf xl
    replace BV := BV.below hb3
    replace O1 := O1.below hb3
    replace hb := chain hb hb3
    clear hb3
    obtain ⟨x0, x1, x2, x3, xf, xl⟩ := BV.four
    by_cases gE : E = 0
    rotate_left
    · obtain rfl := n0 gE
      have fE : (E == 0) = false := by rw [beq_eq_false_iff_ne]; exact gE
      rw [show ([] : List Int).length = 0 from rfl]
      clear n0 y0
      go_wp2_with fail
      go_ret
      exact ⟨rfl, hb⟩
    · obtain ⟨z1, z2, z3, z4, z5, z6, z7⟩ := y0 gE
      subst gE
      clear n0 y0
      have hN := fun (cap : Nat) (a : Option Addr) (W : World) (hr : IRow W a X) => sideNumber_any p c h s a X.length cap X W rfl z5 hr
      rw [z1, z2] at hN
      have HN := Lib.hid hN
      clear hN z1 z2
      have hpl : IntKind.i64.wrap (p + 1) = (X.length : Int) := by rw [z3]; exact IntWalk.i64_in _ (by omega)
      clear z3
      go_wp2_with fail
      refine (HN.out _ _ _ O1.irow).mono ?_
      rintro e w4 ⟨rfl, hb4⟩
      clear x0 x1 x2 x3 xf xl
      replace BV := BV.below hb4
      replace O1 := O1.below hb4
      replace hb := chain hb hb4
      clear hb4
      obtain ⟨x0, x1, x2, x3, xf, xl⟩ := BV.four
      go_wp2_with fail
      refine (HT.out _).mono ?_
      rintro e w5 ⟨a3, k3, rfl, O3, hb5⟩
      clear x0 x1 x2 x3 xf xl
      replace BV := BV.below hb5
      replace O1 := O1.below hb5
      replace hb := chain hb hb5
      clear hb5 hpl
      obtain ⟨x0, x1, x2, x3, xf, xl⟩ := BV.four
      by_cases gF : F = 0
      rotate_left
      · have fF : (F == 0) = false := by rw [beq_eq_false_iff_ne]; exact gF
        have hc := fun W => sideCount_any p c h s W
        rw [z6 gF] at hc
        have HC := Lib.hid hc
        clear hc z6 z7
        go_wp2_with fail
        refine (HC.out _).mono ?_
        rintro e w6 ⟨rfl, hb6⟩
        go_wp2_with fail
        go_ret
        exact ⟨rfl, chain hb hb6⟩
      · obtain ⟨hl, d, hd, hpre, hlt⟩ := z7 gF
        subst gF
        clear z6 z7 x0 x1 x2 x3 xf xl BV wk
        obtain ⟨g1, rfl, R1⟩ := O1.row z4
        obtain ⟨g3, rfl, R3⟩ := O3.row (by omega)
        clear O1 O3
        have HL := Lib.hid hl
        clear hl
        go_wp2_with fail
        go_loopg [13] d (fun m i wr => ∃ k : Nat, k ≤ d ∧ m = d - k ∧ i = .int .i64 k ∧ Below w5.heap.size w5 wr)
        case atStart => exact ⟨0, by omega, by omega, rfl, Below.refl _ _⟩
        case round =>
          obtain ⟨q, hq, hm, rfl, hbel⟩ := hrel
          have hl := HL.out
          have f1 : (q : Int) < (X.length : Int) := by omega
          have f2 : (q : Int) < (Y.length : Int) := by omega
          have f3 : (0 : Int) ≤ (q : Int) := by omega
          have c1 := (R1.below hbel).cell q (by omega)
          have c3 := (R3.below hbel).cell q (by omega)
          by_cases hqd : q < d
          · rw [← hpre q hqd] at c3
            clear hl
            go_wp2_with fail
            go_quiet (fail)
            go_wp2
            go_roundg (d - (q + 1))
            case measure => omega
            case rel => exact ⟨q + 1, by omega, rfl, by go_num, below_drewN hbel _⟩
          · obtain rfl : q = d := by omega
            obtain ⟨A, hA⟩ : ∃ A, X.getD q 0 = A := ⟨_, rfl⟩
            obtain ⟨Q, hQ⟩ : ∃ Q, Y.getD q 0 = Q := ⟨_, rfl⟩
            rw [hA] at c1 hlt
            rw [hQ] at c3 hlt
            have f4 : (A == Q) = false := by rw [beq_eq_false_iff_ne]; omega
            clear hl hA hQ
            go_wp2_with fail
            go_quiet (fail)
            go_wp2_with fail
            go_quiet (fail)
            go_wp2
            go_ret
            exact ⟨rfl, below_drewN (below_drewN (chain hb hbel) _) _⟩
set_option maxRecDepth 100000 in
theorem fnSideNumbers_lifted (os : Os) (started : os.Started) (H : Type) (enc : TypeId × Value → H) :
    ReturnsInHanded {} Try.checked os 15 .any (Rows.fnSideNumbersSpec.pre6 enc Try.prog Try.f15 Rows.fnSideNumbersRow.domain false) (Rows.fnSideNumbersSpec.post enc Try.prog Try.f15 false true false false) := by
  refine returnsInHanded_of_change (C := Try.checked) own started (by kernel_rfl) Try.func15
    (ChangeSpec.witness6 (enc := enc) (C := Try.checked) false ⟨#[], #[.slice none 0 0], []⟩ 8 (by kernel_rfl) (by kernel_rfl) (by kernel_rfl) (by kernel_rfl)) ?_
  intro W base args ds gs before hval0 hW hcnd _
  have hval : ∀ (j : Nat) t v, Try.f15.params[j]? = some t → args[j]? = some v → Value.okWide Try.prog W .any base t v := hval0
  have hW' := hW
  obtain ⟨p, q, hA0, hV, rfl, hfz, hnd⟩ := hW
  have hA : DataW.TrodAll enc Try.prog W 0 (fun _ => true) true Try.f15.params.toList args.toList ds p := hA0
  rw [Try.params15] at hA hval
  obtain ⟨v0, vs0, d0, ds0, p0, q0, hargs, rfl, rfl, h0, r0⟩ := trodAll_cons hA
  obtain ⟨rfl, rfl, rfl⟩ := trodAll_nil r0
  obtain rfl : args = #[v0] := by cases args; simp_all
  obtain ⟨rfl, rfl⟩ := trodVars_none hV
  have k0 := h0
  have lt0 : ∀ x ∈ p0, x.block < W.heap.size := by obtain ⟨m, hm⟩ := k0; exact DataW.trod_lt m _ _ _ hm
  obtain ⟨sa_0, sl_0, sc_0, rfl⟩ := okWide_slice Try.underlying50 (hval 0 50 v0 rfl rfl)
  have hcode_0 : CodeIn W.heap.size W sa_0 sl_0 := by
    obtain ⟨fuel, hf⟩ := h0
    rcases open_ints Try.underlying50 Try.underlying5 (by kernel_rfl) hf with ⟨hcs, _⟩ | ⟨x, l, c, zs, hcs, _, hl, hm, hz, _, hcell, hwz⟩
    · simp [Value.cells] at hcs
      obtain ⟨rfl, rfl, rfl⟩ := hcs
      intro i hi
      omega
    · simp [Value.cells] at hcs
      obtain ⟨rfl, rfl, rfl⟩ := hcs
      exact code_of_ints (by have hz2 := hz; simp at hz2; omega) trivial hcell hwz
  clear hA0 hval0
  refine (fnSideNumbers_walk sa_0 sl_0 sc_0 W hcode_0).mono fun e W' ⟨he, bel⟩ => ?_
  subst he
  exact ⟨_, rfl, _, _, _, [], _, [], hW', trodAll_mk1 (shut_bool Try.underlying4 _), (trodAll_cons_mk (Below.trod laidOut (by kernel_rfl) (of_decide_eq_true (by kernel_rfl)) k0 bel lt0) trodAll_mk0), rfl, bel.frame _, fun h => by cases h⟩
theorem fnSideNumbers_holds : Rows.FnSideNumbersSaid :=
  OpenClaim.holds_of_wide 15 Try.f15 rfl rfl rfl rfl rfl rfl rfl ⟨rfl, rfl, rfl, rfl, rfl⟩ rfl rfl rfl rfl rfl (by kernel_rfl) Try.func15 (by kernel_rfl)
    (of_decide_eq_true (by kernel_rfl)) (by unfold Func.isWrapper; first | (rw [if_pos (by decide +kernel)]; kernel_rfl) | (rw [if_neg (by decide +kernel)]; exact ⟨rfl, rfl⟩))
    (fun os started H enc _ => fnSideNumbers_lifted os started H enc)
end Go.Proofs.Ythnkckflajkaiaa
