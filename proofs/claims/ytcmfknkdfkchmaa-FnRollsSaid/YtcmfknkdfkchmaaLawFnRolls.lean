/- The law of chapter 7 on the numbers and weights of rolls holds: for every code the law returns true and the code reads behind the call as it read before. No conditions. -/
import Derived.Test.Ytcmfknkdfkchmaa07c
import Derived.Test.YtcmfknkdfkchmaaDraw07
import Derived.Test.YtcmfknkdfkchmaaL01b
import Derived.Test.YtcmfknkdfkchmaaRows
import Derived.ChangeOld
namespace Go.Proofs.Ytcmfknkdfkchmaa
open Go.ChangeMaps (open_string shut_string)
open Go.ChangeShapes Go.WideShapes Go.ChangeAt Go.RowKit
set_option linter.unusedVariables false
set_option linter.unusedSimpArgs false

theorem code_of_ints {w : World} {x : Addr} {len : Nat} {zs : List Int} (hl : len ≤ zs.length) (_hz : True) (hcell : ∀ i, i < zs.length → w.cell? (x.add i) = some (.int .u8 (zs.getD i 0))) (hwz : ∀ n ∈ zs, (Lit.int .u8 n).wf = true) : CodeIn w.heap.size w (some x) len := by
  intro i hi
  obtain ⟨b, o, spot⟩ := x
  have hc := hcell i (by omega)
  have hspot : spot = none := by
    have hc0 := hcell 0 (by omega)
    simpa [Addr.add] using World.cell?_spot hc0
  subst hspot
  rw [show (⟨b, o, none⟩ : Addr).add i = ⟨b, o + i, none⟩ from by unfold Addr.add; split <;> simp_all] at hc
  have hm : zs.getD i 0 ∈ zs := by
    have : i < zs.length := by omega
    simp [List.getD, this]
  have hw := hwz _ hm
  have hr : 0 ≤ zs.getD i 0 ∧ zs.getD i 0 ≤ 255 := by simpa [Lit.wf, IntKind.min, IntKind.max, IntKind.signed, IntKind.bits] using hw
  exact ⟨b, o, zs.getD i 0, rfl, World.block_lt_of_cell? w _ hc, hc, hr.1, hr.2⟩
theorem bigR_any (a : Option Addr) (len cap : Nat) (w : World) :
    Calls Try.prog 15 #[.slice a len cap] w fun e w' => e = .returned (.bool (decide (4096 < (len : Int)))) ∧ w = w' := by
  go_enter Try.func15, Try.ntmps15
  go_wp2
  go_ret
  exact ⟨rfl, rfl⟩
theorem arL_facts {p c h s fa fb : Int} {k : Nat} (hk : (arL p c h s)[k]? = some (fa, fb)) : rnI p c h s fa fb = (k : Int) ∧ ruB p c h s fa fb = true ∧ rwI p c h s fa fb = wgR (fa, fb) := by
  have hn := arL_found hk
  have hu : ruB p c h s fa fb = true := by
    cases g : ruB p c h s fa fb with
    | true => rfl
    | false =>
      exfalso
      unfold rnI at hn
      rw [g, if_neg (by simp)] at hn
      omega
  refine ⟨hn, hu, ?_⟩
  unfold rwI wgR
  rw [if_pos hu]
set_option maxRecDepth 8000 in
set_option maxHeartbeats 4000000 in
theorem fnRolls_walk (a : Option Addr) (len cap : Nat) (w : World) (hcode : CodeIn w.heap.size w a len) :
    Calls Try.prog 3 #[.slice a len cap] w fun e w' => e = .returned (.bool true) ∧ Below w.heap.size w w' := by
  by_cases hbig : 4096 < len
  · have f0 : decide (4096 < (len : Int)) = true := by simp; omega
    go_enter Try.func3, Try.ntmps3
    go_wp2_with fail
    refine (bigR_any _ _ _ _).mono ?_
    rintro e w1 ⟨rfl, rfl⟩
    go_wp2
    go_ret
    exact ⟨rfl, Below.refl _ _⟩
  · have f0 : decide (4096 < (len : Int)) = false := by simp; omega
    go_enter Try.func3, Try.ntmps3
    go_wp2_with fail
    refine (bigR_any _ _ _ _).mono ?_
    rintro e w0 ⟨rfl, rfl⟩
    go_wp2_with fail
    refine (drawVar07_any w.heap.size a len cap w (Nat.le_refl _) (by omega) hcode).mono ?_
    rintro e w1 ⟨p, c, h, s, rfl, hb⟩
    clear hbig f0 hcode
    have BV := Blk.new w1 #[.int .i64 p, .int .i64 c, .int .i64 h, .int .i64 s] 25
    replace hb := chain_alloc hb (.cells #[.int .i64 p, .int .i64 c, .int .i64 h, .int .i64 s] 25)
    have hL36 := arL_length p c h s
    have hfa := fun (k : Nat) (fa fb : Int) hk => arL_facts (p := p) (c := c) (h := h) (s := s) (fa := fa) (fb := fb) (k := k) hk
    have har := fun W => allRolls_any p c h s W
    have hiv := fun W => specIsVariant_any p c h s W
    have hrk := fun W => rollKinds_any p c h s W
    have hrt := fun W => rollTotal_any p c h s W
    obtain ⟨x0, x1, x2, x3, xf, xl⟩ := BV.four
    cases g : vB p c h s with
    | false =>
      have eL : arL p c h s = [] := by unfold arL; rw [g, if_neg (by simp)]
      have eK : rkI p c h s = -1 := by unfold rkI; rw [g, if_neg (by simp)]
      rw [eL] at har
      rw [g] at hiv
      rw [eK] at hrk
      have HAR := Lib.hid har
      have HIV := Lib.hid hiv
      have HRK := Lib.hid hrk
      clear har hiv hrk hrt hfa hL36 eL eK g
      go_wp2_with fail
      clear x0 x1 x2 x3 xf xl
      generalize (w1.alloc (.cells #[.int .i64 p, .int .i64 c, .int .i64 h, .int .i64 s] 25)) = v0 at *
      refine (HAR.out _).mono ?_
      rintro e w2 ⟨aL, kL, rfl, hO, hb2⟩
      replace BV := BV.below hb2
      replace hb := chain hb hb2
      clear hb2
      obtain ⟨x0, x1, x2, x3, xf, xl⟩ := BV.four
      go_wp2_with fail
      clear x0 x1 x2 x3 xf xl
      refine (HIV.out _).mono ?_
      rintro e w3 ⟨rfl, hb3⟩
      replace BV := BV.below hb3
      replace hb := chain hb hb3
      clear hb3
      obtain ⟨x0, x1, x2, x3, xf, xl⟩ := BV.four
      go_wp2_with (go_at_call 19; refine (HRK.out _).mono ?_; rintro e w4 ⟨rfl, hb4⟩)
      go_ret
      exact ⟨rfl, chain hb hb4⟩
    | true =>
      have hs := vB_sides g
      obtain ⟨T, hT⟩ : ∃ T, s * s = T := ⟨_, rfl⟩
      have eT : rtI p c h s = T := by unfold rtI; rw [if_pos g, hT]
      have hsum : wgTo (arL p c h s) (arL p c h s).length = T := by
        obtain ⟨S, rfl⟩ := Int.eq_ofNat_of_zero_le (by omega : 0 ≤ s)
        unfold arL
        rw [if_pos g, show ((S : Int)).toNat = S by simp, wgTo_all S (by omega), hT]
      have hK : rkI p c h s = ((arL p c h s).length : Int) := by
        obtain ⟨S, rfl⟩ := Int.eq_ofNat_of_zero_le (by omega : 0 ≤ s)
        have h2 := rollsTo_len2 S
        unfold rkI arL
        rw [if_pos g, if_pos g, show ((S : Int)).toNat = S by simp]
        have : (S : Int) * ((S : Int) + 1) = 2 * ((rollsTo S).length : Int) := by
          have := congrArg (fun (n : Nat) => (n : Int)) h2
          simp only [Int.natCast_mul, Int.natCast_add] at this
          exact this.symm
        omega
      have wT : IntKind.i64.wrap (s * s) = T := by
        rw [hT]
        refine IntWalk.i64_in _ ?_
        have : s = 1 ∨ s = 2 ∨ s = 3 ∨ s = 4 ∨ s = 5 ∨ s = 6 := by omega
        rcases this with rfl | rfl | rfl | rfl | rfl | rfl <;> omega
      have hwt := fun (k : Nat) (r : Rl) hk => wgTo_succ (arL p c h s) k r hk
      have hbd := fun k => wgTo_bound (arL p c h s) k
      have h0 := wgTo_zero (arL p c h s)
      rw [g] at hiv
      rw [eT] at hrt
      rw [hK] at hrk
      obtain ⟨L, hL⟩ : ∃ L, arL p c h s = L := ⟨_, rfl⟩
      rw [hL] at har hrk hL36 hsum hwt hbd h0
      rw [hL] at hfa
      have hcn := fun (fa fb : Int) W => rollNumber_any p c h s fa fb W
      have hci := fun (fa fb : Int) W => implIsRoll_any p c h s fa fb W
      have hcw := fun (fa fb : Int) W => rollWeight_any p c h s fa fb W
      have HAR := Lib.hid har
      have HIV := Lib.hid hiv
      have HRK := Lib.hid hrk
      have HRT := Lib.hid hrt
      have HFA := Lib.hid hfa
      have HWT := Lib.hid hwt
      have HBD := Lib.hid hbd
      have HSUM := Lib.hid hsum
      have HCN := Lib.hid hcn
      have HCI := Lib.hid hci
      have HCW := Lib.hid hcw
      have H0 := Lib.hid h0
      clear har hiv hrk hrt hfa hwt hbd hsum hcn hci hcw h0 hL hK eT hT g hs
      go_wp2_with fail
      clear x0 x1 x2 x3 xf xl
      generalize (w1.alloc (.cells #[.int .i64 p, .int .i64 c, .int .i64 h, .int .i64 s] 25)) = v0 at *
      refine (HAR.out _).mono ?_
      rintro e w2 ⟨aL, kL, rfl, hO, hb2⟩
      replace BV := BV.below hb2
      replace hb := chain hb hb2
      clear hb2
      obtain ⟨x0, x1, x2, x3, xf, xl⟩ := BV.four
      go_wp2_with fail
      clear x0 x1 x2 x3 xf xl
      refine (HIV.out _).mono ?_
      rintro e w3 ⟨rfl, hb3⟩
      replace BV := BV.below hb3
      replace hO := hO.below hb3
      replace hb := chain hb hb3
      clear hb3
      obtain ⟨x0, x1, x2, x3, xf, xl⟩ := BV.four
      go_wp2_with fail
      clear x0 x1 x2 x3 xf xl
      go_loopg [5, 6] L.length (fun m q5 q6 wr => ∃ k : Nat, k ≤ L.length ∧ m = L.length - k ∧ q5 = .int .i64 (wgTo L k) ∧ q6 = .int .i64 (k : Int) ∧ Below w.heap.size w wr ∧ Blk wr w1.heap.size #[.int .i64 p, .int .i64 c, .int .i64 h, .int .i64 s] 25 ∧ ORl v0.heap.size w2.heap.size wr aL L)
      case atStart => exact ⟨0, by omega, by omega, by rw [H0.out], rfl, hb, BV, hO⟩
      case round =>
        clear hb BV hO
        obtain ⟨k, hk, hm, rfl, rfl, hbw, BV, hO⟩ := hrel
        by_cases hlt : k < L.length
        · have hlt' : (k : Int) < (L.length : Int) := by omega
          have hk0 : (0 : Int) ≤ (k : Int) := by omega
          obtain ⟨r, hr⟩ : ∃ r, L[k]? = some r := ⟨_, List.getElem?_eq_getElem hlt⟩
          obtain ⟨fa, fb⟩ := r
          obtain ⟨e1, e2, e3⟩ := HFA.out k fa fb hr
          have hn := fun W => HCN.out fa fb W
          have hi := fun W => HCI.out fa fb W
          have hw := fun W => HCW.out fa fb W
          rw [e1] at hn
          rw [e2] at hi
          rw [e3] at hw
          have hsu := HWT.out k (fa, fb) hr
          obtain ⟨b1, b2⟩ := HBD.out k
          obtain ⟨D, hD⟩ : ∃ D, wgTo L k = D := ⟨_, rfl⟩
          obtain ⟨U, hU⟩ : ∃ U, wgR (fa, fb) = U := ⟨_, rfl⟩
          have hU2 : 0 ≤ U ∧ U ≤ 2 := by rw [← hU]; unfold wgR; split <;> omega
          obtain ⟨U0, U1⟩ := hU2
          rw [hD] at hsu b1 b2
          rw [hU] at hw hsu
          rw [hD]
          have HN := Lib.hid hn
          have HI := Lib.hid hi
          have HW := Lib.hid hw
          have HSU := Lib.hid hsu
          have b3 : D ≤ 72 := by omega
          have hrow := hO.row hlt
          obtain ⟨gL, rfl, RL⟩ := hrow
          obtain ⟨u0, u1⟩ := RL.two k _ hr
          have rf := fun i => RL.free i
          have rl := RL.lt
          dsimp only at u0 u1
          clear hn hi hw hsu hD hU e1 e2 e3 hr b2 RL rf rl
          obtain ⟨x0, x1, x2, x3, xf, xl⟩ := BV.four
          go_wp2_with fail
          clear x0 x1 x2 x3 xf xl
          have hd_ : wr.drew.heap.size = wr.heap.size := rfl
          replace BV := BV.drew
          replace hO := hO.drew
          replace hbw := hbw.drew
          replace u0 := CellIs.drew u0
          replace u1 := CellIs.drew u1
          refine wp_region_held_drew (S := fun w' => w'.cell? ⟨w1.heap.size, 0, none⟩ = some (.int .i64 p) ∧ w'.cell? ⟨w1.heap.size, 1, none⟩ = some (.int .i64 c) ∧ w'.cell? ⟨w1.heap.size, 2, none⟩ = some (.int .i64 h) ∧ w'.cell? ⟨w1.heap.size, 3, none⟩ = some (.int .i64 s) ∧ w'.cell? ⟨gL, k * 2, none⟩ = some (.int .i64 fa) ∧ w'.cell? ⟨gL, k * 2 + 1, none⟩ = some (.int .i64 fb)) (by kernel_rfl) ⟨BV.four.1, BV.four.2.1, BV.four.2.2.1, BV.four.2.2.2.1, u0, u1⟩ (fun hHeld => ?_)
          clear hHeld
          generalize wr.drew = vd at *
          have hHeld : vd.cell? ⟨w1.heap.size, 0, none⟩ = some (.int .i64 p) ∧ vd.cell? ⟨w1.heap.size, 1, none⟩ = some (.int .i64 c) ∧ vd.cell? ⟨w1.heap.size, 2, none⟩ = some (.int .i64 h) ∧ vd.cell? ⟨w1.heap.size, 3, none⟩ = some (.int .i64 s) ∧ vd.cell? ⟨gL, k * 2, none⟩ = some (.int .i64 fa) ∧ vd.cell? ⟨gL, k * 2 + 1, none⟩ = some (.int .i64 fb) := ⟨BV.four.1, BV.four.2.1, BV.four.2.2.1, BV.four.2.2.2.1, u0, u1⟩
          refine wpAnyH_take (i := 0) (oi := { dst := some 30, op := _, type := _, pos := _, after := _, guard := _ }) (v := ?_) rfl (by kernel_rfl) (by kernel_rfl) (by kernel_rfl) (fun _ _ _ h => h) (Or.inl ⟨by rfl, ?_⟩) (by assumption) ?_
          rotate_left
          · intro w hSw
            (try dsimp only at hSw)
            go_simp
            (try (with_reducible rfl))
          try simp only [Act.put, List.setIfInBounds_toArray, List.set_cons_zero, List.set_cons_succ]
          refine wpAnyH_take (i := 1) (oi := { dst := some 31, op := _, type := _, pos := _, after := _, guard := _ }) (v := ?_) rfl (by kernel_rfl) (by kernel_rfl) (by kernel_rfl) (fun _ _ _ h => h) (Or.inl ⟨by rfl, ?_⟩) (by assumption) ?_
          rotate_left
          · intro w hSw
            (try dsimp only at hSw)
            go_simp
            (try (with_reducible rfl))
          try simp only [Act.put, List.setIfInBounds_toArray, List.set_cons_zero, List.set_cons_succ]
          refine wpAnyH_take (i := 2) (oi := { dst := some 32, op := _, type := _, pos := _, after := _, guard := _ }) (v := ?_) rfl (by kernel_rfl) (by kernel_rfl) (by kernel_rfl) (fun _ _ _ h => h) (Or.inl ⟨by rfl, ?_⟩) (by assumption) ?_
          rotate_left
          · intro w hSw
            (try dsimp only at hSw)
            go_simp
            (try (with_reducible rfl))
          try simp only [Act.put, List.setIfInBounds_toArray, List.set_cons_zero, List.set_cons_succ]
          refine wpAnyH_take (i := 3) (oi := { dst := some 33, op := _, type := _, pos := _, after := _, guard := _ }) (v := ?_) rfl (by kernel_rfl) (by kernel_rfl) (by kernel_rfl) (fun _ _ _ h => h) (Or.inl ⟨by rfl, ?_⟩) (by assumption) ?_
          rotate_left
          · intro w hSw
            (try dsimp only at hSw)
            go_simp
            (try (with_reducible rfl))
          try simp only [Act.put, List.setIfInBounds_toArray, List.set_cons_zero, List.set_cons_succ]
          refine wpAnyH_take (i := 4) (oi := { dst := some 34, op := _, type := _, pos := _, after := _, guard := _ }) (v := ?_) rfl (by kernel_rfl) (by kernel_rfl) (by kernel_rfl) (fun _ _ _ h => h) (Or.inl ⟨by rfl, ?_⟩) (by assumption) ?_
          rotate_left
          · intro w hSw
            (try dsimp only at hSw)
            go_simp
            (try (with_reducible rfl))
          try simp only [Act.put, List.setIfInBounds_toArray, List.set_cons_zero, List.set_cons_succ]
          refine wpAnyH_take (i := 6) (oi := { dst := some 36, op := _, type := _, pos := _, after := _, guard := _ }) (v := ?_) rfl (by kernel_rfl) (by kernel_rfl) (by kernel_rfl) (fun _ _ _ h => h) (Or.inl ⟨by rfl, ?_⟩) (by assumption) ?_
          rotate_left
          · intro w hSw
            (try dsimp only at hSw)
            go_simp
            (try (with_reducible rfl))
          try simp only [Act.put, List.setIfInBounds_toArray, List.set_cons_zero, List.set_cons_succ]
          refine wpAnyH_ready (rs := [5]) (by kernel_rfl) (by simp) ?_
          refine AllReadyH.cons (o := { dst := some 35, op := _, type := _, pos := _, after := _, guard := _ }) rfl (fun K hK => ?_) AllReadyH.nil
          go_simp
          refine (HN.out _).mono ?_
          rintro e wA ⟨rfl, hqA⟩
          replace BV := BV.below hqA
          replace hO := hO.below hqA
          replace hbw := chain hbw hqA
          replace u0 := CellIs.below u0 hqA
          replace u1 := CellIs.below u1 hqA
          (try go_wp2_with fail)
          refine hK.out _ _ ⟨BV.four.1, BV.four.2.1, BV.four.2.2.1, BV.four.2.2.2.1, u0, u1⟩ (fun hHeld => ?_)
          clear hK K
          try simp only [Act.put, List.setIfInBounds_toArray, List.set_cons_zero, List.set_cons_succ]
          refine wpAnyH_take (i := 7) (oi := { dst := some 37, op := _, type := _, pos := _, after := _, guard := _ }) (v := ?_) rfl (by kernel_rfl) (by kernel_rfl) (by kernel_rfl) (fun _ _ _ h => h) (Or.inl ⟨by rfl, ?_⟩) (by assumption) ?_
          rotate_left
          · intro w hSw
            (try dsimp only at hSw)
            go_simp
            (try (with_reducible rfl))
          try simp only [Act.put, List.setIfInBounds_toArray, List.set_cons_zero, List.set_cons_succ]
          refine wpAnyH_take (i := 8) (oi := { dst := some 38, op := _, type := _, pos := _, after := _, guard := _ }) (v := ?_) rfl (by kernel_rfl) (by kernel_rfl) (by kernel_rfl) (fun _ _ _ h => h) (Or.inl ⟨by rfl, ?_⟩) (by assumption) ?_
          rotate_left
          · intro w hSw
            (try dsimp only at hSw)
            go_simp
            (try (with_reducible rfl))
          try simp only [Act.put, List.setIfInBounds_toArray, List.set_cons_zero, List.set_cons_succ]
          refine wpAnyH_take (i := 9) (oi := { dst := some 39, op := _, type := _, pos := _, after := _, guard := _ }) (v := ?_) rfl (by kernel_rfl) (by kernel_rfl) (by kernel_rfl) (fun _ _ _ h => h) (Or.inl ⟨by rfl, ?_⟩) (by assumption) ?_
          rotate_left
          · intro w hSw
            (try dsimp only at hSw)
            go_simp
            (try (with_reducible rfl))
          try simp only [Act.put, List.setIfInBounds_toArray, List.set_cons_zero, List.set_cons_succ]
          refine wpAnyH_take (i := 10) (oi := { dst := some 40, op := _, type := _, pos := _, after := _, guard := _ }) (v := ?_) rfl (by kernel_rfl) (by kernel_rfl) (by kernel_rfl) (fun _ _ _ h => h) (Or.inl ⟨by rfl, ?_⟩) (by assumption) ?_
          rotate_left
          · intro w hSw
            (try dsimp only at hSw)
            go_simp
            (try (with_reducible rfl))
          try simp only [Act.put, List.setIfInBounds_toArray, List.set_cons_zero, List.set_cons_succ]
          refine wpAnyH_take (i := 11) (oi := { dst := some 41, op := _, type := _, pos := _, after := _, guard := _ }) (v := ?_) rfl (by kernel_rfl) (by kernel_rfl) (by kernel_rfl) (fun _ _ _ h => h) (Or.inl ⟨by rfl, ?_⟩) (by assumption) ?_
          rotate_left
          · intro w hSw
            (try dsimp only at hSw)
            go_simp
            (try (with_reducible rfl))
          try simp only [Act.put, List.setIfInBounds_toArray, List.set_cons_zero, List.set_cons_succ]
          refine wpAnyH_take (i := 12) (oi := { dst := some 42, op := _, type := _, pos := _, after := _, guard := _ }) (v := ?_) rfl (by kernel_rfl) (by kernel_rfl) (by kernel_rfl) (fun _ _ _ h => h) (Or.inl ⟨by rfl, ?_⟩) (by assumption) ?_
          rotate_left
          · intro w hSw
            (try dsimp only at hSw)
            go_simp
            (try (with_reducible rfl))
          try simp only [Act.put, List.setIfInBounds_toArray, List.set_cons_zero, List.set_cons_succ]
          refine wpAnyH_take (i := 13) (oi := { dst := some 43, op := _, type := _, pos := _, after := _, guard := _ }) (v := ?_) rfl (by kernel_rfl) (by kernel_rfl) (by kernel_rfl) (fun _ _ _ h => h) (Or.inl ⟨by rfl, ?_⟩) (by assumption) ?_
          rotate_left
          · intro w hSw
            (try dsimp only at hSw)
            go_simp
            (try (with_reducible rfl))
          try simp only [Act.put, List.setIfInBounds_toArray, List.set_cons_zero, List.set_cons_succ]
          refine wpAnyH_ready (rs := [14]) (by kernel_rfl) (by simp) ?_
          refine AllReadyH.cons (o := { dst := some 44, op := _, type := _, pos := _, after := _, guard := _ }) rfl (fun K hK => ?_) AllReadyH.nil
          go_simp
          refine (HI.out _).mono ?_
          rintro e wB ⟨rfl, hqB⟩
          replace BV := BV.below hqB
          replace hO := hO.below hqB
          replace hbw := chain hbw hqB
          replace u0 := CellIs.below u0 hqB
          replace u1 := CellIs.below u1 hqB
          (try go_wp2_with fail)
          refine hK.out _ _ ⟨BV.four.1, BV.four.2.1, BV.four.2.2.1, BV.four.2.2.2.1, u0, u1⟩ (fun hHeld => ?_)
          clear hK K
          try simp only [Act.put, List.setIfInBounds_toArray, List.set_cons_zero, List.set_cons_succ]
          refine wpAnyH_take (i := 15) (oi := { dst := some 45, op := _, type := _, pos := _, after := _, guard := _ }) (v := ?_) rfl (by kernel_rfl) (by kernel_rfl) (by kernel_rfl) (fun _ _ _ h => h) (Or.inl ⟨by rfl, ?_⟩) (by assumption) ?_
          rotate_left
          · intro w hSw
            (try dsimp only at hSw)
            go_simp
            (try (with_reducible rfl))
          try simp only [Act.put, List.setIfInBounds_toArray, List.set_cons_zero, List.set_cons_succ]
          refine wpAnyH_take (i := 16) (oi := { dst := some 46, op := _, type := _, pos := _, after := _, guard := _ }) (v := ?_) rfl (by kernel_rfl) (by kernel_rfl) (by kernel_rfl) (fun _ _ _ h => h) (Or.inl ⟨by rfl, ?_⟩) (by assumption) ?_
          rotate_left
          · intro w hSw
            (try dsimp only at hSw)
            go_simp
            (try (with_reducible rfl))
          try simp only [Act.put, List.setIfInBounds_toArray, List.set_cons_zero, List.set_cons_succ]
          refine wpAnyH_done (by kernel_rfl) ?_ _
          clear hHeld
          obtain ⟨x0, x1, x2, x3, xf, xl⟩ := BV.four
          go_wp2_with fail
          clear x0 x1 x2 x3 xf xl
          have hd_ : wB.drew.heap.size = wB.heap.size := rfl
          replace BV := BV.drew
          replace hO := hO.drew
          replace hbw := hbw.drew
          replace u0 := CellIs.drew u0
          replace u1 := CellIs.drew u1
          refine wp_region_held_drew (S := fun w' => w'.cell? ⟨w1.heap.size, 0, none⟩ = some (.int .i64 p) ∧ w'.cell? ⟨w1.heap.size, 1, none⟩ = some (.int .i64 c) ∧ w'.cell? ⟨w1.heap.size, 2, none⟩ = some (.int .i64 h) ∧ w'.cell? ⟨w1.heap.size, 3, none⟩ = some (.int .i64 s) ∧ w'.cell? ⟨gL, k * 2, none⟩ = some (.int .i64 fa) ∧ w'.cell? ⟨gL, k * 2 + 1, none⟩ = some (.int .i64 fb)) (by kernel_rfl) ⟨BV.four.1, BV.four.2.1, BV.four.2.2.1, BV.four.2.2.2.1, u0, u1⟩ (fun hHeld => ?_)
          clear hHeld
          generalize wB.drew = ve at *
          have hHeld : ve.cell? ⟨w1.heap.size, 0, none⟩ = some (.int .i64 p) ∧ ve.cell? ⟨w1.heap.size, 1, none⟩ = some (.int .i64 c) ∧ ve.cell? ⟨w1.heap.size, 2, none⟩ = some (.int .i64 h) ∧ ve.cell? ⟨w1.heap.size, 3, none⟩ = some (.int .i64 s) ∧ ve.cell? ⟨gL, k * 2, none⟩ = some (.int .i64 fa) ∧ ve.cell? ⟨gL, k * 2 + 1, none⟩ = some (.int .i64 fb) := ⟨BV.four.1, BV.four.2.1, BV.four.2.2.1, BV.four.2.2.2.1, u0, u1⟩
          refine wpAnyH_take (i := 0) (oi := { dst := some 47, op := _, type := _, pos := _, after := _, guard := _ }) (v := ?_) rfl (by kernel_rfl) (by kernel_rfl) (by kernel_rfl) (fun _ _ _ h => h) (Or.inl ⟨by rfl, ?_⟩) (by assumption) ?_
          rotate_left
          · intro w hSw
            (try dsimp only at hSw)
            go_simp
            (try (with_reducible rfl))
          try simp only [Act.put, List.setIfInBounds_toArray, List.set_cons_zero, List.set_cons_succ]
          refine wpAnyH_take (i := 1) (oi := { dst := some 48, op := _, type := _, pos := _, after := _, guard := _ }) (v := ?_) rfl (by kernel_rfl) (by kernel_rfl) (by kernel_rfl) (fun _ _ _ h => h) (Or.inl ⟨by rfl, ?_⟩) (by assumption) ?_
          rotate_left
          · intro w hSw
            (try dsimp only at hSw)
            go_simp
            (try (with_reducible rfl))
          try simp only [Act.put, List.setIfInBounds_toArray, List.set_cons_zero, List.set_cons_succ]
          refine wpAnyH_take (i := 2) (oi := { dst := some 49, op := _, type := _, pos := _, after := _, guard := _ }) (v := ?_) rfl (by kernel_rfl) (by kernel_rfl) (by kernel_rfl) (fun _ _ _ h => h) (Or.inl ⟨by rfl, ?_⟩) (by assumption) ?_
          rotate_left
          · intro w hSw
            (try dsimp only at hSw)
            go_simp
            (try (with_reducible rfl))
          try simp only [Act.put, List.setIfInBounds_toArray, List.set_cons_zero, List.set_cons_succ]
          refine wpAnyH_take (i := 3) (oi := { dst := some 50, op := _, type := _, pos := _, after := _, guard := _ }) (v := ?_) rfl (by kernel_rfl) (by kernel_rfl) (by kernel_rfl) (fun _ _ _ h => h) (Or.inl ⟨by rfl, ?_⟩) (by assumption) ?_
          rotate_left
          · intro w hSw
            (try dsimp only at hSw)
            go_simp
            (try (with_reducible rfl))
          try simp only [Act.put, List.setIfInBounds_toArray, List.set_cons_zero, List.set_cons_succ]
          refine wpAnyH_take (i := 4) (oi := { dst := some 51, op := _, type := _, pos := _, after := _, guard := _ }) (v := ?_) rfl (by kernel_rfl) (by kernel_rfl) (by kernel_rfl) (fun _ _ _ h => h) (Or.inl ⟨by rfl, ?_⟩) (by assumption) ?_
          rotate_left
          · intro w hSw
            (try dsimp only at hSw)
            go_simp
            (try (with_reducible rfl))
          try simp only [Act.put, List.setIfInBounds_toArray, List.set_cons_zero, List.set_cons_succ]
          refine wpAnyH_take (i := 5) (oi := { dst := some 52, op := _, type := _, pos := _, after := _, guard := _ }) (v := ?_) rfl (by kernel_rfl) (by kernel_rfl) (by kernel_rfl) (fun _ _ _ h => h) (Or.inl ⟨by rfl, ?_⟩) (by assumption) ?_
          rotate_left
          · intro w hSw
            (try dsimp only at hSw)
            go_simp
            (try (with_reducible rfl))
          try simp only [Act.put, List.setIfInBounds_toArray, List.set_cons_zero, List.set_cons_succ]
          refine wpAnyH_ready (rs := [6]) (by kernel_rfl) (by simp) ?_
          refine AllReadyH.cons (o := { dst := some 53, op := _, type := _, pos := _, after := _, guard := _ }) rfl (fun K hK => ?_) AllReadyH.nil
          go_simp
          refine (HW.out _).mono ?_
          rintro e wC ⟨rfl, hqC⟩
          replace BV := BV.below hqC
          replace hO := hO.below hqC
          replace hbw := chain hbw hqC
          replace u0 := CellIs.below u0 hqC
          replace u1 := CellIs.below u1 hqC
          (try go_wp2_with fail)
          refine hK.out _ _ ⟨BV.four.1, BV.four.2.1, BV.four.2.2.1, BV.four.2.2.2.1, u0, u1⟩ (fun hHeld => ?_)
          clear hK K
          try simp only [Act.put, List.setIfInBounds_toArray, List.set_cons_zero, List.set_cons_succ]
          refine wpAnyH_take (i := 7) (oi := { dst := some 54, op := _, type := _, pos := _, after := _, guard := _ }) (v := ?_) rfl (by kernel_rfl) (by kernel_rfl) (by kernel_rfl) (fun _ _ _ h => h) (Or.inl ⟨by rfl, ?_⟩) (by assumption) ?_
          rotate_left
          · intro w hSw
            (try dsimp only at hSw)
            go_simp
            (try (with_reducible rfl))
          try simp only [Act.put, List.setIfInBounds_toArray, List.set_cons_zero, List.set_cons_succ]
          refine wpAnyH_take (i := 8) (oi := { dst := some 5, op := _, type := _, pos := _, after := _, guard := _ }) (v := ?_) rfl (by kernel_rfl) (by kernel_rfl) (by kernel_rfl) (fun _ _ _ h => h) (Or.inl ⟨by rfl, ?_⟩) (by assumption) ?_
          rotate_left
          · intro w hSw
            (try dsimp only at hSw)
            go_simp
            (try (with_reducible rfl))
          try simp only [Act.put, List.setIfInBounds_toArray, List.set_cons_zero, List.set_cons_succ]
          refine wpAnyH_done (by kernel_rfl) ?_ _
          clear hHeld
          obtain ⟨x0, x1, x2, x3, xf, xl⟩ := BV.four
          go_wp2
          go_roundg (L.length - (k + 1))
          case measure => omega
          case rel => exact ⟨k + 1, by omega, rfl, by rw [HSU.out, IntWalk.i64_in _ (by omega)], by go_num, hbw, BV, hO⟩
        · obtain rfl : k = L.length := by omega
          have hsu := HSUM.out
          obtain ⟨b1, b2⟩ := HBD.out L.length
          rw [hsu]
          rw [hsu] at b1 b2
          clear hsu
          obtain ⟨x0, x1, x2, x3, xf, xl⟩ := BV.four
          go_wp2_with (first | (go_at_call 23; refine (HRT.out _).mono ?_; clear HRT; rintro e w4 ⟨rfl, hb4⟩; obtain ⟨x0, x1, x2, x3, xf, xl⟩ := (BV.below hb4).four) | (go_at_call 19; refine (HRK.out _).mono ?_; clear HRK; rintro e w5 ⟨rfl, hb5⟩))
          go_ret
          exact ⟨by simp, chain (chain hbw hb4) hb5⟩
set_option maxRecDepth 100000 in
theorem fnRolls_lifted (os : Os) (started : os.Started) (H : Type) (enc : TypeId × Value → H) :
    ReturnsInHanded {} Try.checked os 3 .any (Rows.fnRollsSpec.pre6 enc Try.prog Try.f3 Rows.fnRollsRow.domain false) (Rows.fnRollsSpec.post enc Try.prog Try.f3 false true false false) := by
  refine returnsInHanded_of_change (C := Try.checked) own started (by kernel_rfl) Try.func3
    (ChangeSpec.witness6 (enc := enc) (C := Try.checked) false ⟨#[], #[.slice none 0 0], []⟩ 8 (by kernel_rfl) (by kernel_rfl) (by kernel_rfl) (by kernel_rfl)) ?_
  intro W base args ds gs before hval0 hW hcnd _
  have hval : ∀ (j : Nat) t v, Try.f3.params[j]? = some t → args[j]? = some v → Value.okWide Try.prog W .any base t v := hval0
  have hW' := hW
  obtain ⟨p, q, hA0, hV, rfl, hfz, hnd⟩ := hW
  have hA : DataW.TrodAll enc Try.prog W 0 (fun _ => true) true Try.f3.params.toList args.toList ds p := hA0
  rw [Try.params3] at hA hval
  obtain ⟨v0, vs0, d0, ds0, p0, q0, hargs, rfl, rfl, h0, r0⟩ := trodAll_cons hA
  obtain ⟨rfl, rfl, rfl⟩ := trodAll_nil r0
  obtain rfl : args = #[v0] := by cases args; simp_all
  obtain ⟨rfl, rfl⟩ := trodVars_none hV
  have k0 := h0
  have lt0 : ∀ x ∈ p0, x.block < W.heap.size := by obtain ⟨m, hm⟩ := k0; exact DataW.trod_lt m _ _ _ hm
  obtain ⟨sa_0, sl_0, sc_0, rfl⟩ := okWide_slice Try.underlying22 (hval 0 22 v0 rfl rfl)
  have hcode_0 : CodeIn W.heap.size W sa_0 sl_0 := by
    obtain ⟨fuel, hf⟩ := h0
    rcases open_ints Try.underlying22 Try.underlying5 (by kernel_rfl) hf with ⟨hcs, _⟩ | ⟨x, l, c, zs, hcs, _, hl, hm, hz, _, hcell, hwz⟩
    · simp [Value.cells] at hcs
      obtain ⟨rfl, rfl, rfl⟩ := hcs
      intro i hi
      omega
    · simp [Value.cells] at hcs
      obtain ⟨rfl, rfl, rfl⟩ := hcs
      exact code_of_ints (by have hz2 := hz; simp at hz2; omega) trivial hcell hwz
  clear hA0 hval0
  refine (fnRolls_walk sa_0 sl_0 sc_0 W hcode_0).mono fun e W' ⟨he, bel⟩ => ?_
  subst he
  exact ⟨_, rfl, _, _, _, [], _, [], hW', trodAll_mk1 (shut_bool Try.underlying4 _), (trodAll_cons_mk (Below.trod laidOut (by kernel_rfl) (of_decide_eq_true (by kernel_rfl)) k0 bel lt0) trodAll_mk0), rfl, bel.frame _, fun h => by cases h⟩
theorem fnRolls_holds : Rows.FnRollsSaid :=
  OpenClaim.holds_of_wide 3 Try.f3 rfl rfl rfl rfl rfl rfl rfl ⟨rfl, rfl, rfl, rfl, rfl⟩ rfl rfl rfl rfl rfl (by kernel_rfl) Try.func3 (by kernel_rfl)
    (of_decide_eq_true (by kernel_rfl)) (by unfold Func.isWrapper; first | (rw [if_pos (by decide +kernel)]; kernel_rfl) | (rw [if_neg (by decide +kernel)]; exact ⟨rfl, rfl⟩))
    (fun os started H enc _ => fnRolls_lifted os started H enc)
end Go.Proofs.Ytcmfknkdfkchmaa
